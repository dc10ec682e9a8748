package trans

// refused is what work gives up with: a type of its own, so that no other panic is taken for it.
type refused struct{ err error }

// must have an answer: its error is thrown.
func must[T any](x T, err error) T {
	if err != nil {
		panic(refused{err})
	}
	return x
}

// answer of some work, or the error that is thrown in it.
func answer[T any](work func() T) (x T, err error) {
	defer func() {
		switch p := recover().(type) {
		case nil:
		case refused:
			err = p.err
		default:
			panic(p)
		}
	}()
	return work(), nil
}
