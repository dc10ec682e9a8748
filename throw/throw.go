// Package throw is for work of many steps, each of which may be refused: what refuses one is thrown, and told once.
package throw

// refused is what work gives up with: a type of its own, so that no other panic is taken for it.
type refused struct{ err error }

// If there is an error, it is thrown. It must stand within Answer.
func If(err error) {
	if err != nil {
		panic(refused{err})
	}
}

// Must have an answer: its error is thrown. It must stand within Answer.
func Must[T any](x T, err error) T {
	If(err)
	return x
}

// Answer of some work, or the error that is thrown in it.
func Answer[T any](work func() T) (x T, err error) {
	defer func() {
		switch p := recover().(type) {
		case nil:
		case refused:
			err = p.err
		default:
			panic(p)
		}
	}()
	return work(), nil
}
