package flat

// thrown is what a maker gives up with: a type of its own, so that no other panic is taken for it.
type thrown struct{ err error }

// caught does some work, and answers the error that is thrown in it.
func caught(work func()) (err error) {
	defer func() {
		if p := recover(); p != nil {
			t, ok := p.(thrown)
			if !ok {
				panic(p)
			}
			err = t.err
		}
	}()
	work()
	return nil
}
