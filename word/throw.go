package word

import "lustrum/api"

// What a maker gives up with: types of their own, so that no other panic is taken for one of them.
type (
	wrongShape struct{}
	refused    struct{ err error } // by the graph
)

// caught does some work, and answers the error of what is thrown in it.
func caught(work func()) (err error) {
	defer func() {
		switch p := recover().(type) {
		case nil:
		case wrongShape:
			err = api.ErrShape
		case refused:
			err = p.err
		default:
			panic(p)
		}
	}()
	work()
	return nil
}
