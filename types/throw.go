package types

import "lustrum/api"

// What a checker gives up with: types of their own, so that no other panic is taken for one of them.
type (
	wrongName struct{}
	wrongType struct{}
	neverSet  struct{}
)

// caught does some work, and answers the error of what is thrown in it.
func caught(work func()) (err error) {
	defer func() {
		switch p := recover().(type) {
		case nil:
		case wrongName:
			err = api.ErrName
		case wrongType:
			err = api.ErrType
		case neverSet:
			err = api.ErrShape
		default:
			panic(p)
		}
	}()
	work()
	return nil
}
