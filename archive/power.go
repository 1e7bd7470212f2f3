package archive

import (
	"muniment/api"
	"muniment/plant"
)

// power is the plant's, which each call asks for ahead of all else.
type power struct{ p *plant.Plant }

// thrown is what a call ends with where it can't go on: it goes past all that is between
// there and the face.
type thrown struct{ e api.Errno }

// call does what is asked for at the face, and answers what was thrown on the way.
func (w power) call(do func()) (e api.Errno) {
	defer func() {
		if x := recover(); x != nil {
			e = errorOf(x)
		}
	}()
	need(w.p.On(), api.ErrPower)
	do()
	return api.OK
}

// errorOf is the error that was thrown. No call panics, whatever the devices have: what
// no layer foresaw can but be that.
func errorOf(x any) api.Errno {
	if t, ok := x.(thrown); ok {
		return t.e
	}
	return api.ErrCorrupt
}

// try throws an error, if it is one.
func try(e api.Errno) {
	if e != api.OK {
		panic(thrown{e})
	}
}

// need throws an error, unless something holds.
func need(holds bool, e api.Errno) {
	if !holds {
		try(e)
	}
}

// must is what was answered beside no error.
func must[T any](answer T, e api.Errno) T {
	try(e)
	return answer
}
