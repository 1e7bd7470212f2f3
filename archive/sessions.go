package archive

import (
	"muniment/api"
	"muniment/staging"
)

// sessions are the archive's, of which nothing can be asked while the power is off.
//
// A stage tells a session's bytes only by ending it, and one that is sealed in vain goes
// on as it was. So what was taken in vain is staged anew, and the stage's numbers stay
// behind the archive's own.
type sessions struct {
	power
	stage  *staging.Stage
	staged map[int]int // the stage's number of a session, by its own
	next   int
}

func newSessions(w power) sessions {
	return sessions{power: w, stage: staging.New(), staged: map[int]int{}}
}

// Begin opens a session without bytes, and tells its number.
func (s *sessions) Begin() (session int, e api.Errno) {
	e = s.call(func() {
		number := must(s.stage.Begin())
		session = s.next
		s.staged[session] = number
		s.next++
	})
	return session, e
}

// Add lays bytes behind those that a session has.
func (s *sessions) Add(session int, b []byte) api.Errno {
	return s.call(func() { try(s.stage.Add(s.numberOf(session), b)) })
}

// Abort ends a session, and its bytes are lost.
func (s *sessions) Abort(session int) api.Errno {
	return s.call(func() { s.take(session) })
}

// take ends a session, and tells its bytes.
func (s *sessions) take(session int) []byte {
	b := must(s.stage.Take(s.numberOf(session)))
	delete(s.staged, session)
	return b
}

// giveBack makes a session that was just taken what it was. The stage has room for it.
func (s *sessions) giveBack(session int, b []byte) {
	number := must(s.stage.Begin())
	try(s.stage.Add(number, b))
	s.staged[session] = number
}

func (s *sessions) numberOf(session int) int {
	number, ok := s.staged[session]
	need(ok, api.ErrSession)
	return number
}

// Seal makes an object of a session's bytes, and ends the session then.
func (a *Archive) Seal(session int, id string) api.Errno {
	return a.call(func() {
		b := a.take(session)
		if e := a.Put(id, b); e != api.OK {
			a.giveBack(session, b)
			try(e)
		}
	})
}
