package staging

import (
	"bytes"
	"math"
	"testing"

	"muniment/api"
)

// begins opens a session that is to have the number want.
func begins(t *testing.T, s *Stage, want int) {
	t.Helper()
	if n, e := s.Begin(); n != want || e != api.OK {
		t.Fatalf("Begin: %d, %d; want %d", n, e, want)
	}
}

// beginsNot is refused.
func beginsNot(t *testing.T, s *Stage) {
	t.Helper()
	if n, e := s.Begin(); n != 0 || e != api.ErrQuota {
		t.Fatalf("Begin: %d, %d; want 0, ErrQuota", n, e)
	}
}

func adds(t *testing.T, s *Stage, session int, b string, want api.Errno) {
	t.Helper()
	if e := s.Add(session, []byte(b)); e != want {
		t.Fatalf("Add(%d, %d bytes): %d; want %d", session, len(b), e, want)
	}
}

func takes(t *testing.T, s *Stage, session int, want string) {
	t.Helper()
	if b, e := s.Take(session); string(b) != want || e != api.OK {
		t.Fatalf("Take(%d): %q, %d; want %q", session, b, e, want)
	}
}

func aborts(t *testing.T, s *Stage, session int) {
	t.Helper()
	if e := s.Abort(session); e != api.OK {
		t.Fatalf("Abort(%d): %d", session, e)
	}
}

func counts(t *testing.T, s *Stage, want int) {
	t.Helper()
	if n := s.Count(); n != want {
		t.Fatalf("Count: %d; want %d", n, want)
	}
}

// isNone holds that no call knows the session, and that they change nothing.
func isNone(t *testing.T, s *Stage, session int) {
	t.Helper()
	count := s.Count()
	for _, b := range [][]byte{nil, {}, {1}, make([]byte, 513), make([]byte, 2049)} {
		if e := s.Add(session, b); e != api.ErrSession {
			t.Errorf("Add(%d, %d bytes): %d", session, len(b), e)
		}
	}
	if b, e := s.Take(session); len(b) > 0 || e != api.ErrSession {
		t.Errorf("Take(%d): %q, %d", session, b, e)
	}
	if e := s.Abort(session); e != api.ErrSession {
		t.Errorf("Abort(%d): %d", session, e)
	}
	counts(t, s, count)
}

// text is n bytes that are not all alike, and others for each seed.
func text(seed, n int) string {
	b := make([]byte, n)
	for i := range b {
		b[i] = byte(seed*31 + i*7 + i/256)
	}
	return string(b)
}

// TestExamples are the chapter's.
func TestExamples(t *testing.T) {
	s := New()
	counts(t, s, 0)
	begins(t, s, 0)
	begins(t, s, 1)
	adds(t, s, 0, "ab", api.OK)
	adds(t, s, 0, "c", api.OK)
	takes(t, s, 0, "abc")
	isNone(t, s, 0)
	begins(t, s, 2)
	adds(t, s, 1, text(1, 513), api.ErrLong)
	adds(t, s, 9, "", api.ErrSession)
	aborts(t, s, 1)
	counts(t, s, 1)
}

// TestNumbers (P13.1): one more each time, whatever became of the others.
func TestNumbers(t *testing.T) {
	s := New()
	for i := range 1000 {
		begins(t, s, i)
		counts(t, s, 1)
		switch i % 2 {
		case 0:
			takes(t, s, i, "")
		case 1:
			aborts(t, s, i)
		}
		counts(t, s, 0)
	}
	begins(t, New(), 0)
	begins(t, s, 1000)
}

// TestMaxSessions (P13.1): as many as may be, and one more; an end makes room for one.
// A Begin that is refused gives no number.
func TestMaxSessions(t *testing.T) {
	s := New()
	for i := range 8 {
		counts(t, s, i)
		begins(t, s, i)
	}
	for range 3 {
		beginsNot(t, s)
		counts(t, s, 8)
	}
	isNone(t, s, 8)
	takes(t, s, 3, "")
	counts(t, s, 7)
	begins(t, s, 8)
	beginsNot(t, s)
	aborts(t, s, 8)
	counts(t, s, 7)
	begins(t, s, 9)
	beginsNot(t, s)
	aborts(t, s, 0)
	takes(t, s, 7, "")
	begins(t, s, 10)
	begins(t, s, 11)
	beginsNot(t, s)
	counts(t, s, 8)
}

// TestNewSessionIsEmpty (P13.1): whatever the one ahead of it had.
func TestNewSessionIsEmpty(t *testing.T) {
	s := New()
	for i := range 20 {
		begins(t, s, 2*i)
		adds(t, s, 2*i, text(i, 512), api.OK)
		aborts(t, s, 2*i)
		begins(t, s, 2*i+1)
		takes(t, s, 2*i+1, "")
	}
}

// TestPieces (P13.2): pieces stand behind one another, whichever they are.
func TestPieces(t *testing.T) {
	whole := text(5, 512)
	for _, size := range []int{1, 2, 3, 7, 64, 100, 255, 256, 257, 511, 512} {
		s := New()
		begins(t, s, 0)
		for at := 0; at < len(whole); at += size {
			adds(t, s, 0, "", api.OK)
			adds(t, s, 0, whole[at:min(at+size, len(whole))], api.OK)
		}
		adds(t, s, 0, "", api.OK)
		adds(t, s, 0, "x", api.ErrLong)
		takes(t, s, 0, whole)
	}
}

// TestMaxObject (P13.2): a session of any length takes what it may still have, and not
// a byte more; what is refused leaves it as it was.
func TestMaxObject(t *testing.T) {
	for n := range 513 {
		s := New()
		begins(t, s, 0)
		first := text(n, n)
		adds(t, s, 0, first, api.OK)
		adds(t, s, 0, text(1, 513-n), api.ErrLong)
		adds(t, s, 0, text(2, 100000), api.ErrLong)
		counts(t, s, 1)
		adds(t, s, 0, text(3, 512-n), api.OK)
		adds(t, s, 0, "x", api.ErrLong)
		adds(t, s, 0, "", api.OK)
		takes(t, s, 0, first+text(3, 512-n))
	}
}

// staged are sessions 0 and on with so many bytes each.
func staged(t *testing.T, lengths ...int) *Stage {
	t.Helper()
	s := New()
	for i, n := range lengths {
		begins(t, s, i)
		adds(t, s, i, text(i, n), api.OK)
	}
	return s
}

// TestMaxStaged (P13.2): all together have as much as they may, and not a byte more;
// what is refused leaves all as they were.
func TestMaxStaged(t *testing.T) {
	for _, lengths := range [][]int{
		{512, 512, 512, 512, 0},
		{512, 512, 512, 511, 1, 0},
		{300, 300, 300, 300, 300, 300, 248, 0},
		{256, 256, 256, 256, 256, 256, 256, 256},
		{1, 1, 1, 509, 512, 512, 512},
	} {
		s := staged(t, lengths...)
		for i, n := range lengths {
			adds(t, s, i, "", api.OK)
			if n < 512 {
				adds(t, s, i, "x", api.ErrQuota)
				adds(t, s, i, text(9, 512-n), api.ErrQuota)
			}
		}
		counts(t, s, len(lengths))
		for i, n := range lengths {
			takes(t, s, i, text(i, n))
		}
	}
}

// TestLastRoom (P13.2): where all together lack some bytes, one session may add as many,
// and one more is refused ahead of it.
func TestLastRoom(t *testing.T) {
	for left := range 513 {
		s := staged(t, 512, 512, 512, 512-left, 0)
		if left < 512 {
			adds(t, s, 4, text(6, left+1), api.ErrQuota)
		} else {
			adds(t, s, 4, text(6, left+1), api.ErrLong)
		}
		adds(t, s, 4, text(7, left), api.OK)
		if left < 512 {
			adds(t, s, 4, "x", api.ErrQuota)
		}
		takes(t, s, 4, text(7, left))
		takes(t, s, 3, text(3, 512-left))
	}
}

// TestRefusedIsNotCounted (P13.2): what was refused takes no room of others.
func TestRefusedIsNotCounted(t *testing.T) {
	s := staged(t, 512, 512, 512, 500, 0)
	for range 100 {
		adds(t, s, 0, "x", api.ErrLong)
		adds(t, s, 4, text(1, 13), api.ErrQuota)
		adds(t, s, 4, text(1, 513), api.ErrLong)
		adds(t, s, 5, "x", api.ErrSession)
	}
	adds(t, s, 4, text(2, 12), api.OK)
	takes(t, s, 4, text(2, 12))
	takes(t, s, 0, text(0, 512))
	begins(t, s, 5)
}

// TestRoomComesBack (P13.2, P13.3): Take and Abort give a session's bytes back for
// others, each just once.
func TestRoomComesBack(t *testing.T) {
	for _, n := range []int{1, 2, 100, 511, 512} {
		for kind := range 2 {
			s := staged(t, 512, 512, 512, n, 512-n, 0, 0)
			adds(t, s, 5, "x", api.ErrQuota)
			if kind == 0 {
				takes(t, s, 3, text(3, n))
			} else {
				aborts(t, s, 3)
			}
			isNone(t, s, 3)
			if n < 512 {
				adds(t, s, 5, text(1, n+1), api.ErrQuota)
			}
			adds(t, s, 5, text(1, n), api.OK)
			adds(t, s, 6, "x", api.ErrQuota)
			takes(t, s, 5, text(1, n))
		}
	}
}

// TestOrderOfErrors (P13.2): ErrSession, then ErrLong, then ErrQuota.
func TestOrderOfErrors(t *testing.T) {
	s := staged(t, 512, 512, 512, 511, 1)
	adds(t, s, 7, text(1, 513), api.ErrSession)
	adds(t, s, 7, "x", api.ErrSession)
	adds(t, s, 0, "x", api.ErrLong)
	adds(t, s, 3, "xy", api.ErrLong)
	adds(t, s, 4, text(1, 512), api.ErrLong)
	adds(t, s, 4, text(1, 5000), api.ErrLong)
	adds(t, s, 3, "x", api.ErrQuota)
	adds(t, s, 4, text(1, 511), api.ErrQuota)
}

// TestNoSession (P13.2, P13.3): numbers that no session has.
func TestNoSession(t *testing.T) {
	s := New()
	never := []int{-1, -2, -8, math.MinInt, math.MinInt32, 8, 9, 256, 1 << 32, math.MaxInt32, math.MaxInt}
	for _, n := range append([]int{0, 1}, never...) {
		isNone(t, s, n)
	}
	for i := range 4 {
		begins(t, s, i)
		adds(t, s, i, text(i, 20), api.OK)
	}
	takes(t, s, 1, text(1, 20))
	aborts(t, s, 2)
	for _, n := range append([]int{1, 2, 4, 5}, never...) {
		isNone(t, s, n)
	}
	counts(t, s, 2)
	takes(t, s, 0, text(0, 20))
	takes(t, s, 3, text(3, 20))
	begins(t, s, 4)
	for n := range 4 {
		isNone(t, s, n)
	}
	takes(t, s, 4, "")
}

// TestTakeOfNone (P13.3): a session without bytes is one that is there.
func TestTakeOfNone(t *testing.T) {
	s := New()
	begins(t, s, 0)
	begins(t, s, 1)
	if e := s.Add(1, nil); e != api.OK {
		t.Errorf("Add of nil: %d", e)
	}
	counts(t, s, 2)
	takes(t, s, 0, "")
	isNone(t, s, 0)
	takes(t, s, 1, "")
	isNone(t, s, 1)
	begins(t, s, 2)
	aborts(t, s, 2)
	isNone(t, s, 2)
	counts(t, s, 0)
}

// TestBytesHandedIn (R6): they are not changed, nor kept, nor is what is behind their
// length read or changed.
func TestBytesHandedIn(t *testing.T) {
	for n := range 200 {
		s := New()
		begins(t, s, 0)
		room := []byte(text(1, n+100))
		b := room[:n]
		for range 2 {
			if e := s.Add(0, b); e != api.OK {
				t.Fatalf("Add: %d", e)
			}
			if string(room) != text(1, n+100) {
				t.Fatalf("Add of %d bytes changed them, or those behind them", n)
			}
		}
		spoil(room)
		adds(t, s, 0, "end", api.OK)
		takes(t, s, 0, text(1, n)+text(1, n)+"end")
	}
}

// TestBytesHandedOut (R6): what Take gives is the caller's, with its spare room: other
// sessions are not touched by what is done to it, and what they add does not touch it.
func TestBytesHandedOut(t *testing.T) {
	for n := range 200 {
		s := staged(t, n, n, n)
		adds(t, s, 0, "more", api.OK)
		a, _ := s.Take(0)
		was := bytes.Clone(a)
		adds(t, s, 1, "more", api.OK)
		begins(t, s, 3)
		adds(t, s, 3, text(3, n), api.OK)
		if !bytes.Equal(a, was) {
			t.Fatalf("%d bytes that were taken were changed by an Add", n)
		}
		if e := s.Add(2, a); e != api.OK {
			t.Fatalf("Add of what was taken: %d", e)
		}
		spoil(a)
		takes(t, s, 1, text(1, n)+"more")
		takes(t, s, 2, text(2, n)+string(was))
		takes(t, s, 3, text(3, n))
	}
}

// TestStagesApart: what one has is not seen by another one.
func TestStagesApart(t *testing.T) {
	a, b := staged(t, 512, 512, 512, 512), New()
	counts(t, b, 0)
	isNone(t, b, 0)
	begins(t, b, 0)
	adds(t, b, 0, "b", api.OK)
	adds(t, a, 0, "", api.OK)
	takes(t, a, 0, text(0, 512))
	takes(t, b, 0, "b")
	counts(t, a, 3)
	counts(t, b, 0)
	begins(t, b, 1)
	begins(t, a, 4)
}
