package archive

import (
	"slices"
	"strings"
	"testing"

	"muniment/api"
	"muniment/plant"
	"muniment/verify"
)

// docShape is that of the document's examples; wide has more room everywhere.
var (
	docShape = api.Shape{Disks: []int{64, 402, 64}, Tapes: []int{100, 100}}
	wide     = api.Shape{Disks: []int{64, 1202, 640}, Tapes: []int{2000, 2000, 2000}}
)

// The works of steps.
const (
	migration = iota
	scrubbing
	checkpoint
	nothing
)

func ok(t *testing.T, e api.Errno) {
	t.Helper()
	if e != api.OK {
		t.Fatalf("answers %d", e)
	}
}

// stand is an archive, and the plain one that it is held against, call by call.
type stand struct {
	t *testing.T
	p *plant.Plant
	a *Archive
	m *plain
}

func formatted(t *testing.T, shape api.Shape, replicas int) *stand {
	t.Helper()
	p, e := plant.New(shape)
	ok(t, e)
	ok(t, Format(p, api.Config{Replicas: replicas}))
	s := &stand{t: t, p: p, m: newPlain()}
	s.open()
	return s
}

func opens(t *testing.T, p *plant.Plant) *Archive {
	t.Helper()
	a, e := Open(p)
	if a == nil || e != api.OK {
		t.Fatalf("Open: %v, %d", a, e)
	}
	return a
}

func opensNot(t *testing.T, p *plant.Plant, want api.Errno) {
	t.Helper()
	if a, e := Open(p); a != nil || e != want {
		t.Fatalf("Open: %v, %d; want %d", a, e, want)
	}
}

// open opens the archive anew.
func (s *stand) open() {
	s.t.Helper()
	s.a = opens(s.t, s.p)
	s.m = s.m.reopened()
}

// boot is a crash between two calls.
func (s *stand) boot(keep ...int) {
	s.t.Helper()
	s.p.Boot(keep)
	s.open()
}

// do does a call, and holds its answer. It tells false where the archive had no room.
func (s *stand) do(o op) bool {
	s.t.Helper()
	got, e := o.at(s.a, s.p)
	if e == api.ErrFull && o.isChange() {
		if _, would := o.of(s.m.clone()); would != api.OK {
			s.t.Fatalf("%+v: no room; want %d", o, would)
		}
		return false
	}
	want, wanted := o.of(s.m)
	if got != want || e != wanted {
		s.t.Fatalf("%+v: %s, %d; want %s, %d", o, got, e, want, wanted)
	}
	return true
}

// does does calls for which there is room.
func (s *stand) does(l ...op) {
	s.t.Helper()
	for _, o := range l {
		if !s.do(o) {
			s.t.Fatalf("%+v: no room", o)
		}
	}
}

// fails holds with which error a call is refused, and that nothing has changed.
func (s *stand) fails(o op, want api.Errno) {
	s.t.Helper()
	s.refuses(o, want)
	s.same()
}

// refuses holds with which error a call is refused.
func (s *stand) refuses(o op, want api.Errno) {
	s.t.Helper()
	if got, e := o.at(s.a, s.p); got != o.none() || e != want {
		s.t.Fatalf("%+v: %s, %d; want %d", o, got, e, want)
	}
}

// step does a piece of work, and tells which.
func (s *stand) step(pick int) api.Work {
	s.t.Helper()
	w, e := s.a.Step(pick)
	ok(s.t, e)
	return w
}

// works holds which work is done, step by step.
func (s *stand) works(pick int, want ...api.Work) {
	s.t.Helper()
	for i, x := range want {
		if w := s.step(pick); w != x {
			s.t.Fatalf("step %d of %d: %d; want %d", i, pick, w, x)
		}
	}
}

// migrates brings all to tapes that can be.
func (s *stand) migrates() {
	s.t.Helper()
	for range 1000 {
		if s.step(migration) == api.WorkNone {
			return
		}
	}
	s.t.Fatal("migration does not end")
}

func (s *stand) copies(id string) int {
	s.t.Helper()
	n, e := s.a.Copies(id)
	ok(s.t, e)
	return n
}

func (s *stand) copiesAre(id string, want int) {
	s.t.Helper()
	if n := s.copies(id); n != want {
		s.t.Fatalf("%q has %d right copies on tape; want %d", id, n, want)
	}
}

// all are the ids of all objects that ever came, and of some that never did.
func (m *plain) all() []string { return append(slices.Clone(m.order), "no", "NO", "") }

// asks are calls that ask all that can be asked of an archive, and change nothing.
func (m *plain) asks() []op {
	size := len(m.order)
	l := []op{ids(), due(), head(), entry(-1), entry(size), consistency(size/2, size+1)}
	for _, id := range m.all() {
		l = append(l, get(id), stat(id), inclusion(id, size), inclusion(id, size+1))
	}
	for i := range size {
		l = append(l, entry(i), consistency(i, size))
	}
	return l
}

// known is a call, and what it is to answer.
type known struct {
	op
	answer answer
	e      api.Errno
}

// known are the answers to all that can be asked of it.
func (m *plain) known() []known {
	var l []known
	for _, o := range m.asks() {
		x, e := o.of(m)
		l = append(l, known{o, x, e})
	}
	return l
}

// differs tells in what an archive is not as it is to be: nothing, if it is that.
func differs(a *Archive, p *plant.Plant, l []known) string {
	for _, x := range l {
		got, e := x.at(a, p)
		if got != x.answer || e != x.e {
			return strings.Join([]string{x.call, x.id, string(got), string(x.answer)}, " ")
		}
	}
	return ""
}

// same holds that the archive is as the plain one, its sessions too.
func (s *stand) same() {
	s.t.Helper()
	if x := differs(s.a, s.p, s.m.known()); x != "" {
		s.t.Fatalf("it is not as it was: %s", x)
	}
	if n, _ := s.m.open(); s.a.stage.Count() != n || len(s.a.staged) != n {
		s.t.Fatalf("there are %d sessions, %d numbers; want %d", s.a.stage.Count(), len(s.a.staged), n)
	}
}

// proofsHold holds the ledger's proofs by chapter 6: those of all objects for every size,
// and those of every size for every other one. The heads are what they were.
func (s *stand) proofsHold() {
	s.t.Helper()
	all := len(s.m.order)
	for size := range all + 1 {
		h := s.m.headOf(size)
		for i, id := range s.m.order {
			at, proof, e := s.a.Inclusion(id, size)
			if i >= size {
				if e != api.ErrTree || at != 0 || len(proof) > 0 {
					s.t.Fatalf("%q of %d: %d, %v, %d", id, size, at, proof, e)
				}
				continue
			}
			b, _ := s.a.Entry(i)
			if e != api.OK || at != i || !verify.Inclusion(leafOf(string(b)), i, size, proof, h.Root) {
				s.t.Fatalf("%q of %d: number %d, %d", id, size, at, e)
			}
		}
		for m := range size + 1 {
			proof, e := s.a.Consistency(m, size)
			if e != api.OK || !verify.Consistency(m, size, s.m.headOf(m).Root, h.Root, proof) {
				s.t.Fatalf("from %d to %d: %d", m, size, e)
			}
		}
	}
	if h, e := s.a.Head(); h != s.m.headOf(all) || e != api.OK {
		s.t.Fatalf("the head: %v, %d", h, e)
	}
}
