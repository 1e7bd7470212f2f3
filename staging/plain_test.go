package staging

import (
	"math"
	"math/rand"
	"slices"
	"testing"

	"muniment/api"
)

// plain is a stage as the chapter's words have it: a row of all sessions that ever were,
// in their order, so that a session's number is its place.
type plain []plainSession

type plainSession struct {
	ended bool
	bytes string
}

// count is how many sessions there are, staged how many bytes they have together.
func (m plain) count() int {
	n := 0
	for _, x := range m {
		if !x.ended {
			n++
		}
	}
	return n
}

func (m plain) staged() int {
	n := 0
	for _, x := range m {
		if !x.ended {
			n += len(x.bytes)
		}
	}
	return n
}

func (m plain) has(session int) bool {
	return session >= 0 && session < len(m) && !m[session].ended
}

func (m *plain) begin() (int, api.Errno) {
	if m.count() == 8 {
		return 0, api.ErrQuota
	}
	*m = append(*m, plainSession{})
	return len(*m) - 1, api.OK
}

func (m plain) add(session int, b string) api.Errno {
	if !m.has(session) {
		return api.ErrSession
	}
	if len(m[session].bytes)+len(b) > 512 {
		return api.ErrLong
	}
	if m.staged()+len(b) > 2048 {
		return api.ErrQuota
	}
	m[session].bytes += b
	return api.OK
}

func (m plain) take(session int) (string, api.Errno) {
	if !m.has(session) {
		return "", api.ErrSession
	}
	b := m[session].bytes
	m[session] = plainSession{ended: true}
	return b, api.OK
}

// pair is a stage and the plain one that it is held against, call by call.
type pair struct {
	t *testing.T
	s *Stage
	m plain
	// told is how often each error was answered.
	told map[api.Errno]int
}

func (p *pair) same(call string, session int, got, want api.Errno) {
	p.t.Helper()
	if got != want {
		p.t.Fatalf("%s(%d): %d; want %d", call, session, got, want)
	}
	p.told[got]++
	if n, want := p.s.Count(), p.m.count(); n != want {
		p.t.Fatalf("Count behind %s(%d): %d; want %d", call, session, n, want)
	}
}

func (p *pair) begin() {
	p.t.Helper()
	n, e := p.s.Begin()
	want, f := p.m.begin()
	if n != want {
		p.t.Fatalf("Begin: %d; want %d", n, want)
	}
	p.same("Begin", n, e, f)
}

// add hands bytes in, and spoils them behind the call.
func (p *pair) add(session int, b []byte) {
	p.t.Helper()
	f := p.m.add(session, string(b))
	e := p.s.Add(session, b)
	spoil(b)
	p.same("Add", session, e, f)
}

// take spoils what it was handed.
func (p *pair) take(session int) {
	p.t.Helper()
	b, e := p.s.Take(session)
	want, f := p.m.take(session)
	if string(b) != want {
		p.t.Fatalf("Take(%d): %x; want %x", session, b, want)
	}
	spoil(b)
	p.same("Take", session, e, f)
}

func (p *pair) abort(session int) {
	p.t.Helper()
	_, f := p.m.take(session)
	p.same("Abort", session, p.s.Abort(session), f)
}

// spoil turns all bytes, those of the spare room too.
func spoil(b []byte) {
	b = b[:cap(b)]
	for i := range b {
		b[i] ^= 0xa5
	}
}

func someBytes(r *rand.Rand, n int) []byte {
	b := make([]byte, n)
	r.Read(b)
	return b
}

// someSession is one that there is, more often than not.
func (p *pair) someSession(r *rand.Rand) int {
	var live []int
	for i := range p.m {
		if p.m.has(i) {
			live = append(live, i)
		}
	}
	if len(live) > 0 && r.Intn(6) > 0 {
		return live[r.Intn(len(live))]
	}
	wrong := []int{-1, len(p.m), len(p.m) + 1, math.MinInt, math.MaxInt, r.Intn(len(p.m) + 1)}
	return wrong[r.Intn(len(wrong))]
}

// someLength is often one at which a limit is just met, or just passed.
func (p *pair) someLength(r *rand.Rand, session int) int {
	has := 0
	if p.m.has(session) {
		has = len(p.m[session].bytes)
	}
	room, all := 512-has, 2048-p.m.staged()
	switch r.Intn(8) {
	case 0:
		return room
	case 1:
		return room + 1
	case 2:
		return min(all, 600)
	case 3:
		return min(all+1, 600)
	case 4:
		return r.Intn(600)
	case 5:
		return 0
	}
	return r.Intn(200)
}

// TestAgainstPlain: calls in any order, of which each answers what the plain stage does.
func TestAgainstPlain(t *testing.T) {
	r := rand.New(rand.NewSource(13))
	told := map[api.Errno]int{}
	for range 400 {
		p := &pair{t: t, s: New(), told: told}
		for range 150 {
			session := p.someSession(r)
			switch k := r.Intn(20); {
			case k < 5:
				p.begin()
			case k < 17:
				p.add(session, someBytes(r, p.someLength(r, session)))
			case k < 19:
				p.take(session)
			default:
				p.abort(session)
			}
		}
		for i := range p.m {
			p.take(i)
		}
	}
	for _, e := range []api.Errno{api.OK, api.ErrLong, api.ErrSession, api.ErrQuota} {
		if told[e] < 500 {
			t.Errorf("error %d was told %d times: the calls are not of all kinds", e, told[e])
		}
	}
}

// call is one of a session's own: an Add of bytes or, where there are none, a Take.
type call struct{ bytes []byte }

// alone is what a session's calls answer on a stage of their own.
func alone(t *testing.T, calls []call) []string {
	t.Helper()
	s := New()
	begins(t, s, 0)
	var told []string
	for _, c := range calls {
		told = append(told, do(s, 0, c))
	}
	return told
}

// do is what a call answers: its error, and its bytes behind that.
func do(s *Stage, session int, c call) string {
	if c.bytes != nil {
		return string(rune(s.Add(session, c.bytes)))
	}
	b, e := s.Take(session)
	return string(rune(e)) + string(b)
}

// mixed does the sessions' calls on one stage, in the order in which their numbers stand
// in order, and holds each answer against what the session answers alone.
func mixed(t *testing.T, rows [][]call, want [][]string, order []int) {
	t.Helper()
	s, done := New(), make([]int, len(rows))
	for i := range rows {
		begins(t, s, i)
	}
	for _, i := range order {
		if got := do(s, i, rows[i][done[i]]); got != want[i][done[i]] {
			t.Fatalf("order %v: session %d, call %d: %q; alone %q", order, i, done[i], got, want[i][done[i]])
		}
		done[i]++
	}
}

func allAlone(t *testing.T, rows [][]call) [][]string {
	t.Helper()
	var want [][]string
	for _, row := range rows {
		want = append(want, alone(t, row))
	}
	return want
}

// TestEveryOrder (P13.4): three sessions' calls, in every order that keeps each one's own.
func TestEveryOrder(t *testing.T) {
	rows := [][]call{
		{{[]byte("ab")}, {[]byte("c")}, {nil}, {nil}},
		{{[]byte("ABC")}, {[]byte{}}, {[]byte("D")}, {nil}},
		{{nil}, {[]byte("1")}, {nil}},
	}
	want, orders := allAlone(t, rows), 0
	left := []int{len(rows[0]), len(rows[1]), len(rows[2])}
	var order []int
	var each func()
	each = func() {
		if slices.Max(left) == 0 {
			mixed(t, rows, want, order)
			orders++
		}
		for i := range left {
			if left[i] > 0 {
				left[i]--
				order = append(order, i)
				each()
				order = order[:len(order)-1]
				left[i]++
			}
		}
	}
	each()
	if orders != 11550 {
		t.Errorf("%d orders", orders)
	}
}

// TestManySessions (P13.4): sessions that all fit together, up to MaxSessions and to
// MaxStaged, mixed in any way.
func TestManySessions(t *testing.T) {
	r := rand.New(rand.NewSource(134))
	for range 300 {
		rows := make([][]call, 1+r.Intn(8))
		var order []int
		for i := range rows {
			for left := min(512, 2048/len(rows)); left > 0; {
				n := r.Intn(left + 1)
				rows[i] = append(rows[i], call{someBytes(r, n)})
				order = append(order, i)
				left -= max(n, 1)
			}
			rows[i] = append(rows[i], call{nil}, call{nil})
			order = append(order, i, i)
		}
		want := allAlone(t, rows)
		for range 5 {
			r.Shuffle(len(order), func(i, j int) { order[i], order[j] = order[j], order[i] })
			mixed(t, rows, want, order)
		}
	}
}
