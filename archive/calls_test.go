package archive

import (
	"fmt"

	"muniment/api"
	"muniment/plant"
)

// op is a call, or a tick of the clock.
type op struct {
	call  string
	id    string
	bytes string
	n, m  int // n: the time, the session, the entry, the size; m: the lesser size
	on    bool
}

func put(id, b string) op              { return op{call: "put", id: id, bytes: b} }
func get(id string) op                 { return op{call: "get", id: id} }
func stat(id string) op                { return op{call: "stat", id: id} }
func lock(id string, until int) op     { return op{call: "lock", id: id, n: until} }
func hold(id string, on bool) op       { return op{call: "hold", id: id, on: on} }
func del(id string) op                 { return op{call: "delete", id: id} }
func ids() op                          { return op{call: "ids"} }
func due() op                          { return op{call: "due"} }
func begin() op                        { return op{call: "begin"} }
func add(session int, b string) op     { return op{call: "add", n: session, bytes: b} }
func seal(session int, id string) op   { return op{call: "seal", n: session, id: id} }
func abort(session int) op             { return op{call: "abort", n: session} }
func head() op                         { return op{call: "head"} }
func entry(i int) op                   { return op{call: "entry", n: i} }
func inclusion(id string, size int) op { return op{call: "inclusion", id: id, n: size} }
func consistency(m, n int) op          { return op{call: "consistency", m: m, n: n} }
func tick(n int) op                    { return op{call: "tick", n: n} }

// isChange tells whether a call may change something for good.
func (o op) isChange() bool {
	switch o.call {
	case "put", "seal", "lock", "hold", "delete":
		return true
	}
	return false
}

// answer is all that a call answered beside its error, in words, so that it can be held
// against another one.
type answer string

func words(l ...any) answer { return answer(fmt.Sprintf("%x", l)) }

// of is what the plain archive answers.
func (o op) of(m *plain) (answer, api.Errno) {
	switch o.call {
	case "put":
		return "", m.put(o.id, o.bytes)
	case "get":
		b, e := m.get(o.id)
		return words(b), e
	case "stat":
		x, e := m.stat(o.id)
		return words(x), e
	case "lock":
		return "", m.lock(o.id, o.n)
	case "hold":
		return "", m.holds(o.id, o.on)
	case "delete":
		return "", m.delete(o.id)
	case "ids":
		return answer(text(m.ids())), 0
	case "due":
		return answer(text(m.due())), 0
	case "begin":
		n, e := m.begin()
		return words(n), e
	case "add":
		return "", m.add(o.n, o.bytes)
	case "seal":
		return "", m.seal(o.n, o.id)
	case "abort":
		return "", m.abort(o.n)
	case "head":
		return words(m.headOf(len(m.order))), 0
	case "entry":
		b, e := m.entry(o.n)
		return words(b), e
	case "inclusion":
		i, l, e := m.inclusion(o.id, o.n)
		return words(i, l), e
	case "consistency":
		l, e := m.consistency(o.m, o.n)
		return words(l), e
	case "tick":
		m.tick(o.n)
		return "", 0
	}
	panic(o.call)
}

// at is what the archive answers. Bytes that are handed in have room behind them; they
// must be as they were, and are spoiled then, and so is all that comes out: what the
// archive keeps must be its own.
func (o op) at(a *Archive, p *plant.Plant) (answer, api.Errno) {
	b := roomy(o.bytes)
	defer func() {
		if string(b[:cap(b)]) != string(roomy(o.bytes)[:cap(b)]) {
			panic("bytes that were handed in were changed")
		}
		spoil(b)
	}()
	switch o.call {
	case "put":
		return "", a.Put(o.id, b)
	case "get":
		b, e := a.Get(o.id)
		return ofBytes(b), e
	case "stat":
		x, e := a.Stat(o.id)
		return words(x), e
	case "lock":
		return "", a.Lock(o.id, o.n)
	case "hold":
		return "", a.Hold(o.id, o.on)
	case "delete":
		return "", a.Delete(o.id)
	case "ids":
		l, e := a.IDs()
		return ofIDs(l), e
	case "due":
		l, e := a.Due()
		return ofIDs(l), e
	case "begin":
		n, e := a.Begin()
		return words(n), e
	case "add":
		return "", a.Add(o.n, b)
	case "seal":
		return "", a.Seal(o.n, o.id)
	case "abort":
		return "", a.Abort(o.n)
	case "head":
		x, e := a.Head()
		return words(x), e
	case "entry":
		b, e := a.Entry(o.n)
		return ofBytes(b), e
	case "inclusion":
		i, l, e := a.Inclusion(o.id, o.n)
		return words(i, ownHashes(l)), e
	case "consistency":
		l, e := a.Consistency(o.m, o.n)
		return words(ownHashes(l)), e
	case "tick":
		p.Tick(o.n)
		return "", 0
	}
	panic(o.call)
}

// none is what a call answers beside an error.
func (o op) none() answer {
	switch o.call {
	case "get", "entry":
		return words("")
	case "stat":
		return words(api.Stat{})
	case "begin":
		return words(0)
	case "head":
		return words(api.Head{})
	case "inclusion":
		return words(0, []api.Hash(nil))
	case "consistency":
		return words([]api.Hash(nil))
	}
	return ""
}

// roomy are bytes with some others behind them, in their spare room.
func roomy(s string) []byte {
	const behind = "behind it"
	b := make([]byte, len(s)+len(behind))
	copy(b, s+behind)
	return b[:len(s)]
}

func spoil(b []byte) {
	for i := range b[:cap(b)] {
		b[:cap(b)][i] ^= 0xff
	}
}

func ofBytes(b []byte) answer {
	w := words(string(b))
	spoil(b)
	return w
}

func ofIDs(l []string) answer {
	w := answer(text(l))
	for i := range l[:cap(l)] {
		l[:cap(l)][i] = "spoiled"
	}
	return w
}

// ownHashes are hashes in memory apart; those that were handed in are spoiled.
func ownHashes(l []api.Hash) []api.Hash {
	own := append([]api.Hash(nil), l...)
	for i := range l[:cap(l)] {
		l[:cap(l)][i] = api.Hash{1, 2, 3}
	}
	return own
}
