package archive

import (
	"crypto/sha256"
	"maps"
	"regexp"
	"slices"
	"strings"

	"muniment/api"
	"muniment/tree"
)

// plain is the archive as the document's words have it, without devices: neither power,
// nor room, nor rot is any of its cares. What is asked of it is worked out anew each time.
type plain struct {
	now      int
	order    []string // the ids of all objects, in the order in which they came
	objects  map[string]object
	sessions []session // all that ever were: a session's number is its place
}

type object struct {
	bytes      string
	expiry     int
	hold, gone bool
}

type session struct {
	ended bool
	bytes string
}

func newPlain() *plain { return &plain{objects: map[string]object{}} }

func (m *plain) clone() *plain {
	return &plain{m.now, slices.Clone(m.order), maps.Clone(m.objects), slices.Clone(m.sessions)}
}

// reopened is what an archive is that was opened anew.
func (m *plain) reopened() *plain {
	x := m.clone()
	x.sessions = nil
	return x
}

var names = regexp.MustCompile(`^[a-z0-9.-]{1,16}$`)

// find is an object that is there.
func (m *plain) find(id string) (object, api.Errno) {
	if !names.MatchString(id) {
		return object{}, 210
	}
	x, is := m.objects[id]
	if !is {
		return object{}, 211
	}
	return x, 0
}

// live is one that was not deleted.
func (m *plain) live(id string) (object, api.Errno) {
	x, e := m.find(id)
	if e == 0 && x.gone {
		return object{}, 213
	}
	return x, e
}

func (m *plain) put(id, b string) api.Errno {
	_, e := m.find(id)
	switch {
	case e == 210:
		return 210
	case len(b) > 512:
		return 5
	case e == 0:
		return 212
	}
	m.order = append(m.order, id)
	m.objects[id] = object{bytes: b}
	return 0
}

func (m *plain) get(id string) (string, api.Errno) {
	x, e := m.live(id)
	return x.bytes, e
}

func (m *plain) stat(id string) (api.Stat, api.Errno) {
	x, e := m.find(id)
	if e != 0 {
		return api.Stat{}, e
	}
	return api.Stat{
		Length: len(x.bytes), Root: chunkRoot(x.bytes), Index: slices.Index(m.order, id),
		Expiry: x.expiry, Hold: x.hold, Gone: x.gone,
	}, 0
}

func (m *plain) lock(id string, until int) api.Errno {
	x, e := m.live(id)
	switch {
	case e == 210:
		return 210
	case until < 0 || until > 1<<40:
		return 1
	case e != 0:
		return e
	case until > x.expiry:
		x.expiry = until
		m.objects[id] = x
	}
	return 0
}

func (m *plain) holds(id string, on bool) api.Errno {
	x, e := m.live(id)
	if e == 0 {
		x.hold = on
		m.objects[id] = x
	}
	return e
}

func (m *plain) delete(id string) api.Errno {
	x, e := m.live(id)
	switch {
	case e != 0:
		return e
	case x.hold || x.expiry > m.now:
		return 214
	}
	x.gone = true
	m.objects[id] = x
	return 0
}

func (m *plain) ids() []string {
	var l []string
	for id, x := range m.objects {
		if !x.gone {
			l = append(l, id)
		}
	}
	slices.Sort(l)
	return l
}

// due goes up the times at which a lock may end.
func (m *plain) due() []string {
	times := map[int][]string{}
	for _, id := range m.ids() {
		x := m.objects[id]
		if m.clone().delete(id) == 0 && x.expiry > 0 {
			times[x.expiry] = append(times[x.expiry], id)
		}
	}
	var l []string
	for _, t := range slices.Sorted(maps.Keys(times)) {
		l = append(l, times[t]...)
	}
	return l
}

// open are the sessions that there are: how many, and how many bytes they have together.
func (m *plain) open() (n, bytes int) {
	for _, x := range m.sessions {
		if !x.ended {
			n++
			bytes += len(x.bytes)
		}
	}
	return n, bytes
}

func (m *plain) has(number int) bool {
	return number >= 0 && number < len(m.sessions) && !m.sessions[number].ended
}

func (m *plain) begin() (int, api.Errno) {
	if n, _ := m.open(); n == 8 {
		return 0, 131
	}
	m.sessions = append(m.sessions, session{})
	return len(m.sessions) - 1, 0
}

func (m *plain) add(number int, b string) api.Errno {
	_, all := m.open()
	switch {
	case !m.has(number):
		return 130
	case len(m.sessions[number].bytes)+len(b) > 512:
		return 5
	case all+len(b) > 2048:
		return 131
	}
	m.sessions[number].bytes += b
	return 0
}

func (m *plain) seal(number int, id string) api.Errno {
	if !m.has(number) {
		return 130
	}
	e := m.put(id, m.sessions[number].bytes)
	if e == 0 {
		m.sessions[number].ended = true
	}
	return e
}

func (m *plain) abort(number int) api.Errno {
	if !m.has(number) {
		return 130
	}
	m.sessions[number].ended = true
	return 0
}

func (m *plain) tick(n int) { m.now = min(m.now+max(n, 0), 1<<40) }

// entry is worked out of its words: how many bytes the id has, the id, the length, the
// root.
func (m *plain) entry(i int) (string, api.Errno) {
	if i < 0 || i >= len(m.order) {
		return "", 50
	}
	id := m.order[i]
	b := m.objects[id].bytes
	root := chunkRoot(b)
	length := []byte{byte(len(b) / 256), byte(len(b) % 256)}
	return string([]byte{byte(len(id))}) + id + string(length) + string(root[:]), 0
}

// leaves are those of the first so many entries.
func (m *plain) leaves(size int) []api.Hash {
	var l []api.Hash
	for i := range size {
		entry, _ := m.entry(i)
		l = append(l, leafOf(entry))
	}
	return l
}

// headOf is the head that the ledger had with so many entries.
func (m *plain) headOf(size int) api.Head {
	return api.Head{Size: size, Root: rootOf(m.leaves(size))}
}

func (m *plain) inclusion(id string, size int) (int, []api.Hash, api.Errno) {
	_, e := m.find(id)
	i := slices.Index(m.order, id)
	switch {
	case e != 0:
		return 0, nil, e
	case size <= i || size > len(m.order):
		return 0, nil, 50
	}
	proof, _ := tree.Inclusion(m.leaves(size), i)
	return i, proof, 0
}

func (m *plain) consistency(first, all int) ([]api.Hash, api.Errno) {
	if all < 0 || all > len(m.order) || first < 0 || first > all {
		return nil, 50
	}
	return tree.Consistency(m.leaves(all), first)
}

func leafOf(s string) api.Hash { return sha256.Sum256([]byte("\x00" + s)) }

// chunkRoot is the root of an object's chunks.
func chunkRoot(b string) api.Hash {
	var l []api.Hash
	for piece := range slices.Chunk([]byte(b), 64) {
		l = append(l, leafOf(string(piece)))
	}
	return rootOf(l)
}

// rootOf goes from the leaves up, one level at a time; the last one of a level goes up
// alone where it has no other beside it.
func rootOf(l []api.Hash) api.Hash {
	if len(l) == 0 {
		return sha256.Sum256(nil)
	}
	for len(l) > 1 {
		var up []api.Hash
		for pair := range slices.Chunk(l, 2) {
			if len(pair) == 2 {
				b := append([]byte{1}, pair[0][:]...)
				pair[0] = sha256.Sum256(append(b, pair[1][:]...))
			}
			up = append(up, pair[0])
		}
		l = up
	}
	return l[0]
}

// text is ids in one piece, to be held against others.
func text(ids []string) string { return strings.Join(ids, " ") }
