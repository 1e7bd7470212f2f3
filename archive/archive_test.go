package archive

import (
	"math"
	"reflect"
	"slices"
	"strings"
	"testing"

	"muniment/api"
	"muniment/plant"
)

func shapeOf(disks []int, tapes ...int) api.Shape { return api.Shape{Disks: disks, Tapes: tapes} }

// unfit are shapes that are no archive's for any config.
var unfit = []api.Shape{
	shapeOf([]int{63, 402, 64}, 100, 100),
	shapeOf([]int{64, 385, 64}, 100, 100),
	shapeOf([]int{64, 402, 31}, 100, 100),
	shapeOf([]int{64, 402, 64}, 100, 11),
	shapeOf([]int{64, 402, 64}),
	shapeOf([]int{64, 402}, 100, 100),
	shapeOf([]int{64, 402, 64, 64}, 100, 100),
	shapeOf(nil, 100, 100),
}

func TestFormatArgs(t *testing.T) { // P21.1
	p, _ := plant.New(docShape)
	for _, n := range []int{0, -1, 3, 4, 5, 257, 258, math.MaxInt, math.MinInt} {
		if e := Format(p, api.Config{Replicas: n}); e != api.ErrArg {
			t.Errorf("Replicas %d: %d", n, e)
		}
	}
	for _, shape := range unfit {
		p, e := plant.New(shape)
		ok(t, e)
		for n := range 5 {
			if e := Format(p, api.Config{Replicas: n}); e != api.ErrArg {
				t.Errorf("%v, %d: %d", shape, n, e)
			}
		}
		opensNot(t, p, api.ErrArg)
	}
	if p.Steps() > 0 {
		t.Error("a refused Format wrote something")
	}
	opensNot(t, p, api.ErrCorrupt)
	ok(t, Format(p, api.Config{Replicas: 1}))
	opens(t, p)
}

func TestFormatAndOpenWithoutPower(t *testing.T) { // P21.1
	for _, shape := range append(slices.Clone(unfit), docShape) {
		p, e := plant.New(shape)
		ok(t, e)
		want := api.ErrArg
		if slices.Equal(shape.Disks, docShape.Disks) && slices.Equal(shape.Tapes, docShape.Tapes) {
			want = api.ErrPower
			ok(t, Format(p, api.Config{Replicas: 2}))
		}
		goesOff(t, p)
		if e := Format(p, api.Config{Replicas: 2}); e != want {
			t.Errorf("Format of %v: %d; want %d", shape, e, want)
		}
		opensNot(t, p, want)
		if e := Format(p, api.Config{Replicas: 9}); e != api.ErrArg {
			t.Errorf("Format with 9 replicas: %d", e)
		}
	}
}

// goesOff takes a plant's power.
func goesOff(t *testing.T, p *plant.Plant) {
	t.Helper()
	p.Fuse(0)
	p.Flush(0)
	if p.On() {
		t.Fatal("the power is on")
	}
}

// TestReplicas: an archive has the replicas that it was formatted with, whatever was there
// ahead of it.
func TestReplicas(t *testing.T) { // P21.1
	s := formatted(t, shapeOf([]int{64, 402, 64}, 100, 100, 100, 100, 100), 1)
	for _, n := range []int{1, 4, 2, 3} {
		ok(t, Format(s.p, api.Config{Replicas: n}))
		s.m = newPlain()
		s.open()
		s.does(put("a", ones(9)), put("b", ""))
		s.open()
		s.migrates()
		s.copiesAre("a", n)
		s.copiesAre("b", n)
		s.same()
	}
}

// TestFormatAnew: whatever the disks had, there is an empty archive; what the tapes have
// stays, and is used up.
func TestFormatAnew(t *testing.T) { // P21.1
	s := formatted(t, docShape, 2)
	s.does(put("a", ones(512)), put("b", "b"), put("c", ones(3)), lock("a", 5), hold("b", true), del("c"))
	s.migrates()
	s.does(put("d", ones(70)), begin())
	was := s.lengths()
	ok(t, Format(s.p, api.Config{Replicas: 2}))
	s.m = newPlain()
	s.open()
	s.same()
	s.does(tick(9), due(), begin())
	if now := s.lengths(); !slices.Equal(now, was) || was[0] == 0 {
		t.Errorf("the tapes have %v blocks; they had %v", now, was)
	}
	s.does(put("a", "another"), put("c", ones(512)))
	s.same()
	s.migrates()
	s.open()
	s.same()
	s.copiesAre("a", 2)
	if now := s.lengths(); now[0] != was[0]+3+12 || now[1] != was[1]+3+12 {
		t.Errorf("the tapes have %v blocks; they had %v", now, was)
	}
}

// lengths are how many blocks the tapes have.
func (s *stand) lengths() []int {
	var l []int
	for k := range s.p.Shape().Tapes {
		n, _ := s.p.Len(api.DevTape + k)
		l = append(l, n)
	}
	return l
}

// TestFullTapes: what the tapes have is not looked at, also where there is no room.
func TestFullTapes(t *testing.T) { // P21.1, P21.9
	p, _ := plant.New(docShape)
	for k := range 2 {
		for range 100 - 4 {
			p.Append(api.DevTape+k, []byte(ones(64)))
		}
		ok(t, p.Flush(api.DevTape+k))
	}
	ok(t, Format(p, api.Config{Replicas: 2}))
	s := &stand{t: t, p: p, m: newPlain()}
	s.open()
	s.does(put("a", "one"), put("b", ""))
	s.works(migration, api.WorkCopy, api.WorkCopy, api.WorkSwitch, api.WorkNone)
	s.copiesAre("b", 2) // two blocks are an object's, and two are kept for the tape's end
	s.copiesAre("a", 0)
	s.same()
}

// TestNoArchive: what is on the disks is none.
func TestNoArchive(t *testing.T) { // P21.1
	p, _ := plant.New(docShape)
	opensNot(t, p, api.ErrCorrupt)
	s := formatted(t, docShape, 2)
	for _, dev := range []int{api.DevJournal, api.DevCatalogue} {
		p := s.p.Clone()
		for place := range p.Shape().Disks[dev] {
			p.Write(dev, place, make([]byte, 64))
		}
		opensNot(t, p, api.ErrCorrupt)
	}
	opens(t, s.p)
}

// TestConfigs: a catalogue is an archive's if it has the config of one.
func TestConfigs(t *testing.T) { // P21.1
	for _, value := range []string{"", "\x00", "\x03", "\x05", "\xff", "\x02\x02", "\x00\x02"} {
		s := formatted(t, docShape, 2)
		ok(t, s.a.keys.Apply([]api.Change{{Key: []byte("c"), Value: []byte(value)}}))
		opensNot(t, s.p, api.ErrCorrupt)
	}
	s := formatted(t, docShape, 2)
	ok(t, s.a.keys.Apply([]api.Change{{Key: []byte("c"), Gone: true}}))
	opensNot(t, s.p, api.ErrCorrupt)
	ok(t, s.a.keys.Apply([]api.Change{{Key: []byte("c"), Value: []byte{1}}}))
	opens(t, s.p)
}

// TestKeys: the catalogue has the document's keys, and no others.
func TestKeys(t *testing.T) { // P21.1, P21.2, P21.4
	s := formatted(t, docShape, 2)
	s.keysAre("c")
	s.does(put("b", "1"), put("a", ""), put("long-name.012345", ones(9)))
	s.keysAre("c", "l\x00\x00\x00\x00", "l\x00\x00\x00\x01", "l\x00\x00\x00\x02", "oa", "ob", "olong-name.012345")
	s.does(lock("b", 0), lock("a", 1), lock("long-name.012345", 1<<40), hold("a", true))
	s.keysAre("c", "l\x00\x00\x00\x00", "l\x00\x00\x00\x01", "l\x00\x00\x00\x02", "oa", "ob", "olong-name.012345",
		"x\x00\x00\x00\x00\x00\x01a", "x\x01\x00\x00\x00\x00\x00long-name.012345")
	s.does(tick(3), hold("a", false), lock("b", 0x0102030405), lock("a", 2), lock("a", 1))
	s.keysAre("c", "l\x00\x00\x00\x00", "l\x00\x00\x00\x01", "l\x00\x00\x00\x02", "oa", "ob", "olong-name.012345",
		"x\x00\x00\x00\x00\x00\x02a", "x\x00\x01\x02\x03\x04\x05b", "x\x01\x00\x00\x00\x00\x00long-name.012345")
	s.does(del("a"))
	s.keysAre("c", "l\x00\x00\x00\x00", "l\x00\x00\x00\x01", "l\x00\x00\x00\x02", "oa", "ob", "olong-name.012345",
		"x\x00\x01\x02\x03\x04\x05b", "x\x01\x00\x00\x00\x00\x00long-name.012345")
	value, _, _ := s.a.keys.Get([]byte("c"))
	if string(value) != "\x02" {
		t.Errorf("the config is %x", value)
	}
	l, _ := s.a.keys.List([]byte("x"))
	for _, p := range l {
		if len(p.Value) > 0 {
			t.Errorf("%q has a value", p.Key)
		}
	}
}

func (s *stand) keysAre(want ...string) {
	s.t.Helper()
	l, e := s.a.keys.List(nil)
	ok(s.t, e)
	var keys []string
	for _, p := range l {
		keys = append(keys, string(p.Key))
	}
	if !slices.Equal(keys, want) {
		s.t.Fatalf("the keys are %q; want %q", keys, want)
	}
}

// several is an archive with objects and sessions of all kinds: a is as it came, h held, k
// locked till 50, g deleted; the sessions 0 and 2 have bytes, 1 is no more.
func several(t *testing.T) *stand {
	t.Helper()
	s := formatted(t, wide, 2)
	s.does(put("k", ones(7)), put("g", ones(100)), put("h", ""), put("a", ones(512)))
	s.does(lock("k", 50), hold("h", true), lock("h", 3), lock("g", 2), tick(9), del("g"))
	s.does(begin(), begin(), begin(), add(0, "some"), add(1, "of "), add(2, ones(512)), abort(1))
	return s
}

// wrongIDs are no names.
var wrongIDs = []string{"", "A", "a b", "a_", "\x00", "ä", "12345678901234567", strings.Repeat("a", 1000)}

// refused are calls of several, with what each answers. Of two errors that both would hold
// the one that the promise names first counts.
func refused() map[op]api.Errno {
	l := map[op]api.Errno{
		put("n", ones(513)):                   api.ErrLong,
		put("a", ones(513)):                   api.ErrLong, // and ErrTwice
		put("a", ""):                          api.ErrTwice,
		put("g", ones(100)):                   api.ErrTwice,
		get("n"):                              api.ErrNone,
		get("g"):                              api.ErrGone,
		stat("n"):                             api.ErrNone,
		lock("a", -1):                         api.ErrArg,
		lock("a", 1<<40+1):                    api.ErrArg,
		lock("n", -1):                         api.ErrArg, // and ErrNone
		lock("g", 1<<40+1):                    api.ErrArg, // and ErrGone
		lock("n", 0):                          api.ErrNone,
		lock("g", 90):                         api.ErrGone,
		hold("n", true):                       api.ErrNone,
		hold("g", false):                      api.ErrGone,
		del("n"):                              api.ErrNone,
		del("g"):                              api.ErrGone,
		del("h"):                              api.ErrLocked,
		del("k"):                              api.ErrLocked,
		seal(1, "n"):                          api.ErrSession,
		seal(3, "A"):                          api.ErrSession, // and ErrID
		seal(-1, "a"):                         api.ErrSession, // and ErrTwice
		seal(0, "a"):                          api.ErrTwice,
		seal(2, "g"):                          api.ErrTwice,
		add(1, ""):                            api.ErrSession,
		add(9, ones(513)):                     api.ErrSession, // and ErrLong
		add(2, "1"):                           api.ErrLong,
		add(0, ones(509)):                     api.ErrLong,
		abort(1):                              api.ErrSession,
		abort(math.MaxInt):                    api.ErrSession,
		abort(math.MinInt):                    api.ErrSession,
		entry(-1):                             api.ErrTree,
		entry(4):                              api.ErrTree,
		entry(math.MaxInt):                    api.ErrTree,
		entry(math.MinInt):                    api.ErrTree,
		inclusion("n", 4):                     api.ErrNone,
		inclusion("n", 9):                     api.ErrNone, // and ErrTree
		inclusion("k", 0):                     api.ErrTree,
		inclusion("a", 3):                     api.ErrTree,
		inclusion("a", 5):                     api.ErrTree,
		inclusion("g", -1):                    api.ErrTree,
		consistency(0, 5):                     api.ErrTree,
		consistency(-1, 4):                    api.ErrTree,
		consistency(4, 3):                     api.ErrTree,
		consistency(0, -1):                    api.ErrTree,
		consistency(-1, -1):                   api.ErrTree,
		lock("a", math.MaxInt):                api.ErrArg,
		lock("a", math.MinInt):                api.ErrArg,
		inclusion("a", math.MaxInt):           api.ErrTree,
		inclusion("a", math.MinInt):           api.ErrTree,
		consistency(math.MinInt, math.MaxInt): api.ErrTree,
	}
	for _, id := range wrongIDs {
		l[put(id, "")] = api.ErrID
		l[put(id, ones(513))] = api.ErrID // and ErrLong
		l[get(id)] = api.ErrID
		l[stat(id)] = api.ErrID
		l[lock(id, 5)] = api.ErrID
		l[lock(id, -1)] = api.ErrID // and ErrArg
		l[hold(id, true)] = api.ErrID
		l[del(id)] = api.ErrID
		l[seal(0, id)] = api.ErrID
		l[inclusion(id, 1)] = api.ErrID
		l[inclusion(id, -1)] = api.ErrID // and ErrTree
	}
	return l
}

// TestRefused: a wrong call has its error, and changes nothing; neither now, nor behind the
// next opening.
func TestRefused(t *testing.T) { // P21.2, P21.3, P21.4, P21.6, P21.8
	s := several(t)
	for o, want := range refused() {
		before := s.p.Steps()
		s.fails(o, want)
		if s.p.Steps() != before {
			t.Errorf("%+v: %d steps were done", o, s.p.Steps()-before)
		}
		if _, e := o.of(s.m.clone()); e != want {
			t.Errorf("%+v: the plain one answers %d; want %d", o, e, want)
		}
	}
	s.does(seal(0, "s"), seal(2, "t"), get("s"), get("t"), begin())
	s.open()
	s.same()
	s.proofsHold()
}

// TestCopiesRefused: Copies has the errors of Get.
func TestCopiesRefused(t *testing.T) { // P21.7
	s := several(t)
	want := map[string]api.Errno{"n": api.ErrNone, "g": api.ErrGone, "a": 0, "h": 0}
	for _, id := range wrongIDs {
		want[id] = api.ErrID
	}
	for id, e := range want {
		if n, got := s.a.Copies(id); n != 0 || got != e {
			t.Errorf("%q: %d, %d; want %d", id, n, got, e)
		}
	}
}

// TestOff: while the power is off each call answers that, also one that would be refused.
func TestOff(t *testing.T) { // P21.1, P21.2, P21.3, P21.4, P21.5, P21.6, P21.7, P21.8
	s := several(t)
	l := append(s.m.asks(), begin(), add(0, "b"), abort(0), seal(0, "z"), put("z", ""), lock("k", 70), hold("a", true), del("a"))
	for o := range refused() {
		l = append(l, o)
	}
	goesOff(t, s.p)
	for _, o := range l {
		if got, e := o.at(s.a, s.p); got != o.none() || e != api.ErrPower {
			t.Errorf("%+v: %s, %d", o, got, e)
		}
	}
	for pick := range 4 {
		if w, e := s.a.Step(pick); w != 0 || e != api.ErrPower {
			t.Errorf("Step(%d): %d, %d", pick, w, e)
		}
	}
	for _, id := range []string{"a", "g", "n", "A"} {
		if n, e := s.a.Copies(id); n != 0 || e != api.ErrPower {
			t.Errorf("Copies(%q): %d, %d", id, n, e)
		}
	}
	s.boot()
	s.same()
}

// TestNoOtherCalls: what the archive has of its ledger and its sessions is what the chapter
// lists, and no more.
func TestNoOtherCalls(t *testing.T) {
	want := strings.Fields("Abort Add Begin Consistency Copies Delete Due Entry Get Head Hold IDs Inclusion Lock Put Seal Stat Step")
	var got []string
	for i, face := 0, reflect.TypeFor[*Archive](); i < face.NumMethod(); i++ {
		got = append(got, face.Method(i).Name)
	}
	if !slices.Equal(got, want) {
		t.Errorf("the calls are %v; want %v", got, want)
	}
}
