package quota

import (
	"math"
	"math/rand"
	"slices"
	"testing"

	"muniment/api"
)

func shape(disks, tapes []int) api.Shape { return api.Shape{Disks: disks, Tapes: tapes} }

func TestExamples(t *testing.T) { // P20.1 to P20.4
	small, wide := shape([]int{64, 386, 32}, []int{12}), shape([]int{64, 402, 64}, []int{100, 100})
	if !May(small, api.Config{Replicas: 1}) || Puts(small) != 1 || Sectors(small) != 8 {
		t.Error("the smallest:", Puts(small), Sectors(small))
	}
	if !May(wide, api.Config{Replicas: 2}) || Puts(wide) != 1 || Sectors(wide) != 24 {
		t.Error("a wider one:", Puts(wide), Sectors(wide))
	}
	for i, s := range []api.Shape{shape([]int{64, 386, 31}, []int{12}), shape([]int{64, 386, 32}, []int{11}), shape([]int{64, 386, 32, 9}, []int{12})} {
		if May(s, api.Config{Replicas: 1}) {
			t.Error("may be:", i)
		}
	}
	if May(small, api.Config{Replicas: 2}) {
		t.Error("one tape for two copies may be")
	}
	if n := Puts(shape([]int{64, 3074, 32}, nil)); n != 38 {
		t.Error("Puts of 3074:", n)
	}
	if n := Puts(shape([]int{64, 34, 32}, nil)); n != 0 {
		t.Error("Puts of 34:", n)
	}
	if n := Puts(api.Shape{}); n != 0 {
		t.Error("Puts of none:", n)
	}
	for length, want := range map[int]int{0: 1, 1: 2, 64: 2, 65: 3, 512: 9, 513: 0, -1: 0} {
		if n := Cost(length); n != want {
			t.Errorf("Cost(%d): %d; want %d", length, n, want)
		}
	}
}

// tapes are so many tapes of so many blocks.
func tapes(count, blocks int) []int { return slices.Repeat([]int{blocks}, count) }

func TestHowMany(t *testing.T) { // P20.1
	for disks := range 6 {
		for count := range 13 {
			for _, replicas := range []int{math.MinInt, -1, 0, 1, 2, 3, 4, 5, 9, math.MaxInt} {
				d := slices.Repeat([]int{386}, disks)
				got := holds(t, d, tapes(count, 12), replicas)
				if want := disks == 3 && replicas > 0 && replicas < 5 && count >= replicas && count < 10; got != want {
					t.Errorf("%d disks, %d tapes, Replicas %d: %v", disks, count, replicas, got)
				}
			}
		}
	}
	holds(t, []int{386, 386, 386}, tapes(300, 12), 1)
	holds(t, slices.Repeat([]int{386}, 300), tapes(1, 12), 1)
	if May(api.Shape{}, api.Config{}) {
		t.Error("nothing may be")
	}
}

// edges are numbers that a device may have, or not, by its least.
func edges(least int) []int {
	return []int{math.MinInt, math.MinInt + 1, -4096, -1, 0, 1, least - 1, least, least + 1, 4095, 4096, 4097, 8192, math.MaxInt - 1, math.MaxInt}
}

func TestDisksAtTheirEdges(t *testing.T) { // P20.1
	for disk, least := range []int{64, 386, 32} {
		for _, n := range edges(least) {
			d := []int{4000, 4000, 4000}
			d[disk] = n
			got := holds(t, d, []int{12, 4096}, 2)
			if want := n >= least && n <= 4096; got != want {
				t.Errorf("disk %d of %d sectors: %v", disk, n, got)
			}
		}
	}
}

func TestDisksTogether(t *testing.T) { // P20.1
	for _, a := range edges(64) {
		for _, b := range edges(386) {
			for _, c := range edges(32) {
				holds(t, []int{a, b, c}, []int{12}, 1)
			}
		}
	}
}

// TestOneTapeWrong: the first one, one in the middle, the last.
func TestOneTapeWrong(t *testing.T) { // P20.1
	for count := 1; count <= 9; count++ {
		for at := range count {
			for _, n := range edges(12) {
				l := tapes(count, 100)
				l[at] = n
				got := holds(t, []int{64, 386, 32}, l, 1)
				if want := n >= 12 && n <= 4096; got != want {
					t.Errorf("tape %d of %d has %d blocks: %v", at, count, n, got)
				}
			}
		}
	}
}

// TestTapesAskForLess: what a disk must have is not asked of tapes, nor what one kind of
// disk must have of another one that asks for less.
func TestTapesAskForLess(t *testing.T) { // P20.1
	for n := 12; n < 400; n++ {
		if !holds(t, []int{64, 386, 32}, []int{n, 12, n}, 3) {
			t.Errorf("tapes of %d blocks may not be", n)
		}
	}
	for n := 0; n < 400; n++ {
		if holds(t, []int{n, 386, 32}, []int{12}, 1) != (n >= 64) {
			t.Errorf("a journal of %d sectors", n)
		}
		if holds(t, []int{64, n, 32}, []int{12}, 1) != (n >= 386) {
			t.Errorf("a catalogue of %d sectors", n)
		}
		if holds(t, []int{64, 386, n}, []int{12}, 1) != (n >= 32) {
			t.Errorf("a hot disk of %d sectors", n)
		}
	}
}

func TestEachCostByItself(t *testing.T) { // P20.2, P20.6
	for length := -600; length <= 1200; length++ {
		want := 0
		if length >= 0 && length <= 512 {
			want = 1
			for at := 0; at < length; at += 64 {
				want++
			}
		}
		if n := Cost(length); n != want {
			t.Errorf("Cost(%d): %d; want %d", length, n, want)
		}
	}
	for _, length := range []int{math.MinInt, math.MinInt + 1, math.MaxInt - 63, math.MaxInt - 62, math.MaxInt - 1, math.MaxInt} {
		if n := Cost(length); n != 0 {
			t.Errorf("Cost(%d): %d", length, n)
		}
	}
}

func TestCostRises(t *testing.T) { // P20.6
	for length := 1; length <= 512; length++ {
		rise := Cost(length) - Cost(length-1)
		if length%64 == 1 && rise != 1 || length%64 != 1 && rise != 0 {
			t.Errorf("from %d to %d bytes: %d more", length-1, length, rise)
		}
	}
	if Cost(0) != 1 || Cost(512) != 9 {
		t.Errorf("from %d to %d", Cost(0), Cost(512))
	}
}

func TestEveryDisk(t *testing.T) { // P20.3, P20.4
	for n := -20; n <= api.MaxSectors+20; n++ {
		holds(t, []int{64, n, 32}, nil, 1)
		holds(t, []int{64, 386, n}, nil, 1)
	}
	for _, n := range edges(33) {
		holds(t, []int{n, n, n}, nil, 1)
		holds(t, []int{n, 0, 0, n, n}, nil, 1)
	}
}

// TestWhichDisk: a shape's other numbers change nothing of what one disk holds.
func TestWhichDisk(t *testing.T) { // P20.3, P20.4
	rnd := rand.New(rand.NewSource(20))
	for range 2000 {
		d := make([]int, 3+rnd.Intn(3))
		for i := range d {
			d[i] = edges(100)[rnd.Intn(15)]
		}
		d[1], d[2] = rnd.Intn(5000)-100, rnd.Intn(5000)-100
		holds(t, d, edges(12)[:rnd.Intn(12)], 1)
	}
}

func TestStepsOfPuts(t *testing.T) { // P20.3
	for _, x := range []struct{ sectors, puts int }{
		{math.MinInt, 0}, {-1, 0}, {0, 0}, {1, 0}, {33, 0}, {34, 0}, {35, 0}, {2 + 8*43, 0}, {2 + 8*44 - 1, 0}, {2 + 8*44, 1}, {386, 1}, {402, 1},
		{2 + 8*53 - 1, 1}, {2 + 8*53, 2}, {2 + 8*62 - 1, 2}, {2 + 8*62, 3}, {2 + 8*377 - 1, 37}, {2 + 8*377, 38},
		{3073, 38}, {3074, 38}, {3075, 38}, {2 + 8*386, 38}, {4096, 38}, {4097, 38}, {math.MaxInt, 38},
	} {
		if n := Puts(shape([]int{1, x.sectors, 1}, nil)); n != x.puts {
			t.Errorf("Puts of %d sectors: %d; want %d", x.sectors, n, x.puts)
		}
	}
	for _, d := range [][]int{nil, {}, {4096}, {4096, 4096}} {
		if Puts(shape(d, []int{4096})) != 0 || Sectors(shape(d, []int{4096})) != 0 {
			t.Errorf("%d disks hold something", len(d))
		}
	}
}

func TestStepsOfSectors(t *testing.T) { // P20.4
	for _, x := range []struct{ sectors, held int }{
		{math.MinInt, 0}, {-1, 0}, {0, 0}, {15, 0}, {16, 0}, {17, 0}, {31, 0}, {32, 8}, {47, 8}, {48, 16}, {64, 24},
		{4079, 2024}, {4080, 2032}, {4095, 2032}, {4096, 2040}, {4097, 2040}, {4112, 2040}, {8192, 2040}, {math.MaxInt, 2040},
	} {
		if n := Sectors(shape([]int{1, 1, x.sectors}, nil)); n != x.held {
			t.Errorf("Sectors of %d: %d; want %d", x.sectors, n, x.held)
		}
	}
}
