package quota

import (
	"math"
	"math/rand"
	"slices"
	"testing"

	"muniment/api"
)

// someShape is a shape that may be: near its least, near its most, or anywhere.
func someShape(r *rand.Rand) (api.Shape, api.Config) {
	some := func(least int) int {
		switch r.Intn(3) {
		case 0:
			return least + r.Intn(3)
		case 1:
			return api.MaxSectors - r.Intn(3)
		}
		return least + r.Intn(api.MaxSectors+1-least)
	}
	s := api.Shape{Disks: []int{some(64), some(386), some(32)}}
	for range 1 + r.Intn(9) {
		s.Tapes = append(s.Tapes, some(12))
	}
	return s, api.Config{Replicas: 1 + r.Intn(min(4, len(s.Tapes)))}
}

// more is a shape that has all of another one, and perhaps more.
func more(r *rand.Rand, s api.Shape) api.Shape {
	l := api.Shape{Disks: slices.Clone(s.Disks), Tapes: slices.Clone(s.Tapes)}
	for _, devices := range [][]int{l.Disks, l.Tapes} {
		for i, n := range devices {
			if r.Intn(2) == 0 {
				devices[i] = n + r.Intn(api.MaxSectors+1-n)
			}
		}
	}
	for len(l.Tapes) < 9 && r.Intn(3) > 0 {
		l.Tapes = slices.Insert(l.Tapes, r.Intn(len(l.Tapes)+1), 12+r.Intn(4085))
	}
	return l
}

func TestMoreIsNoLess(t *testing.T) { // P20.5
	rnd := rand.New(rand.NewSource(5))
	for range 20000 {
		s, c := someShape(rnd)
		l := more(rnd, s)
		if !holds(t, s.Disks, s.Tapes, c.Replicas) || !holds(t, l.Disks, l.Tapes, c.Replicas) {
			t.Fatalf("%v and %v may not both be, %v", s, l, c)
		}
		if Puts(l) < Puts(s) || Sectors(l) < Sectors(s) {
			t.Fatalf("%v holds less than %v", l, s)
		}
		if Puts(s) < 1 || Sectors(s) < 8 {
			t.Fatalf("%v may be, and holds %d and %d", s, Puts(s), Sectors(s))
		}
	}
}

// TestMoreThanMayBe: one device above MaxSectors, one tape more than nine, or one below
// twelve blocks, and it may not be any more.
func TestMoreThanMayBe(t *testing.T) { // P20.1, P20.5
	rnd := rand.New(rand.NewSource(6))
	for range 5000 {
		s, c := someShape(rnd)
		switch rnd.Intn(4) {
		case 0:
			s.Disks[rnd.Intn(3)] = 4097 + rnd.Intn(math.MaxInt-4097)
		case 1:
			s.Tapes[rnd.Intn(len(s.Tapes))] = 4097 + rnd.Intn(math.MaxInt-4097)
		case 2:
			s.Tapes[rnd.Intn(len(s.Tapes))] = 11 - rnd.Intn(math.MaxInt)
		case 3:
			s.Tapes = append(s.Tapes, tapes(10-len(s.Tapes), 12)...)
		}
		if holds(t, s.Disks, s.Tapes, c.Replicas) {
			t.Fatalf("%v may be, %v", s, c)
		}
	}
}

// TestNothingFalls: from each number of sectors to the next one, whatever they are.
func TestNothingFalls(t *testing.T) { // P20.5
	numbers := []int{math.MinInt, math.MinInt + 1, -4096}
	for n := -40; n <= api.MaxSectors+40; n++ {
		numbers = append(numbers, n)
	}
	numbers = append(numbers, math.MaxInt-1, math.MaxInt)
	puts, sectors, was := 0, 0, false
	for _, n := range numbers {
		s := shape([]int{64, n, n}, []int{12})
		if Puts(s) < puts || Sectors(s) < sectors {
			t.Errorf("%d sectors hold %d and %d, and less hold %d and %d", n, Puts(s), Sectors(s), puts, sectors)
		}
		may := May(s, api.Config{Replicas: 1})
		if was && !may && n <= api.MaxSectors {
			t.Errorf("%d sectors may not be, and less may", n)
		}
		puts, sectors, was = Puts(s), Sectors(s), may
	}
}

// TestReplicasOverTapes: what may be with some replicas may be with less.
func TestReplicasOverTapes(t *testing.T) { // P20.1
	for count := 1; count <= 9; count++ {
		for replicas := 1; replicas <= 4; replicas++ {
			may := holds(t, []int{4096, 4096, 4096}, tapes(count, 4096), replicas)
			if may != (count >= replicas) {
				t.Errorf("%d tapes, Replicas %d: %v", count, replicas, may)
			}
		}
	}
}
