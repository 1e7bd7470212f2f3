package quota

import (
	"slices"
	"testing"

	"muniment/api"
)

// The plain account counts out by hand, in numbers of its own, what the package works out.

// plainMay tells whether nothing is wrong with a shape.
func plainMay(s api.Shape, c api.Config) bool {
	wrong := 0
	note := func(bad bool) {
		if bad {
			wrong++
		}
	}
	note(c.Replicas <= 0 || c.Replicas >= 5)
	note(len(s.Disks) != 3)
	note(len(s.Tapes) == 0 || len(s.Tapes) >= 10 || len(s.Tapes) < c.Replicas)
	for i, n := range s.Disks {
		note(n > 4096)
		note(i == 0 && n <= 63)
		note(i == 1 && n <= 385)
		note(i == 2 && n <= 31)
	}
	for _, n := range s.Tapes {
		note(n <= 11 || n > 4096)
	}
	return wrong == 0
}

// plainPuts lays pages of eight sectors behind the first two, as long as there is room, up
// to 384 pages; then it sets 35 of them aside, and takes nine an object.
func plainPuts(disks []int) int {
	if len(disks) <= 2 || disks[1] <= 33 {
		return 0
	}
	pages := 0
	for behind := 10; behind <= disks[1] && pages < 384; behind += 8 {
		pages++
	}
	puts := 0
	for left := pages - 35; left >= 9; left -= 9 {
		puts++
	}
	return puts
}

// plainSectors counts eight for each segment that has a whole one behind it, within the
// 4096 sectors that a disk may have.
func plainSectors(disks []int) int {
	if len(disks) <= 2 {
		return 0
	}
	held := 0
	for behind := 32; behind <= disks[2] && behind <= 4096; behind += 16 {
		held += 8
	}
	return held
}

// room is what lies behind a list's length: nobody may read or change it.
var room = []int{77, 4097, -1}

// roomy is a list with numbers behind its length.
func roomy(l []int) []int {
	return append(slices.Clone(l), room...)[:len(l)]
}

// untouched tells whether a list that was made roomy is as it was, its room too.
func untouched(l, was []int) bool {
	return slices.Equal(l, was) && slices.Equal(l[:len(l)+len(room)][len(l):], room)
}

// holds asks May of a shape, and all that does not ask for a config, twice each, holds
// the answers against the plain account, and sees that the shape stays as it is.
func holds(t *testing.T, disks, tapes []int, replicas int) bool {
	t.Helper()
	s := api.Shape{Disks: roomy(disks), Tapes: roomy(tapes)}
	c := api.Config{Replicas: replicas}
	want := plainMay(api.Shape{Disks: disks, Tapes: tapes}, c)
	for range 2 {
		if May(s, c) != want {
			t.Errorf("May of %v, %v, Replicas %d: want %v", disks, tapes, replicas, want)
		}
		if n := Puts(s); n != plainPuts(disks) {
			t.Errorf("Puts of %v: %d; want %d", disks, n, plainPuts(disks))
		}
		if n := Sectors(s); n != plainSectors(disks) {
			t.Errorf("Sectors of %v: %d; want %d", disks, n, plainSectors(disks))
		}
	}
	if !untouched(s.Disks, disks) || !untouched(s.Tapes, tapes) {
		t.Errorf("the shape %v, %v was changed: %v", disks, tapes, s)
	}
	return want
}
