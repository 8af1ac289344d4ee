package path_test

import (
	"math"
	"slices"
	"testing"

	"marchland/api"
	"marchland/path"
	"marchland/plain"
)

// wrong are fields with a fault, and what chapter 3's Check tells of each.
var wrong = []struct {
	name string
	f    api.Field
	told api.Errno
}{
	{"nothing", api.Field{}, api.ErrRange},
	{"Wide 0", api.Field{High: 1, Ground: []int{0}, Ore: []int{0}}, api.ErrRange},
	{"High 0", api.Field{Wide: 1, Ground: []int{0}, Ore: []int{0}}, api.ErrRange},
	{"Wide -1", api.Field{Wide: -1, High: -1, Ground: []int{0}, Ore: []int{0}}, api.ErrRange},
	{"Wide 13", api.Field{Wide: 13, High: 1, Ground: make([]int, 13), Ore: make([]int, 13)}, api.ErrRange},
	{"sides at their most", api.Field{Wide: math.MaxInt, High: math.MaxInt, Ground: []int{0}, Ore: []int{0}}, api.ErrRange},
	{"a ground too few", api.Field{Wide: 2, High: 1, Ground: []int{0}, Ore: []int{0, 0}}, api.ErrShape},
	{"an ore too many", api.Field{Wide: 2, High: 1, Ground: []int{0, 0}, Ore: []int{0, 0, 0}}, api.ErrShape},
	{"no lists", api.Field{Wide: 12, High: 12}, api.ErrShape},
	{"a ground that is none", api.Field{Wide: 2, High: 1, Ground: []int{0, 4}, Ore: []int{0, 0}}, api.ErrRange},
	{"a ground below 0", api.Field{Wide: 2, High: 1, Ground: []int{0, -1}, Ore: []int{0, 0}}, api.ErrRange},
	{"too much ore", api.Field{Wide: 2, High: 1, Ground: []int{0, 0}, Ore: []int{0, api.MaxNumber + 1}}, api.ErrRange},
	{"ore in forest", api.Field{Wide: 2, High: 1, Ground: []int{0, api.Forest}, Ore: []int{0, 10}}, api.ErrState},
}

// answer is what a call came to: the list or the number, and the error.
type answer struct {
	list []int
	cell int
	err  error
}

func (a answer) isBare(told api.Errno) bool {
	return len(a.list) == 0 && a.cell == 0 && plain.Told(a.err) == told
}

func far(f api.Field, to int, flies bool) answer {
	l, err := path.Far(f, to, flies)
	return answer{list: l, err: err}
}

func outward(f api.Field, from int, flies bool) answer {
	l, err := path.From(f, from, flies)
	return answer{list: l, err: err}
}

func next(f api.Field, from, to int, flies bool) answer {
	cell, err := path.Next(f, from, to, flies)
	return answer{cell: cell, err: err}
}

func way(f api.Field, from, to int, flies bool) answer {
	l, err := path.Path(f, from, to, flies)
	return answer{list: l, err: err}
}

func reach(f api.Field, from, most int, flies bool) answer {
	l, err := path.Reach(f, from, most, flies)
	return answer{list: l, err: err}
}

func all(f api.Field, from, to, most int, flies bool) map[string]answer {
	return map[string]answer{
		"Far":   far(f, to, flies),
		"From":  outward(f, from, flies),
		"Next":  next(f, from, to, flies),
		"Path":  way(f, from, to, flies),
		"Reach": reach(f, from, most, flies),
	}
}

// TestWrongFieldFirst: W1 and P3, what is wrong with a field is told ahead of all else, and nothing with it.
func TestWrongFieldFirst(t *testing.T) {
	for _, c := range wrong {
		for _, cells := range [][2]int{{0, 0}, {0, 1}, {1, 0}, {-1, 0}, {0, -1}, {144, 144}, {math.MaxInt, math.MinInt}} {
			for _, most := range []int{0, 3, -1, api.MaxNumber + 1} {
				for _, flies := range []bool{false, true} {
					for name, got := range all(c.f, cells[0], cells[1], most, flies) {
						if !got.isBare(c.told) {
							t.Errorf("%s, %s, cells %v, most %d: got %v; want %v", c.name, name, cells, most, got, c.told)
						}
					}
				}
			}
		}
	}
}

// TestCellThatIsNone: W1, ErrNone of either cell, ahead of a way that is not and of a most that is out of range.
func TestCellThatIsNone(t *testing.T) {
	f := read(t, ".#.\n~#~\n")
	for _, none := range []int{-1, 6, 7, 144, -6, api.MaxNumber, math.MaxInt, math.MinInt} {
		for _, flies := range []bool{false, true} {
			for at := range 6 {
				for name, got := range map[string]answer{
					"Far":       far(f, none, flies),
					"From":      outward(f, none, flies),
					"Next from": next(f, none, at, flies),
					"Next to":   next(f, at, none, flies),
					"Next both": next(f, none, none, flies),
					"Path from": way(f, none, at, flies),
					"Path to":   way(f, at, none, flies),
					"Path both": way(f, none, none, flies),
				} {
					if !got.isBare(api.ErrNone) {
						t.Errorf("%s, cell %d and %d: got %v", name, none, at, got)
					}
				}
			}
			for _, most := range []int{0, 5, api.MaxNumber, -1, api.MaxNumber + 1, math.MinInt} {
				if got := reach(f, none, most, flies); !got.isBare(api.ErrNone) {
					t.Errorf("Reach from %d, most %d: got %v", none, most, got)
				}
			}
		}
	}
}

// TestEdgeCellsAreSome: W1, the first and the last cell are cells of a field.
func TestEdgeCellsAreSome(t *testing.T) {
	f := read(t, "..\n..\n")
	for name, got := range all(f, 0, 3, 9, false) {
		if got.err != nil {
			t.Errorf("%s from the first cell to the last: %v", name, got.err)
		}
	}
	for name, got := range all(f, 3, 0, 9, false) {
		if got.err != nil {
			t.Errorf("%s from the last cell to the first: %v", name, got.err)
		}
	}
}

// TestFieldStays: P2 and P4, a field that is handed in stays, and so does what lies behind its lists' length.
func TestFieldStays(t *testing.T) {
	ground := []int{0, 1, 2, 3, 0, 0, 77, 78}
	ore := []int{10, 0, 0, 0, 95, 0, 79, 80}
	f := api.Field{Wide: 3, High: 2, Ground: ground[:6], Ore: ore[:6]}
	for from := -1; from <= 6; from++ {
		for to := -1; to <= 6; to++ {
			all(f, from, to, from+to, false)
			all(f, from, to, from+to, true)
			if !slices.Equal(ground, []int{0, 1, 2, 3, 0, 0, 77, 78}) || !slices.Equal(ore, []int{10, 0, 0, 0, 95, 0, 79, 80}) {
				t.Fatalf("from %d to %d: the field became %v, %v", from, to, ground, ore)
			}
		}
	}
}

// TestAnswersAreFresh: P2, what is written into an answer, or later into the field, stands in no other answer.
func TestAnswersAreFresh(t *testing.T) {
	f := read(t, ".^.\n...\n")
	first := all(f, 0, 5, 9, false)
	for _, a := range first {
		l := a.list[:cap(a.list)]
		for i := range l {
			l[i] = -7
		}
	}
	again := all(f, 0, 5, 9, false)
	f.Ground[0], f.Ore[5] = api.Rock, 9
	for name, want := range map[string][]int{"Far": {3, 2, 1, 2, 1, 0}, "From": {0, 2, 3, 1, 2, 3}, "Path": {0, 3, 4, 5}, "Reach": {0, 1, 2, 3, 4, 5}} {
		if !slices.Equal(again[name].list, want) {
			t.Errorf("%s: got %v, want %v", name, again[name].list, want)
		}
	}
}

// TestOreIsNoMatter: W1, ways lead over ore as over plains.
func TestOreIsNoMatter(t *testing.T) {
	f, g := read(t, ".^.\n...\n.~.\n"), read(t, "1^9\n925\n3~7\n")
	for at := range 9 {
		for to := range 9 {
			for name, got := range all(f, at, to, to, false) {
				other := all(g, at, to, to, false)[name]
				if !slices.Equal(got.list, other.list) || got.cell != other.cell || got.err != other.err {
					t.Errorf("%s from %d to %d: got %v without ore, %v with it", name, at, to, got, other)
				}
			}
		}
	}
}
