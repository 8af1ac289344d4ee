package field_test

import (
	"math"
	"slices"
	"testing"

	"marchland/api"
	"marchland/field"
	"marchland/plain"
)

// bare is a field of plains without ore.
func bare(wide, high int) api.Field {
	return api.Field{Wide: wide, High: high, Ground: make([]int, wide*high), Ore: make([]int, wide*high)}
}

// with is a field with another ground and ore at a cell.
func with(f api.Field, at, ground, ore int) api.Field {
	f = copied(f)
	f.Ground[at], f.Ore[at] = ground, ore
	return f
}

// sized is a field with these sides, and as many grounds and ores as are said.
func sized(wide, high, grounds, ores int) api.Field {
	return api.Field{Wide: wide, High: high, Ground: make([]int, grounds), Ore: make([]int, ores)}
}

func copied(f api.Field) api.Field {
	f.Ground, f.Ore = slices.Clone(f.Ground), slices.Clone(f.Ore)
	return f
}

func alike(f, g api.Field) bool {
	return f.Wide == g.Wide && f.High == g.High && slices.Equal(f.Ground, g.Ground) && slices.Equal(f.Ore, g.Ore)
}

// read is the field of a text that is right.
func read(t *testing.T, text string) api.Field {
	t.Helper()
	f, at, err := field.Parse(text)
	if err != nil {
		t.Fatalf("Parse(%q): %v at %d", text, err, at)
	}
	return f
}

// wrong are fields with a fault, and what Check tells of each.
var wrong = []struct {
	name string
	f    api.Field
	told api.Errno
}{
	{"nothing", api.Field{}, api.ErrRange},
	{"Wide 0", sized(0, 3, 0, 0), api.ErrRange},
	{"High 0", sized(3, 0, 0, 0), api.ErrRange},
	{"Wide -1", sized(-1, 3, 0, 0), api.ErrRange},
	{"High -1", sized(3, -1, 0, 0), api.ErrRange},
	{"both -2", sized(-2, -2, 4, 4), api.ErrRange},
	{"Wide one beyond", sized(api.MaxSide+1, 1, api.MaxSide+1, api.MaxSide+1), api.ErrRange},
	{"High one beyond", sized(1, api.MaxSide+1, api.MaxSide+1, api.MaxSide+1), api.ErrRange},
	{"Wide at the most", sized(math.MaxInt, 1, 1, 1), api.ErrRange},
	{"High at the least", sized(1, math.MinInt, 1, 1), api.ErrRange},
	{"sides that multiply to 0", sized(1<<32, 1<<32, 0, 0), api.ErrRange},
	{"sides that multiply to 4", sized(1<<62+1, 4, 4, 4), api.ErrRange},

	{"a ground too few", sized(2, 3, 5, 6), api.ErrShape},
	{"a ground too many", sized(2, 3, 7, 6), api.ErrShape},
	{"an ore too few", sized(2, 3, 6, 5), api.ErrShape},
	{"an ore too many", sized(2, 3, 6, 7), api.ErrShape},
	{"no ground", api.Field{Wide: 1, High: 1, Ore: []int{0}}, api.ErrShape},
	{"no ore", api.Field{Wide: 1, High: 1, Ground: []int{0}}, api.ErrShape},
	{"no lists", api.Field{Wide: api.MaxSide, High: api.MaxSide}, api.ErrShape},
	{"more behind the length", api.Field{Wide: 2, High: 1, Ground: make([]int, 1, 2), Ore: make([]int, 1, 2)}, api.ErrShape},

	{"ground -1", with(bare(2, 2), 0, -1, 0), api.ErrRange},
	{"ground 4", with(bare(2, 2), 3, 4, 0), api.ErrRange},
	{"ground at the most", with(bare(2, 2), 1, math.MaxInt, 0), api.ErrRange},
	{"ground at the least", with(bare(2, 2), 2, math.MinInt, 0), api.ErrRange},
	{"ore -1", with(bare(2, 2), 0, api.Plain, -1), api.ErrRange},
	{"ore one beyond", with(bare(2, 2), 3, api.Plain, api.MaxNumber+1), api.ErrRange},
	{"ore at the most", with(bare(2, 2), 1, api.Plain, math.MaxInt), api.ErrRange},
	{"ore at the least", with(bare(2, 2), 2, api.Plain, math.MinInt), api.ErrRange},

	{"ore on rock", with(bare(2, 2), 0, api.Rock, 1), api.ErrState},
	{"ore on water", with(bare(2, 2), 1, api.Water, 10), api.ErrState},
	{"ore in forest", with(bare(2, 2), 3, api.Forest, api.MaxNumber), api.ErrState},

	{"a side and a list", sized(0, 3, 1, 0), api.ErrRange},
	{"a side and a ground", api.Field{Wide: 13, High: 1, Ground: []int{9}, Ore: []int{0}}, api.ErrRange},
	{"a list and a ground", api.Field{Wide: 2, High: 1, Ground: []int{9}, Ore: []int{0, 0}}, api.ErrShape},
	{"a list and an ore", api.Field{Wide: 1, High: 1, Ground: []int{0}, Ore: []int{-1, 0}}, api.ErrShape},
	{"a list and ore on rock", api.Field{Wide: 1, High: 1, Ground: []int{api.Rock}, Ore: []int{10, 0}}, api.ErrShape},
	{"a ground that is none, with ore", with(bare(2, 2), 1, 4, 10), api.ErrRange},
	{"ore below 0 on rock", with(bare(2, 2), 1, api.Rock, -10), api.ErrRange},
	{"too much ore on rock", with(bare(2, 2), 1, api.Rock, api.MaxNumber+1), api.ErrRange},
	{"ore on rock, then a ground that is none", with(with(bare(2, 2), 1, api.Rock, 10), 2, 4, 0), api.ErrState},
	{"ore in forest, then too much ore", with(with(bare(2, 2), 0, api.Forest, 1), 3, 0, api.MaxNumber+1), api.ErrState},
	{"a ground that is none, then ore on rock", with(with(bare(2, 2), 0, -1, 0), 1, api.Rock, 10), api.ErrRange},
	{"ore below 0, then ore on water", with(with(bare(2, 2), 2, 0, -1), 3, api.Water, 10), api.ErrRange},
}

// TestCheckOfWrong: C1, each fault, and of two the one that is to be told.
func TestCheckOfWrong(t *testing.T) {
	for _, c := range wrong {
		if err := field.Check(c.f); plain.Told(err) != c.told {
			t.Errorf("%s: got %v, want %v", c.name, err, c.told)
		}
	}
}

// TestCheckSides: C1, sides at and about both edges.
func TestCheckSides(t *testing.T) {
	for wide := range api.MaxSide + 2 {
		for high := range api.MaxSide + 2 {
			want := api.OK
			if wide < 1 || wide > 12 || high < 1 || high > 12 {
				want = api.ErrRange
			}
			if err := field.Check(bare(wide, high)); plain.Told(err) != want {
				t.Errorf("%d wide, %d high: got %v, want %v", wide, high, err, want)
			}
		}
	}
}

// TestCheckCells: C1, grounds and ores at and about both edges, at each cell.
func TestCheckCells(t *testing.T) {
	for at := range 6 {
		for ground := -1; ground <= 4; ground++ {
			for _, ore := range []int{-1, 0, 1, 95, api.MaxNumber, api.MaxNumber + 1} {
				want := api.OK
				if ground < 0 || ground > 3 || ore < 0 || ore > 1000000 {
					want = api.ErrRange
				} else if ground != 0 && ore != 0 {
					want = api.ErrState
				}
				if err := field.Check(with(bare(3, 2), at, ground, ore)); plain.Told(err) != want {
					t.Errorf("cell %d, ground %d, ore %d: got %v, want %v", at, ground, ore, err, want)
				}
			}
		}
	}
}

// answer is what a call came to: whether anything but an error came with it, and the error.
type answer struct {
	some bool
	err  error
}

// calls are all calls that are handed a field and cells; Check, Print and Ways take no cell.
func calls(f api.Field, a, b, sight int) map[string]answer {
	text, noText := field.Print(f)
	near, noNear := field.Near(f, a)
	far, noFar := field.Step(f, a, false)
	flown, noFlown := field.Step(f, a, true)
	line, noLine := field.Line(f, a, b)
	seen, noSeen := field.Sees(f, a, b, sight)
	beside, steps, noWays := field.Ways(f, false)
	return map[string]answer{
		"Print":       {text != "", noText},
		"Near":        {len(near) > 0, noNear},
		"Step":        {far != 0, noFar},
		"Step flying": {flown != 0, noFlown},
		"Line":        {len(line) > 0, noLine},
		"Sees":        {seen, noSeen},
		"Ways":        {len(beside) > 0 || len(steps) > 0, noWays},
	}
}

// TestWrongFieldFirst: C1 and P3, all calls say what is wrong with a field ahead of all else, and nothing with it.
func TestWrongFieldFirst(t *testing.T) {
	for _, c := range wrong {
		for _, cells := range [][2]int{{0, 0}, {0, 1}, {-1, 0}, {0, -1}, {500, 500}, {math.MaxInt, math.MinInt}} {
			for _, sight := range []int{0, 5, -1, api.MaxNumber + 1} {
				for name, got := range calls(c.f, cells[0], cells[1], sight) {
					if got.some || plain.Told(got.err) != c.told {
						t.Errorf("%s of %s, cells %v, sight %d: got %v, want %v", name, c.name, cells, sight, got, c.told)
					}
				}
			}
		}
	}
}

// TestCellThatIsNone: C1, ErrNone of either cell, ahead of what is wrong with the sight.
func TestCellThatIsNone(t *testing.T) {
	f := bare(3, 2)
	for _, none := range []int{-1, 6, 7, 144, -6, api.MaxNumber, math.MaxInt, math.MinInt} {
		for _, sight := range []int{5, 0, -1, api.MaxNumber + 1} {
			for name, got := range calls(f, none, 2, sight) {
				if name != "Print" && name != "Ways" && (got.some || plain.Told(got.err) != api.ErrNone) {
					t.Errorf("%s of the cell %d, sight %d: got %v", name, none, sight, got)
				}
			}
			for name, got := range calls(f, 2, none, sight) {
				if (name == "Line" || name == "Sees") && (got.some || plain.Told(got.err) != api.ErrNone) {
					t.Errorf("%s to the cell %d, sight %d: got %v", name, none, sight, got)
				}
			}
		}
	}
}

// TestEachCellIsOne: C1, cells are numbered from 0; the first and the last are some.
func TestEachCellIsOne(t *testing.T) {
	for _, f := range []api.Field{bare(1, 1), bare(3, 2), bare(1, 12), bare(12, 1), bare(12, 12)} {
		for at := range f.Wide * f.High {
			for name, got := range calls(f, at, len(f.Ground)-1-at, api.MaxNumber) {
				if got.err != nil || !got.some && (name != "Near" || len(f.Ground) > 1) {
					t.Errorf("%s of the cell %d of %d by %d: got %v", name, at, f.Wide, f.High, got)
				}
			}
		}
	}
}

// TestFieldStays: P2 and P4, a field that is handed in stays, and so does what lies behind its lists' length.
func TestFieldStays(t *testing.T) {
	ground := []int{0, 1, 2, 3, 0, 0, 77, 78}
	ore := []int{10, 0, 0, 0, 95, 0, 79, 80}
	f := api.Field{Wide: 3, High: 2, Ground: ground[:6], Ore: ore[:6]}
	for _, a := range []int{-1, 0, 1, 2, 3, 4, 5, 6} {
		for _, b := range []int{-1, 0, 1, 2, 3, 4, 5, 6} {
			field.Check(f)
			calls(f, a, b, 9)
			if !slices.Equal(ground, []int{0, 1, 2, 3, 0, 0, 77, 78}) || !slices.Equal(ore, []int{10, 0, 0, 0, 95, 0, 79, 80}) {
				t.Fatalf("cells %d, %d: the field became %v, %v", a, b, ground, ore)
			}
		}
	}
	for _, c := range wrong {
		was := copied(c.f)
		field.Check(c.f)
		calls(c.f, 0, 1, 9)
		if !alike(c.f, was) {
			t.Errorf("%s: the field became %v, was %v", c.name, c.f, was)
		}
	}
}
