package field_test

import (
	"math"
	"math/big"
	"slices"
	"testing"

	"marchland/api"
	"marchland/field"
	"marchland/plain"
)

// TestNear: C3, corners, edges and within.
func TestNear(t *testing.T) {
	for _, c := range []struct {
		wide, high, at int
		want           []int
	}{
		{4, 3, 0, []int{1, 4}},
		{4, 3, 3, []int{2, 7}},
		{4, 3, 8, []int{4, 9}},
		{4, 3, 11, []int{7, 10}},
		{4, 3, 1, []int{0, 2, 5}},
		{4, 3, 4, []int{0, 5, 8}},
		{4, 3, 7, []int{3, 6, 11}},
		{4, 3, 10, []int{6, 9, 11}},
		{4, 3, 5, []int{1, 4, 6, 9}},
		{4, 3, 6, []int{2, 5, 7, 10}},
		{1, 1, 0, nil},
		{1, 3, 0, []int{1}},
		{1, 3, 1, []int{0, 2}},
		{1, 3, 2, []int{1}},
		{3, 1, 0, []int{1}},
		{3, 1, 1, []int{0, 2}},
		{3, 1, 2, []int{1}},
		{2, 2, 3, []int{1, 2}},
		{12, 12, 0, []int{1, 12}},
		{12, 12, 11, []int{10, 23}},
		{12, 12, 12, []int{0, 13, 24}},
		{12, 12, 65, []int{53, 64, 66, 77}},
		{12, 12, 143, []int{131, 142}},
	} {
		got, err := field.Near(bare(c.wide, c.high), c.at)
		if !slices.Equal(got, c.want) || err != nil {
			t.Errorf("cell %d of %d by %d: got %v, %v; want %v", c.at, c.wide, c.high, got, err, c.want)
		}
	}
}

// TestNearOfAnyGround: C3, cells are beside one whatever their ground is.
func TestNearOfAnyGround(t *testing.T) {
	f := read(t, "###\n~#^\n^9~\n")
	if got, err := field.Near(f, 4); !slices.Equal(got, []int{1, 3, 5, 7}) || err != nil {
		t.Errorf("got %v, %v", got, err)
	}
}

// TestStep: C3, each ground, for who goes and for who flies.
func TestStep(t *testing.T) {
	f := read(t, ".#\n~^\n95\n")
	f.Ore[5] = api.MaxNumber
	for at, want := range [][2]int{{1, 1}, {0, 0}, {0, 1}, {2, 1}, {1, 1}, {1, 1}} {
		goes, err := field.Step(f, at, false)
		flies, bad := field.Step(f, at, true)
		if goes != want[0] || flies != want[1] || err != nil || bad != nil {
			t.Errorf("cell %d: got %d, %v and flying %d, %v; want %v", at, goes, err, flies, bad, want)
		}
	}
}

// TestWays: of all cells at once what Near and Step tell of each.
func TestWays(t *testing.T) {
	for _, f := range []api.Field{bare(1, 1), bare(1, 12), bare(12, 1), bare(12, 12), read(t, ".#~^\n9~^#\n^.#~\n")} {
		for _, flies := range []bool{false, true} {
			beside, steps, err := field.Ways(f, flies)
			if len(beside) != len(f.Ground) || len(steps) != len(f.Ground) || err != nil {
				t.Fatalf("%d by %d: got %v, %v, %v", f.Wide, f.High, beside, steps, err)
			}
			for at := range f.Ground {
				near, _ := field.Near(f, at)
				step, _ := field.Step(f, at, flies)
				if !slices.Equal(beside[at], near) || steps[at] != step {
					t.Errorf("cell %d of %d by %d, flying %v: got %v, %d", at, f.Wide, f.High, flies, beside[at], steps[at])
				}
			}
		}
	}
}

// TestLine: C3, one cell, straight, across and steep, both ways, in a field of 5 columns and 4 rows.
func TestLine(t *testing.T) {
	for _, c := range []struct {
		a, b int
		want []int
	}{
		{0, 0, []int{0}},
		{7, 7, []int{7}},
		{19, 19, []int{19}},
		{0, 1, []int{0, 1}},
		{1, 0, []int{1, 0}},
		{0, 5, []int{0, 5}},
		{5, 0, []int{5, 0}},
		{5, 9, []int{5, 6, 7, 8, 9}},
		{9, 5, []int{9, 8, 7, 6, 5}},
		{2, 17, []int{2, 7, 12, 17}},
		{17, 2, []int{17, 12, 7, 2}},
		{0, 18, []int{0, 6, 12, 18}},
		{18, 0, []int{18, 12, 6, 0}},
		{3, 15, []int{3, 7, 11, 15}},
		{15, 3, []int{15, 11, 7, 3}},
		// A half rounds up, to the right and to below, whichever way the line goes.
		{0, 7, []int{0, 6, 7}},
		{7, 0, []int{7, 6, 0}},
		{2, 5, []int{2, 6, 5}},
		{5, 2, []int{5, 6, 2}},
		{0, 11, []int{0, 6, 11}},
		{11, 0, []int{11, 6, 0}},
		{1, 10, []int{1, 6, 10}},
		{10, 1, []int{10, 6, 1}},
		{0, 9, []int{0, 1, 7, 8, 9}},
		{9, 0, []int{9, 8, 7, 1, 0}},
		{0, 16, []int{0, 5, 11, 16}},
		{16, 0, []int{16, 11, 5, 0}},
		{0, 17, []int{0, 6, 11, 17}},
		{17, 0, []int{17, 11, 6, 0}},
		{0, 19, []int{0, 6, 12, 13, 19}},
		{19, 0, []int{19, 13, 12, 6, 0}},
	} {
		got, err := field.Line(bare(5, 4), c.a, c.b)
		if !slices.Equal(got, c.want) || err != nil {
			t.Errorf("from %d to %d: got %v, %v; want %v", c.a, c.b, got, err, c.want)
		}
	}
}

// fields of several shapes.
var shapes = [][2]int{{1, 1}, {1, 12}, {12, 1}, {2, 2}, {5, 4}, {3, 12}, {12, 7}, {12, 12}}

// wantLine is C3's rule, in numbers that round down at all signs.
func wantLine(wide, a, b int) []int {
	n := 0
	for _, d := range []int{a%wide - b%wide, a/wide - b/wide} {
		n = max(n, d, -d)
	}
	if n == 0 {
		return []int{a}
	}
	var l []int
	for k := 0; k <= n; k++ {
		part := func(from, to int) int {
			x := big.NewInt(int64(2*from*n + 2*k*(to-from) + n))
			return int(x.Div(x, big.NewInt(int64(2*n))).Int64())
		}
		l = append(l, part(a%wide, b%wide)+wide*part(a/wide, b/wide))
	}
	return l
}

// TestLineAll: C3, between all cells of fields of several shapes.
func TestLineAll(t *testing.T) {
	for _, s := range shapes {
		f := bare(s[0], s[1])
		for a := range len(f.Ground) {
			for b := range len(f.Ground) {
				got, err := field.Line(f, a, b)
				if want := wantLine(s[0], a, b); !slices.Equal(got, want) || err != nil {
					t.Fatalf("%v, from %d to %d: got %v, %v; want %v", s, a, b, got, err, want)
				}
			}
		}
	}
}

// sees holds what Sees answers against what it should.
func sees(t *testing.T, f api.Field, a, b, sight int, want bool, told api.Errno) {
	t.Helper()
	if got, err := field.Sees(f, a, b, sight); got != want || plain.Told(err) != told {
		t.Errorf("%v, from %d to %d, sight %d: got %v, %v; want %v, %v", f, a, b, sight, got, err, want, told)
	}
}

// TestSeesFar: C3, a sight that is just enough, and one less.
func TestSeesFar(t *testing.T) {
	f := bare(12, 12)
	for _, c := range []struct{ a, b, far int }{
		{0, 1, 1}, {12, 0, 1}, {0, 13, 1}, {0, 26, 2}, {0, 51, 5}, {51, 0, 5}, {0, 11, 11}, {132, 0, 11},
		{0, 143, 15}, {143, 0, 15}, {11, 132, 15}, {64, 78, 2}, {64, 90, 2}, {64, 91, 3},
	} {
		sees(t, f, c.a, c.b, c.far, true, api.OK)
		sees(t, f, c.a, c.b, c.far+1, true, api.OK)
		sees(t, f, c.a, c.b, c.far-1, false, api.OK)
	}
}

// TestSeesSight: C3, sights at and about both edges.
func TestSeesSight(t *testing.T) {
	for _, c := range []struct {
		sight      int
		self, next bool
		told       api.Errno
	}{
		{0, true, false, api.OK},
		{1, true, true, api.OK},
		{api.MaxNumber - 1, true, true, api.OK},
		{api.MaxNumber, true, true, api.OK},
		{-1, false, false, api.ErrRange},
		{api.MaxNumber + 1, false, false, api.ErrRange},
		{math.MaxInt, false, false, api.ErrRange},
		{math.MinInt, false, false, api.ErrRange},
	} {
		for _, text := range []string{"..\n", "##\n", "^^\n", "~9\n"} {
			sees(t, read(t, text), 1, 1, c.sight, c.self, c.told)
			sees(t, read(t, text), 0, 1, c.sight, c.next, c.told)
		}
	}
	sees(t, read(t, ".#.\n"), 0, 2, api.MaxNumber, false, api.OK)
	sees(t, read(t, ".#.\n"), 0, 2, api.MaxNumber+1, false, api.ErrRange)
	sees(t, read(t, ".#.\n"), 0, 2, -1, false, api.ErrRange)
}

// TestSeesOver: C3, over each ground that lies between, first, in the midst and last; not that of either end.
func TestSeesOver(t *testing.T) {
	for _, c := range []struct {
		text string
		want bool
	}{
		{".....\n", true}, {"..9..\n", true}, {".123.\n", true}, {"..~..\n", true}, {"~~~~~\n", true},
		{"..#..\n", false}, {".#...\n", false}, {"...#.\n", false},
		{"..^..\n", false}, {".^...\n", false}, {"...^.\n", false},
		{"#...#\n", true}, {"^...^\n", true}, {"#~~~^\n", true}, {"#.#.#\n", false}, {"^.^.^\n", false},
	} {
		f := read(t, c.text)
		sees(t, f, 0, 4, 4, c.want, api.OK)
		sees(t, f, 4, 0, 4, c.want, api.OK)
	}
}

// TestSeesPast: C3, what lies off the line hides nothing, either way.
func TestSeesPast(t *testing.T) {
	f := read(t, "#.####\n##.###\n###.##\n")
	sees(t, f, 1, 15, 9, true, api.OK)
	sees(t, f, 15, 1, 9, true, api.OK)
	sees(t, f, 0, 16, 9, false, api.OK)

	// In 2 columns the lines from 0 to 5 and from 4 to 1 both go by 3, not by 2.
	sees(t, read(t, "..\n#.\n.#\n"), 0, 5, 9, true, api.OK)
	sees(t, read(t, "..\n#.\n.#\n"), 5, 0, 9, true, api.OK)
	sees(t, read(t, "..\n.#\n..\n"), 0, 5, 9, false, api.OK)
	sees(t, read(t, "..\n#.\n..\n"), 4, 1, 9, true, api.OK)
	sees(t, read(t, "..\n.#\n..\n"), 4, 1, 9, false, api.OK)
}

// TestSeesAll: C3, between all cells of a field of all grounds, at each sight.
func TestSeesAll(t *testing.T) {
	f := read(t, "..^..#\n.9.~..\n#..^..\n..~.1.\n...#..\n")
	for a := range len(f.Ground) {
		for b := range len(f.Ground) {
			clear := true
			for _, at := range wantLine(f.Wide, a, b) {
				clear = clear && (at == a || at == b || f.Ground[at] == api.Plain || f.Ground[at] == api.Water)
			}
			cols, rows := a%f.Wide-b%f.Wide, a/f.Wide-b/f.Wide
			for sight := range 9 {
				near := int(math.Sqrt(float64(cols*cols+rows*rows))) <= sight
				sees(t, f, a, b, sight, clear && near, api.OK)
			}
		}
	}
}

// TestCellsAreFresh: P2, lists that come out are the caller's.
func TestCellsAreFresh(t *testing.T) {
	f := bare(3, 3)
	near, _ := field.Near(f, 4)
	line, _ := field.Line(f, 0, 8)
	self, _ := field.Line(f, 4, 4)
	for _, l := range [][]int{near, line, self} {
		for i := range l {
			l[i] = -7
		}
	}
	again, _ := field.Near(f, 4)
	anew, _ := field.Line(f, 0, 8)
	itself, _ := field.Line(f, 4, 4)
	if !slices.Equal(again, []int{1, 3, 5, 7}) || !slices.Equal(anew, []int{0, 4, 8}) || !slices.Equal(itself, []int{4}) || !alike(f, bare(3, 3)) {
		t.Errorf("what was written into an answer stands in another one: %v, %v, %v, %v", again, anew, itself, f)
	}
}
