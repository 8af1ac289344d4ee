package path_test

import (
	"math"
	"slices"
	"testing"

	"marchland/api"
	"marchland/field"
	"marchland/path"
	"marchland/plain"
)

// read is the field of a text that is right.
func read(t *testing.T, text string) api.Field {
	t.Helper()
	f, at, err := field.Parse(text)
	if err != nil {
		t.Fatalf("Parse(%q): %v at %d", text, err, at)
	}
	return f
}

// TestFar: W1, over each ground, going and flying.
func TestFar(t *testing.T) {
	for _, c := range []struct {
		name, text string
		to         int
		goes, flew []int
	}{
		{"one cell", ".\n", 0, []int{0}, []int{0}},
		{"one cell of rock", "#\n", 0, []int{0}, []int{0}},
		{"one cell of water", "~\n", 0, []int{0}, []int{0}},
		{"one cell of forest", "^\n", 0, []int{0}, []int{0}},
		{"plains", "...\n...\n", 0, []int{0, 1, 2, 1, 2, 3}, []int{0, 1, 2, 1, 2, 3}},
		{"plains with ore", ".9.\n1..\n", 5, []int{3, 2, 1, 2, 1, 0}, []int{3, 2, 1, 2, 1, 0}},
		{"forest between", ".^.\n", 0, []int{0, 1, 3}, []int{0, 1, 2}},
		{"all forest", "^^^\n", 2, []int{4, 2, 0}, []int{2, 1, 0}},
		{"the first cell is not counted", "^..\n", 2, []int{2, 1, 0}, []int{2, 1, 0}},
		{"the last cell is counted", "^..\n", 0, []int{0, 2, 3}, []int{0, 1, 2}},
		{"through a forest nearer than round it", "...\n.^.\n", 3, []int{1, 2, 3, 0, 1, 3}, []int{1, 2, 3, 0, 1, 2}},
		{"round forests nearer than through them", "^^^^^\n.....\n", 0, []int{0, 2, 4, 6, 7, 2, 3, 4, 5, 6}, []int{0, 1, 2, 3, 4, 1, 2, 3, 4, 5}},
		{"water between", ".~.\n", 0, []int{0, 1, -1}, []int{0, 1, 2}},
		{"round water", ".~.\n...\n", 0, []int{0, 1, 4, 1, 2, 3}, []int{0, 1, 2, 1, 2, 3}},
		{"rock between", ".#.\n", 0, []int{0, 1, -1}, []int{0, 1, -1}},
		{"from a rock behind a rock", ".##\n", 0, []int{0, 1, -1}, []int{0, 1, -1}},
		{"to rock", "...\n.#.\n...\n", 4, []int{-1, -1, -1, -1, 0, -1, -1, -1, -1}, []int{-1, -1, -1, -1, 0, -1, -1, -1, -1}},
		{"to water", ".~.\n", 1, []int{-1, 0, -1}, []int{1, 0, 1}},
		{"not across", ".#\n#.\n", 0, []int{0, 1, 1, -1}, []int{0, 1, 1, -1}},
		{"not over an edge", "..\n##\n..\n", 1, []int{1, 0, 2, 1, -1, -1}, []int{1, 0, 2, 1, -1, -1}},
		{"not from a row's end to the next one", "..#\n#..\n", 0, []int{0, 1, 2, 1, 2, 3}, []int{0, 1, 2, 1, 2, 3}},
	} {
		for flies, want := range map[bool][]int{false: c.goes, true: c.flew} {
			got, err := path.Far(read(t, c.text), c.to, flies)
			if !slices.Equal(got, want) || err != nil {
				t.Errorf("%s, to %d, flying %v: got %v, %v; want %v", c.name, c.to, flies, got, err, want)
			}
		}
	}
}

// TestFarOfALongWay: W1, a way that winds through a field of the greatest sides.
func TestFarOfALongWay(t *testing.T) {
	f := read(t, "............\n###########.\n............\n.###########\n............\n###########.\n"+
		"............\n.###########\n............\n###########.\n............\n.###########\n")
	far, err := path.Far(f, 132, false)
	if err != nil || far[0] != 77 {
		t.Errorf("got %v, %v; want 77 at the first cell", far, err)
	}
	way, err := path.Path(f, 0, 132, false)
	if err != nil || len(way) != 78 {
		t.Errorf("got %v, %v; want a way of 78 cells", way, err)
	}
}

// TestNext: W1, the first in Near's order of the cells that are on a shortest way.
func TestNext(t *testing.T) {
	for _, c := range []struct {
		name, text     string
		from, to       int
		goes, flew     int
		stays, remains api.Errno
	}{
		{"up ahead of left", "...\n...\n...\n", 8, 0, 5, 5, 0, 0},
		{"up ahead of right", "...\n...\n...\n", 6, 2, 3, 3, 0, 0},
		{"left ahead of down", "...\n...\n...\n", 2, 6, 1, 1, 0, 0},
		{"right ahead of down", "...\n...\n...\n", 0, 8, 1, 1, 0, 0},
		{"up alone", "...\n...\n...\n", 4, 1, 1, 1, 0, 0},
		{"left alone", "...\n...\n...\n", 4, 3, 3, 3, 0, 0},
		{"right alone", "...\n...\n...\n", 4, 5, 5, 5, 0, 0},
		{"down alone", "...\n...\n...\n", 4, 7, 7, 7, 0, 0},
		{"left ahead of right, round a rock", "...\n.#.\n...\n", 7, 1, 6, 6, 0, 0},
		{"up ahead of down, round a rock", "...\n.#.\n...\n", 3, 5, 0, 0, 0, 0},
		{"left, as up is forest", "..^\n...\n...\n", 5, 0, 4, 2, 0, 0},
		{"through forest, as round it is further", "..\n^.\n..\n", 4, 0, 2, 2, 0, 0},
		{"right, as up leads through forest", ".^.\n...\n", 3, 2, 4, 0, 0, 0},
		{"through forests, as far as round them", ".^^.\n....\n", 0, 3, 1, 1, 0, 0},
		{"round forests, as far as through them", "....\n.^^.\n", 4, 7, 0, 5, 0, 0},
		{"at the goal", "...\n...\n", 4, 4, 4, 4, 0, 0},
		{"at the first cell as the goal", "...\n", 0, 0, 0, 0, 0, 0},
		{"at a goal of rock", ".#.\n", 1, 1, 1, 1, 0, 0},
		{"at a goal of water", ".~.\n", 1, 1, 1, 1, 0, 0},
		{"on a field of one cell", ".\n", 0, 0, 0, 0, 0, 0},
		{"from rock", "#..\n", 0, 2, 1, 1, 0, 0},
		{"from water", ".~\n", 1, 0, 0, 0, 0, 0},
		{"beside the goal, not onto a rock as far", "..\n#.\n", 0, 3, 1, 1, 0, 0},
		{"a rock that is as far is not gone onto", ".#.\n...\n", 3, 2, 4, 4, 0, 0},
		{"a forest behind which there is nothing", "^##\n#.#\n###\n", 1, 4, 4, 4, 0, 0},
		{"to rock", ".#.\n", 0, 1, 0, 0, api.ErrState, api.ErrState},
		{"to water", ".~.\n", 2, 1, 0, 1, api.ErrState, 0},
		{"over water", ".~.\n", 0, 2, 0, 1, api.ErrState, 0},
		{"over rock", ".#.\n", 2, 0, 0, 0, api.ErrState, api.ErrState},
	} {
		goes, err := path.Next(read(t, c.text), c.from, c.to, false)
		if goes != c.goes || plain.Told(err) != c.stays {
			t.Errorf("%s: from %d to %d: got %d, %v; want %d, %v", c.name, c.from, c.to, goes, err, c.goes, c.stays)
		}
		flew, err := path.Next(read(t, c.text), c.from, c.to, true)
		if flew != c.flew || plain.Told(err) != c.remains {
			t.Errorf("%s: from %d to %d, flying: got %d, %v; want %d, %v", c.name, c.from, c.to, flew, err, c.flew, c.remains)
		}
	}
}

// TestPath: W1, both ends are told, and each cell is the Next of the one ahead.
func TestPath(t *testing.T) {
	for _, c := range []struct {
		name, text string
		from, to   int
		flies      bool
		want       []int
		told       api.Errno
	}{
		{"one cell", ".\n", 0, 0, false, []int{0}, 0},
		{"from a cell to itself", "...\n...\n", 4, 4, true, []int{4}, 0},
		{"from a rock to itself", ".#.\n", 1, 1, false, []int{1}, 0},
		{"two cells", "...\n", 1, 2, false, []int{1, 2}, 0},
		{"two cells, back", "...\n", 2, 1, false, []int{2, 1}, 0},
		{"first right, then down", "...\n...\n...\n", 0, 8, false, []int{0, 1, 2, 5, 8}, 0},
		{"first up, then left", "...\n...\n...\n", 8, 0, false, []int{8, 5, 2, 1, 0}, 0},
		{"first left, then down", "...\n...\n...\n", 2, 6, false, []int{2, 1, 0, 3, 6}, 0},
		{"first up, then right", "...\n...\n...\n", 6, 2, false, []int{6, 3, 0, 1, 2}, 0},
		{"through a forest", ".^.\n...\n", 0, 2, false, []int{0, 1, 2}, 0},
		{"through two forests, as far as round them", ".^^.\n....\n", 0, 3, false, []int{0, 1, 2, 3}, 0},
		{"round three forests", ".^^^.\n.....\n", 0, 4, false, []int{0, 5, 6, 7, 8, 9, 4}, 0},
		{"over three forests", ".^^^.\n.....\n", 0, 4, true, []int{0, 1, 2, 3, 4}, 0},
		{"round water", ".~.\n...\n", 0, 2, false, []int{0, 3, 4, 5, 2}, 0},
		{"over water", ".~.\n...\n", 0, 2, true, []int{0, 1, 2}, 0},
		{"from a rock", "#~\n..\n", 0, 3, false, []int{0, 2, 3}, 0},
		{"no way", ".~.\n", 0, 2, false, nil, api.ErrState},
		{"no way for who flies", ".#.\n", 0, 2, true, nil, api.ErrState},
		{"to a rock", "...\n.#.\n", 0, 4, true, nil, api.ErrState},
	} {
		got, err := path.Path(read(t, c.text), c.from, c.to, c.flies)
		if !slices.Equal(got, c.want) || plain.Told(err) != c.told {
			t.Errorf("%s: got %v, %v; want %v, %v", c.name, got, err, c.want, c.told)
		}
	}
}

// TestReach: W1, at most 0, just enough, one less, and the bounds.
func TestReach(t *testing.T) {
	for _, c := range []struct {
		name, text string
		from, most int
		flies      bool
		want       []int
		told       api.Errno
	}{
		{"at most 0", "...\n...\n", 1, 0, false, []int{1}, 0},
		{"at most 0 from rock", "...\n.#.\n", 4, 0, true, []int{4}, 0},
		{"at most 1", "...\n...\n...\n", 4, 1, false, []int{1, 3, 4, 5, 7}, 0},
		{"at most 2", "...\n...\n...\n", 0, 2, false, []int{0, 1, 2, 3, 4, 6}, 0},
		{"just enough", "...\n...\n...\n", 0, 4, false, []int{0, 1, 2, 3, 4, 5, 6, 7, 8}, 0},
		{"one less", "...\n...\n...\n", 0, 3, false, []int{0, 1, 2, 3, 4, 5, 6, 7}, 0},
		{"the cells rise, from the last", "...\n...\n...\n", 8, 2, false, []int{2, 4, 5, 6, 7, 8}, 0},
		{"forest, one less", ".^.\n", 0, 1, false, []int{0}, 0},
		{"forest, just enough", ".^.\n", 0, 2, false, []int{0, 1}, 0},
		{"behind the forest, just enough", ".^.\n", 0, 3, false, []int{0, 1, 2}, 0},
		{"over forest", ".^.\n", 0, 2, true, []int{0, 1, 2}, 0},
		{"from forest", "^.^\n", 0, 1, false, []int{0, 1}, 0},
		{"from forest to forest", "^.^\n", 0, 3, false, []int{0, 1, 2}, 0},
		{"from rock", ".#.\n^~#\n", 1, 1, false, []int{0, 1, 2}, 0},
		{"from rock, flying", ".#.\n^~#\n", 1, 1, true, []int{0, 1, 2, 4}, 0},
		{"not back onto rock", ".#.\n...\n", 0, 2, false, []int{0, 3, 4}, 0},
		{"from water", ".~~\n", 1, 5, false, []int{0, 1}, 0},
		{"the most", ".^.#.\n", 0, api.MaxNumber, false, []int{0, 1, 2}, 0},
		{"the most, on one cell", ".\n", 0, api.MaxNumber, true, []int{0}, 0},
		{"the most less one", "...\n", 2, api.MaxNumber - 1, true, []int{0, 1, 2}, 0},
		{"below 0", "...\n", 0, -1, false, nil, api.ErrRange},
		{"beyond the most", "...\n", 0, api.MaxNumber + 1, false, nil, api.ErrRange},
		{"the least number", "...\n", 0, math.MinInt, true, nil, api.ErrRange},
		{"the greatest number", "...\n", 0, math.MaxInt, true, nil, api.ErrRange},
	} {
		got, err := path.Reach(read(t, c.text), c.from, c.most, c.flies)
		if !slices.Equal(got, c.want) || plain.Told(err) != c.told {
			t.Errorf("%s: got %v, %v; want %v, %v", c.name, got, err, c.want, c.told)
		}
	}
}
