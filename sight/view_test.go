package sight_test

import (
	"math"
	"slices"
	"strconv"
	"testing"

	"marchland/api"
	"marchland/plain"
	"marchland/sight"
)

func job(player, unit, kind, left int) api.Job {
	return api.Job{Player: player, Unit: idOf(unit), Kind: kind, Left: left}
}

// two is a field in two halves, with a wall between; the units of all players stand on both sides, but those of player 0, which are on the left.
func two(t *testing.T) api.World {
	w := scene(t, "91#.5\n..#..\n.3#7.\n",
		of(1, base, 1),
		of(2, base, 4),
		own(digger, 5),
		api.Unit{Player: 1, Kind: digger, At: 11, Life: 7, Load: 13, Task: api.Gather, Goal: 14},
		of(1, guard, 8),
		own(base, 10),
		of(2, bird, 9))
	w.Queue = []api.Job{job(1, 0, digger, 2), job(0, 5, owl, 3), job(2, 1, bird, 4), job(0, 5, mote, 1), job(1, 4, base, 5)}
	right(t, sorts(), w)
	return w
}

// shown is what a player has in its View: units by their indexes, Golds, ore, and jobs by theirs.
type shown struct {
	units, gold, ore, jobs []int
}

func (s shown) of(w api.World) api.World {
	v := copied(w)
	v.Units, v.Queue = nil, nil
	for _, i := range s.units {
		v.Units = append(v.Units, w.Units[i])
	}
	for _, i := range s.jobs {
		v.Queue = append(v.Queue, w.Queue[i])
	}
	v.Gold, v.Field.Ore = s.gold, s.ore
	return v
}

func (s shown) hold(t *testing.T, name string, w api.World, player int) {
	t.Helper()
	want := s.of(w)
	got, err := sight.View(sorts(), w, player)
	if !alike(got, want) || err != nil {
		t.Errorf("%s: got %v, %v; want %v", name, got, err, want)
	}
	right(t, sorts(), got)
}

// TestView: A1, of a wall's two sides a player sees one, both, or what a bird sees over it.
func TestView(t *testing.T) {
	w := two(t)
	for player, want := range []shown{
		// Player 0 is on the left alone.
		{[]int{0, 2, 3, 5}, []int{5, 0, 0}, []int{90, 10, 0, 0, 0, 0, 0, 0, 0, 0, 0, 30, 0, 0, 0}, []int{1, 3}},
		// Player 1 sees the left, and by its guard all of the right.
		{[]int{0, 1, 2, 3, 4, 5, 6}, []int{0, 8, 0}, w.Field.Ore, []int{0, 4}},
		// Player 2 has the right, and by its bird, from two cells away, the wall, but nothing beyond.
		{[]int{1, 4, 6}, []int{0, 0, 70}, []int{0, 0, 0, 0, 50, 0, 0, 0, 0, 0, 0, 0, 0, 70, 0}, []int{2}},
	} {
		want.hold(t, "player "+strconv.Itoa(player), w, player)
	}
}

// TestViewUnits: A1, units of others stand where it sees, and nowhere else; its own stay all, whatever they see.
func TestViewUnits(t *testing.T) {
	for _, c := range []struct {
		name, text string
		units      []api.Unit
		want       []int
	}{
		{"just at its Sight, and just beyond", plains(6, 1), []api.Unit{own(digger, 0), of(1, blind, 3), of(1, blind, 4)}, []int{0, 1}},
		{"ahead of its own", plains(6, 1), []api.Unit{of(1, blind, 4), of(2, blind, 1), own(digger, 0)}, []int{1, 2}},
		{"in what hides, and behind it", ".^..\n", []api.Unit{own(owl, 0), of(1, blind, 1), of(1, blind, 2)}, []int{0, 1}},
		{"behind it, for one that flies", ".^..\n", []api.Unit{own(eagle, 0), of(1, blind, 1), of(1, blind, 2)}, []int{0, 1, 2}},
		{"one that flies is hidden as well", ".#~.\n", []api.Unit{own(owl, 0), of(1, bird, 2)}, []int{0}},
		{"Sight 0", plains(3, 1), []api.Unit{of(1, guard, 0), own(blind, 1), of(2, guard, 2)}, []int{1}},
		{"its own, far from each other", plains(9, 1), []api.Unit{own(blind, 0), of(1, blind, 1), own(guard, 8), of(1, blind, 4), own(blind, 5), of(1, blind, 7)}, []int{0, 2, 4, 5}},
		{"others' see, and it does not", plains(4, 1), []api.Unit{own(blind, 0), of(1, owl, 1), of(2, eagle, 2)}, []int{0}},
		{"none of its own", plains(3, 1), []api.Unit{of(1, owl, 0), of(2, owl, 2)}, nil},
		{"its own alone", plains(3, 1), []api.Unit{own(owl, 0), own(blind, 2)}, []int{0, 1}},
		{"nobody", plains(3, 1), nil, nil},
	} {
		w := scene(t, c.text, c.units...)
		shown{c.want, []int{5, 0, 0}, w.Field.Ore, nil}.hold(t, c.name, w, 0)
	}
}

// TestViewJobs: A1, its own jobs stay, in their order; those of others go, also where it sees who trains.
func TestViewJobs(t *testing.T) {
	w := scene(t, plains(4, 1), of(1, guard, 1), own(base, 0), own(guard, 3), of(2, base, 2))
	mine := []api.Job{job(0, 2, owl, 9), job(0, 1, bird, 1000), job(0, 1, bird, 1)}
	others := []api.Job{job(1, 0, owl, 9), job(2, 3, bird, 3)}
	for _, c := range []struct {
		name  string
		queue []api.Job
		want  []int
	}{
		{"none", nil, nil},
		{"its own alone", mine, []int{0, 1, 2}},
		{"others' alone", others, nil},
		{"others' first", slices.Concat(others, mine), []int{2, 3, 4}},
		{"others' last", slices.Concat(mine, others), []int{0, 1, 2}},
		{"in turn", []api.Job{mine[0], others[0], mine[1], others[1], mine[2]}, []int{0, 2, 4}},
		{"all that there may be", slices.Concat(mine, mine, others, mine, others[:1]), []int{0, 1, 2, 3, 4, 5, 8, 9, 10}},
	} {
		w.Queue = c.queue
		shown{[]int{0, 1, 2, 3}, []int{5, 0, 0}, w.Field.Ore, c.want}.hold(t, c.name, w, 0)
	}
}

// TestViewGold: A1, of each player's Golds its own alone, at all numbers that a Gold may be.
func TestViewGold(t *testing.T) {
	for _, golds := range [][]int{{0}, {7}, {api.MaxNumber}, {3, 4}, {0, 9}, {9, 0}, {1, 1, 1}, {1, 2, 3, 4}, {api.MaxNumber, api.MaxNumber, api.MaxNumber, api.MaxNumber}} {
		w := scene(t, plains(2, 1), own(owl, 0))
		w.Gold = golds
		for player, gold := range golds {
			want := make([]int, len(golds))
			want[player] = gold
			got, err := sight.View(sorts(), w, player)
			if !slices.Equal(got.Gold, want) || err != nil {
				t.Errorf("%v, player %d: got %v, %v", golds, player, got.Gold, err)
			}
		}
	}
}

// TestViewOre: A1, ore lies where it sees, and nowhere else, whatever ground is between.
func TestViewOre(t *testing.T) {
	for _, c := range []struct {
		name, text string
		units      []api.Unit
		want       []int
	}{
		{"just at its Sight, and just beyond", "11111\n", []api.Unit{own(digger, 0)}, []int{10, 10, 10, 10, 0}},
		{"behind what hides", "1#1^1\n", []api.Unit{own(owl, 0)}, []int{10, 0, 0, 0, 0}},
		{"behind what hides, for one that flies", "1#1^1\n", []api.Unit{own(eagle, 0)}, []int{10, 0, 10, 0, 10}},
		{"where it is alone", "234\n", []api.Unit{own(blind, 1)}, []int{0, 30, 0}},
		{"by two", "23456\n", []api.Unit{own(blind, 3), own(blind, 0)}, []int{20, 0, 0, 50, 0}},
		{"where others are", "234\n", []api.Unit{of(1, owl, 0), of(2, owl, 2)}, []int{0, 0, 0}},
		{"with nobody", "234\n", nil, []int{0, 0, 0}},
	} {
		w := scene(t, c.text, c.units...)
		got, err := sight.View(sorts(), w, 0)
		if !slices.Equal(got.Field.Ore, c.want) || !slices.Equal(got.Field.Ground, w.Field.Ground) || err != nil {
			t.Errorf("%s: got %v, %v; want ore %v", c.name, got.Field, err, c.want)
		}
	}
	w := scene(t, "..\n", own(blind, 0))
	w.Field.Ore = []int{api.MaxNumber, api.MaxNumber}
	if got, err := sight.View(sorts(), w, 0); !slices.Equal(got.Field.Ore, []int{api.MaxNumber, 0}) || err != nil {
		t.Errorf("got %v, %v", got, err)
	}
}

// TestViewKeeps: A1, all else is as it is: Turn, Next, the grounds that it does not see, and what becomes of units that it does.
func TestViewKeeps(t *testing.T) {
	busy := api.Unit{Player: 2, Kind: bird, At: 1, Life: 7, Load: 5, Task: api.Gather, Goal: 5}
	w := scene(t, ".~#^.9\n", own(guard, 0), busy)
	w.Turn, w.Next = 123, 4567
	shown{[]int{0, 1}, []int{5, 0, 0}, make([]int, 6), nil}.hold(t, "a neighbour that is busy", w, 0)
}

// noCells are numbers that no cell has, in whatever field.
var noCells = []int{-1, -2, 144, 145, 1 << 32, 1<<32 + 1, math.MaxInt, math.MinInt}

// TestSeers: A1, of each cell those that see it: nobody, one, several, each once, and rising, whoever stands ahead.
func TestSeers(t *testing.T) {
	for _, c := range []struct {
		name, text string
		units      []api.Unit
		want       [][]int
	}{
		{"nobody", plains(2, 1), nil, [][]int{nil, nil}},
		{"one", plains(3, 1), []api.Unit{of(1, guard, 0)}, [][]int{{1}, {1}, nil}},
		{"two, the later one ahead", plains(4, 1), []api.Unit{of(2, guard, 1), own(guard, 2)}, [][]int{{2}, {0, 2}, {0, 2}, {0}}},
		{"three, in no order", plains(3, 1), []api.Unit{of(2, owl, 0), own(owl, 1), of(1, owl, 2)}, [][]int{{0, 1, 2}, {0, 1, 2}, {0, 1, 2}}},
		{"several of one player", plains(3, 1), []api.Unit{of(1, owl, 0), own(owl, 1), of(1, owl, 2)}, [][]int{{0, 1}, {0, 1}, {0, 1}}},
		{"Sight 0", plains(3, 1), []api.Unit{of(1, blind, 2), of(2, mote, 0)}, [][]int{{2}, nil, {1}}},
		{"what hides, and one that flies", ".#..\n", []api.Unit{of(2, eagle, 0), own(owl, 2), of(1, digger, 3)}, [][]int{{2}, {0, 1, 2}, {0, 1, 2}, {0, 1, 2}}},
		{"just at its Sight, and just beyond", plains(5, 1), []api.Unit{own(digger, 0), of(1, digger, 1)}, [][]int{{0, 1}, {0, 1}, {0, 1}, {0, 1}, {1}}},
	} {
		w := scene(t, c.text, c.units...)
		for at, want := range c.want {
			if got, err := sight.Seers(sorts(), w, at); !slices.Equal(got, want) || err != nil {
				t.Errorf("%s, cell %d: got %v, %v; want %v", c.name, at, got, err, want)
			}
		}
	}
}

// TestSeersOfFour: A1, as many players as there may be.
func TestSeersOfFour(t *testing.T) {
	w := scene(t, plains(4, 1), own(owl, 3), of(1, owl, 1), of(2, owl, 2))
	w.Gold = []int{0, 0, 0, 0}
	w.Units = append(w.Units, api.Unit{Id: 80, Player: 3, Kind: owl, At: 0, Life: 1})
	for at := range 4 {
		if got, err := sight.Seers(sorts(), w, at); !slices.Equal(got, []int{0, 1, 2, 3}) || err != nil {
			t.Errorf("cell %d: got %v, %v", at, got, err)
		}
	}
}

// TestWrongCell: A1, a cell below 0, and one that is the number of cells.
func TestWrongCell(t *testing.T) {
	for _, side := range [][2]int{{1, 1}, {3, 1}, {1, 3}, {4, 5}, {12, 12}} {
		w := scene(t, plains(side[0], side[1]), own(eagle, 0))
		many := side[0] * side[1]
		for _, at := range append([]int{many, many + 1}, noCells...) {
			if got, err := sight.Seers(sorts(), w, at); got != nil || plain.Told(err) != api.ErrNone {
				t.Errorf("cell %d of %d: got %v, %v", at, many, got, err)
			}
		}
		if _, err := sight.Seers(sorts(), w, many-1); err != nil {
			t.Errorf("the last cell of %d: got %v", many, err)
		}
	}
}
