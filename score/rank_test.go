package score_test

import (
	"math"
	"math/rand"
	"slices"
	"testing"

	"marchland/api"
	"marchland/plain"
	"marchland/score"
)

// whose are units of these players.
func whose(players ...int) []api.Unit {
	var l []api.Unit
	for _, player := range players {
		l = append(l, of(player, third, 1))
	}
	return l
}

// TestWinner: N1, the one player of all units, whoever else has Gold.
func TestWinner(t *testing.T) {
	rich := []int{1000000, 1000000, 1000000, 1000000}
	for _, c := range []struct {
		name  string
		gold  []int
		units []api.Unit
		want  int
		won   bool
	}{
		{"nobody, nothing", []int{0}, nil, 0, false},
		{"nobody, with Gold", rich, nil, 0, false},
		{"one alone in the world", []int{0}, whose(0), 0, true},
		{"one unit of player 0", rich, whose(0), 0, true},
		{"one unit of player 1", rich, whose(1), 1, true},
		{"one unit of player 2", rich, whose(2), 2, true},
		{"one unit of player 3", rich, whose(3), 3, true},
		{"several of player 0", rich, whose(0, 0, 0), 0, true},
		{"several of player 2", []int{9, 9, 0}, whose(2, 2, 2, 2), 2, true},
		{"a worthless one wins", rich, []api.Unit{of(1, gift, 1)}, 1, true},
		{"two players", []int{0, 0}, whose(0, 1), 0, false},
		{"two players, the other way round", []int{0, 0}, whose(1, 0), 0, false},
		{"another at the first place", rich, whose(3, 2, 2, 2), 0, false},
		{"another in the middle", rich, whose(2, 2, 1, 2), 0, false},
		{"another at the last place", rich, whose(2, 2, 2, 0), 0, false},
		{"two, turn about", rich, whose(1, 3, 1, 3), 0, false},
		{"all of four", rich, whose(0, 1, 2, 3), 0, false},
		{"forty of one", rich, whose(slices.Repeat([]int{3}, 40)...), 3, true},
		{"39 of one, and one", rich, whose(append(slices.Repeat([]int{3}, 39), 0)...), 0, false},
	} {
		w := scene(t, c.gold, c.units...)
		if got, won := score.Winner(w); got != c.want || won != c.won {
			t.Errorf("%s: got %d, %v; want %d, %v", c.name, got, won, c.want, c.won)
		}
	}
}

// TestWinnerMindsUnitsAlone: N1, jobs count for nobody, and a world is not asked whether it is right.
func TestWinnerMindsUnitsAlone(t *testing.T) {
	jobs := []api.Job{{Player: 2, Unit: 3, Left: 1}, {Player: 0, Unit: 9, Kind: dear, Left: 4}}
	for _, c := range []struct {
		name string
		w    api.World
		want int
		won  bool
	}{
		{"nothing at all", api.World{}, 0, false},
		{"jobs alone", api.World{Gold: []int{1, 2, 3}, Queue: jobs}, 0, false},
		{"jobs of others", api.World{Gold: []int{1, 2, 3}, Units: whose(1, 1), Queue: jobs}, 1, true},
		{"jobs of one of two", api.World{Gold: []int{1, 2, 3}, Units: whose(0, 1), Queue: jobs}, 0, false},
		{"units without a Life", api.World{Gold: []int{1, 2}, Units: []api.Unit{{Player: 1}, {Player: 1}}}, 1, true},
		{"a unit without a Life is one", api.World{Gold: []int{1, 2}, Units: []api.Unit{{Player: 1, Life: 9}, {Player: 0}}}, 0, false},
		{"no Gold", api.World{Units: whose(2, 2)}, 2, true},
		{"a player that is none", api.World{Gold: []int{1}, Units: whose(7, 7)}, 7, true},
		{"players that are none", api.World{Gold: []int{1}, Units: whose(7, 8)}, 0, false},
		{"more units than may be", api.World{Gold: []int{1}, Units: whose(slices.Repeat([]int{1}, 500)...)}, 1, true},
	} {
		if got, won := score.Winner(c.w); got != c.want || won != c.won {
			t.Errorf("%s: got %d, %v; want %d, %v", c.name, got, won, c.want, c.won)
		}
	}
}

// count gives the numbers from first on, so many, each one step further.
func count(first, step, many int) []int {
	var l []int
	for i := range many {
		l = append(l, first+i*step)
	}
	return l
}

// TestRank: N1, one more than how many have more.
func TestRank(t *testing.T) {
	for _, c := range []struct {
		name         string
		points, want []int
	}{
		{"none", nil, nil},
		{"an empty list", []int{}, nil},
		{"one", []int{50}, []int{1}},
		{"one of nothing", []int{0}, []int{1}},
		{"one below 0", []int{-5}, []int{1}},
		{"two", []int{3, 8}, []int{2, 1}},
		{"two, the other way round", []int{8, 3}, []int{1, 2}},
		{"rising", []int{1, 2, 3, 4}, []int{4, 3, 2, 1}},
		{"falling", []int{4, 3, 2, 1}, []int{1, 2, 3, 4}},
		{"mixed, far apart", []int{70, 1000000, 5, 900}, []int{3, 1, 4, 2}},
		{"two alike", []int{6, 6}, []int{1, 1}},
		{"all alike", []int{6, 6, 6, 6, 6}, []int{1, 1, 1, 1, 1}},
		{"all nothing", []int{0, 0, 0}, []int{1, 1, 1}},
		{"alike at the first place", []int{2, 9, 5, 9}, []int{4, 1, 3, 1}},
		{"three at the first place", []int{9, 9, 2, 9, 5}, []int{1, 1, 5, 1, 4}},
		{"alike in the middle", []int{5, 9, 5, 2}, []int{2, 1, 2, 4}},
		{"three in the middle", []int{2, 5, 5, 9, 5}, []int{5, 2, 2, 1, 2}},
		{"alike at the last place", []int{2, 9, 2, 5}, []int{3, 1, 3, 2}},
		{"three at the last place", []int{2, 9, 2, 2}, []int{2, 1, 2, 2}},
		{"alike at all places", []int{1, 2, 3, 3, 2, 1}, []int{5, 3, 1, 1, 3, 5}},
		{"below 0", []int{-3, -1, -2}, []int{3, 1, 2}},
		{"below 0, alike", []int{-3, -1, -3, -1}, []int{3, 1, 3, 1}},
		{"on both sides of 0", []int{-1, 0, 1, 0, -1}, []int{4, 2, 1, 2, 4}},
		{"the least and the greatest", []int{math.MinInt, math.MaxInt, 0, math.MaxInt, math.MinInt, math.MinInt + 1, math.MaxInt - 1}, []int{6, 1, 4, 1, 6, 5, 3}},
		{"199", count(0, 1, 199), count(199, -1, 199)},
		{"200 that rise", count(-100, 1, 200), count(200, -1, 200)},
		{"200 that fall", count(1000, -7, 200), count(1, 1, 200)},
		{"200 alike", slices.Repeat([]int{3}, 200), slices.Repeat([]int{1}, 200)},
	} {
		got, err := score.Rank(c.points)
		if !slices.Equal(got, c.want) || err != nil {
			t.Errorf("%s: got %v, %v; want %v", c.name, got, err, c.want)
		}
	}
}

// TestRankFull: N1, more than MaxItems.
func TestRankFull(t *testing.T) {
	for _, l := range [][]int{make([]int, 201), count(0, 1, 201), make([]int, 400), make([]int, 100000)} {
		if got, err := score.Rank(l); got != nil || plain.Told(err) != api.ErrFull {
			t.Errorf("%d points: got %v, %v", len(l), got, err)
		}
	}
}

// TestRankOfDrawn: N1, a place is where the first one of as many points stands when all fall.
func TestRankOfDrawn(t *testing.T) {
	r := rand.New(rand.NewSource(14))
	for range 3000 {
		points := make([]int, r.Intn(201))
		spread := 1 + r.Intn(300)
		for i := range points {
			points[i] = r.Intn(spread) - spread/2
		}
		falling := slices.Clone(points)
		slices.SortFunc(falling, func(a, b int) int { return b - a })
		got, err := score.Rank(points)
		if err != nil || len(got) != len(points) {
			t.Fatalf("%v: got %v, %v", points, got, err)
		}
		for i, place := range got {
			if want := 1 + slices.Index(falling, points[i]); place != want {
				t.Fatalf("%v: the one at %d: got %d, want %d", points, i, place, want)
			}
		}
	}
}
