package sight_test

import (
	"math"
	"slices"
	"strings"
	"testing"

	"marchland/api"
	"marchland/field"
	"marchland/plain"
	"marchland/sight"
	"marchland/world"
)

// Numbers of the kinds.
const (
	base = iota
	digger
	guard
	owl
	blind
	bird
	eagle
	mote
)

func sorts() []api.Kind {
	return []api.Kind{
		{Name: "base", Life: 50, Sight: 4, Price: 50, Turns: 5, Trains: true},
		{Name: "digger", Life: 10, Sight: 3, Speed: 2, Price: 10, Turns: 2, Carry: 20},
		{Name: "guard", Life: 20, Hit: 4, Range: 12, Sight: 1, Speed: 2, Price: 20, Turns: 3, Trains: true},
		{Name: "owl", Life: 5, Sight: 12, Price: 9, Turns: 3},
		{Name: "blind", Life: 40, Hit: 9, Range: 12, Speed: 4, Price: 9, Turns: 1},
		{Name: "bird", Life: 8, Hit: 3, Range: 9, Sight: 2, Speed: 3, Price: 25, Turns: 3, Carry: 5, Flies: true},
		{Name: "eagle", Life: 6, Sight: 12, Speed: 4, Price: 30, Turns: 4, Flies: true},
		{Name: "mote", Life: 1, Range: 12, Speed: 4, Flies: true},
	}
}

// idOf the i-th unit of a scene: never its index.
func idOf(i int) int { return 2*i + 3 }

// scene is a world of three players on the field of a text, with these units, by their ids.
func scene(t *testing.T, text string, units ...api.Unit) api.World {
	t.Helper()
	f, at, err := field.Parse(text)
	if err != nil {
		t.Fatalf("Parse(%q): %v at %d", text, err, at)
	}
	w := api.World{Turn: 6, Next: 90, Field: f, Gold: []int{5, 8, 70}}
	for i, u := range units {
		u.Id = idOf(i)
		w.Units = append(w.Units, u)
	}
	right(t, sorts(), w)
	return w
}

// plains is the text of a field that has nothing else.
func plains(wide, high int) string {
	return strings.Repeat(strings.Repeat(".", wide)+"\n", high)
}

func right(t *testing.T, k []api.Kind, w api.World) {
	t.Helper()
	if err := world.Check(k, w); err != nil {
		t.Fatalf("%v: Check says %v", w, err)
	}
}

func copied(w api.World) api.World {
	w.Field.Ground, w.Field.Ore = slices.Clone(w.Field.Ground), slices.Clone(w.Field.Ore)
	w.Gold, w.Units, w.Queue = slices.Clone(w.Gold), slices.Clone(w.Units), slices.Clone(w.Queue)
	return w
}

func alike(a, b api.World) bool {
	return a.Turn == b.Turn && a.Next == b.Next && a.Field.Wide == b.Field.Wide && a.Field.High == b.Field.High &&
		slices.Equal(a.Field.Ground, b.Field.Ground) && slices.Equal(a.Field.Ore, b.Field.Ore) &&
		slices.Equal(a.Gold, b.Gold) && slices.Equal(a.Units, b.Units) && slices.Equal(a.Queue, b.Queue)
}

// own is a unit of player 0.
func own(kind, at int) api.Unit { return of(0, kind, at) }

// of is a unit of a player.
func of(player, kind, at int) api.Unit {
	return api.Unit{Player: player, Kind: kind, At: at, Life: 1}
}

// picture of cells: a star for each that is seen, row by row.
func picture(wide int, cells []bool) string {
	var b strings.Builder
	for at, isSeen := range cells {
		if isSeen {
			b.WriteByte('*')
		} else {
			b.WriteByte('-')
		}
		if at%wide == wide-1 {
			b.WriteByte('\n')
		}
	}
	return b.String()
}

// looks is a scene, and what player 0 sees of it, as a picture.
type looks struct {
	name, text string
	units      []api.Unit
	want       string
}

func hold(t *testing.T, l []looks) {
	t.Helper()
	for _, c := range l {
		w := scene(t, c.text, c.units...)
		got, err := sight.Seen(sorts(), w, 0)
		if p := picture(w.Field.Wide, got); p != c.want || err != nil {
			t.Errorf("%s: got %v\n%swant\n%s", c.name, err, p, c.want)
		}
	}
}

// TestSeenFar: A1, cells just at a unit's Sight, and just beyond: Far is rounded down.
func TestSeenFar(t *testing.T) {
	hold(t, []looks{
		{"3, in a row", plains(7, 1), []api.Unit{own(digger, 0)}, "****---\n"},
		{"3, in a row, the other way", plains(7, 1), []api.Unit{own(digger, 6)}, "---****\n"},
		{"3, in a column", plains(1, 5), []api.Unit{own(digger, 4)}, "-\n*\n*\n*\n*\n"},
		{"1", plains(5, 5), []api.Unit{own(guard, 12)}, "-----\n-***-\n-***-\n-***-\n-----\n"},
		{"1, where a row ends", plains(5, 2), []api.Unit{own(guard, 4)}, "---**\n---**\n"},
		{"1, where a row begins", plains(5, 2), []api.Unit{own(guard, 5)}, "**---\n**---\n"},
		{"2, flying", plains(7, 5), []api.Unit{own(bird, 17)}, "-*****-\n-*****-\n-*****-\n-*****-\n-*****-\n"},
		{"3", plains(9, 9), []api.Unit{own(digger, 40)}, "---------\n--*****--\n-*******-\n-*******-\n-*******-\n-*******-\n-*******-\n--*****--\n---------\n"},
		{"12", plains(12, 12), []api.Unit{own(owl, 0)}, strings.Repeat("************\n", 7) + "***********-\n***********-\n**********--\n*********---\n*******-----\n"},
		{"12, flying", plains(12, 12), []api.Unit{own(eagle, 0)}, strings.Repeat("************\n", 7) + "***********-\n***********-\n**********--\n*********---\n*******-----\n"},
		{"0", plains(3, 3), []api.Unit{own(blind, 4)}, "---\n-*-\n---\n"},
		{"0, flying", plains(3, 3), []api.Unit{own(mote, 4)}, "---\n-*-\n---\n"},
		{"0, in forest", "^^^\n", []api.Unit{own(blind, 1)}, "-*-\n"},
		{"the only cell", plains(1, 1), []api.Unit{own(owl, 0)}, "*\n"},
	})
}

// TestSeenHidden: A1, what lies between hides, but not from one that flies; neither end hides itself.
func TestSeenHidden(t *testing.T) {
	hold(t, []looks{
		{"rock", "..#..\n", []api.Unit{own(owl, 0)}, "***--\n"},
		{"forest", "..^..\n", []api.Unit{own(owl, 0)}, "***--\n"},
		{"water", "..~..\n", []api.Unit{own(owl, 0)}, "*****\n"},
		{"ore", ".199.\n", []api.Unit{own(owl, 0)}, "*****\n"},
		{"from the other side", ".#...\n", []api.Unit{own(owl, 4)}, "-****\n"},
		{"in a column", ".\n^\n.\n", []api.Unit{own(owl, 0)}, "*\n*\n-\n"},
		{"rock, for one that flies", "..#..\n", []api.Unit{own(eagle, 0)}, "*****\n"},
		{"forest, for one that flies", "..^..\n", []api.Unit{own(eagle, 0)}, "*****\n"},
		{"all about one that flies", "#####\n#^^^#\n#^.^#\n#^^^#\n#####\n", []api.Unit{own(eagle, 12)}, "*****\n*****\n*****\n*****\n*****\n"},
		{"all about one that goes", "#####\n#^^^#\n#^.^#\n#^^^#\n#####\n", []api.Unit{own(owl, 12)}, "-----\n-***-\n-***-\n-***-\n-----\n"},
		{"for one that flies, as far as it sees alone", ".#.#.\n", []api.Unit{own(bird, 0)}, "***--\n"},
		{"one that flies, from above water", "~#~..\n", []api.Unit{own(bird, 0)}, "***--\n"},
		{"in forest", "^..^.\n", []api.Unit{own(owl, 0)}, "****-\n"},
		{"in forest, with forest beside", "^^.\n", []api.Unit{own(owl, 0)}, "**-\n"},
		// From 12 the line to 9 goes by the rock at 13, that to 19 by 18.
		{"a shadow", ".....\n.....\n...#.\n.....\n.....\n", []api.Unit{own(owl, 12)}, "*****\n****-\n****-\n*****\n*****\n"},
		{"a shadow to the other side", ".....\n.....\n.#...\n.....\n.....\n", []api.Unit{own(owl, 12)}, "*****\n-****\n-****\n*****\n*****\n"},
		{"units hide nothing", plains(5, 1), []api.Unit{own(owl, 0), of(1, base, 1), own(blind, 2), of(2, eagle, 3)}, "*****\n"},
	})
}

// TestSeenTogether: A1, a player sees what one of its units sees, whichever; those of others tell it nothing.
func TestSeenTogether(t *testing.T) {
	hold(t, []looks{
		{"nobody", plains(3, 2), nil, "---\n---\n"},
		{"others alone", plains(3, 1), []api.Unit{of(1, owl, 0), of(2, eagle, 1)}, "---\n"},
		{"two", plains(5, 1), []api.Unit{own(blind, 4), own(blind, 0)}, "*---*\n"},
		{"two that meet", plains(7, 1), []api.Unit{own(guard, 1), own(guard, 4)}, "******-\n"},
		{"two that see the same", plains(5, 1), []api.Unit{own(guard, 1), own(digger, 0)}, "****-\n"},
		{"three kinds", plains(9, 1), []api.Unit{own(guard, 0), own(mote, 3), own(bird, 8)}, "**-*--***\n"},
		{"what is hidden from one is seen by another", "..#....\n", []api.Unit{own(digger, 0), own(guard, 5)}, "***-***\n"},
		{"with others between", plains(6, 1), []api.Unit{of(1, owl, 1), own(blind, 0), of(2, owl, 5), own(guard, 4)}, "*--***\n"},
		{"one that marches, and carries", plains(5, 1), []api.Unit{{Kind: digger, At: 1, Life: 9, Load: 4, Task: api.March, Goal: 4}}, "*****\n"},
		{"by where it is, not by its Goal", plains(7, 1), []api.Unit{{Kind: guard, At: 0, Life: 9, Task: api.March, Goal: 5}}, "**-----\n"},
	})
}

// TestSeenByEach: A1, each player of a world for itself.
func TestSeenByEach(t *testing.T) {
	w := scene(t, "..^..\n.....\n", of(2, guard, 4), own(digger, 0), of(2, blind, 5))
	for player, want := range []string{"***--\n****-\n", "-----\n-----\n", "---**\n*--**\n"} {
		got, err := sight.Seen(sorts(), w, player)
		if p := picture(5, got); p != want || err != nil {
			t.Errorf("player %d: got %v\n%swant\n%s", player, err, p, want)
		}
	}
}

// noPlayers are numbers that no player has, however many there are.
var noPlayers = []int{-1, -2, 4, 5, 1 << 32, 1<<32 + 1, math.MaxInt, math.MinInt}

// TestWrongPlayer: A1, a player below 0, and one that is the number of players, for as many as there may be.
func TestWrongPlayer(t *testing.T) {
	for many := 1; many <= api.MaxPlayers; many++ {
		w := scene(t, "9..\n", own(owl, 0))
		w.Gold = []int{5, 8, 70, 2}[:many]
		for player := range many {
			cells, err := sight.Seen(sorts(), w, player)
			if len(cells) != 3 || cells[0] != (player == 0) || err != nil {
				t.Errorf("player %d of %d: Seen: got %v, %v", player, many, cells, err)
			}
			if v, err := sight.View(sorts(), w, player); len(v.Gold) != many || err != nil {
				t.Errorf("player %d of %d: View: got %v, %v", player, many, v, err)
			}
		}
		for _, player := range append([]int{many, many + 1}, noPlayers...) {
			if cells, err := sight.Seen(sorts(), w, player); cells != nil || plain.Told(err) != api.ErrRange {
				t.Errorf("player %d of %d: Seen: got %v, %v", player, many, cells, err)
			}
			if v, err := sight.View(sorts(), w, player); !alike(v, api.World{}) || plain.Told(err) != api.ErrRange {
				t.Errorf("player %d of %d: View: got %v, %v", player, many, v, err)
			}
		}
	}
}
