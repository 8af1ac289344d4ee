package fight_test

import (
	"math"
	"slices"
	"strings"
	"testing"

	"marchland/api"
	"marchland/field"
	"marchland/fight"
	"marchland/plain"
	"marchland/world"
)

// Numbers of the kinds.
const (
	base = iota
	digger
	fighter
	bird
	tower
	bow
	blind
	giant
)

func sorts() []api.Kind {
	return []api.Kind{
		{Name: "base", Life: 50, Range: 12, Sight: 4, Price: 50, Turns: 5, Trains: true},
		{Name: "digger", Life: 10, Sight: 3, Speed: 2, Price: 10, Turns: 2, Carry: 20},
		{Name: "fighter", Life: 20, Hit: 4, Range: 1, Sight: 4, Speed: 2, Price: 20, Turns: 3},
		{Name: "bird", Life: 8, Hit: 3, Range: 2, Sight: 5, Speed: 3, Price: 25, Turns: 3, Carry: 5, Flies: true},
		{Name: "tower", Life: 60, Hit: 5, Range: 3, Price: 40, Turns: 4, Trains: true},
		{Name: "bow", Life: 9, Hit: 2, Range: 12, Speed: 1, Price: 30, Turns: 4},
		{Name: "blind", Life: 40, Hit: 9, Speed: 4, Price: 9, Turns: 1},
		{Name: "giant", Life: 1000, Hit: 1000, Range: 4, Speed: 1, Price: 900, Turns: 90},
	}
}

// idOf the i-th unit of a scene: never its index.
func idOf(i int) int { return 2*i + 3 }

// scene is a world of three players on the field of a text, with these units, by their ids.
func scene(t *testing.T, text string, units ...api.Unit) api.World {
	t.Helper()
	f, at, err := field.Parse(text)
	if err != nil {
		t.Fatalf("Parse(%q): %v at %d", text, err, at)
	}
	w := api.World{Turn: 6, Next: 90, Field: f, Gold: []int{5, 0, 70}}
	for i, u := range units {
		u.Id = idOf(i)
		w.Units = append(w.Units, u)
	}
	right(t, sorts(), w)
	return w
}

// plains is the text of a field that has nothing else.
func plains(wide, high int) string {
	return strings.Repeat(strings.Repeat(".", wide)+"\n", high)
}

func right(t *testing.T, k []api.Kind, w api.World) {
	t.Helper()
	if err := world.Check(k, w); err != nil {
		t.Fatalf("%v: Check says %v", w, err)
	}
}

func copied(w api.World) api.World {
	w.Field.Ground, w.Field.Ore = slices.Clone(w.Field.Ground), slices.Clone(w.Field.Ore)
	w.Gold, w.Units, w.Queue = slices.Clone(w.Gold), slices.Clone(w.Units), slices.Clone(w.Queue)
	return w
}

func alike(a, b api.World) bool {
	return a.Turn == b.Turn && a.Next == b.Next && a.Field.Wide == b.Field.Wide && a.Field.High == b.Field.High &&
		slices.Equal(a.Field.Ground, b.Field.Ground) && slices.Equal(a.Field.Ore, b.Field.Ore) &&
		slices.Equal(a.Gold, b.Gold) && slices.Equal(a.Units, b.Units) && slices.Equal(a.Queue, b.Queue)
}

// own is a unit of player 0.
func own(kind, at, life int) api.Unit { return api.Unit{Kind: kind, At: at, Life: life} }

// foe is a unit of player 1.
func foe(kind, at, life int) api.Unit { return of(1, own(kind, at, life)) }

// of is a unit as another player has it.
func of(player int, u api.Unit) api.Unit {
	u.Player = player
	return u
}

// aims is whom the first unit of a scene strikes, by its index.
type aims struct {
	name, text string
	units      []api.Unit
	want       int
}

func hold(t *testing.T, l []aims) {
	t.Helper()
	for _, c := range l {
		w := scene(t, c.text, c.units...)
		if got, err := fight.Target(sorts(), w, 0); got != c.want || err != nil {
			t.Errorf("%s: got %d, %v; want %d", c.name, got, err, c.want)
		}
	}
}

// TestTargetRange: B1, no further than its Range, by Far, which rounds down: across a corner is 1, two and one is 2, three and three is 4.
func TestTargetRange(t *testing.T) {
	hold(t, []aims{
		{"beside it", plains(3, 1), []api.Unit{own(fighter, 0, 5), foe(digger, 1, 5)}, 1},
		{"above it", plains(1, 3), []api.Unit{own(fighter, 1, 5), foe(digger, 0, 5)}, 1},
		{"below it", plains(1, 3), []api.Unit{own(fighter, 1, 5), foe(digger, 2, 5)}, 1},
		{"within its Range", plains(5, 1), []api.Unit{own(tower, 0, 5), foe(digger, 2, 5)}, 1},
		{"just at its Range", plains(5, 1), []api.Unit{own(tower, 0, 5), foe(digger, 3, 5)}, 1},
		{"just beyond", plains(5, 1), []api.Unit{own(tower, 0, 5), foe(digger, 4, 5)}, -1},
		{"just beyond 1", plains(3, 1), []api.Unit{own(fighter, 0, 5), foe(digger, 2, 5)}, -1},
		{"just at its Range, in its column", plains(1, 5), []api.Unit{own(tower, 4, 5), foe(digger, 1, 5)}, 1},
		{"just beyond, in its column", plains(1, 5), []api.Unit{own(tower, 4, 5), foe(digger, 0, 5)}, -1},
		{"across a corner", plains(2, 2), []api.Unit{own(fighter, 0, 5), foe(digger, 3, 5)}, 1},
		{"across the other corner", plains(2, 2), []api.Unit{own(fighter, 2, 5), foe(digger, 1, 5)}, 1},
		{"two and one", plains(3, 2), []api.Unit{own(bird, 0, 5), foe(digger, 5, 5)}, 1},
		{"two and one, beyond 1", plains(3, 2), []api.Unit{own(fighter, 0, 5), foe(digger, 5, 5)}, -1},
		{"two and two", plains(3, 3), []api.Unit{own(bird, 0, 5), foe(digger, 8, 5)}, 1},
		{"three and one, beyond 2", plains(4, 2), []api.Unit{own(bird, 0, 5), foe(digger, 7, 5)}, -1},
		{"three and two", plains(4, 3), []api.Unit{own(tower, 0, 5), foe(digger, 11, 5)}, 1},
		{"three and three, beyond 3", plains(4, 4), []api.Unit{own(tower, 0, 5), foe(digger, 15, 5)}, -1},
		{"three and three", plains(4, 4), []api.Unit{own(giant, 0, 5), foe(digger, 15, 5)}, 1},
		{"four and three, beyond 4", plains(5, 4), []api.Unit{own(giant, 0, 5), foe(digger, 19, 5)}, -1},
		{"as far as can be, beyond 12", plains(12, 12), []api.Unit{own(bow, 0, 5), foe(digger, 143, 5)}, -1},
		{"nine and eight", plains(12, 12), []api.Unit{own(bow, 0, 5), foe(digger, 8*12+9, 5)}, 1},
		{"nine and nine", plains(12, 12), []api.Unit{own(bow, 0, 5), foe(digger, 9*12+9, 5)}, 1},
		{"ten and nine, beyond 12", plains(12, 12), []api.Unit{own(bow, 0, 5), foe(digger, 9*12+10, 5)}, -1},
		{"along the whole row", plains(12, 1), []api.Unit{own(bow, 0, 5), foe(digger, 11, 5)}, 1},
		{"at a row's end, and the next one's beginning", plains(5, 2), []api.Unit{own(tower, 4, 5), foe(digger, 5, 5)}, -1},
		{"Range 0", plains(3, 1), []api.Unit{own(blind, 1, 5), foe(digger, 0, 5), foe(digger, 2, 5)}, -1},
	})
}

// TestTargetWhoever: B1, of all of other players, whatever they are, wherever they stand, and whatever lies between.
func TestTargetWhoever(t *testing.T) {
	hold(t, []aims{
		{"over rock", ".#.\n", []api.Unit{own(bird, 0, 5), foe(digger, 2, 5)}, 1},
		{"over forest", ".^.\n", []api.Unit{own(bird, 0, 5), foe(digger, 2, 5)}, 1},
		{"where no way leads", ".#.#\n##.#\n", []api.Unit{own(tower, 0, 5), foe(digger, 2, 5)}, 1},
		{"one that flies", ".~.\n", []api.Unit{own(fighter, 0, 5), foe(bird, 1, 5)}, 1},
		{"from above water", ".~.\n", []api.Unit{own(bird, 1, 5), foe(digger, 2, 5)}, 1},
		{"a third player's", plains(3, 1), []api.Unit{own(fighter, 0, 5), of(2, own(digger, 1, 5))}, 1},
		{"by one of the last player", plains(3, 1), []api.Unit{of(2, own(fighter, 0, 5)), foe(digger, 1, 5)}, 1},
		{"by one that marches", plains(3, 1), []api.Unit{{Kind: fighter, Life: 5, Task: api.March, Goal: 2}, foe(digger, 1, 5)}, 1},
		{"by one that gathers and carries", plains(3, 1), []api.Unit{{Kind: bird, Life: 5, Load: 2, Task: api.Gather, Goal: 2}, foe(digger, 1, 5)}, 1},
		{"one that strikes not", plains(3, 1), []api.Unit{own(fighter, 0, 5), foe(base, 1, 50)}, 1},
		{"one that strikes it", plains(3, 1), []api.Unit{own(fighter, 0, 5), foe(giant, 1, 1000)}, 1},
		{"its own player's alone", plains(3, 1), []api.Unit{own(fighter, 1, 5), own(digger, 0, 1), own(digger, 2, 1)}, -1},
		{"its own player's nearer", plains(4, 1), []api.Unit{own(tower, 0, 5), own(digger, 1, 1), foe(digger, 2, 5)}, 2},
		{"its own player's weaker, and ahead", plains(3, 1), []api.Unit{own(fighter, 1, 5), own(digger, 0, 1), foe(digger, 2, 5)}, 2},
		{"its own player's nearer, and another one's beyond", plains(3, 1), []api.Unit{own(fighter, 0, 5), own(digger, 1, 1), foe(digger, 2, 5)}, -1},
		{"Hit is 0", plains(3, 1), []api.Unit{own(digger, 0, 5), foe(digger, 1, 5)}, -1},
		{"Hit is 0, and Range great", plains(3, 1), []api.Unit{own(base, 0, 5), foe(digger, 1, 5), foe(bird, 2, 1)}, -1},
		{"nobody near", plains(12, 12), []api.Unit{own(tower, 0, 5), foe(digger, 143, 5)}, -1},
		{"nobody else", plains(3, 1), []api.Unit{own(fighter, 1, 5)}, -1},
	})
}

// TestTargetChoice: B1, the nearest, by Far; of these the least Life; of these the first.
func TestTargetChoice(t *testing.T) {
	hold(t, []aims{
		{"the nearest, behind the other one", plains(4, 1), []api.Unit{own(tower, 0, 5), foe(digger, 2, 5), foe(digger, 1, 5)}, 2},
		{"the nearest, ahead of the other one", plains(4, 1), []api.Unit{own(tower, 0, 5), foe(digger, 1, 5), foe(digger, 2, 5)}, 1},
		{"the nearest, with more Life", plains(4, 1), []api.Unit{own(tower, 0, 5), foe(digger, 2, 1), foe(base, 1, 50)}, 2},
		{"the nearest of three", plains(4, 1), []api.Unit{own(tower, 0, 5), foe(digger, 3, 1), foe(digger, 1, 9), foe(digger, 2, 1)}, 2},
		{"unlike in Life, the first has less", plains(3, 1), []api.Unit{own(fighter, 1, 5), foe(digger, 2, 4), foe(digger, 0, 5)}, 1},
		{"unlike in Life, the second has less", plains(3, 1), []api.Unit{own(fighter, 1, 5), foe(digger, 0, 5), foe(digger, 2, 4)}, 2},
		{"Life itself, not what is left of the kind's", plains(3, 1), []api.Unit{own(fighter, 1, 5), foe(base, 0, 11), foe(digger, 2, 10)}, 2},
		{"Life, not Hit", plains(3, 1), []api.Unit{own(fighter, 1, 5), foe(giant, 0, 6), foe(digger, 2, 5)}, 2},
		{"alike in both", plains(3, 1), []api.Unit{own(fighter, 1, 5), foe(digger, 2, 5), foe(digger, 0, 5)}, 1},
		{"alike in both, of two players", plains(3, 1), []api.Unit{own(fighter, 1, 5), of(2, own(digger, 2, 5)), foe(digger, 0, 5)}, 1},
		{"alike in both, of two kinds", plains(3, 1), []api.Unit{own(fighter, 1, 5), foe(tower, 2, 5), foe(digger, 0, 5)}, 1},
		{"three alike", plains(3, 3), []api.Unit{own(fighter, 4, 5), foe(digger, 7, 5), foe(digger, 1, 5), foe(digger, 3, 5)}, 1},
		{"the last two of three alike", plains(3, 3), []api.Unit{own(fighter, 4, 5), foe(digger, 7, 6), foe(digger, 5, 5), foe(digger, 3, 5)}, 2},
		{"across a corner is as near as beside: the least Life", plains(2, 2), []api.Unit{own(fighter, 0, 5), foe(digger, 1, 5), foe(digger, 3, 4)}, 2},
		{"across a corner is as near as beside: the first", plains(2, 2), []api.Unit{own(fighter, 0, 5), foe(digger, 3, 5), foe(digger, 1, 5)}, 1},
		{"two and two are as near as two", plains(3, 3), []api.Unit{own(bird, 0, 5), foe(digger, 2, 5), foe(digger, 8, 4)}, 2},
		{"three and one are further than two and two", plains(4, 3), []api.Unit{own(tower, 0, 5), foe(digger, 7, 1), foe(digger, 10, 9)}, 2},
		{"with its own player's among them", plains(3, 3), []api.Unit{own(fighter, 4, 5), own(digger, 0, 1), foe(digger, 8, 7), own(digger, 1, 2), foe(digger, 2, 7)}, 2},
	})
}

// TestTargetOfEach: B1, by index: of each unit its own, whether it stands ahead or behind.
func TestTargetOfEach(t *testing.T) {
	w := scene(t, plains(6, 2), own(fighter, 0, 5), foe(tower, 1, 6), own(digger, 7, 3), foe(bird, 4, 8), of(2, own(bow, 11, 9)))
	for i, want := range []int{1, 2, -1, 4, 3} {
		if got, err := fight.Target(sorts(), w, i); got != want || err != nil {
			t.Errorf("unit %d: got %d, %v; want %d", i, got, err, want)
		}
	}
}

// outside are indexes that no world has.
var outside = []int{-1, -2, 40, 41, 1 << 32, math.MaxInt, math.MinInt}

// TestTargetWrong: B1, an index below 0, and one that is the number of units.
func TestTargetWrong(t *testing.T) {
	units := []api.Unit{own(fighter, 0, 5), foe(fighter, 1, 5), own(fighter, 2, 5)}
	for many := range 4 {
		w := scene(t, plains(3, 1), units[:many]...)
		for _, i := range append([]int{many, many + 1, idOf(many)}, outside...) {
			if got, err := fight.Target(sorts(), w, i); got != 0 || plain.Told(err) != api.ErrNone {
				t.Errorf("%d units, index %d: got %d, %v", many, i, got, err)
			}
		}
	}
}
