package turn_test

import (
	"math/rand"
	"slices"
	"testing"

	"marchland/api"
	"marchland/fight"
	"marchland/move"
	"marchland/orders"
	"marchland/plain"
	"marchland/turn"
	"marchland/works"
	"marchland/world"
)

// mostId is above all ids that are drawn.
const mostId = 120

// wantLast is chapter 6's Last, worked out anew: player by player, and unit by unit.
func wantLast(l []api.Order) []api.Order {
	var all []api.Order
	for player := range 4 {
		for unit := range mostId {
			var other []api.Order
			for _, o := range l {
				switch {
				case o.Player != player || o.Unit != unit:
				case o.What == 3:
					all = append(all, o)
				default:
					other = []api.Order{o}
				}
			}
			all = append(all, other...)
		}
	}
	return all
}

// getsThere is what a kind gets onto, by ground.
func getsThere(ground int, flies bool) bool {
	return ground == api.Plain || ground == api.Forest || ground == api.Water && flies
}

// whyNot is T1, worked out anew: why an order is refused, and "" if it is not.
func whyNot(k []api.Kind, w api.World, o api.Order) string {
	u, ok := unitOf(w, o)
	if !ok {
		return "nobody"
	}
	kind := k[u.Kind]
	cells := w.Field.Wide * w.Field.High
	switch {
	case (o.What == 1 || o.What == 2) && o.Arg >= cells:
		return "no cell"
	case o.What == 1 && !getsThere(w.Field.Ground[o.Arg], kind.Flies):
		return "no ground"
	case o.What == 2 && w.Field.Ore[o.Arg] == 0:
		return "no ore"
	case o.What == 2 && kind.Carry == 0:
		return "no Carry"
	case o.What == 3 && !kind.Trains:
		return "trains not"
	case o.What == 3 && o.Arg >= len(k):
		return "no kind"
	case o.What == 3 && w.Gold[o.Player]-k[o.Arg].Price < 0:
		return "no Gold"
	case o.What == 3 && len(w.Queue) == 12:
		return "no room"
	}
	return ""
}

func unitOf(w api.World, o api.Order) (api.Unit, bool) {
	for _, u := range w.Units {
		if u.Id == o.Unit {
			return u, u.Player == o.Player
		}
	}
	return api.Unit{}, false
}

// wantGive is T1, worked out anew.
func wantGive(k []api.Kind, w api.World, l []api.Order, seen map[string]int) (api.World, []int) {
	w = copied(w)
	var refused []int
	for i, o := range wantLast(l) {
		why := whyNot(k, w, o)
		seen[why]++
		if why != "" {
			refused = append(refused, i)
			continue
		}
		seen[[]string{"stop", "march", "gather", "train"}[o.What]]++
		if o.What == 3 {
			left := k[o.Arg].Turns
			if left == 0 {
				left = 1
				seen["Turns 0"]++
			}
			w.Gold[o.Player] -= k[o.Arg].Price
			w.Queue = append(w.Queue, api.Job{Player: o.Player, Unit: o.Unit, Kind: o.Arg, Left: left})
			continue
		}
		for n, u := range w.Units {
			if u.Id == o.Unit {
				w.Units[n].Task, w.Units[n].Goal = o.What, o.Arg // DoStop is Rest, DoMarch March, DoGather Gather; of a stop Arg is 0
			}
		}
	}
	return w, refused
}

// wantStep is T2: what the chapters ahead give, one behind the other.
func wantStep(t *testing.T, k []api.Kind, w api.World) (api.World, []api.Event) {
	t.Helper()
	trained, a, bad1 := works.Train(k, w)
	gone, b, bad2 := move.Move(k, trained)
	dug, c, bad3 := works.Dig(k, gone)
	fought, d, bad4 := fight.Fight(k, dug)
	if bad1 != nil || bad2 != nil || bad3 != nil || bad4 != nil {
		t.Fatalf("%v: got %v, %v, %v, %v", w, bad1, bad2, bad3, bad4)
	}
	fought.Turn = w.Turn + 1
	return fought, slices.Concat(a, b, c, d)
}

func drawnKinds(r *rand.Rand) []api.Kind {
	k := sorts()[:4+r.Intn(5)]
	for i := range k {
		k[i].Life, k[i].Hit, k[i].Range, k[i].Speed = 1+r.Intn(12), r.Intn(3), r.Intn(3), r.Intn(5)
		k[i].Price, k[i].Turns, k[i].Carry = r.Intn(30), r.Intn(4), r.Intn(3)*5
		k[i].Flies, k[i].Trains = r.Intn(3) == 0, r.Intn(2) == 0
	}
	return k
}

// drawnWorld is right: what is drawn for a unit's cell, and is wrong, is left out.
func drawnWorld(r *rand.Rand, k []api.Kind) api.World {
	wide, high := 1+r.Intn(6), 1+r.Intn(6)
	f := api.Field{Wide: wide, High: high, Ore: make([]int, wide*high)}
	for at := range wide * high {
		f.Ground = append(f.Ground, []int{0, 0, 0, 1, 2, 3}[r.Intn(6)])
		if f.Ground[at] == api.Plain && r.Intn(2) == 0 {
			f.Ore[at] = r.Intn(40)
		}
	}
	w, _ := world.New(k, f, 1+r.Intn(4), r.Intn(100))
	w.Turn = r.Intn(3) * (api.MaxNumber - 20) / 2
	jobs := []int{1, 4, 20}[r.Intn(3)] // the most of a unit
	for range r.Intn(16) {
		more, err := world.Place(k, w, r.Intn(len(w.Gold)), r.Intn(len(k)), r.Intn(wide*high))
		if err != nil {
			continue
		}
		w = more
		w.Next += r.Intn(3)
		u := &w.Units[len(w.Units)-1]
		u.Life, u.Load = 1+r.Intn(u.Life), r.Intn(k[u.Kind].Carry+1)
		if u.Task = r.Intn(3); u.Task != api.Rest {
			u.Goal = r.Intn(wide * high)
		}
		for range r.Intn(jobs) {
			if k[u.Kind].Trains && len(w.Queue) < api.MaxQueue {
				w.Queue = append(w.Queue, api.Job{Player: u.Player, Unit: u.Id, Kind: r.Intn(len(k)), Left: 1 + r.Intn(6)})
			}
		}
	}
	return w
}

// drawnOrders are right, most of them for a unit that is there, of its player.
func drawnOrders(r *rand.Rand, k []api.Kind, w api.World) []api.Order {
	var l []api.Order
	for range r.Intn(10) {
		o := api.Order{Player: r.Intn(4), Unit: r.Intn(w.Next + 2), What: r.Intn(4)}
		if len(w.Units) > 0 && r.Intn(6) > 0 {
			u := w.Units[r.Intn(len(w.Units))]
			o.Player, o.Unit = u.Player, u.Id
		}
		switch o.What {
		case api.DoMarch, api.DoGather:
			o.Arg = r.Intn(len(w.Field.Ground) + 2)
		case api.DoTrain:
			o.Arg = r.Intn(len(k) + 2)
		}
		l = append(l, o)
	}
	return l
}

// riches are what ore, loads and gold are together.
func riches(w api.World) int {
	sum := 0
	for _, l := range [][]int{w.Field.Ore, w.Gold} {
		for _, n := range l {
			sum += n
		}
	}
	for _, u := range w.Units {
		sum += u.Load
	}
	return sum
}

// TestDrawn: T1, T2, drawn games, always the same ones, turn by turn: as the chapter has it; a world stays right, and nothing comes of nothing. Then all turns at once.
func TestDrawn(t *testing.T) {
	r := rand.New(rand.NewSource(12))
	seen := map[string]int{}
	for range 1200 {
		k := drawnKinds(r)
		begin := drawnWorld(r, k)
		right(t, k, begin)
		w := begin
		var turns [][]api.Order
		for range r.Intn(12) {
			l := drawnOrders(r, k, w)
			after, refused := wantGive(k, w, l, seen)
			got, numbers, err := turn.Give(k, w, l)
			if !alike(got, after) || !slices.Equal(numbers, refused) || err != nil {
				t.Fatalf("%v, %v, %v: Give: got %v, %v, %v; want %v, %v", k, w, l, got, numbers, err, after, refused)
			}
			right(t, k, got)
			want, told := wantStep(t, k, after)
			next, events, err := turn.Step(k, w, l)
			if !alike(next, want) || !slices.Equal(events, told) || err != nil {
				t.Fatalf("%v, %v, %v: Step: got %v, %v, %v; want %v, %v", k, w, l, next, events, err, want, told)
			}
			right(t, k, next)
			if riches(next) > riches(w) {
				t.Fatalf("%v, %v, %v: Step made %v of %v", k, w, l, riches(next), riches(w))
			}
			for _, e := range events {
				seen[[]string{"", "Moved", "Struck", "Fell", "Took", "Brought", "Came"}[e.What]]++
			}
			turns, w = append(turns, l), next
		}
		if got, err := turn.Play(k, begin, turns); !alike(got, w) || err != nil {
			t.Fatalf("%v, %v, %v: Play: got %v, %v; want %v", k, begin, turns, got, err, w)
		}
	}
	for _, sort := range []string{"stop", "march", "gather", "train", "Turns 0", "nobody", "no cell", "no ground", "no ore", "no Carry", "trains not", "no kind", "no Gold", "no room", "Moved", "Struck", "Fell", "Took", "Brought", "Came"} {
		if seen[sort] < 30 {
			t.Errorf("%s: drawn %d times alone", sort, seen[sort])
		}
	}
}

// anyOf draws something near a number, or far from it.
func anyOf(r *rand.Rand, n int) int {
	return []int{n - 1, n + 1, r.Intn(14) - 1, r.Intn(4), -n, n + 1<<32, 1 << 62, -1 << 63}[r.Intn(8)]
}

// spoil draws some numbers of a world and of orders.
func spoil(r *rand.Rand, w *api.World, l []api.Order) {
	places := []*int{&w.Turn, &w.Next, &w.Field.Wide, &w.Field.High, &w.Gold[0], &w.Field.Ground[r.Intn(12)], &w.Field.Ore[r.Intn(12)]}
	for i := range w.Units {
		u := &w.Units[i]
		places = append(places, &u.Id, &u.Player, &u.Kind, &u.At, &u.Life, &u.Load, &u.Task, &u.Goal)
	}
	for i := range w.Queue {
		j := &w.Queue[i]
		places = append(places, &j.Player, &j.Unit, &j.Kind, &j.Left)
	}
	if r.Intn(2) == 0 {
		places = nil
	}
	for i := range l {
		o := &l[i]
		places = append(places, &o.Player, &o.Unit, &o.What, &o.Arg)
	}
	for range r.Intn(3) {
		n := places[r.Intn(len(places))]
		*n = anyOf(r, *n)
	}
}

// firstError is what is told of a turn: of the world, then of its Turn, then of the orders.
func firstError(w api.World, l []api.Order) api.Errno {
	if err := world.Check(sorts(), w); err != nil {
		return plain.Told(err)
	}
	if w.Turn == api.MaxNumber {
		return api.ErrFull
	}
	return plain.Told(orders.Check(l))
}

// TestDrawnWrong: T1, T2 and P1, worlds and orders of which some numbers are drawn: the error that is to be told, nothing beside it, and no panic.
func TestDrawnWrong(t *testing.T) {
	r := rand.New(rand.NewSource(24))
	seen := map[api.Errno]int{}
	for range 6000 {
		w, l := few(t), ordinary()
		w.Turn = api.MaxNumber - r.Intn(3)
		spoil(r, &w, l)
		want := firstError(w, l)
		seen[want]++
		got, events, err := turn.Step(sorts(), w, l)
		if plain.Told(err) != want || want != api.OK && (!alike(got, api.World{}) || events != nil) {
			t.Fatalf("%v, %v: Step: got %v, %v, %v; want %v", w, l, got, events, err, want)
		}
		if want == api.OK {
			right(t, sorts(), got)
		}
		played, err := turn.Play(sorts(), w, [][]api.Order{l})
		if plain.Told(err) != want || !alike(played, got) {
			t.Fatalf("%v, %v: Play: got %v, %v; want %v, %v", w, l, played, err, got, want)
		}
		early := w
		if w.Turn == api.MaxNumber {
			early.Turn = 0 // Give minds not how late it is
		}
		given, refused, err := turn.Give(sorts(), w, l)
		want = firstError(early, l)
		if plain.Told(err) != want || want != api.OK && (!alike(given, api.World{}) || refused != nil) {
			t.Fatalf("%v, %v: Give: got %v, %v, %v; want %v", w, l, given, refused, err, want)
		}
	}
	for _, e := range []api.Errno{api.OK, api.ErrRange, api.ErrShape, api.ErrFull, api.ErrOrder, api.ErrNone, api.ErrState} {
		if seen[e] < 15 {
			t.Errorf("%v was drawn %d times alone", e, seen[e])
		}
	}
}
