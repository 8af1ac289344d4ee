package hall_test

import (
	"fmt"
	"math"
	"slices"
	"strings"
	"testing"
	"unsafe"

	"marchland/api"
	"marchland/hall"
)

var (
	noKind  = api.Kind{Name: "?", Life: -1}
	noUnit  = api.Unit{Id: -1}
	noJob   = api.Job{Unit: -1}
	noOrder = api.Order{Player: -1}
)

// roomy is a list with something behind its length.
func roomy[T any](l []T, behind T) []T { return append(slices.Clone(l), behind, behind)[:len(l)] }

// whole is a list with what lies behind it, as text.
func whole[T any](l []T) string { return fmt.Sprintf("%+v", l[:len(l)+2]) }

func fill[T any](l []T, x T) {
	l = l[:cap(l)]
	for i := range l {
		l[i] = x
	}
}

func roomyWorld(w api.World) api.World {
	w.Field.Ground, w.Field.Ore = roomy(w.Field.Ground, 77), roomy(w.Field.Ore, 77)
	w.Gold, w.Units, w.Queue = roomy(w.Gold, 77), roomy(w.Units, noUnit), roomy(w.Queue, noJob)
	return w
}

func wholeWorld(w api.World) string {
	return whole(w.Field.Ground) + whole(w.Field.Ore) + whole(w.Gold) + whole(w.Units) + whole(w.Queue) + fmt.Sprint(w)
}

// writes gives, for each list of a world, what writes into it and behind it.
func writes(w api.World) []func() {
	return []func(){
		func() { fill(w.Field.Ground, 77) }, func() { fill(w.Field.Ore, 78) }, func() { fill(w.Gold, 79) },
		func() { fill(w.Units, noUnit) }, func() { fill(w.Queue, noJob) },
	}
}

// lists are the lists of a world as texts, in the order of writes.
func lists(w api.World) []string {
	return []string{fmt.Sprint(w.Field.Ground), fmt.Sprint(w.Field.Ore), fmt.Sprint(w.Gold), fmt.Sprint(w.Units), fmt.Sprint(w.Queue)}
}

// game plays all that is asked in a hall that was handed a world and kinds; after each call it does what is given.
func game(t *testing.T, k []api.Kind, w api.World, orders [][][]api.Order, after func()) *hall.Hall {
	t.Helper()
	h := hall.New()
	does(t, h.Create("few", k, w, 1))
	after()
	for _, lists := range orders {
		for player, l := range lists {
			does(t, h.Send("few", player, l))
			after()
		}
		ticks(t, h, "few")
		after()
		told(h)
		after()
	}
	return h
}

func roomyAsked() [][][]api.Order {
	all := asked()
	for _, lists := range all {
		for player, l := range lists {
			lists[player] = roomy(l, noOrder)
		}
	}
	return all
}

func wholeAsked(all [][][]api.Order) (text string) {
	for _, lists := range all {
		for _, l := range lists {
			text += whole(l)
		}
	}
	return text
}

// TestHandedInStays: P2, P4: what is handed in stays as it was, and what lies behind it is neither read nor written, whatever is called with it and later on.
func TestHandedInStays(t *testing.T) {
	want := told(game(t, sorts(), few(), asked(), func() {}))
	k, w, all := roomy(sorts(), noKind), roomyWorld(few()), roomyAsked()
	before := whole(k) + wholeWorld(w) + wholeAsked(all)
	h := game(t, k, w, all, func() {
		if after := whole(k) + wholeWorld(w) + wholeAsked(all); after != before {
			t.Fatalf("it was %s, and became %s", before, after)
		}
	})
	if got := told(h); got != want {
		t.Errorf("with something behind its lists: got %s, want %s", got, want)
	}
}

// TestRefusedStays: P2, so does what is refused.
func TestRefusedStays(t *testing.T) {
	h := of(t, 0)
	for _, f := range faults() {
		k, w := faulty(f)
		k, w = roomy(k, noKind), roomyWorld(w)
		before := whole(k) + wholeWorld(w)
		for _, name := range []string{"new", "few", "", "Few"} {
			tells(t, f.name, refusal(h.Create(name, k, w, 1)), api.OK)
		}
		if after := whole(k) + wholeWorld(w); after != before {
			t.Errorf("%s: it was %s, and became %s", f.name, before, after)
		}
	}
	for _, c := range append(wrongOrders(), wrong{[]api.Order{march(1, 3, 2), stop(0, 1), stop(1, 3)}, api.ErrShape}) {
		l := roomy(c.l, noOrder)
		before := whole(l)
		tells(t, "Send", h.Send("few", 1, l), c.told)
		tells(t, "Send", h.Send("new", 1, l), api.ErrNone)
		if after := whole(l); after != before {
			t.Errorf("%v: it was %s, and became %s", c.l, before, after)
		}
	}
}

// refusal is nil of an error, and an error of nil.
func refusal(err error) error {
	if err == nil {
		return api.ErrState
	}
	return nil
}

// TestHandedInIsNotKept: P2, what is handed in, and changed afterwards, does not change the hall.
func TestHandedInIsNotKept(t *testing.T) {
	want := told(game(t, sorts(), few(), asked(), func() {}))
	k, w, all := roomy(sorts(), noKind), roomyWorld(few()), roomyAsked()
	h := hall.New()
	does(t, h.Create("few", k, w, 20))
	fill(k, noKind)
	for _, write := range writes(w) {
		write()
	}
	if got := stands(t, h, "few"); !same(got, few()) {
		t.Fatalf("got %v", got)
	}
	for _, lists := range all {
		for player, l := range lists {
			does(t, h.Send("few", player, l))
			fill(l, noOrder)
		}
	}
	for range all {
		ticks(t, h, "few")
	}
	if got := told(h); got != want {
		t.Errorf("got %s, want %s", got, want)
	}
}

// TestTextsAreNotKept: P2, the hall's names, and those of kinds, lie in memory of their own: what becomes of the bytes that were handed in is of no matter.
func TestTextsAreNotKept(t *testing.T) {
	b, c := []byte("few"), []byte("digger")
	k := sorts()
	k[digger].Name = unsafe.String(&c[0], len(c))
	h := hall.New()
	does(t, h.Create(unsafe.String(&b[0], len(b)), k, few(), 0))
	copy(b, "FEW")
	copy(c, "base??")
	named(t, h, "few")
	sends(t, h, "few", asked()[0]...)
	ticks(t, h, "few")
	does(t, h.Drop("few"))
	named(t, h)
}

// TestOneListForMany: P2, one list that is sent for several turns, and changed between, is each time what it was then.
func TestOneListForMany(t *testing.T) {
	h := hall.New()
	does(t, h.Create("bare", nil, bare(), 3))
	l := make([]api.Order, 1, 8)
	var want [][]api.Order
	for n := range 4 {
		l[0] = stop(0, n)
		does(t, h.Send("bare", 0, l))
		want = append(want, []api.Order{stop(0, n)})
	}
	for range want {
		ticks(t, h, "bare")
	}
	hasTurns(t, h, "bare", want...)
}

// TestOneWorldForMany: P2, worlds of which one was handed in for all are each for itself.
func TestOneWorldForMany(t *testing.T) {
	k, w := sorts(), few()
	h := hall.New()
	does(t, h.Create("a", k, w, 0))
	does(t, h.Create("b", k, w, 0))
	for _, lists := range asked() {
		sends(t, h, "a", lists...)
		ticks(t, h, "a")
		if got := stands(t, h, "b"); !same(got, few()) || !same(w, few()) {
			t.Fatalf("got %v, and what was handed in is %v", got, w)
		}
	}
	does(t, h.Create("c", k, w, 0))
	if got := stands(t, h, "c"); !same(got, few()) {
		t.Errorf("got %v", got)
	}
}

// TestAnswersAreFresh: P2, what is written into an answer changes neither the hall, nor another answer, nor another list of the same one.
func TestAnswersAreFresh(t *testing.T) {
	for played := range len(asked()) + 1 {
		h := of(t, 0)
		for _, lists := range asked()[:played] {
			sends(t, h, "few", lists...)
			ticks(t, h, "few")
		}
		before := told(h)
		worlds := []func() api.World{func() api.World { return stands(t, h, "few") }}
		for player := range 3 {
			worlds = append(worlds, func() api.World {
				w, err := h.View("few", player)
				does(t, err)
				return w
			})
		}
		for _, ask := range worlds {
			listsAreApart(t, ask(), ask())
			if after := told(h); after != before {
				t.Fatalf("behind %d turns: from %s comes %s", played, before, after)
			}
		}
		turnsAreApart(t, h)
		fill(h.Names(), "zz")
		if after := told(h); after != before {
			t.Fatalf("behind %d turns: from %s comes %s", played, before, after)
		}
	}
}

// listsAreApart writes into each list of a world, and holds that no other one is changed by it, nor another world.
func listsAreApart(t *testing.T, w, other api.World) {
	t.Helper()
	want := fmt.Sprint(other)
	for i, write := range writes(w) {
		before := lists(w)
		write()
		for j, after := range lists(w) {
			if i != j && after != before[j] {
				t.Errorf("list %d shares memory with list %d", i, j)
			}
		}
	}
	if got := fmt.Sprint(other); got != want {
		t.Errorf("two answers share memory: from %s comes %s", want, got)
	}
}

// turnsAreApart does the same with the turns of few.
func turnsAreApart(t *testing.T, h *hall.Hall) {
	t.Helper()
	l, other := turns(t, h, "few"), turns(t, h, "few")
	want := fmt.Sprint(other)
	for i := range l {
		before := slices.Clone(l)
		for j := range before {
			before[j] = slices.Clone(l[j])
		}
		fill(l[i], noOrder)
		for j := range l {
			if i != j && !slices.Equal(l[j], before[j]) {
				t.Errorf("turn %d shares memory with turn %d", i, j)
			}
		}
	}
	fill(l, []api.Order{noOrder})
	if got := fmt.Sprint(other); got != want || fmt.Sprint(turns(t, h, "few")) != want {
		t.Errorf("two answers share memory: from %s comes %s", want, got)
	}
}

// TestAnswersStay: P2, an answer is not changed by what is called later.
func TestAnswersStay(t *testing.T) {
	h := of(t, 0)
	w, l, n := stands(t, h, "few"), turns(t, h, "few"), h.Names()
	v, err := h.View("few", 0)
	does(t, err)
	for range 2 {
		before := fmt.Sprint(w, l, n, v)
		for _, lists := range asked() {
			sends(t, h, "few", lists...)
			ticks(t, h, "few")
		}
		does(t, h.Create("a", nil, bare(), 0))
		if after := fmt.Sprint(w, l, n, v); after != before {
			t.Errorf("from %s comes %s", before, after)
		}
		w, l, n = stands(t, h, "few"), turns(t, h, "few"), h.Names()
		does(t, h.Drop("a"))
	}
}

// TestNothingPanics: P1, whatever is handed in.
func TestNothingPanics(t *testing.T) {
	edges := []int{math.MinInt, math.MinInt + 1, -1, 0, 1, 20, 21, math.MaxInt - 1, math.MaxInt}
	texts := []string{"", "few", "a", "\xff\x00", strings.Repeat("z", 100000), "é"}
	h := of(t, 20)
	for _, name := range texts {
		for _, n := range edges {
			h.Create(name, nil, api.World{}, n)
			h.Create(name, nil, api.World{Turn: n, Next: n, Field: api.Field{Wide: n, High: n}}, n)
			h.Send(name, n, []api.Order{{Player: n, Unit: n, What: n, Arg: n}})
			h.Send(name, n, make([]api.Order, 1000))
			h.View(name, n)
			h.Tick(name)
			h.World(name)
			h.Turns(name)
			h.Names()
			h.Drop(name + "x")
		}
	}
	named(t, h, "bare", "few")
}
