package hall_test

import (
	"fmt"
	"math/rand"
	"testing"

	"marchland/api"
	"marchland/hall"
	"marchland/plain"
)

// step is one call of a world, by its name, that answers what it tells as text.
type step func(h *hall.Hall, name string) string

// steps are the calls that a world is played by: all kinds of them, some that are refused, and that it goes and comes anew.
func steps(seed int64) (l []step) {
	r := rand.New(rand.NewSource(seed))
	number := func(n int) int { return r.Intn(n) }
	for n := range 60 {
		player, unit, cell := number(4)-number(8)/7, 1+number(10), number(12)
		switch what := number(20); {
		case n == 0, what == 0:
			delay := number(3)
			l = append(l, func(h *hall.Hall, name string) string {
				return fmt.Sprint(h.Create(name, sorts(), late(int(seed)), delay))
			})
		case what == 1:
			l = append(l, func(h *hall.Hall, name string) string { return fmt.Sprint(h.Drop(name)) })
		case what < 8:
			l = append(l, func(h *hall.Hall, name string) string {
				ok, err := h.Tick(name)
				return fmt.Sprint(ok, err)
			})
		default:
			l = append(l, func(h *hall.Hall, name string) string {
				return fmt.Sprint(h.Send(name, player, []api.Order{march(player, unit, cell), stop(player, 2)}))
			})
		}
	}
	return l
}

// asks is what a hall tells of one world.
func asks(h *hall.Hall, name string) string {
	w, err := h.World(name)
	l, ill := h.Turns(name)
	v, bad := h.View(name, 1)
	return fmt.Sprint(w, err, l, ill, v, bad)
}

// alone is what the calls of a world tell in a hall in which there is nothing else.
func alone(l []step, name string) (told []string) {
	h := hall.New()
	for _, s := range l {
		told = append(told, s(h, name)+asks(h, name))
	}
	return told
}

// TestWorldsAreApart: G1, G2: worlds of one hall do not know of each other, whatever is created, dropped, sent and ticked in between, nor do worlds of two halls by the same names.
func TestWorldsAreApart(t *testing.T) {
	r := rand.New(rand.NewSource(4))
	for seed := range int64(60) {
		halls := []*hall.Hall{hall.New(), hall.New()}
		type course struct {
			h    *hall.Hall
			name string
			l    []step
			want []string
		}
		var courses []*course
		for i, h := range halls {
			for j, name := range []string{"one", "two", "three"} {
				l := steps(10*seed + int64(3*i+j))
				courses = append(courses, &course{h, name, l, alone(l, name)})
			}
		}
		for range 6 * 60 {
			c := courses[r.Intn(len(courses))]
			if len(c.l) == 0 {
				continue
			}
			if got := c.l[0](c.h, c.name) + asks(c.h, c.name); got != c.want[0] {
				t.Fatalf("%s, %d calls from its end: got %s, alone %s", c.name, len(c.l), got, c.want[0])
			}
			c.l, c.want = c.l[1:], c.want[1:]
		}
	}
}

// TestHallsAreApart: G1, what one hall has another has not, nor is it full of it.
func TestHallsAreApart(t *testing.T) {
	a, b := hall.New(), hall.New()
	for _, name := range names() {
		does(t, a.Create(name, nil, bare(), 0))
	}
	named(t, b)
	nobody(t, b, "a")
	does(t, b.Create("new", nil, bare(), 0))
	does(t, b.Create("a", sorts(), few(), 1))
	nobody(t, a, "new")
	does(t, b.Drop("a"))
	does(t, a.Send("a", 0, []api.Order{stop(0, 3)}))
	ticks(t, a, "a")
	named(t, a, names()...)
	named(t, b, "new")
	hasTurns(t, b, "new")
}

// TestCreateAnew: G1, G2: a world that is dropped and created anew begins anew: nothing is left of what was sent, taken and played, nor of its delay.
func TestCreateAnew(t *testing.T) {
	h := of(t, 3)
	sends(t, h, "few", []api.Order{march(0, 4, 0)}, []api.Order{stop(1, 3)}, nil)
	ticks(t, h, "few")
	for range 4 {
		for player := range 2 {
			does(t, h.Send("few", player, []api.Order{stop(player, 1)}))
		}
	}
	waits(t, h, "few")
	does(t, h.Drop("few"))
	nobody(t, h, "few")
	does(t, h.Create("few", sorts(), few(), 1))
	fresh := of(t, 1)
	if got, want := told(h), told(fresh); got != want {
		t.Errorf("got %s, want %s", got, want)
	}
	waits(t, h, "few")
	does(t, h.Send("few", 2, nil))
	waits(t, h, "few")
	for player := range 2 {
		does(t, h.Send("few", player, []api.Order{march(player, 3, 9)}))
		does(t, h.Send("few", player, nil))
		noSend(t, h, "few", player, nil, api.ErrState)
	}
	ticks(t, h, "few")
	hasTurns(t, h, "few", []api.Order{march(0, 3, 9), march(1, 3, 9)})
}

// TestCreateAnotherAnew: G1, G2: so does another world by that name, with other players and kinds.
func TestCreateAnotherAnew(t *testing.T) {
	h := of(t, 0)
	sends(t, h, "few", nil, nil)
	does(t, h.Drop("few"))
	does(t, h.Create("few", nil, empty(4), 0))
	hasTurns(t, h, "few")
	sends(t, h, "few", nil, nil, nil)
	waits(t, h, "few")
	does(t, h.Send("few", 3, []api.Order{stop(3, 1)}))
	ticks(t, h, "few")
	hasTurns(t, h, "few", []api.Order{stop(3, 1)})
	does(t, h.Drop("few"))
	does(t, h.Create("few", nil, bare(), 0))
	noSend(t, h, "few", 1, nil, api.ErrRange)
	waits(t, h, "few")
	if w := stands(t, h, "few"); !same(w, bare()) {
		t.Errorf("got %v", w)
	}
}

// refusals are calls that are refused however a hall stands that has no world but few, or none.
func refusals() (l []func(h *hall.Hall) error) {
	k, w := sorts(), few()
	create := func(name string, k []api.Kind, w api.World, delay int) {
		l = append(l, func(h *hall.Hall) error { return h.Create(name, k, w, delay) })
	}
	for _, name := range []string{"", "abcdefghi", "Few", "few ", "f\n", "1"} {
		create(name, k, w, 1)
	}
	for _, f := range faults() {
		k, w := faulty(f)
		create("few", k, w, 1)
		create("new", k, w, 1)
	}
	for _, delay := range wrongDelays() {
		create("few", k, w, delay)
		create("new", k, w, delay)
	}
	for _, c := range wrongOrders() {
		l = append(l, func(h *hall.Hall) error { return h.Send("few", 1, c.l) }, func(h *hall.Hall) error { return h.Send("new", 1, c.l) })
	}
	for _, name := range []string{"new", "", "Few"} {
		l = append(l, func(h *hall.Hall) error { return h.Drop(name) }, func(h *hall.Hall) error { return h.Send(name, 0, nil) })
		l = append(l, func(h *hall.Hall) error { _, err := h.Tick(name); return err }, func(h *hall.Hall) error { _, err := h.World(name); return err })
		l = append(l, func(h *hall.Hall) error { _, err := h.View(name, 0); return err }, func(h *hall.Hall) error { _, err := h.Turns(name); return err })
	}
	for _, player := range []int{-1, 3, 1 << 40} {
		l = append(l, func(h *hall.Hall) error { return h.Send("few", player, nil) }, func(h *hall.Hall) error { _, err := h.View("few", player); return err })
	}
	return append(l, func(h *hall.Hall) error { return h.Send("few", 1, []api.Order{stop(0, 1)}) })
}

// TestRefusedChangesNothing: P1, with any refused call ahead of each call, all calls tell what they do without.
func TestRefusedChangesNothing(t *testing.T) {
	all := refusals()
	r := rand.New(rand.NewSource(6))
	for seed := range int64(60) {
		l := steps(seed)
		want := alone(l, "few")
		h := hall.New()
		for i, s := range l {
			for range 20 {
				if err := all[r.Intn(len(all))](h); plain.Told(err) <= api.OK {
					t.Fatalf("got %v of what is to be refused", err)
				}
			}
			if got := s(h, "few") + asks(h, "few"); got != want[i] {
				t.Fatalf("call %d: got %s, want %s", i, got, want[i])
			}
		}
	}
}
