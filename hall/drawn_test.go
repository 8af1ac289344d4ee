package hall_test

import (
	"math/rand"
	"slices"
	"testing"

	"marchland/api"
	"marchland/hall"
	"marchland/orders"
	"marchland/plain"
	"marchland/turn"
	"marchland/world"
)

// note has all that was done to one world: what is told of it is looked up there.
type note struct {
	name       string
	k          []api.Kind
	first, now api.World
	delay      int
	sent       [4][][]api.Order // of each player, turn by turn from the first one on
	played     [][]api.Order
}

// book has the notes of all worlds of a hall, in no order.
type book struct{ notes []*note }

func (b *book) find(name string) *note {
	i := slices.IndexFunc(b.notes, func(n *note) bool { return n.name == name })
	if i < 0 {
		return nil
	}
	return b.notes[i]
}

func (b *book) create(name string, k []api.Kind, w api.World, delay int) api.Errno {
	if len(name) < 1 || len(name) > 8 {
		return api.ErrSyntax
	}
	for _, c := range []byte(name) {
		if c < 'a' || c > 'z' {
			return api.ErrSyntax
		}
	}
	if b.find(name) != nil {
		return api.ErrClash
	}
	if len(b.notes) == 8 {
		return api.ErrFull
	}
	if err := world.Check(k, w); err != nil {
		return plain.Told(err)
	}
	if delay < 0 || delay > 20 {
		return api.ErrRange
	}
	b.notes = append(b.notes, &note{name: name, k: k, first: w, now: w, delay: delay})
	return api.OK
}

func (b *book) drop(name string) api.Errno {
	n := b.find(name)
	if n == nil {
		return api.ErrNone
	}
	b.notes = slices.DeleteFunc(b.notes, func(x *note) bool { return x == n })
	return api.OK
}

func (b *book) names() (l []string) {
	for _, n := range b.notes {
		l = append(l, n.name)
	}
	slices.Sort(l)
	return l
}

func (b *book) send(name string, player int, l []api.Order) api.Errno {
	n := b.find(name)
	if n == nil {
		return api.ErrNone
	}
	if player < 0 || player >= len(n.first.Gold) {
		return api.ErrRange
	}
	if len(n.sent[player]) > len(n.played)+n.delay {
		return api.ErrState
	}
	if err := orders.Check(l); err != nil {
		return plain.Told(err)
	}
	for _, o := range l {
		if o.Player != player {
			return api.ErrShape
		}
	}
	n.sent[player] = append(n.sent[player], l)
	return api.OK
}

func (b *book) tick(name string) (bool, api.Errno) {
	n := b.find(name)
	if n == nil {
		return false, api.ErrNone
	}
	var all []api.Order
	for player := range n.first.Gold {
		if len(n.sent[player]) <= len(n.played) {
			return false, api.OK
		}
		all = append(all, n.sent[player][len(n.played)]...)
	}
	l, err := orders.Last(all)
	if err != nil {
		return false, plain.Told(err)
	}
	w, _, err := turn.Step(n.k, n.now, l)
	if err != nil {
		return false, plain.Told(err)
	}
	n.now, n.played = w, append(n.played, l)
	return true, api.OK
}

// drawnOrders are mostly a player's own, mostly few, and mostly right.
func drawnOrders(r *rand.Rand, player int) (l []api.Order) {
	many := r.Intn(5)
	if r.Intn(10) == 0 {
		many = 18 + r.Intn(45)
	}
	for range many {
		o := order(player, 1+r.Intn(12), r.Intn(4), r.Intn(12))
		switch o.What {
		case api.DoStop:
			o.Arg = 0
		case api.DoTrain:
			o.Arg %= 5
		}
		l = append(l, o)
	}
	if many > 0 && r.Intn(8) == 0 {
		l[r.Intn(many)].Player = r.Intn(6) - 1
	}
	if many > 0 && r.Intn(12) == 0 {
		l[r.Intn(many)].Arg = -1
	}
	return l
}

func drawnWorld(r *rand.Rand) ([]api.Kind, api.World) {
	switch r.Intn(6) {
	case 0:
		return nil, empty(1 + r.Intn(4))
	case 1:
		return sorts(), late(api.MaxNumber - r.Intn(4))
	case 2:
		return faulty(faults()[r.Intn(len(faults()))])
	}
	return sorts(), few()
}

// TestDrawn: G1, G2: whatever is called, a hall tells what its notes do.
func TestDrawn(t *testing.T) {
	r := rand.New(rand.NewSource(19))
	seen, plays := map[api.Errno]int{}, 0
	holds := func(call string, got error, want api.Errno) {
		if plain.Told(got) != want {
			t.Fatalf("%s: got %v, want %v", call, got, want)
		}
		seen[want]++
	}
	all := []string{"a", "b", "ab", "few", "many", "world", "zz", "x", "z", "A", "toomanyof", ""}
	for range 250 {
		h, b := hall.New(), &book{}
		used := all[:3+r.Intn(len(all)-2)]
		for range 150 {
			name := used[r.Intn(len(used))]
			switch what := r.Intn(40); {
			case what == 0:
				holds("Drop", h.Drop(name), b.drop(name))
			case what < 5:
				k, w := drawnWorld(r)
				delay := []int{0, 0, 1, 2, 20, -1, 21}[r.Intn(7)]
				holds("Create", h.Create(name, k, w, delay), b.create(name, k, w, delay))
			case what < 13:
				ok, err := h.Tick(name)
				want, told := b.tick(name)
				holds("Tick", err, told)
				if ok != want {
					t.Fatalf("Tick: got %v, want %v", ok, want)
				}
				if ok {
					plays++
				}
			default:
				players := []int{0, 1, 2, 3}
				if what < 18 {
					players = []int{r.Intn(4) - r.Intn(8)/7}
				}
				for _, player := range players {
					l := drawnOrders(r, player)
					holds("Send", h.Send(name, player, l), b.send(name, player, l))
				}
			}
			named(t, h, b.names()...)
			if n := b.find(name); n != nil && r.Intn(4) == 0 {
				alike(t, h, name, n.k, n.first, n.now, n.played)
			}
		}
		for _, n := range b.notes {
			alike(t, h, n.name, n.k, n.first, n.now, n.played)
		}
	}
	for _, e := range []api.Errno{api.OK, api.ErrRange, api.ErrSyntax, api.ErrShape, api.ErrFull, api.ErrNone, api.ErrState, api.ErrClash} {
		if seen[e] < 50 {
			t.Errorf("%v came %d times alone", e, seen[e])
		}
	}
	if plays < 1500 {
		t.Errorf("%d turns were played alone", plays)
	}
}
