package hall_test

import (
	"fmt"
	"math/rand"
	"slices"
	"strings"
	"testing"

	"marchland/api"
	"marchland/hall"
)

// names are as many as there may be, by bytes.
func names() []string { return []string{"a", "aa", "ab", "abcdefgh", "b", "ba", "z", "zzzzzzzz"} }

func named(t *testing.T, h *hall.Hall, want ...string) {
	t.Helper()
	for range 2 {
		if got := h.Names(); !slices.Equal(got, want) {
			t.Fatalf("Names: got %q, want %q", got, want)
		}
	}
}

// nobody holds that each call tells ErrNone of a name, and nothing beside it.
func nobody(t *testing.T, h *hall.Hall, name string) {
	t.Helper()
	before := told(h)
	tells(t, name+": Drop", h.Drop(name), api.ErrNone)
	for _, player := range []int{0, -1, 4, 1 << 62} {
		for _, l := range [][]api.Order{nil, {stop(0, 1)}, {stop(3, 1)}, {march(-1, -1, -1)}, some(0, 61)} {
			tells(t, fmt.Sprint(name, ": Send of ", player, ", ", l), h.Send(name, player, l), api.ErrNone)
		}
		w, err := h.View(name, player)
		tells(t, fmt.Sprint(name, ": View of ", player), err, api.ErrNone)
		if !same(w, api.World{}) {
			t.Errorf("%s: View: got %v", name, w)
		}
	}
	ok, err := h.Tick(name)
	tells(t, name+": Tick", err, api.ErrNone)
	w, ill := h.World(name)
	tells(t, name+": World", ill, api.ErrNone)
	l, wrong := h.Turns(name)
	tells(t, name+": Turns", wrong, api.ErrNone)
	if ok || !same(w, api.World{}) || len(l) != 0 {
		t.Errorf("%s: got %v, %v, %v", name, ok, w, l)
	}
	if after := told(h); after != before {
		t.Errorf("%s: from %s comes %s", name, before, after)
	}
}

// noCreate holds that a world is refused, and nothing changes by it.
func noCreate(t *testing.T, h *hall.Hall, about, name string, k []api.Kind, w api.World, delay int, want api.Errno) {
	t.Helper()
	before := told(h)
	tells(t, about+": Create", h.Create(name, k, w, delay), want)
	if after := told(h); after != before {
		t.Errorf("%s: from %s comes %s", about, before, after)
	}
}

// TestNew: G1, a hall is empty at first.
func TestNew(t *testing.T) {
	h := hall.New()
	named(t, h)
	for _, name := range append(names(), "", "A", "abcdefghi", "\n") {
		nobody(t, h, name)
	}
	named(t, h)
}

// TestCreate: G1, of each name there may be a world, which stands as it was handed in.
func TestCreate(t *testing.T) {
	for _, name := range append(names(), "world", "qwertyui", "m") {
		h := hall.New()
		does(t, h.Create(name, sorts(), few(), 2))
		named(t, h, name)
		if w := stands(t, h, name); !same(w, few()) {
			t.Errorf("%s: got %v", name, w)
		}
		if l := turns(t, h, name); len(l) != 0 {
			t.Errorf("%s: got %v", name, l)
		}
	}
}

// TestCreateOfEachSort: G1, the least and the greatest world, late ones, of each number of players, with each delay.
func TestCreateOfEachSort(t *testing.T) {
	k, w := great()
	for delay := range 21 {
		h := hall.New()
		does(t, h.Create("great", k, w, delay))
		does(t, h.Create("bare", nil, bare(), delay))
		does(t, h.Create("kinds", k, bare(), delay))
		does(t, h.Create("late", sorts(), late(api.MaxNumber), delay))
		for players := 1; players <= api.MaxPlayers; players++ {
			does(t, h.Create("of"+string(rune('a'+players)), nil, empty(players), delay))
		}
		named(t, h, "bare", "great", "kinds", "late", "ofb", "ofc", "ofd", "ofe")
		if !same(stands(t, h, "great"), w) || !same(stands(t, h, "bare"), bare()) || !same(stands(t, h, "late"), late(api.MaxNumber)) {
			t.Errorf("got %s", told(h))
		}
	}
}

// TestCreateNames: G1, what is no name: of none or nine letters, and each byte that is none of a to z, alone, first, in the middle and last.
func TestCreateNames(t *testing.T) {
	h := of(t, 1)
	bad := []string{"", "abcdefghi", "zzzzzzzzz", strings.Repeat("a", 1000), "A", "Few", "feW", "few1", "1", "few ", " few", "few\n", "\nfew", "a b", "é", "fêw", "ａ", "\xff", "\x00", "few\x00", "a-b", "a_b", "`", "{"}
	for c := range 256 {
		if c < 'a' || c > 'z' {
			b := string([]byte{byte(c)})
			bad = append(bad, b, b+"ab", "a"+b+"b", "ab"+b, "abcdefg"+b, b+"abcdefg")
		}
	}
	for _, name := range bad {
		noCreate(t, h, fmt.Sprintf("%q", name), name, sorts(), few(), 1, api.ErrSyntax)
		nobody(t, h, name)
	}
	named(t, h, "bare", "few")
}

// TestCreateLetters: G1, each letter may stand at each place of a name.
func TestCreateLetters(t *testing.T) {
	h := hall.New()
	for long := 1; long <= 8; long++ {
		for at := range long {
			for c := byte('a'); c <= 'z'; c++ {
				b := []byte("mmmmmmmm")[:long]
				b[at] = c
				does(t, h.Create(string(b), nil, bare(), 0))
				named(t, h, string(b))
				does(t, h.Drop(string(b)))
			}
		}
	}
}

// TestCreateTwice: G1, of a name that is there there comes no other world, be it the same one; of one that was dropped there does.
func TestCreateTwice(t *testing.T) {
	h := of(t, 1)
	for range 3 {
		noCreate(t, h, "few", "few", sorts(), few(), 1, api.ErrClash)
		noCreate(t, h, "few by bare", "few", nil, bare(), 0, api.ErrClash)
		noCreate(t, h, "bare", "bare", nil, bare(), 0, api.ErrClash)
	}
	does(t, h.Drop("few"))
	noCreate(t, h, "bare", "bare", nil, bare(), 0, api.ErrClash)
	does(t, h.Create("few", nil, empty(2), 1))
	noCreate(t, h, "few", "few", sorts(), few(), 1, api.ErrClash)
	if w := stands(t, h, "few"); !same(w, empty(2)) {
		t.Errorf("got %v", w)
	}
}

// TestCreateFull: G1, MaxWorlds, and one more; and where one goes there is room for one.
func TestCreateFull(t *testing.T) {
	h := hall.New()
	for i, name := range names() {
		does(t, h.Create(name, sorts(), late(i), i))
	}
	noCreate(t, h, "one more", "more", sorts(), few(), 1, api.ErrFull)
	noCreate(t, h, "one more", "c", nil, bare(), 0, api.ErrFull)
	named(t, h, names()...)
	for i, name := range names() {
		if w := stands(t, h, name); !same(w, late(i)) {
			t.Errorf("%s: got %v", name, w)
		}
	}
	for range 3 {
		does(t, h.Drop("ab"))
		nobody(t, h, "ab")
		does(t, h.Create("c", nil, bare(), 0))
		noCreate(t, h, "full again", "ab", nil, bare(), 0, api.ErrFull)
		does(t, h.Drop("c"))
		does(t, h.Create("ab", sorts(), late(2), 1))
		noCreate(t, h, "full again", "c", nil, bare(), 0, api.ErrFull)
	}
	named(t, h, names()...)
}

// TestCreateUnchecked: G1, chapter 7's Check, each of its faults by itself, in a hall with and without worlds.
func TestCreateUnchecked(t *testing.T) {
	for _, f := range faults() {
		k, w := faulty(f)
		for _, h := range []*hall.Hall{hall.New(), of(t, 1)} {
			noCreate(t, h, f.name, "new", k, w, 1, f.told)
			nobody(t, h, "new")
			does(t, h.Create("new", sorts(), few(), 1))
		}
	}
}

// TestCreateDelay: G1, chapter 15's New.
func TestCreateDelay(t *testing.T) {
	for _, delay := range wrongDelays() {
		for _, h := range []*hall.Hall{hall.New(), of(t, 1)} {
			noCreate(t, h, fmt.Sprint("delay ", delay), "new", sorts(), few(), delay, api.ErrRange)
			noCreate(t, h, fmt.Sprint("delay ", delay), "new", nil, bare(), delay, api.ErrRange)
			nobody(t, h, "new")
			does(t, h.Create("new", sorts(), few(), 20))
		}
	}
}

// TestCreateFirstError: G1, P3: of two faults, or more, the one is told that the chapter names first.
func TestCreateFirstError(t *testing.T) {
	part, full := of(t, 1), hall.New()
	for _, name := range names() {
		does(t, full.Create(name, nil, bare(), 0))
	}
	k, w := sorts(), few()
	noCreate(t, full, "no name, full", "A", k, w, 1, api.ErrSyntax)
	noCreate(t, full, "no name, full, delay", "", k, w, 21, api.ErrSyntax)
	noCreate(t, part, "no name, delay", "a b", k, w, -1, api.ErrSyntax)
	noCreate(t, full, "there, full", "abcdefgh", k, w, 1, api.ErrClash)
	noCreate(t, full, "there, full, delay", "z", k, w, 99, api.ErrClash)
	noCreate(t, part, "there, delay", "few", k, w, 99, api.ErrClash)
	noCreate(t, full, "full, delay", "new", k, w, -1, api.ErrFull)
	for _, f := range faults() {
		k, w := faulty(f)
		noCreate(t, part, "no name, "+f.name, "abcdefghi", k, w, 1, api.ErrSyntax)
		noCreate(t, part, "there, "+f.name, "few", k, w, 1, api.ErrClash)
		noCreate(t, full, "full, "+f.name, "new", k, w, 1, api.ErrFull)
		noCreate(t, part, f.name+", delay", "new", k, w, 21, f.told)
		noCreate(t, part, f.name+", delay", "new", k, w, -1, f.told)
		noCreate(t, full, "all", "", k, w, -1, api.ErrSyntax)
		noCreate(t, full, "all but the name", "aa", k, w, -1, api.ErrClash)
	}
	for _, f := range faultsOfKinds()[1:] {
		for _, g := range faultsOfWorlds()[:10] {
			k, w := faulty(f, g)
			noCreate(t, part, f.name+", "+g.name, "new", k, w, 1, f.told)
		}
	}
}

// TestDrop: G1, it is gone, and the others are not.
func TestDrop(t *testing.T) {
	for i := range names() {
		h := hall.New()
		for n, name := range names() {
			does(t, h.Create(name, sorts(), late(n), 1))
		}
		does(t, h.Drop(names()[i]))
		nobody(t, h, names()[i])
		tells(t, "Drop, twice", h.Drop(names()[i]), api.ErrNone)
		named(t, h, slices.Delete(names(), i, i+1)...)
		for n, name := range names() {
			if n != i && !same(stands(t, h, name), late(n)) {
				t.Errorf("%s: got %v", name, stands(t, h, name))
			}
		}
	}
}

// TestDropOfNone: G1, of one that is not there, or is no name, nothing changes.
func TestDropOfNone(t *testing.T) {
	h := of(t, 1)
	for _, name := range []string{"new", "fe", "fews", "Few", "FEW", "", " few", "few ", "few\n", "abcdefghi", "\xff"} {
		nobody(t, h, name)
	}
	named(t, h, "bare", "few")
	does(t, h.Drop("bare"))
	does(t, h.Drop("few"))
	named(t, h)
	nobody(t, h, "few")
	nobody(t, h, "bare")
}

// TestNames: G1, by bytes, whatever is created and dropped, in any order.
func TestNames(t *testing.T) {
	r := rand.New(rand.NewSource(19))
	for range 200 {
		h := hall.New()
		var there []string
		for range 60 {
			name := drawnName(r)
			if slices.Contains(there, name) {
				does(t, h.Drop(name))
				there = slices.DeleteFunc(there, func(s string) bool { return s == name })
			} else if len(there) < api.MaxWorlds {
				does(t, h.Create(name, nil, bare(), 0))
				there = append(there, name)
				slices.SortFunc(there, strings.Compare)
			}
			named(t, h, there...)
		}
	}
}

// drawnName is one of some names, of which many begin alike.
func drawnName(r *rand.Rand) string {
	letters := "abz"
	b := make([]byte, 1+r.Intn(3))
	for i := range b {
		b[i] = letters[r.Intn(len(letters))]
	}
	return string(b)
}

// TestNamesOfAll: G1, of as many as there may be, created in any order.
func TestNamesOfAll(t *testing.T) {
	r := rand.New(rand.NewSource(7))
	for range 100 {
		h := hall.New()
		for _, i := range r.Perm(len(names())) {
			does(t, h.Create(names()[i], nil, bare(), 0))
		}
		named(t, h, names()...)
	}
}
