package kinds_test

import (
	"math"
	"slices"
	"strings"
	"testing"

	"marchland/api"
	"marchland/kinds"
	"marchland/plain"
)

// few are ordinary kinds.
func few() []api.Kind {
	return []api.Kind{
		{Name: "base", Life: 50, Sight: 4, Price: 50, Turns: 5, Trains: true},
		{Name: "digger", Life: 10, Sight: 3, Speed: 2, Price: 10, Turns: 2, Carry: 20},
		{Name: "fighter", Life: 20, Hit: 4, Range: 1, Sight: 4, Speed: 2, Price: 20, Turns: 3},
		{Name: "bird", Life: 8, Hit: 3, Range: 2, Sight: 5, Speed: 3, Price: 25, Turns: 3, Flies: true},
	}
}

// some are so many kinds, with names from a on.
func some(n int) []api.Kind {
	var l []api.Kind
	for i := range n {
		l = append(l, named(string(rune('a'+i))))
	}
	return l
}

func named(name string) api.Kind { return api.Kind{Name: name, Life: 1} }

// part is a number that a kind has, and its bounds.
type part struct {
	name        string
	least, most int
	of          func(k *api.Kind) *int
}

// parts stand in the order in which Print writes them.
var parts = []part{
	{"Life", 1, 1000, func(k *api.Kind) *int { return &k.Life }},
	{"Hit", 0, 1000, func(k *api.Kind) *int { return &k.Hit }},
	{"Range", 0, 12, func(k *api.Kind) *int { return &k.Range }},
	{"Sight", 0, 12, func(k *api.Kind) *int { return &k.Sight }},
	{"Speed", 0, 4, func(k *api.Kind) *int { return &k.Speed }},
	{"Price", 0, 1000, func(k *api.Kind) *int { return &k.Price }},
	{"Turns", 0, 1000, func(k *api.Kind) *int { return &k.Turns }},
	{"Carry", 0, 1000, func(k *api.Kind) *int { return &k.Carry }},
}

// wrong are lists with a fault, and what Check tells of each.
var wrong = []struct {
	name string
	l    []api.Kind
	told api.Errno
}{
	{"nine", some(9), api.ErrFull},
	{"many", make([]api.Kind, 1000), api.ErrFull},
	{"nine, each with all faults", make([]api.Kind, 9), api.ErrFull},
	{"no name", []api.Kind{named("")}, api.ErrSyntax},
	{"nothing at all", make([]api.Kind, 1), api.ErrSyntax},
	{"a name of nine letters", []api.Kind{named("abcdefghi")}, api.ErrSyntax},
	{"a name with a great letter", []api.Kind{named("Base")}, api.ErrSyntax},
	{"a wrong name last", append(few(), named("b4se")), api.ErrSyntax},
	{"a name that the one ahead has", []api.Kind{named("a"), named("a")}, api.ErrClash},
	{"a name that the first one has", append(few(), named("base")), api.ErrClash},
	{"no life", []api.Kind{{Name: "a"}}, api.ErrRange},
	{"too much life", []api.Kind{{Name: "a", Life: 1001}}, api.ErrRange},
	{"too fast", []api.Kind{{Name: "a", Life: 1, Speed: 5}}, api.ErrRange},

	{"in one kind, a name that is none and no life", []api.Kind{{Name: "?"}}, api.ErrSyntax},
	{"in one kind, a name that is none, once more", []api.Kind{named("b"), {Name: ""}}, api.ErrSyntax},
	{"in one kind, a name that is there and no life", []api.Kind{named("a"), {Name: "a"}}, api.ErrClash},
	{"in one kind, a name that is there and Speed", []api.Kind{named("a"), {Name: "a", Life: 1, Speed: 9}}, api.ErrClash},
	{"in two, no life and then a name that is none", []api.Kind{{Name: "a"}, named("?")}, api.ErrRange},
	{"in two, no life and then a name that is there", []api.Kind{{Name: "a"}, named("a")}, api.ErrRange},
	{"in two, Sight and then a name that is none", []api.Kind{{Name: "a", Life: 1, Sight: 13}, named("")}, api.ErrRange},
	{"in two, a name that is there, then one that is none", []api.Kind{named("a"), named("a"), named("?")}, api.ErrClash},
	{"in two, a name that is there, then no life", []api.Kind{named("a"), named("a"), {Name: "b"}}, api.ErrClash},
	{"in two, a name that is none, twice", []api.Kind{named("?"), named("?")}, api.ErrSyntax},
	{"in two, a name that is none, then no life", []api.Kind{named("?"), {Name: "b"}}, api.ErrSyntax},
}

// TestCheckRight: K1, lists without a fault.
func TestCheckRight(t *testing.T) {
	for _, l := range [][]api.Kind{nil, {}, few(), some(1), some(7), some(8)} {
		if err := kinds.Check(l); err != nil {
			t.Errorf("%v: got %v", l, err)
		}
	}
}

// TestCheckWrong: K1, each fault, and which one is told where two meet.
func TestCheckWrong(t *testing.T) {
	for _, c := range wrong {
		if err := kinds.Check(c.l); plain.Told(err) != c.told {
			t.Errorf("%s: got %v, want %v", c.name, err, c.told)
		}
	}
}

// TestCheckNames: K1, what is a name.
func TestCheckNames(t *testing.T) {
	for _, name := range []string{"a", "z", "aa", "az", "base", "fighter", "abcdefgh", "stuvwxyz", "zzzzzzzz"} {
		if err := kinds.Check([]api.Kind{named(name)}); err != nil || !kinds.IsName(name) {
			t.Errorf("%q: got %v, %v", name, err, kinds.IsName(name))
		}
	}
	for _, name := range []string{"", "abcdefghi", strings.Repeat("a", 300), " ", "-", "A", "aB", "a b", " a", "a ",
		"a\n", "\na", "a1", "1", "a-b", "a`", "a{", "é", "aé", "\xff", "a\xff", "a\x00", "\x00", "ａ", "abcdefg1", "1bcdefgh", "abcd_fgh"} {
		if err := kinds.Check([]api.Kind{named(name)}); plain.Told(err) != api.ErrSyntax || kinds.IsName(name) {
			t.Errorf("%q: got %v, %v", name, err, kinds.IsName(name))
		}
	}
}

// TestCheckLetters: K1, each byte there is, as a name and at each place of one.
func TestCheckLetters(t *testing.T) {
	for b := range 256 {
		want := api.ErrSyntax
		if 'a' <= b && b <= 'z' {
			want = api.OK
		}
		one := string([]byte{byte(b)})
		for _, name := range []string{one, one + "bcdefgh", "abcd" + one + "fgh", "abcdefg" + one} {
			if err := kinds.Check([]api.Kind{named(name)}); plain.Told(err) != want || kinds.IsName(name) != (want == api.OK) {
				t.Errorf("%q: got %v, %v; want %v", name, err, kinds.IsName(name), want)
			}
		}
	}
}

// TestCheckNumbers: K1, each number at its bounds and beyond, in the first kind and in a later one.
func TestCheckNumbers(t *testing.T) {
	for _, p := range parts {
		for _, n := range []int{p.least, p.least + 1, p.most - 1, p.most, p.least - 1, p.most + 1, -1, -1000, 1001, math.MaxInt, math.MinInt} {
			want := api.OK
			if n < p.least || n > p.most {
				want = api.ErrRange
			}
			for at := range few() {
				l := few()
				*p.of(&l[at]) = n
				if err := kinds.Check(l); plain.Told(err) != want {
					t.Errorf("%s %d of kind %d: got %v, want %v", p.name, n, at, err, want)
				}
			}
		}
	}
}

// TestCheckAllAtMost: K1, all numbers at their most at once, and at their least.
func TestCheckAllAtMost(t *testing.T) {
	least, most := api.Kind{Name: "a"}, api.Kind{Name: "abcdefgh", Flies: true, Trains: true}
	for _, p := range parts {
		*p.of(&least), *p.of(&most) = p.least, p.most
	}
	if err := kinds.Check([]api.Kind{least, most}); err != nil {
		t.Errorf("got %v", err)
	}
}

// TestCheckClash: K1, any two of a list that have one name.
func TestCheckClash(t *testing.T) {
	for a := range 8 {
		for b := range 8 {
			l := some(8)
			l[a].Name = l[b].Name
			want := api.ErrClash
			if a == b {
				want = api.OK
			}
			if err := kinds.Check(l); plain.Told(err) != want {
				t.Errorf("%d named as %d: got %v, want %v", a, b, err, want)
			}
		}
	}
}

// TestFind: K1, each kind by its own name.
func TestFind(t *testing.T) {
	for _, l := range [][]api.Kind{few(), some(1), some(8)} {
		for i, k := range l {
			if n, err := kinds.Find(l, k.Name); n != i || err != nil {
				t.Errorf("%q: got %d, %v; want %d", k.Name, n, err, i)
			}
		}
	}
}

// TestFindNone: K1, names that no kind has.
func TestFindNone(t *testing.T) {
	for _, name := range []string{"", "a", "bas", "basee", "Base", "base ", " base", "ase", "base\n", "birds", "bir", "0", "\xff", strings.Repeat("base", 99)} {
		for _, l := range [][]api.Kind{few(), nil, {}} {
			if n, err := kinds.Find(l, name); n != 0 || plain.Told(err) != api.ErrNone {
				t.Errorf("%q of %d kinds: got %d, %v", name, len(l), n, err)
			}
		}
	}
}

// TestFindOfWrong: K1, what is wrong with the kinds comes first, whether one has the name or none.
func TestFindOfWrong(t *testing.T) {
	for _, c := range wrong {
		names := []string{"", "a", "zzz"}
		for _, k := range c.l {
			names = append(names, k.Name)
		}
		for _, name := range names {
			if n, err := kinds.Find(c.l, name); n != 0 || plain.Told(err) != c.told {
				t.Errorf("%s: %q: got %d, %v; want %v", c.name, name, n, err, c.told)
			}
		}
	}
}

// hidden gives a list of the same kinds, with another one behind its length that may neither be read nor written.
func hidden(l []api.Kind) (list, memory []api.Kind) {
	memory = append(slices.Clone(l), named("behind"))
	return memory[:len(l)], memory
}

// TestKindsStay: P2 and P4, no call writes into the kinds, nor behind them, nor reads there.
func TestKindsStay(t *testing.T) {
	lists := [][]api.Kind{nil, few(), some(7), some(8)}
	for _, c := range wrong {
		lists = append(lists, c.l)
	}
	for i, l := range lists {
		list, memory := hidden(l)
		before := slices.Clone(memory)
		kinds.Check(list)
		if n, err := kinds.Find(list, "behind"); n != 0 || err == nil {
			t.Errorf("list %d: what stands behind it is found at %d", i, n)
		}
		if text, _ := kinds.Print(list); strings.Contains(text, "behind") {
			t.Errorf("list %d: what stands behind it is printed: %q", i, text)
		}
		if v, err := kinds.Worth(list, []api.Unit{{Kind: len(list), Life: 1}}); v != nil || err == nil {
			t.Errorf("list %d: a kind that stands behind it has worth: %v", i, v)
		}
		if !slices.Equal(memory, before) {
			t.Errorf("list %d: was %v, is %v", i, before, memory)
		}
	}
}
