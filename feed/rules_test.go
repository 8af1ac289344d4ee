package feed_test

import (
	"bytes"
	"slices"
	"testing"

	"marchland/api"
	"marchland/feed"
	"marchland/world"
)

// roomy is a list with something behind its length, which whole shows.
func roomy[T any](l []T, behind ...T) []T {
	return append(slices.Clone(l), behind...)[:len(l)]
}

func whole[T any](l []T, more int) []T { return l[:len(l)+more] }

func fill[T any](l []T, x T) {
	l = l[:cap(l)]
	for i := range l {
		l[i] = x
	}
}

// behind is a change that lies where no list has one.
var behind = api.Change{At: 5999, Old: 9, New: 9}

// roomyText and roomyList have something behind them that would be told, or refused, if it were read.
func roomyText(b []byte) []byte             { return roomy(b, 200, 201) }
func roomyList(l []api.Change) []api.Change { return roomy(l, behind, behind) }

func isText(b, begin []byte) bool {
	return bytes.Equal(whole(b, 2), append(slices.Clone(begin), 200, 201))
}

func isList(l, begin []api.Change) bool {
	return slices.Equal(whole(l, 2), append(slices.Clone(begin), behind, behind))
}

// TestTextsStay: P2, P4: of Diff and Apply, what is handed in stays, and what lies behind it is neither read nor written.
func TestTextsStay(t *testing.T) {
	for _, s := range samples() {
		a, b, l := roomyText(s.a), roomyText(s.b), roomyList(s.want)
		if got, err := feed.Diff(a, b); !slices.Equal(got, s.want) || err != nil {
			t.Errorf("%s: Diff: got %v, %v", s.name, got, err)
		}
		if got, err := feed.Apply(a, l); !bytes.Equal(got, s.b) || err != nil {
			t.Errorf("%s: Apply: got %v, %v", s.name, got, err)
		}
		// Of another text there is an error, as soon as there is a change.
		feed.Apply(b, l)
		if !isText(a, s.a) || !isText(b, s.b) || !isList(l, s.want) {
			t.Errorf("%s: they became %v, %v, %v", s.name, a, b, l)
		}
	}
}

// TestPacksStay: the same of Pack and Unpack.
func TestPacksStay(t *testing.T) {
	for _, c := range bundles() {
		l, b := roomyList(c.l), roomyText(c.b)
		if got, err := feed.Pack(l); !bytes.Equal(got, c.b) || err != nil {
			t.Errorf("%s: Pack: got %v, %v", c.name, got, err)
		}
		if got, long, err := feed.Unpack(b); !slices.Equal(got, c.l) || long != len(c.b) || err != nil {
			t.Errorf("%s: Unpack: got %v, %d, %v", c.name, got, long, err)
		}
		if !isList(l, c.l) || !isText(b, c.b) {
			t.Errorf("%s: they became %v, %v", c.name, l, b)
		}
		// The last byte lies behind what is handed in.
		none(t, b[:len(b)-1], c.name)
	}
	for _, c := range noRange() {
		l := roomyList([]api.Change{c})
		feed.Pack(l)
		feed.Apply(nil, l)
		if !isList(l, []api.Change{c}) {
			t.Errorf("%v: it became %v", c, l)
		}
	}
}

// TestAnswersAreFresh: P2, what is written into an answer stands in no argument and no other answer, and the other way round.
func TestAnswersAreFresh(t *testing.T) {
	for _, s := range samples() {
		a, b, l := slices.Clone(s.a), slices.Clone(s.b), slices.Clone(s.want)
		for range 2 {
			told, _ := feed.Diff(a, b)
			text, _ := feed.Apply(a, l)
			pack, _ := feed.Pack(l)
			list, long, err := feed.Unpack(pack)
			if !slices.Equal(told, s.want) || !bytes.Equal(text, s.b) || !slices.Equal(list, s.want) || long != len(pack) || err != nil {
				t.Fatalf("%s: got %v, %v, %v, %v", s.name, told, text, list, err)
			}
			fill(pack, 77)
			if !slices.Equal(list, s.want) {
				t.Errorf("%s: Unpack keeps its bytes", s.name)
			}
			fill(told, behind)
			fill(text, 77)
			fill(list, behind)
			if !bytes.Equal(a, s.a) || !bytes.Equal(b, s.b) || !slices.Equal(l, s.want) {
				t.Fatalf("%s: what was handed in became %v, %v, %v", s.name, a, b, l)
			}
		}
		told, _ := feed.Diff(a, b)
		text, _ := feed.Apply(a, l)
		fill(a, 78)
		fill(b, 78)
		fill(l, behind)
		if !slices.Equal(told, s.want) || !bytes.Equal(text, s.b) {
			t.Errorf("%s: answers became %v, %v", s.name, told, text)
		}
	}
}

// TestApplyOfNoneIsFresh: P2, also the text of which nothing changes.
func TestApplyOfNoneIsFresh(t *testing.T) {
	a := []byte{1, 2, 3}
	got, _ := feed.Apply(a, nil)
	fill(got, 77)
	if !bytes.Equal(a, []byte{1, 2, 3}) {
		t.Errorf("it became %v", a)
	}
}

// roomyWorld is a world whose lists all have something behind their length.
func roomyWorld(w api.World) api.World {
	w.Field.Ground, w.Field.Ore = roomy(w.Field.Ground, 77, 78), roomy(w.Field.Ore, 77, 78)
	w.Gold, w.Units = roomy(w.Gold, 77, 78), roomy(w.Units, api.Unit{Player: 77}, api.Unit{Player: 78})
	w.Queue = roomy(w.Queue, api.Job{Left: 77}, api.Job{Left: 78})
	return w
}

// same tells whether two worlds of roomyWorld are alike, with what lies behind their lists.
func same(a, b api.World) bool {
	return a.Turn == b.Turn && a.Next == b.Next && a.Field.Wide == b.Field.Wide && a.Field.High == b.Field.High &&
		slices.Equal(whole(a.Field.Ground, 2), whole(b.Field.Ground, 2)) && slices.Equal(whole(a.Field.Ore, 2), whole(b.Field.Ore, 2)) &&
		slices.Equal(whole(a.Gold, 2), whole(b.Gold, 2)) && slices.Equal(whole(a.Units, 2), whole(b.Units, 2)) &&
		slices.Equal(whole(a.Queue, 2), whole(b.Queue, 2))
}

// TestWorldsStay: P2, P4: of News, worlds and kinds stay, whether there is an error or not, and its answer is fresh.
func TestWorldsStay(t *testing.T) {
	for _, c := range tales(t) {
		for _, wrong := range []bool{false, true} {
			first, second := world.Copy(c.w), world.Copy(c.w)
			c.make(&second)
			if wrong {
				second.Turn = -1
			}
			a, b, k := roomyWorld(first), roomyWorld(second), roomy(sorts(), api.Kind{Name: "behind"})
			for player, want := range c.want {
				if wrong {
					want = nil
				}
				for range 2 {
					got, err := feed.News(k, a, b, player)
					if !slices.Equal(got, want) || wrong == (err == nil) {
						t.Errorf("%s, wrong %v, player %d: got %v, %v", c.name, wrong, player, got, err)
					}
					fill(got, behind)
				}
			}
			if !same(a, roomyWorld(first)) || !same(b, roomyWorld(second)) || !slices.Equal(whole(k, 1), append(sorts(), api.Kind{Name: "behind"})) {
				t.Errorf("%s, wrong %v: they became %v, %v, %v", c.name, wrong, a, b, k)
			}
		}
	}
}
