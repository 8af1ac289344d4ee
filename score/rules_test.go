package score_test

import (
	"slices"
	"testing"

	"marchland/api"
	"marchland/score"
)

// roomy is a list with something behind its length, which whole shows.
func roomy[T any](l []T, behind ...T) []T {
	return append(slices.Clone(l), behind...)[:len(l)]
}

func whole[T any](l []T, more int) []T { return l[:len(l)+more] }

func fill(l []int, x int) {
	l = l[:cap(l)]
	for i := range l {
		l[i] = x
	}
}

// roomyWorld is a world whose lists all have something behind their length.
func roomyWorld(w api.World) api.World {
	w.Field.Ground, w.Field.Ore = roomy(w.Field.Ground, 77, 78), roomy(w.Field.Ore, 77, 78)
	w.Gold, w.Units = roomy(w.Gold, 77, 78), roomy(w.Units, api.Unit{Player: 77}, api.Unit{Player: 78})
	w.Queue = roomy(w.Queue, api.Job{Left: 77}, api.Job{Left: 78})
	return w
}

// same tells whether two worlds of roomyWorld are alike, with what lies behind their lists.
func same(a, b api.World) bool {
	return a.Turn == b.Turn && a.Next == b.Next && a.Field.Wide == b.Field.Wide && a.Field.High == b.Field.High &&
		slices.Equal(whole(a.Field.Ground, 2), whole(b.Field.Ground, 2)) && slices.Equal(whole(a.Field.Ore, 2), whole(b.Field.Ore, 2)) &&
		slices.Equal(whole(a.Gold, 2), whole(b.Gold, 2)) && slices.Equal(whole(a.Units, 2), whole(b.Units, 2)) &&
		slices.Equal(whole(a.Queue, 2), whole(b.Queue, 2))
}

// TestWorldStays: P2, P4: worlds and kinds stay as they were, and what lies behind their lists is neither read nor written.
func TestWorldStays(t *testing.T) {
	for _, wrong := range []bool{false, true} {
		begin := few(t)
		if wrong {
			begin.Queue[1].Left = 0
		}
		w, k := roomyWorld(begin), roomy(sorts(), api.Kind{Name: "behind"})
		got, err := score.Points(k, w)
		if wrong == (err == nil) || !wrong && !slices.Equal(got, []int{505, 78, 120}) {
			t.Errorf("wrong %v: got %v, %v", wrong, got, err)
		}
		if player, won := score.Winner(w); player != 0 || won {
			t.Errorf("wrong %v: got %d, %v", wrong, player, won)
		}
		if !same(w, roomyWorld(begin)) || !slices.Equal(whole(k, 1), append(sorts(), api.Kind{Name: "behind"})) {
			t.Errorf("wrong %v: it became %v, and the kinds %v", wrong, w, k)
		}
	}
	for _, c := range []struct {
		players []int
		want    int
		won     bool
	}{{nil, 0, false}, {[]int{2, 2}, 2, true}} {
		w := roomyWorld(scene(t, []int{1, 2, 3}, whose(c.players...)...))
		if player, won := score.Winner(w); player != c.want || won != c.won {
			t.Errorf("%v: got %d, %v; want %d, %v", c.players, player, won, c.want, c.won)
		}
	}
}

// TestPointsAreFresh: P2, what is written into an answer stands in no argument and no other answer, and the other way round.
func TestPointsAreFresh(t *testing.T) {
	for _, gold := range [][]int{{4}, {4, 5}, {4, 5, 6, 7}} {
		w := scene(t, gold)
		first, _ := score.Points(sorts(), w)
		second, _ := score.Points(sorts(), w)
		fill(first, -7)
		if !slices.Equal(second, gold) || !slices.Equal(w.Gold, gold) {
			t.Errorf("%v: another answer is %v, the Gold is %v", gold, second, w.Gold)
		}
		fill(w.Gold, -8)
		if !slices.Equal(second, gold) {
			t.Errorf("%v: it became %v", gold, second)
		}
		if again, err := score.Points(sorts(), scene(t, gold)); !slices.Equal(again, gold) || err != nil {
			t.Errorf("%v: then it is %v, %v", gold, again, err)
		}
	}
}

// TestRankLeavesPoints: P2, P4: the same of Rank, of a list that may be ranked and of one that is too long.
func TestRankLeavesPoints(t *testing.T) {
	for _, begin := range [][]int{{}, {3}, {5, 9, 5, 2}, count(200, -1, 200), count(0, 1, 201)} {
		points := roomy(begin, 1000, -1000)
		first, err := score.Rank(points)
		if want, bad := score.Rank(begin); !slices.Equal(first, want) || err != bad {
			t.Errorf("%v: with something behind it: got %v, %v; want %v, %v", begin, first, err, want, bad)
		}
		kept := slices.Clone(first)
		second, _ := score.Rank(points)
		fill(second, -7)
		if !slices.Equal(whole(points, 2), append(slices.Clone(begin), 1000, -1000)) {
			t.Errorf("%v: it became %v", begin, whole(points, 2))
		}
		fill(points, -8)
		if !slices.Equal(first, kept) {
			t.Errorf("%v: the places %v became %v", begin, kept, first)
		}
	}
}
