package replay_test

import (
	"fmt"
	"slices"
	"strings"
	"testing"

	"marchland/api"
	"marchland/replay"
	"marchland/world"
)

// small is a game whose text is worked out by hand.
func small() game {
	return game{
		"small",
		[]api.Kind{
			{Name: "base", Life: 50, Sight: 4, Price: 50, Turns: 5, Trains: true},
			{Name: "bird", Life: 8, Hit: 3, Range: 2, Sight: 5, Speed: 3, Price: 25, Turns: 1000, Flies: true},
		},
		api.World{
			Turn: 6, Next: 9,
			Field: api.Field{Wide: 3, High: 1, Ground: []int{0, 3, 0}, Ore: []int{0, 0, 90}},
			Gold:  []int{100, 0},
			Units: []api.Unit{{Id: 1, At: 0, Life: 50}, {Id: 8, Player: 1, Kind: 1, At: 1, Life: 7, Task: api.March, Goal: 2}},
			Queue: []api.Job{{Unit: 1, Kind: 1, Left: 64}},
		},
		[][]api.Order{
			{{Player: 1, Unit: 8, What: api.DoMarch, Arg: 2}, {Player: 0, Unit: 1, What: api.DoTrain, Arg: 1}},
			nil,
			{{Player: 3, Unit: api.MaxNumber, What: api.DoStop}, {Player: 1, Unit: 8, What: api.DoGather}},
		},
	}
}

const (
	smallKinds = "base 50 0 0 4 0 50 5 0 - t\nbird 8 3 2 5 3 25 1000 0 f -\n"
	smallWorld = "world " +
		"0c120602" + // Turn 6, Next 9, Wide 3, High 1
		"06000600" + "060000b401" + // three Grounds, three Ores
		"04c80100" + // two Golds
		"04" + "0200000064000000" + "100202020e000204" + // two units
		"02" + "0002028001" + "\n" // one job
	smallTurns = "turn\n1 8 march 2\n0 1 train 1\nturn\nturn\n3 1000000 stop\n1 8 gather 0\n"
	smallText  = smallKinds + smallWorld + smallTurns
)

// TestExportLetters: X1, a small game, letter by letter.
func TestExportLetters(t *testing.T) {
	g := small()
	if text, err := replay.Export(g.k, g.w, g.turns); text != smallText || err != nil {
		t.Errorf("got %q, %v; want %q", text, err, smallText)
	}
	if text, err := replay.Export(g.k, g.w, nil); text != smallKinds+smallWorld || err != nil {
		t.Errorf("no turns: got %q, %v", text, err)
	}
	if text, err := replay.Export(nil, bare(), make([][]api.Order, 2)); text != "world 0002020202000200020000"+"00\nturn\nturn\n" || err != nil {
		t.Errorf("bare: got %q, %v", text, err)
	}
}

// TestExport: X1, many games, of the least and of the greatest.
func TestExport(t *testing.T) {
	for _, g := range games() {
		if text, err := replay.Export(g.k, g.w, g.turns); text != g.text() || err != nil {
			t.Errorf("%s: got %q, %v; want %q", g.name, text, err, g.text())
		}
	}
}

// TestExportBytes: X1, each byte there is as two digits: bytes of Turn and of Gold.
func TestExportBytes(t *testing.T) {
	seen := map[byte]bool{}
	for n := range 16 * 1024 {
		w := bare()
		w.Turn, w.Gold[0] = n, api.MaxNumber-n
		for _, c := range world.Encode(w) {
			seen[c] = true
		}
		if text, err := replay.Export(nil, w, nil); text != fmt.Sprintf("world %x\n", world.Encode(w)) || err != nil {
			t.Fatalf("Turn %d: got %q, %v", n, text, err)
		}
	}
	if len(seen) != 256 {
		t.Errorf("%d bytes are asked", len(seen))
	}
}

// TestExportOrders: X1, orders stand as they are asked, in their order: neither sorted, nor the last ones alone.
func TestExportOrders(t *testing.T) {
	l := []api.Order{
		{Player: 3, Unit: 7, What: api.DoGather, Arg: 143}, {Player: 0, Unit: 7, What: api.DoStop}, {Player: 3, Unit: 7, What: api.DoMarch},
		{Player: 3, Unit: 7, What: api.DoGather, Arg: 143}, {Player: 3, Unit: 2, What: api.DoTrain, Arg: api.MaxNumber},
	}
	want := "turn\n3 7 gather 143\n0 7 stop\n3 7 march 0\n3 7 gather 143\n3 2 train 1000000\n"
	text, err := replay.Export(sorts(), few(), [][]api.Order{l, l})
	if !strings.HasSuffix(text, "\n"+want+want) || err != nil {
		t.Errorf("got %q, %v", text, err)
	}
}

// TestExportWrong: X1, each error of chapter 7's Check by itself, whatever turns there are.
func TestExportWrong(t *testing.T) {
	for _, f := range faults() {
		k, w := wrong(f)
		for _, turns := range [][][]api.Order{nil, played(), make([][]api.Order, api.MaxTurns)} {
			refused(t, f.name, k, w, turns, f.told)
		}
	}
	refused(t, "nothing at all", nil, api.World{}, nil, api.ErrRange)
}

// TestExportFirst: X1, what is wrong with kinds comes ahead of what is wrong with a world, and this ahead of too many turns, and of orders.
func TestExportFirst(t *testing.T) {
	for _, f := range faults() {
		k, w := wrong(f)
		refused(t, f.name+", and one turn too many", k, w, make([][]api.Order, api.MaxTurns+1), f.told)
		for _, l := range wrongOrders() {
			refused(t, f.name+", and wrong orders", k, w, [][]api.Order{l}, f.told)
		}
	}
	for _, ahead := range faultsOfKinds() {
		for _, f := range faultsOfWorlds() {
			if f.name == "no kinds" || f.name == "one kind less" {
				continue
			}
			k, w := wrong(f, ahead)
			refused(t, ahead.name+", and "+f.name, k, w, played(), ahead.told)
		}
	}
}

// TestExportTooMany: X1, MaxTurns are taken, and one more is ErrFull, whatever the turns have.
func TestExportTooMany(t *testing.T) {
	for _, many := range []int{api.MaxTurns + 1, api.MaxTurns + 2, 1000, 1 << 20} {
		turns := make([][]api.Order, many)
		refused(t, "too many turns", sorts(), few(), turns, api.ErrFull)
		for _, l := range wrongOrders()[1:] {
			turns[0], turns[many-1] = l, l
			refused(t, "too many turns, and wrong orders", sorts(), few(), turns, api.ErrFull)
		}
	}
	if text, err := replay.Export(sorts(), few(), make([][]api.Order, api.MaxTurns)); strings.Count(text, "\nturn") != api.MaxTurns || err != nil {
		t.Errorf("MaxTurns: got %q, %v", text, err)
	}
}

// TestExportWrongOrders: X1, each error of chapter 6's Check by itself, at the first turn, at a later one, and at the last.
func TestExportWrongOrders(t *testing.T) {
	for i, l := range wrongOrders() {
		for _, turns := range [][][]api.Order{{l}, {l, nil, asked(3)}, {nil, asked(3), l, nil}, append(askedTurns(0, api.MaxTurns-1), l)} {
			refused(t, fmt.Sprint("wrong orders ", i), sorts(), few(), turns, toldOfWrong(i))
		}
	}
}

// TestExportTwoWrong: X1, of two turns the first one that is wrong counts; of one turn too many orders are told ahead of any that is wrong.
func TestExportTwoWrong(t *testing.T) {
	l := wrongOrders()
	refused(t, "range, then full", sorts(), few(), [][]api.Order{nil, l[1], nil, l[0]}, api.ErrRange)
	refused(t, "full, then range", sorts(), few(), [][]api.Order{nil, l[0], l[1]}, api.ErrFull)
	both := append(slices.Clone(l[0]), l[1]...)
	refused(t, "both in one", sorts(), few(), [][]api.Order{both, l[1]}, api.ErrFull)
}
