package run

import (
	"strconv"
	"strings"

	"marchland/api"
	"marchland/dice"
	"marchland/field"
	"marchland/fix"
	"marchland/orders"
	"marchland/sight"
	"marchland/turn"
	"marchland/world"
)

const (
	betweenRows    = "/"
	betweenNumbers = "," // of a unit
	nobody         = "-"
)

// sorts are the kinds that there are.
func sorts() []api.Kind {
	return []api.Kind{
		{Name: "base", Life: 50, Sight: 4, Price: 50, Turns: 5, Trains: true},
		{Name: "digger", Life: 10, Sight: 3, Speed: 2, Price: 10, Turns: 2, Carry: 20},
		{Name: "fighter", Life: 20, Hit: 4, Range: 1, Sight: 4, Speed: 2, Price: 20, Turns: 3},
		{Name: "bird", Life: 8, Hit: 3, Range: 2, Sight: 5, Speed: 3, Price: 25, Turns: 3, Flies: true},
	}
}

// game is what there is between two lines.
type game struct {
	begun bool // there is a world
	world api.World
	waits []api.Order
}

// row of the table: what a line has behind its first word, and what it does.
type row struct {
	numbers int
	hasRows bool // those of a field stand behind the numbers
	free    bool // it is answered without a world too
	do      func(g *game, a args) (string, error)
}

func rowOf(word string) (r row, known bool) {
	switch word {
	case "field":
		return row{numbers: 2, hasRows: true, free: true, do: (*game).begin}, true
	case "place":
		return row{numbers: 3, do: (*game).place}, true
	case "stop":
		return row{numbers: 2, do: asks(api.DoStop)}, true
	case "march":
		return row{numbers: 3, do: asks(api.DoMarch)}, true
	case "gather":
		return row{numbers: 3, do: asks(api.DoGather)}, true
	case "train":
		return row{numbers: 3, do: asks(api.DoTrain)}, true
	case "step":
		return row{do: (*game).step}, true
	case "units":
		return row{do: (*game).units}, true
	case "gold":
		return row{do: (*game).gold}, true
	case "sum":
		return row{do: (*game).sum}, true
	case "seen":
		return row{numbers: 1, do: (*game).seen}, true
	case "far":
		return row{numbers: 4, free: true, do: (*game).far}, true
	case "dice":
		return row{numbers: 2, free: true, do: (*game).dice}, true
	}
	return row{}, false
}

func (g *game) begin(a args) (string, error) {
	f, _, err := field.Parse(strings.ReplaceAll(a.rows, betweenRows, endLine) + endLine)
	if err != nil {
		return "", err
	}
	w, err := world.New(sorts(), f, a.n[0], a.n[1])
	if err != nil {
		return "", err
	}
	*g = game{begun: true, world: w}
	return taken, nil
}

func (g *game) place(a args) (string, error) {
	w, err := world.Place(sorts(), g.world, a.n[0], a.n[1], a.n[2])
	if err != nil {
		return "", err
	}
	g.world = w
	return taken, nil
}

// asks has an order wait for the next step.
func asks(what int) func(g *game, a args) (string, error) {
	return func(g *game, a args) (string, error) {
		all := append(g.waits, api.Order{Player: a.n[0], Unit: a.n[1], What: what, Arg: a.n[2]})
		if err := orders.Check(all); err != nil {
			return "", err
		}
		g.waits = all
		return taken, nil
	}
}

func (g *game) step(args) (string, error) {
	w, events, err := turn.Step(sorts(), g.world, g.waits)
	if err != nil {
		return "", err
	}
	g.world, g.waits = w, nil
	return strconv.Itoa(len(events)), nil
}

func (g *game) units(args) (string, error) {
	if len(g.world.Units) == 0 {
		return nobody, nil
	}
	var all []string
	for _, u := range g.world.Units {
		all = append(all, join(betweenNumbers, u.Id, u.Player, u.Kind, u.At, u.Life, u.Load))
	}
	return strings.Join(all, blank), nil
}

func join(between string, numbers ...int) string {
	var words []string
	for _, n := range numbers {
		words = append(words, strconv.Itoa(n))
	}
	return strings.Join(words, between)
}

func (g *game) gold(args) (string, error) { return join(blank, g.world.Gold...), nil }

func (g *game) sum(args) (string, error) { return strconv.Itoa(world.Sum(g.world)), nil }

func (g *game) seen(a args) (string, error) {
	cells, err := sight.Seen(sorts(), g.world, a.n[0])
	if err != nil {
		return "", err
	}
	many := 0
	for _, isSeen := range cells {
		if isSeen {
			many++
		}
	}
	return strconv.Itoa(many), nil
}

func (g *game) far(a args) (string, error) {
	return written(fix.Far(a.n[0], a.n[1], a.n[2], a.n[3]))
}

func (g *game) dice(a args) (string, error) { return written(dice.New(a.n[0]).Below(a.n[1])) }

// written is a number that a layer answers, if nothing is wrong.
func written(n int, err error) (string, error) { return strconv.Itoa(n), err }
