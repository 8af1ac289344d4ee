package orders

import (
	"strconv"
	"strings"

	"marchland/api"
	"marchland/digits"
)

const (
	blank      = " "
	endLine    = "\n"
	allWords   = 4
	noArg      = "0" // stands for the word that a stop has not
	mostDigits = 7
)

// names are what orders ask, each at its number.
var names = [...]string{api.DoStop: "stop", api.DoMarch: "march", api.DoGather: "gather", api.DoTrain: "train"}

// Print writes orders.
func Print(l []api.Order) (string, error) {
	if err := Check(l); err != nil {
		return "", err
	}
	var text strings.Builder
	for _, o := range l {
		text.WriteString(write(o))
	}
	return text.String(), nil
}

func write(o api.Order) string {
	words := []string{strconv.Itoa(o.Player), strconv.Itoa(o.Unit), names[o.What]}
	if o.What != api.DoStop {
		words = append(words, strconv.Itoa(o.Arg))
	}
	return strings.Join(words, blank) + endLine
}

// Parse reads orders.
func Parse(text string) ([]api.Order, int, error) {
	whats := numbersOfNames()
	var l []api.Order
	for line := range strings.Lines(text) {
		o, err := next(whats, len(l), line)
		if err != nil {
			return nil, len(l), err
		}
		l = append(l, o)
	}
	return l, 0, nil
}

func numbersOfNames() map[string]int {
	whats := map[string]int{}
	for what, name := range names {
		whats[name] = what
	}
	return whats
}

// next reads the order that stands behind so many others.
func next(whats map[string]int, ahead int, line string) (api.Order, error) {
	o, ok := read(whats, line)
	if !ok {
		return api.Order{}, api.ErrSyntax
	}
	if ahead == api.MaxOrders {
		return api.Order{}, api.ErrFull
	}
	return o, checkOrder(o)
}

// read tells whether a line has the words of an order; how great its numbers may be is for Check to tell.
func read(whats map[string]int, line string) (api.Order, bool) {
	line, ends := strings.CutSuffix(line, endLine)
	// One word too many is enough to know, however many a long line has.
	words := strings.SplitN(line, blank, allWords+1)
	if !ends || len(words) < allWords-1 {
		return api.Order{}, false
	}
	what, known := whats[words[2]]
	if known && what == api.DoStop {
		words = append(words, noArg)
	}
	if !known || len(words) != allWords {
		return api.Order{}, false
	}
	player, ok := digits.Read(words[0], mostDigits)
	id, fine := digits.Read(words[1], mostDigits)
	arg, right := digits.Read(words[3], mostDigits)
	return api.Order{Player: player, Unit: id, What: what, Arg: arg}, ok && fine && right
}
