package replay

import (
	"strings"

	"marchland/api"
	"marchland/kinds"
	"marchland/orders"
	"marchland/world"
)

const (
	blank     = " "
	endLine   = "\n"
	worldWord = "world"
	turnLine  = "turn" + endLine
	// hexes are the digits of a byte's two halves.
	hexes    = "0123456789abcdef"
	twoHexes = 2
)

// write a game of a world that is right.
func write(k []api.Kind, w api.World, turns [][]api.Order) (string, error) {
	sorts, err := kinds.Print(k)
	if err != nil {
		return "", err
	}
	var text strings.Builder
	text.WriteString(sorts + worldWord + blank + writeHex(world.Encode(w)) + endLine)
	for _, l := range turns {
		asked, err := orders.Print(l)
		if err != nil {
			return "", err
		}
		text.WriteString(turnLine + asked)
	}
	return text.String(), nil
}

// read the game that a text has, if one can be found there: whether it stands there just as it is written is for Import to tell.
func read(text string) ([]api.Kind, api.World, [][]api.Order, bool) {
	sorts, hex, asked, found := cut(text)
	b, isHex := readHex(hex)
	turns, isTurns := readTurns(asked)
	if !found || !isHex || !isTurns {
		return nil, api.World{}, nil, false
	}
	k, _, err := kinds.Parse(sorts)
	if err != nil {
		return nil, api.World{}, nil, false
	}
	w, _, err := world.Decode(b)
	return k, w, turns, err == nil
}

// cut a text at the world's line, and give what stands ahead, the digits of that line, and what stands behind. A kind may have the name of it too, but its line has more than two words.
func cut(text string) (ahead, hex, behind string, found bool) {
	at := 0
	for line := range strings.Lines(text) {
		hex, is := strings.CutPrefix(line, worldWord+blank)
		if is && !strings.Contains(hex, blank) {
			return text[:at], strings.TrimSuffix(hex, endLine), text[at+len(line):], true
		}
		at += len(line)
	}
	return "", "", "", false
}

// readTurns gives the orders of each turn: none of them has a word that ends as the line of a turn does.
func readTurns(text string) ([][]api.Order, bool) {
	// One part stands ahead of all turns, and one too many is enough to know, however many a long text has.
	parts := strings.SplitN(text, turnLine, api.MaxTurns+2)
	if len(parts) > api.MaxTurns+1 || parts[0] != "" {
		return nil, false
	}
	var turns [][]api.Order
	for _, part := range parts[1:] {
		l, _, err := orders.Parse(part)
		if err != nil {
			return nil, false
		}
		turns = append(turns, l)
	}
	return turns, true
}

func writeHex(b []byte) string {
	var text strings.Builder
	for _, c := range b {
		text.WriteByte(hexes[c/byte(len(hexes))])
		text.WriteByte(hexes[c%byte(len(hexes))])
	}
	return text.String()
}

// readHex gives the bytes that a word has, if it is one of digits, two each.
func readHex(word string) ([]byte, bool) {
	if len(word)%twoHexes != 0 {
		return nil, false
	}
	var b []byte
	for i := range len(word) / twoHexes {
		high := strings.IndexByte(hexes, word[twoHexes*i])
		low := strings.IndexByte(hexes, word[twoHexes*i+1])
		if high < 0 || low < 0 {
			return nil, false
		}
		b = append(b, byte(high*len(hexes)+low))
	}
	return b, true
}
