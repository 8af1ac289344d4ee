package run_test

import (
	"strconv"
	"testing"
)

// TestKinds: each number of each kind, by what comes of it.
func TestKinds(t *testing.T) {
	for kind, k := range sorts() {
		n := strconv.Itoa(kind)
		put := "place 0 " + n + " 0"
		plays(t, "field 1 0 ............", "ok", put, "ok",
			"units", "1,0,"+n+",0,"+strconv.Itoa(k.Life)+",0",
			"seen 0", strconv.Itoa(k.Sight+1),
			"march 0 1 11", "ok", "step", strconv.Itoa(k.Speed), "units", "1,0,"+n+","+strconv.Itoa(k.Speed)+","+strconv.Itoa(k.Life)+",0")
		trains(t, n, k.Price, k.Turns)
		carries(t, n, k.Carry)
		strikes(t, n, k.Life, k.Hit, k.Range)
		flies, school := "ErrState", "50"
		if k.Flies {
			flies = "ok"
		}
		if k.Trains {
			school = "40"
		}
		plays(t, "field 1 0 ~", "ok", put, flies)
		plays(t, "field 1 50 .", "ok", put, "ok", "train 0 1 1", "ok", "step", "0", "gold", school)
	}
	plays(t, "field 1 0 .", "ok", "place 0 4 0", "ErrRange")
}

// trains one of a kind at a base: what it takes, and for how long.
func trains(t *testing.T, kind string, price, turns int) {
	t.Helper()
	pairs := []string{"field 1 60 ..", "ok", "place 0 0 0", "ok", "train 0 1 " + kind, "ok"}
	for range turns - 1 {
		pairs = append(pairs, "step", "0", "gold", strconv.Itoa(60-price), "units", "1,0,0,0,50,0")
	}
	plays(t, append(pairs, "step", "1", "gold", strconv.Itoa(60-price))...)
	plays(t, "field 1 "+strconv.Itoa(price-1)+" ..", "ok", "place 0 0 0", "ok", "train 0 1 "+kind, "ok", "step", "0", "gold", strconv.Itoa(price-1))
}

// carries asks one of a kind to gather till it does no more.
func carries(t *testing.T, kind string, most int) {
	t.Helper()
	pairs := []string{"field 1 0 9", "ok", "place 0 " + kind + " 0", "ok", "gather 0 1 0", "ok"}
	for range most / 10 {
		pairs = append(pairs, "step", "1")
	}
	plays(t, append(pairs, "step", "0")...)
}

// strikes puts two of a kind as far apart as they strike, and one further.
func strikes(t *testing.T, kind string, life, hit, reach int) {
	t.Helper()
	first, second := "1,0,"+kind+",0,", " 2,1,"+kind+","
	far, near := strconv.Itoa(reach+1), strconv.Itoa(max(reach, 1))
	full, less, struck := strconv.Itoa(life)+",0", strconv.Itoa(life-hit)+",0", "2"
	if hit == 0 {
		struck = "0"
	}
	plays(t, "field 2 0 .....", "ok", "place 0 "+kind+" 0", "ok", "place 1 "+kind+" "+far, "ok", "step", "0", "units", first+full+second+far+","+full)
	plays(t, "field 2 0 .....", "ok", "place 0 "+kind+" 0", "ok", "place 1 "+kind+" "+near, "ok", "step", struck, "units", first+less+second+near+","+less)
}
