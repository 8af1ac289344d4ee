package world

import (
	"marchland/api"
	"marchland/packed"
)

// Encode writes a world.
func Encode(w api.World) []byte { return packed.Write(numbers(w)) }

// numbers of a world stand in the order in which they are written.
func numbers(w api.World) []int {
	f := w.Field
	l := []int{w.Turn, w.Next, f.Wide, f.High}
	for _, list := range [][]int{f.Ground, f.Ore, w.Gold} {
		l = append(l, len(list))
		l = append(l, list...)
	}
	l = append(l, len(w.Units))
	for _, u := range w.Units {
		l = append(l, u.Id, u.Player, u.Kind, u.At, u.Life, u.Load, u.Task, u.Goal)
	}
	l = append(l, len(w.Queue))
	for _, j := range w.Queue {
		l = append(l, j.Player, j.Unit, j.Kind, j.Left)
	}
	return l
}

// Decode reads a world.
func Decode(b []byte) (api.World, int, error) {
	at, wrong := 0, false
	next := func() int {
		n, long := packed.Read(b[at:])
		at += long
		wrong = wrong || long == 0
		return n
	}
	// Of what is wrong there are none, so that no list is read any further.
	many := func() int {
		n := next()
		wrong = wrong || !within(n, 0, api.MaxItems)
		if wrong {
			return 0
		}
		return n
	}
	w := readWorld(next, many)
	if wrong {
		return api.World{}, 0, api.ErrFile
	}
	return w, at, nil
}

// readWorld takes the numbers of a world by next, and how many a list has by many: Go makes the calls of a literal from left to right, so that they come in the order in which they are written.
func readWorld(next, many func() int) api.World {
	unit := func() api.Unit {
		return api.Unit{Id: next(), Player: next(), Kind: next(), At: next(), Life: next(), Load: next(), Task: next(), Goal: next()}
	}
	job := func() api.Job {
		return api.Job{Player: next(), Unit: next(), Kind: next(), Left: next()}
	}
	return api.World{
		Turn: next(), Next: next(),
		Field: api.Field{Wide: next(), High: next(), Ground: readList(many, next), Ore: readList(many, next)},
		Gold:  readList(many, next),
		Units: readList(many, unit),
		Queue: readList(many, job),
	}
}

func readList[T any](many func() int, one func() T) []T {
	var l []T
	for range many() {
		l = append(l, one())
	}
	return l
}

const (
	firstSum = 1
	times    = 257
	modulus  = 1_000_000_007
)

// Sum of a world.
func Sum(w api.World) int {
	x := firstSum
	for _, c := range Encode(w) {
		x = (x*times + int(c)) % modulus
	}
	return x
}
