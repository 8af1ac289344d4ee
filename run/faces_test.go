package run_test

import (
	"marchland/api"
	"marchland/chron"
	"marchland/dice"
	"marchland/feed"
	"marchland/field"
	"marchland/fight"
	"marchland/fix"
	"marchland/hall"
	"marchland/kinds"
	"marchland/lock"
	"marchland/move"
	"marchland/orders"
	"marchland/path"
	"marchland/replay"
	"marchland/run"
	"marchland/score"
	"marchland/sight"
	"marchland/tape"
	"marchland/turn"
	"marchland/works"
	"marchland/world"
)

// Short forms of types that the chapters' lists say often.
type (
	crowd  = []api.Kind
	asked  = []api.Order
	told   = []api.Event
	events = func(crowd, api.World) (api.World, told, error)
)

// The faces that the chapters list: this file does not build where one is missing, or is another one.
var (
	_ func(int) (int, error)                = fix.Of
	_ func(int) int                         = fix.Whole
	_ func(int, int) (int, error)           = fix.Mul
	_ func(int, int) (int, error)           = fix.Div
	_ func(int) (int, error)                = fix.Root
	_ func(int, int, int, int) (int, error) = fix.Far

	_ func(int) *dice.Dice                     = dice.New
	_ func(*dice.Dice) int                     = (*dice.Dice).Next
	_ func(*dice.Dice, int) (int, error)       = (*dice.Dice).Below
	_ func(*dice.Dice, []int) ([]int, error)   = (*dice.Dice).Mix
	_ func(*dice.Dice, int) *dice.Dice         = (*dice.Dice).Fork
	_ func(*dice.Dice) int                     = (*dice.Dice).State
	_ func(api.Field) error                    = field.Check
	_ func(string) (api.Field, int, error)     = field.Parse
	_ func(api.Field) (string, error)          = field.Print
	_ func(api.Field, int) ([]int, error)      = field.Near
	_ func(api.Field, int, bool) (int, error)  = field.Step
	_ func(api.Field, int, int) ([]int, error) = field.Line

	_ func(api.Field, int, int, int) (bool, error)   = field.Sees
	_ func(api.Field, int, bool) ([]int, error)      = path.Far
	_ func(api.Field, int, int, bool) (int, error)   = path.Next
	_ func(api.Field, int, int, bool) ([]int, error) = path.Path
	_ func(api.Field, int, int, bool) ([]int, error) = path.Reach

	_ func(crowd) error                        = kinds.Check
	_ func(string) (crowd, int, error)         = kinds.Parse
	_ func(crowd) (string, error)              = kinds.Print
	_ func(crowd, string) (int, error)         = kinds.Find
	_ func(crowd, []api.Unit) ([]int, error)   = kinds.Worth
	_ func(asked) error                        = orders.Check
	_ func(string) (asked, int, error)         = orders.Parse
	_ func(asked) (string, error)              = orders.Print
	_ func(asked) (asked, error)               = orders.Last
	_ func([][]api.Order) ([]api.Order, error) = orders.Merge

	_ func(crowd, api.Field, int, int) (api.World, error)      = world.New
	_ func(crowd, api.World, int, int, int) (api.World, error) = world.Place
	_ func(crowd, api.World) error                             = world.Check
	_ func(api.World) []byte                                   = world.Encode
	_ func([]byte) (api.World, int, error)                     = world.Decode
	_ func(api.World) int                                      = world.Sum
	_ func(api.World, int) int                                 = world.Find

	_ events                                         = move.Move
	_ func(crowd, api.World, int) (int, error)       = move.Wish
	_ events                                         = works.Dig
	_ events                                         = works.Train
	_ func(crowd, api.World, int, int) (int, error)  = works.Spot
	_ func(crowd, api.World, int) (int, error)       = fight.Target
	_ events                                         = fight.Fight
	_ func(crowd, api.World, int) ([]bool, error)    = sight.Seen
	_ func(crowd, api.World, int) (api.World, error) = sight.View
	_ func(crowd, api.World, int) ([]int, error)     = sight.Seers
	_ func(crowd, api.World) ([]int, error)          = score.Points
	_ func(api.World) (int, bool)                    = score.Winner
	_ func([]int) ([]int, error)                     = score.Rank
	_ func(int, int, int) (int, int, error)          = score.Rate

	_ func(crowd, api.World, asked) (api.World, []int, error) = turn.Give
	_ func(crowd, api.World, asked) (api.World, told, error)  = turn.Step
	_ func(crowd, api.World, []asked) (api.World, error)      = turn.Play

	_ func([]byte, []byte) ([]api.Change, error)                   = feed.Diff
	_ func([]byte, []api.Change) ([]byte, error)                   = feed.Apply
	_ func([]api.Change) ([]byte, error)                           = feed.Pack
	_ func([]byte) ([]api.Change, int, error)                      = feed.Unpack
	_ func(crowd, api.World, api.World, int) ([]api.Change, error) = feed.News

	_ func(int, int) (*lock.Lock, error)      = lock.New
	_ func(*lock.Lock, int, int, asked) error = (*lock.Lock).Send
	_ func(*lock.Lock, int) error             = (*lock.Lock).Drop
	_ func(*lock.Lock) bool                   = (*lock.Lock).Ready
	_ func(*lock.Lock) (int, asked, error)    = (*lock.Lock).Take
	_ func(*lock.Lock) int                    = (*lock.Lock).Now
	_ func(*lock.Lock) []int                  = (*lock.Lock).Waits

	_ func() *tape.Tape                     = tape.New
	_ func(*tape.Tape, []byte) (int, error) = (*tape.Tape).Append
	_ func(*tape.Tape) error                = (*tape.Tape).Sync
	_ func(*tape.Tape, int) error           = (*tape.Tape).Cut
	_ func(*tape.Tape) []byte               = (*tape.Tape).Bytes
	_ func(*tape.Tape) int                  = (*tape.Tape).Safe
	_ func(*tape.Tape, int)                 = (*tape.Tape).Crash
	_ func(*tape.Tape, int)                 = (*tape.Tape).Fail
	_ func(*tape.Tape) int                  = (*tape.Tape).Steps
	_ func([]byte) []byte                   = tape.Frame
	_ func([]byte) ([][]byte, int)          = tape.Frames

	_ func(*tape.Tape, crowd, api.World) error            = chron.Begin
	_ func(*tape.Tape, asked) error                       = chron.Turn
	_ func(*tape.Tape) (crowd, api.World, []asked, error) = chron.Recover
	_ func(*tape.Tape) (api.World, error)                 = chron.Now

	_ func(crowd, api.World, []asked) (string, error)         = replay.Export
	_ func(string) (crowd, api.World, []asked, error)         = replay.Import
	_ func(crowd, api.World, []asked) ([]int, error)          = replay.Sums
	_ func(crowd, api.World, []asked, int) (api.World, error) = replay.Seek
	_ func([]int, []int) (int, error)                         = replay.Parted

	_ func() *hall.Hall                                     = hall.New
	_ func(*hall.Hall, string, crowd, api.World, int) error = (*hall.Hall).Create
	_ func(*hall.Hall, string) error                        = (*hall.Hall).Drop
	_ func(*hall.Hall) []string                             = (*hall.Hall).Names
	_ func(*hall.Hall, string, int, asked) error            = (*hall.Hall).Send
	_ func(*hall.Hall, string) (bool, error)                = (*hall.Hall).Tick
	_ func(*hall.Hall, string) (api.World, error)           = (*hall.Hall).World
	_ func(*hall.Hall, string, int) (api.World, error)      = (*hall.Hall).View
	_ func(*hall.Hall, string) ([]asked, error)             = (*hall.Hall).Turns

	_ func(string) string = run.Run
)
