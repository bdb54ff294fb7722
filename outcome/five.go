package outcome

import (
	"bellwether/api"
	"bellwether/fields"
	"bellwether/value"
)

// state: what a kind of outcome is called as a value, how many fields it has at most, how they are told of an outcome that may be, and how they are read.
type state struct {
	kind uint8
	code uint64
	name string
	most int
	tell func(o api.Outcome) []api.Value
	read func(f *fields.Fields) api.Outcome
}

// theFive: the kinds of outcomes but none, which is told as null.
func theFive() []state {
	return []state{
		{api.OutReceived, 0x23, "amqp:received:list", 2, tellReceived, readReceived},
		{api.OutAccepted, 0x24, "amqp:accepted:list", 0, tellNothing, readAccepted},
		{api.OutRejected, 0x25, "amqp:rejected:list", 1, tellRejected, readRejected},
		{api.OutReleased, 0x26, "amqp:released:list", 0, tellNothing, readReleased},
		{api.OutModified, 0x27, "amqp:modified:list", 3, tellModified, readModified},
	}
}

func tellNothing(api.Outcome) []api.Value { return nil }

func tellReceived(o api.Outcome) []api.Value {
	return []api.Value{value.Number(api.ValUint, o.A), value.Number(api.ValUlong, o.B)}
}

func tellRejected(o api.Outcome) []api.Value {
	// An outcome that may be has no condition that may not.
	v, _ := PutCond(o.Cond)
	return []api.Value{v}
}

func tellModified(o api.Outcome) []api.Value {
	return []api.Value{trueOrNull(o.A), trueOrNull(o.B)}
}

// trueOrNull: what is not so isn't told.
func trueOrNull(n uint64) api.Value {
	if n == 0 {
		return value.Null()
	}
	return value.Bool(true)
}

func readReceived(f *fields.Fields) api.Outcome {
	return api.Outcome{Kind: api.OutReceived, A: f.Number(0, api.ValUint, true, 0), B: f.Number(1, api.ValUlong, true, 0)}
}

func readAccepted(*fields.Fields) api.Outcome { return api.Outcome{Kind: api.OutAccepted} }

func readRejected(f *fields.Fields) api.Outcome {
	cond, e := GetCond(f.Value(0, nil))
	if e != api.OK {
		f.Spoil()
	}
	return api.Outcome{Kind: api.OutRejected, Cond: cond}
}

func readReleased(*fields.Fields) api.Outcome { return api.Outcome{Kind: api.OutReleased} }

func readModified(f *fields.Fields) api.Outcome {
	// What else it tells is let go, but it spoils the fields if it is of another kind.
	f.Value(2, []uint8{api.ValMap})
	return api.Outcome{Kind: api.OutModified, A: f.Number(0, api.ValBool, false, 0), B: f.Number(1, api.ValBool, false, 0)}
}
