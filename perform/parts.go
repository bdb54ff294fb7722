package perform

import (
	"bellwether/api"
	"bellwether/fields"
	"bellwether/outcome"
	"bellwether/value"
)

const (
	none   = -1 // of a number that is not there
	mixed  = 2  // how a sender settles, if it is not told
	maxSnd = 2
	maxRcv = 1
)

// What a source and a target are called, and how many fields they have at most.
const (
	sourceCode   = 0x28
	sourceName   = "amqp:source:list"
	sourceFields = 11

	targetCode   = 0x29
	targetName   = "amqp:target:list"
	targetFields = 7
)

// Of the kinds that are let go two stand for what is more than one kind of values: one symbol or many, and an outcome.
const (
	symbols = api.ValArray
	state   = api.ValDesc
)

// integer: what a number of a field may be here.
type integer interface {
	int | int64 | uint8 | uint16 | uint32
}

// wanting: v, or null, if the field is what it would be if it were not there.
func wanting[T comparable](is, none T, v api.Value) api.Value {
	if is == none {
		return value.Null()
	}
	return v
}

// asked: the number of a kind at a place that may be wanting; -1 comes through as it is.
func asked[N integer](f *fields.Fields, i int, kind uint8, none N) N {
	return N(f.Number(i, kind, false, uint64(none)))
}

// number: what a ValUint is told as; one below 0 makes a value that may not be.
func number[N integer](n N) api.Value { return value.Number(api.ValUint, uint64(n)) }

// must: a ValUint that must be there.
func must(f *fields.Fields, i int) uint64 { return f.Number(i, api.ValUint, true, 0) }

// atMost: a small number, which is most at most.
func atMost(f *fields.Fields, i int, most, none uint8) uint8 {
	n := asked(f, i, api.ValUbyte, none)
	if n > most {
		f.Spoil()
	}
	return n
}

// letGo reads the fields from a place on: each is of its kind, or there is nothing.
func letGo(f *fields.Fields, from int, kinds ...uint8) {
	for i, kind := range kinds {
		switch kind {
		case symbols:
			f.Symbols(from + i)
		case state:
			getState(f, from+i)
		default:
			f.Value(from+i, []uint8{kind})
		}
	}
}

// putState: a state that may be.
func putState(o api.Outcome) api.Value {
	v, _ := outcome.Put(o)
	return v
}

func getState(f *fields.Fields, i int) api.Outcome {
	o, e := outcome.Get(f.Value(i, nil))
	if e != api.OK {
		f.Spoil()
	}
	return o
}

// putCond: a condition that may be.
func putCond(cond string) api.Value {
	v, _ := outcome.PutCond(cond)
	return v
}

func getCond(f *fields.Fields, i int) string {
	cond, e := outcome.GetCond(f.Value(i, nil))
	if e != api.OK {
		f.Spoil()
	}
	return cond
}

func getTag(f *fields.Fields, i int) string {
	tag := f.Text(i, api.ValBinary, false)
	if !isTag(tag) {
		f.Spoil()
	}
	return tag
}

// putAddress: a source or a target, called so.
func putAddress(code uint64, address string) api.Value {
	if address == "" {
		return value.Null()
	}
	return fields.Put(code, []api.Value{value.Text(api.ValString, address)})
}

func getSource(f *fields.Fields, i int) string {
	return getAddress(f, i, sourceCode, sourceName, sourceFields,
		api.ValUint, api.ValSymbol, api.ValUint, api.ValBool, api.ValMap, api.ValSymbol, api.ValMap, state, symbols, symbols)
}

func getTarget(f *fields.Fields, i int) string {
	return getAddress(f, i, targetCode, targetName, targetFields,
		api.ValUint, api.ValSymbol, api.ValUint, api.ValBool, api.ValMap, symbols)
}

// getAddress: the first field of what is called so, behind which others stand that are let go.
func getAddress(f *fields.Fields, i int, code uint64, name string, most int, others ...uint8) string {
	if !f.Has(i) {
		return ""
	}
	end, e := fields.New(f.Value(i, nil), code, name)
	if e != api.OK {
		f.Spoil()
		return ""
	}
	address := end.Text(0, api.ValString, false)
	letGo(end, 1, others...)
	if end.Done(most) != api.OK {
		f.Spoil()
	}
	return address
}

// putMarks: a map, by tags.
func putMarks(l []api.Mark) api.Value {
	if len(l) == 0 {
		return value.Null()
	}
	var kids []api.Value
	for _, m := range l {
		kids = append(kids, value.Text(api.ValBinary, m.Tag), putState(m.State))
	}
	return value.Many(api.ValMap, kids)
}

func getMarks(f *fields.Fields, i int) []api.Mark {
	var l []api.Mark
	kids := f.Value(i, []uint8{api.ValMap}).Kids
	for n := 0; n+1 < len(kids); n += 2 {
		tag := kids[n]
		o, e := outcome.Get(kids[n+1])
		if e != api.OK || tag.Kind != api.ValBinary || !isTag(tag.Text) {
			f.Spoil()
		}
		l = append(l, api.Mark{Tag: tag.Text, State: o})
	}
	return l
}
