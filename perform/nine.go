package perform

import (
	"math"

	"bellwether/api"
	"bellwether/fields"
	"bellwether/value"
)

// nature: the name of a kind of performatives, how many fields it has at most, how they are put and got, and what is left of one without its own fields.
type nature struct {
	name string
	most int
	put  func(p api.Perform) []api.Value
	get  func(f *fields.Fields) api.Perform
	rest func(p api.Perform) api.Perform
}

// theNine: the kinds of performatives, in their order.
func theNine() []nature {
	return []nature{
		{"amqp:open:list", 10, putOpen, getOpen, restOpen},
		{"amqp:begin:list", 8, putBegin, getBegin, restBegin},
		{"amqp:attach:list", 14, putAttach, getAttach, restAttach},
		{"amqp:flow:list", 11, putFlow, getFlow, restFlow},
		{"amqp:transfer:list", 11, putTransfer, getTransfer, restTransfer},
		{"amqp:disposition:list", 6, putDisposition, getDisposition, restDisposition},
		{"amqp:detach:list", 3, putDetach, getDetach, restDetach},
		{"amqp:end:list", 1, putEnd, getEnd, restEnd},
		{"amqp:close:list", 1, putEnd, getEnd, restEnd},
	}
}

func putOpen(p api.Perform) []api.Value {
	return []api.Value{
		value.Text(api.ValString, p.Id),
		wanting(p.Host, "", value.Text(api.ValString, p.Host)),
		wanting(p.MaxFrame, math.MaxUint32, number(p.MaxFrame)),
		wanting(p.Channels, math.MaxUint16, value.Number(api.ValUshort, uint64(p.Channels))),
		wanting(p.Idle, 0, number(p.Idle)),
	}
}

func getOpen(f *fields.Fields) api.Perform {
	letGo(f, 5, symbols, symbols, symbols, symbols, api.ValMap)
	return api.Perform{
		Id:       f.Text(0, api.ValString, true),
		Host:     f.Text(1, api.ValString, false),
		MaxFrame: asked[uint32](f, 2, api.ValUint, math.MaxUint32),
		Channels: asked[uint16](f, 3, api.ValUshort, math.MaxUint16),
		Idle:     asked[uint32](f, 4, api.ValUint, 0),
	}
}

func restOpen(p api.Perform) api.Perform {
	p.Id, p.Host, p.MaxFrame, p.Channels, p.Idle = "", "", 0, 0, 0
	return p
}

func putBegin(p api.Perform) []api.Value {
	return []api.Value{
		wanting(p.Remote, none, value.Number(api.ValUshort, uint64(p.Remote))),
		number(p.NextOut),
		number(p.InWin),
		number(p.OutWin),
		wanting(p.Handles, math.MaxUint32, number(p.Handles)),
	}
}

func getBegin(f *fields.Fields) api.Perform {
	letGo(f, 5, symbols, symbols, api.ValMap)
	return api.Perform{
		Remote:  asked[int](f, 0, api.ValUshort, none),
		NextOut: uint32(must(f, 1)),
		InWin:   uint32(must(f, 2)),
		OutWin:  uint32(must(f, 3)),
		Handles: asked[uint32](f, 4, api.ValUint, math.MaxUint32),
	}
}

func restBegin(p api.Perform) api.Perform {
	p.Remote, p.NextOut, p.InWin, p.OutWin, p.Handles = 0, 0, 0, 0, 0
	return p
}

func putAttach(p api.Perform) []api.Value {
	count := value.Null()
	if !p.Role {
		count = number(p.Count)
	}
	return []api.Value{
		value.Text(api.ValString, p.Name),
		number(p.Handle),
		value.Bool(p.Role),
		wanting(p.Snd, mixed, value.Number(api.ValUbyte, uint64(p.Snd))),
		wanting(p.Rcv, 0, value.Number(api.ValUbyte, uint64(p.Rcv))),
		putAddress(sourceCode, p.Source),
		putAddress(targetCode, p.Target),
		putMarks(p.Marks),
		value.Null(),
		count,
	}
}

func getAttach(f *fields.Fields) api.Perform {
	letGo(f, 8, api.ValBool)
	letGo(f, 10, api.ValUlong, symbols, symbols, api.ValMap)
	p := api.Perform{
		Name:   f.Text(0, api.ValString, true),
		Handle: int(must(f, 1)),
		Role:   f.Bool(2, true),
		Snd:    atMost(f, 3, maxSnd, mixed),
		Rcv:    atMost(f, 4, maxRcv, 0),
		Source: getSource(f, 5),
		Target: getTarget(f, 6),
		Marks:  getMarks(f, 7),
	}
	if count := f.Number(9, api.ValUint, !p.Role, 0); !p.Role {
		p.Count = uint32(count)
	}
	return p
}

func restAttach(p api.Perform) api.Perform {
	if !p.Role {
		p.Count = 0
	}
	p.Name, p.Handle, p.Role, p.Snd, p.Rcv = "", 0, false, 0, 0
	p.Source, p.Target, p.Marks = "", "", nil
	return p
}

func putFlow(p api.Perform) []api.Value {
	count, credit := value.Null(), value.Null()
	if p.Handle != none {
		count, credit = number(p.Count), number(p.Credit)
	}
	return []api.Value{
		wanting(p.NextIn, none, number(p.NextIn)),
		number(p.InWin),
		number(p.NextOut),
		number(p.OutWin),
		wanting(p.Handle, none, number(p.Handle)),
		count,
		credit,
		value.Null(),
		wanting(p.Drain, false, value.Bool(true)),
		wanting(p.Echo, false, value.Bool(true)),
	}
}

func getFlow(f *fields.Fields) api.Perform {
	letGo(f, 7, api.ValUint)
	letGo(f, 10, api.ValMap)
	p := api.Perform{
		NextIn:  asked[int64](f, 0, api.ValUint, none),
		InWin:   uint32(must(f, 1)),
		NextOut: uint32(must(f, 2)),
		OutWin:  uint32(must(f, 3)),
		Handle:  asked[int](f, 4, api.ValUint, none),
		Count:   asked[uint32](f, 5, api.ValUint, 0),
		Credit:  asked[uint32](f, 6, api.ValUint, 0),
		Drain:   f.Bool(8, false),
		Echo:    f.Bool(9, false),
	}
	if p.Handle == none {
		p.Count, p.Credit, p.Drain = 0, 0, false
	}
	return p
}

func restFlow(p api.Perform) api.Perform {
	if p.Handle != none {
		p.Count, p.Credit, p.Drain = 0, 0, false
	}
	p.NextIn, p.InWin, p.NextOut, p.OutWin, p.Handle, p.Echo = 0, 0, 0, 0, 0, false
	return p
}

func putTransfer(p api.Perform) []api.Value {
	return []api.Value{
		number(p.Handle),
		wanting(p.First, none, number(p.First)),
		wanting(p.Tag, "", value.Text(api.ValBinary, p.Tag)),
		value.Null(),
		wanting(p.Settled, false, value.Bool(true)),
		wanting(p.More, false, value.Bool(true)),
		value.Null(),
		putState(p.State),
		wanting(p.Resume, false, value.Bool(true)),
		wanting(p.Aborted, false, value.Bool(true)),
	}
}

func getTransfer(f *fields.Fields) api.Perform {
	letGo(f, 3, api.ValUint)
	atMost(f, 6, maxRcv, 0)
	letGo(f, 10, api.ValBool)
	return api.Perform{
		Handle:  int(must(f, 0)),
		First:   asked[int64](f, 1, api.ValUint, none),
		Tag:     getTag(f, 2),
		Settled: f.Bool(4, false),
		More:    f.Bool(5, false),
		State:   getState(f, 7),
		Resume:  f.Bool(8, false),
		Aborted: f.Bool(9, false),
	}
}

func restTransfer(p api.Perform) api.Perform {
	p.Handle, p.First, p.Tag, p.State, p.Payload = 0, 0, "", api.Outcome{}, nil
	p.Settled, p.More, p.Resume, p.Aborted = false, false, false, false
	return p
}

func putDisposition(p api.Perform) []api.Value {
	return []api.Value{
		value.Bool(p.Role),
		number(p.First),
		wanting(int64(p.Last), p.First, number(p.Last)),
		wanting(p.Settled, false, value.Bool(true)),
		putState(p.State),
	}
}

func getDisposition(f *fields.Fields) api.Perform {
	letGo(f, 5, api.ValBool)
	first := must(f, 1)
	return api.Perform{
		Role:    f.Bool(0, true),
		First:   int64(first),
		Last:    asked(f, 2, api.ValUint, uint32(first)),
		Settled: f.Bool(3, false),
		State:   getState(f, 4),
	}
}

func restDisposition(p api.Perform) api.Perform {
	p.Role, p.First, p.Last, p.Settled, p.State = false, 0, 0, false, api.Outcome{}
	return p
}

func putDetach(p api.Perform) []api.Value {
	return []api.Value{
		number(p.Handle),
		wanting(p.Closed, false, value.Bool(true)),
		putCond(p.Cond),
	}
}

func getDetach(f *fields.Fields) api.Perform {
	return api.Perform{Handle: int(must(f, 0)), Closed: f.Bool(1, false), Cond: getCond(f, 2)}
}

func restDetach(p api.Perform) api.Perform {
	p.Handle, p.Closed, p.Cond = 0, false, ""
	return p
}

// An End and a Close have the same fields.
func putEnd(p api.Perform) []api.Value { return []api.Value{putCond(p.Cond)} }

func getEnd(f *fields.Fields) api.Perform { return api.Perform{Cond: getCond(f, 0)} }

func restEnd(p api.Perform) api.Perform {
	p.Cond = ""
	return p
}
