package perform_test

import (
	"bytes"
	"encoding/hex"
	"fmt"
	"math"
	"reflect"
	"strings"
	"testing"

	"bellwether/api"
	"bellwether/encode"
	"bellwether/perform"
	"bellwether/value"
)

func null() api.Value { return value.Null() }

func yes() api.Value { return value.Bool(true) }

func no() api.Value { return value.Bool(false) }

func ubyte(n uint64) api.Value { return value.Number(api.ValUbyte, n) }

func ushort(n uint64) api.Value { return value.Number(api.ValUshort, n) }

func uint32s(n uint64) api.Value { return value.Number(api.ValUint, n) }

func ulong(n uint64) api.Value { return value.Number(api.ValUlong, n) }

func binary(s string) api.Value { return value.Text(api.ValBinary, s) }

func str(s string) api.Value { return value.Text(api.ValString, s) }

func symbol(s string) api.Value { return value.Text(api.ValSymbol, s) }

func list(l ...api.Value) api.Value { return value.Many(api.ValList, l) }

func array(l ...api.Value) api.Value { return value.Many(api.ValArray, l) }

func dict(l ...api.Value) api.Value { return value.Many(api.ValMap, l) }

func called(n uint64, l ...api.Value) api.Value { return value.Desc(ulong(n), list(l...)) }

func named(s string, l ...api.Value) api.Value { return value.Desc(symbol(s), list(l...)) }

// fault: an error of a condition, as a value.
func fault(cond string) api.Value { return called(0x1d, symbol(cond)) }

// names of the kinds, in their order.
func names() []string {
	return []string{"amqp:open:list", "amqp:begin:list", "amqp:attach:list", "amqp:flow:list", "amqp:transfer:list", "amqp:disposition:list", "amqp:detach:list", "amqp:end:list", "amqp:close:list"}
}

// both: a value of a kind, called by its code and by its name.
func both(kind uint8, l ...api.Value) []api.Value {
	return []api.Value{called(0x0f+uint64(kind), l...), named(names()[kind-1], l...)}
}

// same: are two performatives the same? Nil and empty lists are.
func same(a, b api.Perform) bool {
	for _, p := range []*api.Perform{&a, &b} {
		if len(p.Marks) == 0 {
			p.Marks = nil
		}
		if len(p.Payload) == 0 {
			p.Payload = nil
		}
	}
	return reflect.DeepEqual(a, b)
}

// brief tells anything in a message of moderate length.
func brief(v any) string {
	s := fmt.Sprintf("%+v", v)
	return s[:min(len(s), 300)]
}

// puts: Put answers so.
func puts(t *testing.T, p api.Perform, want api.Value, e api.Errno) {
	t.Helper()
	v, got := perform.Put(p)
	if got != e || !value.Same(v, want) {
		t.Errorf("P9.1: Put of %s: %s, %d, not %s, %d", brief(p), brief(v), got, brief(want), e)
	}
}

// mayNot: a performative may not be.
func mayNot(t *testing.T, p api.Perform) {
	t.Helper()
	puts(t, p, api.Value{}, api.ErrArg)
	if b, e := perform.Write(p); e != api.ErrArg || len(b) != 0 {
		t.Errorf("P9.3: Write of %s: % x, %d", brief(p), b, e)
	}
}

// gets: Get answers so, and so does Read of its bytes.
func gets(t *testing.T, v api.Value, want api.Perform, e api.Errno) {
	t.Helper()
	p, got := perform.Get(v)
	if got != e || !same(p, want) {
		t.Errorf("P9.2: Get of %s: %s, %d, not %s, %d", brief(v), brief(p), got, brief(want), e)
	}
	if b, wrong := encode.Value(v); wrong == api.OK {
		reads(t, b, want, e)
	}
}

// reads: Read answers so.
func reads(t *testing.T, b []byte, want api.Perform, e api.Errno) {
	t.Helper()
	p, got := perform.Read(b)
	if got != e || !same(p, want) {
		t.Errorf("P9.3: Read of %.100x: %s, %d, not %s, %d", b, brief(p), got, brief(want), e)
	}
}

// goes: a performative is put as the value, which is told as it; its body is the value's bytes, and its payload behind them.
func goes(t *testing.T, p api.Perform, want api.Value) {
	t.Helper()
	puts(t, p, want, api.OK)
	if !value.Right(want) {
		t.Errorf("P9.1: %s may not be", brief(want))
	}
	bare := p
	bare.Payload = nil
	gets(t, want, bare, api.OK)
	body, e := encode.Value(want)
	if e != api.OK {
		t.Fatalf("P9.1: encode of %s: %d", brief(want), e)
	}
	body = append(body, p.Payload...)
	b, e := perform.Write(p)
	if e != api.OK || !bytes.Equal(b, body) {
		t.Errorf("P9.3: Write of %s: % x, %d, not % x", brief(p), b, e, body)
	}
	reads(t, b, p, api.OK)
}

func TestExamples(t *testing.T) {
	for _, c := range []struct {
		p    api.Perform
		body string
	}{
		{api.Perform{Kind: api.PerOpen, Id: "a", MaxFrame: 512, Channels: 65535}, "00 53 10 c0 0a 03 a1 01 61 40 70 00 00 02 00"},
		{api.Perform{Kind: api.PerClose}, "00 53 18 45"},
		{api.Perform{Kind: api.PerFlow, NextIn: -1, InWin: 5, OutWin: 7, Handle: -1, Echo: true}, "00 53 13 c0 0d 0a 40 52 05 43 52 07 40 40 40 40 40 41"},
		{api.Perform{Kind: api.PerDisposition, Role: true, First: 3, Last: 3, Settled: true, State: api.Outcome{Kind: api.OutAccepted}}, "00 53 15 c0 0a 05 41 52 03 40 41 00 53 24 45"},
		{api.Perform{Kind: api.PerTransfer, First: 1, Tag: "\x09", Payload: []byte{0xff}}, "00 53 14 c0 07 03 43 52 01 a0 01 09 ff"},
	} {
		body, _ := hex.DecodeString(strings.ReplaceAll(c.body, " ", ""))
		b, e := perform.Write(c.p)
		if e != api.OK || !bytes.Equal(b, body) {
			t.Errorf("P9.3: Write of %s: % x, %d, not %s", brief(c.p), b, e, c.body)
		}
		reads(t, body, c.p, api.OK)
	}
}

// asIf: of each kind, what it is if nothing is there but what must be.
func asIf(kind uint8) api.Perform {
	return []api.Perform{
		{Kind: kind, MaxFrame: math.MaxUint32, Channels: 65535},
		{Kind: kind, Remote: -1, Handles: math.MaxUint32},
		{Kind: kind, Snd: 2},
		{Kind: kind, NextIn: -1, Handle: -1},
		{Kind: kind, First: -1},
		{Kind: kind},
		{Kind: kind},
		{Kind: kind},
		{Kind: kind},
	}[kind-1]
}

// least: of each kind, its fields, if nothing is there but what must be.
func least(kind uint8) []api.Value {
	return [][]api.Value{
		{str("")},
		{null(), uint32s(0), uint32s(0), uint32s(0)},
		{str(""), uint32s(0), no(), null(), null(), null(), null(), null(), null(), uint32s(0)},
		{null(), uint32s(0), uint32s(0), uint32s(0)},
		{uint32s(0)},
		{no(), uint32s(0)},
		{uint32s(0)},
		nil,
		nil,
	}[kind-1]
}

func TestLeast(t *testing.T) {
	for kind := api.PerOpen; kind <= api.PerClose; kind++ {
		goes(t, asIf(kind), called(0x0f+uint64(kind), least(kind)...))
		for _, v := range both(kind, least(kind)...) {
			gets(t, v, asIf(kind), api.OK)
		}
	}
}

func TestPut(t *testing.T) {
	max := uint32(math.MaxUint32)
	great := uint32s(math.MaxUint32)
	rejected := api.Outcome{Kind: api.OutRejected, Cond: "x"}
	for _, c := range []struct {
		p api.Perform
		l []api.Value
	}{
		{api.Perform{Kind: api.PerOpen}, []api.Value{str(""), null(), uint32s(0), ushort(0)}},
		{api.Perform{Kind: api.PerOpen, Id: "é", Host: "h", MaxFrame: max - 1, Channels: 65534, Idle: max}, []api.Value{str("é"), str("h"), uint32s(math.MaxUint32 - 1), ushort(65534), great}},
		{api.Perform{Kind: api.PerOpen, MaxFrame: max, Channels: 65535, Idle: 1}, []api.Value{str(""), null(), null(), null(), uint32s(1)}},
		{api.Perform{Kind: api.PerBegin}, []api.Value{ushort(0), uint32s(0), uint32s(0), uint32s(0), uint32s(0)}},
		{api.Perform{Kind: api.PerBegin, Remote: 65535, NextOut: max, InWin: max, OutWin: max, Handles: max}, []api.Value{ushort(65535), great, great, great}},
		{api.Perform{Kind: api.PerBegin, Remote: -1, NextOut: 1, InWin: 2, OutWin: 3, Handles: max - 1}, []api.Value{null(), uint32s(1), uint32s(2), uint32s(3), uint32s(math.MaxUint32 - 1)}},
		{api.Perform{Kind: api.PerAttach}, []api.Value{str(""), uint32s(0), no(), ubyte(0), null(), null(), null(), null(), null(), uint32s(0)}},
		{api.Perform{Kind: api.PerAttach, Role: true}, []api.Value{str(""), uint32s(0), yes(), ubyte(0)}},
		{api.Perform{Kind: api.PerAttach, Name: "l", Handle: math.MaxUint32, Role: true, Snd: 1, Rcv: 1, Source: "q"}, []api.Value{str("l"), great, yes(), ubyte(1), ubyte(1), called(0x28, str("q"))}},
		{api.Perform{Kind: api.PerAttach, Name: "l", Handle: 7, Snd: 2, Target: "q", Count: max}, []api.Value{str("l"), uint32s(7), no(), null(), null(), null(), called(0x29, str("q")), null(), null(), great}},
		{api.Perform{Kind: api.PerAttach, Role: true, Snd: 2, Marks: []api.Mark{{Tag: "b"}, {Tag: "", State: rejected}, {Tag: "a", State: api.Outcome{Kind: api.OutAccepted}}}},
			[]api.Value{str(""), uint32s(0), yes(), null(), null(), null(), null(), dict(binary("b"), null(), binary(""), called(0x25, fault("x")), binary("a"), called(0x24))}},
		{api.Perform{Kind: api.PerFlow}, []api.Value{uint32s(0), uint32s(0), uint32s(0), uint32s(0), uint32s(0), uint32s(0), uint32s(0)}},
		{api.Perform{Kind: api.PerFlow, NextIn: math.MaxUint32, InWin: max, NextOut: max, OutWin: max, Handle: math.MaxUint32, Count: max, Credit: max, Drain: true}, []api.Value{great, great, great, great, great, great, great, null(), yes()}},
		{api.Perform{Kind: api.PerFlow, NextIn: 1, InWin: 2, NextOut: 3, OutWin: 4, Handle: 5, Credit: 6, Drain: true, Echo: true}, []api.Value{uint32s(1), uint32s(2), uint32s(3), uint32s(4), uint32s(5), uint32s(0), uint32s(6), null(), yes(), yes()}},
		{api.Perform{Kind: api.PerFlow, NextIn: -1, Handle: 5, Count: 6}, []api.Value{null(), uint32s(0), uint32s(0), uint32s(0), uint32s(5), uint32s(6), uint32s(0)}},
		{api.Perform{Kind: api.PerTransfer}, []api.Value{uint32s(0), uint32s(0)}},
		{api.Perform{Kind: api.PerTransfer, Handle: math.MaxUint32, First: math.MaxUint32, Tag: "t", Settled: true, More: true, State: rejected, Resume: true, Aborted: true, Payload: []byte("pay")},
			[]api.Value{great, great, binary("t"), null(), yes(), yes(), null(), called(0x25, fault("x")), yes(), yes()}},
		{api.Perform{Kind: api.PerTransfer, First: -1, More: true, Payload: []byte{0}}, []api.Value{uint32s(0), null(), null(), null(), null(), yes()}},
		{api.Perform{Kind: api.PerDisposition, Role: true, First: math.MaxUint32, Last: 0}, []api.Value{yes(), great, uint32s(0)}},
		{api.Perform{Kind: api.PerDisposition, First: 1, Last: max, Settled: true}, []api.Value{no(), uint32s(1), great, yes()}},
		{api.Perform{Kind: api.PerDisposition, First: math.MaxUint32, Last: max, State: api.Outcome{Kind: api.OutReceived, A: 1, B: 2}}, []api.Value{no(), great, null(), null(), called(0x23, uint32s(1), ulong(2))}},
		{api.Perform{Kind: api.PerDetach, Handle: math.MaxUint32, Closed: true}, []api.Value{great, yes()}},
		{api.Perform{Kind: api.PerDetach, Cond: "\x7f"}, []api.Value{uint32s(0), null(), fault("\x7f")}},
		{api.Perform{Kind: api.PerEnd, Cond: api.CondWindow}, []api.Value{fault(api.CondWindow)}},
		{api.Perform{Kind: api.PerClose, Cond: api.CondFrame}, []api.Value{fault(api.CondFrame)}},
	} {
		goes(t, c.p, called(0x0f+uint64(c.p.Kind), c.l...))
	}
}

// TestMayNot: what is one beyond, or is not of its kind.
func TestMayNot(t *testing.T) {
	for _, kind := range []uint8{0, 10, 11, 255} {
		mayNot(t, api.Perform{Kind: kind})
	}
	beyond := 1 << 32
	long := strings.Repeat("t", api.MaxTag+1)
	wrong := api.Outcome{Kind: api.OutReceived, A: 1 << 32}
	for _, p := range []api.Perform{
		{Kind: api.PerOpen, Id: "\x80"}, {Kind: api.PerOpen, Host: "\xff"}, {Kind: api.PerOpen, Payload: []byte{0}}, {Kind: api.PerOpen, Cond: "x"},
		{Kind: api.PerBegin, Remote: -2}, {Kind: api.PerBegin, Remote: 65536}, {Kind: api.PerBegin, Remote: math.MinInt}, {Kind: api.PerBegin, Remote: math.MaxInt}, {Kind: api.PerBegin, Handle: -1},
		{Kind: api.PerAttach, Name: "\xc3"}, {Kind: api.PerAttach, Handle: -1}, {Kind: api.PerAttach, Handle: beyond}, {Kind: api.PerAttach, Handle: math.MinInt},
		{Kind: api.PerAttach, Snd: 3}, {Kind: api.PerAttach, Snd: 255}, {Kind: api.PerAttach, Rcv: 2}, {Kind: api.PerAttach, Rcv: 255},
		{Kind: api.PerAttach, Source: "\x80"}, {Kind: api.PerAttach, Target: "\x80"}, {Kind: api.PerAttach, Role: true, Count: 1},
		{Kind: api.PerAttach, Marks: []api.Mark{{Tag: long}}}, {Kind: api.PerAttach, Marks: []api.Mark{{Tag: "a"}, {Tag: "b"}, {Tag: "a", State: api.Outcome{Kind: api.OutAccepted}}}},
		{Kind: api.PerAttach, Marks: []api.Mark{{}, {}}}, {Kind: api.PerAttach, Marks: []api.Mark{{Tag: "a", State: wrong}}}, {Kind: api.PerAttach, Marks: []api.Mark{{Tag: "a"}, {Tag: long}}},
		{Kind: api.PerFlow, NextIn: -2}, {Kind: api.PerFlow, NextIn: 1 << 32}, {Kind: api.PerFlow, NextIn: math.MinInt64}, {Kind: api.PerFlow, NextIn: math.MaxInt64},
		{Kind: api.PerFlow, Handle: -2}, {Kind: api.PerFlow, Handle: beyond}, {Kind: api.PerFlow, Handle: -1, Count: 1}, {Kind: api.PerFlow, Handle: -1, Credit: 1}, {Kind: api.PerFlow, Handle: -1, Drain: true},
		{Kind: api.PerTransfer, Handle: -1}, {Kind: api.PerTransfer, Handle: beyond}, {Kind: api.PerTransfer, First: -2}, {Kind: api.PerTransfer, First: 1 << 32}, {Kind: api.PerTransfer, Tag: long}, {Kind: api.PerTransfer, State: wrong},
		{Kind: api.PerDisposition, First: -1}, {Kind: api.PerDisposition, First: -1, Last: math.MaxUint32}, {Kind: api.PerDisposition, First: 1 << 32}, {Kind: api.PerDisposition, State: api.Outcome{Kind: 6}}, {Kind: api.PerDisposition, State: api.Outcome{A: 1}},
		{Kind: api.PerDetach, Handle: -1}, {Kind: api.PerDetach, Handle: beyond}, {Kind: api.PerDetach, Cond: "\x80"},
		{Kind: api.PerEnd, Cond: "\x80"}, {Kind: api.PerEnd, Closed: true}, {Kind: api.PerClose, Cond: "x\xff"}, {Kind: api.PerClose, Handle: 1},
	} {
		mayNot(t, p)
	}
}

// TestTags: tags and keys of no bytes, of as many as may be, and of one more.
func TestTags(t *testing.T) {
	for n := range api.MaxTag + 3 {
		tag := strings.Repeat("\xff", n)
		transfer := api.Perform{Kind: api.PerTransfer, Tag: tag, First: -1}
		attach := api.Perform{Kind: api.PerAttach, Role: true, Marks: []api.Mark{{Tag: tag}}}
		told := []api.Value{uint32s(0), null(), binary(tag)}
		marked := []api.Value{str(""), uint32s(0), yes(), ubyte(0), null(), null(), null(), dict(binary(tag), null())}
		if n > api.MaxTag {
			mayNot(t, transfer)
			mayNot(t, attach)
			gets(t, called(0x14, told...), api.Perform{}, api.ErrForm)
			gets(t, called(0x12, marked...), api.Perform{}, api.ErrForm)
			continue
		}
		gets(t, called(0x14, told...), transfer, api.OK)
		goes(t, attach, called(0x12, marked...))
		if n == 0 {
			told = told[:1]
		}
		goes(t, transfer, called(0x14, told...))
	}
}

// TestMany: marks of as many parts as a value may have, and of more.
func TestMany(t *testing.T) {
	marks := func(n int) []api.Mark {
		var l []api.Mark
		for i := range n {
			l = append(l, api.Mark{Tag: fmt.Sprint(i)})
		}
		return l
	}
	// What is called so, what it is called, the list, eight fields: of the items 1024 - 11 are left to the marks.
	most := (api.MaxItems - 11) / 2
	for _, n := range []int{0, 1, 2, most - 1, most} {
		p := api.Perform{Kind: api.PerAttach, Role: true, Marks: marks(n)}
		v, e := perform.Put(p)
		if e != api.OK {
			t.Fatalf("P9.1: Put of %d marks: %d", n, e)
		}
		gets(t, v, p, api.OK)
		if n > 0 {
			p.Marks[n-1].Tag = p.Marks[0].Tag
		}
		if n > 1 {
			mayNot(t, p)
		}
	}
	for _, n := range []int{most + 1, most + 2, 100000} {
		mayNot(t, api.Perform{Kind: api.PerAttach, Role: true, Marks: marks(n)})
	}
	// Names that are too great for no one but for the bound on what a call answers.
	long := strings.Repeat("é", 40000)
	goes(t, api.Perform{Kind: api.PerOpen, Id: long, Host: long, MaxFrame: math.MaxUint32, Channels: 65535}, called(0x10, str(long), str(long)))
	goes(t, api.Perform{Kind: api.PerEnd, Cond: strings.Repeat("x", 70000)}, called(0x17, fault(strings.Repeat("x", 70000))))
}

// TestGet: what is there, and is what it would be if it were not there; what is let go; what a kind's own fields do to each other.
func TestGet(t *testing.T) {
	for _, c := range []struct {
		l    []api.Value
		want api.Perform
	}{
		{[]api.Value{str("i"), str(""), uint32s(math.MaxUint32), ushort(65535), uint32s(0), symbol("l"), array(symbol("l"), symbol("m")), array(), symbol(""), dict(symbol("a"), null())},
			api.Perform{Kind: api.PerOpen, Id: "i", MaxFrame: math.MaxUint32, Channels: 65535}},
		{[]api.Value{null(), uint32s(1), uint32s(2), uint32s(3), uint32s(math.MaxUint32), array(), symbol("x"), dict()},
			api.Perform{Kind: api.PerBegin, Remote: -1, NextOut: 1, InWin: 2, OutWin: 3, Handles: math.MaxUint32}},
		{[]api.Value{str("l"), uint32s(1), no(), ubyte(2), ubyte(0), called(0x28), called(0x29, null()), dict(), yes(), uint32s(9), ulong(5), symbol("x"), array(symbol("y")), dict()},
			api.Perform{Kind: api.PerAttach, Name: "l", Handle: 1, Snd: 2, Count: 9}},
		{[]api.Value{str("l"), uint32s(1), yes(), null(), null(), called(0x28, str("")), null(), null(), null(), uint32s(9)},
			api.Perform{Kind: api.PerAttach, Name: "l", Handle: 1, Role: true, Snd: 2}},
		{[]api.Value{null(), uint32s(1), uint32s(2), uint32s(3), null(), uint32s(4), uint32s(5), uint32s(6), yes(), yes(), dict()},
			api.Perform{Kind: api.PerFlow, NextIn: -1, InWin: 1, NextOut: 2, OutWin: 3, Handle: -1, Echo: true}},
		{[]api.Value{uint32s(0), uint32s(1), uint32s(2), uint32s(3), uint32s(0), uint32s(4), uint32s(5), uint32s(6), yes(), no(), dict()},
			api.Perform{Kind: api.PerFlow, InWin: 1, NextOut: 2, OutWin: 3, Count: 4, Credit: 5, Drain: true}},
		{[]api.Value{uint32s(0), uint32s(1), uint32s(2), uint32s(3), uint32s(0), null(), null(), null(), null(), null(), null()},
			api.Perform{Kind: api.PerFlow, InWin: 1, NextOut: 2, OutWin: 3}},
		{[]api.Value{uint32s(1), null(), binary(""), uint32s(7), no(), no(), ubyte(1), null(), no(), no(), yes()},
			api.Perform{Kind: api.PerTransfer, Handle: 1, First: -1}},
		{[]api.Value{uint32s(1), uint32s(2), binary("t"), uint32s(7), yes(), yes(), ubyte(0), called(0x27, yes(), yes(), dict()), yes(), yes(), no()},
			api.Perform{Kind: api.PerTransfer, Handle: 1, First: 2, Tag: "t", Settled: true, More: true, State: api.Outcome{Kind: api.OutModified, A: 1, B: 1}, Resume: true, Aborted: true}},
		{[]api.Value{yes(), uint32s(4), uint32s(4), no(), null(), yes()}, api.Perform{Kind: api.PerDisposition, Role: true, First: 4, Last: 4}},
		{[]api.Value{no(), uint32s(math.MaxUint32), null(), null(), null(), no()}, api.Perform{Kind: api.PerDisposition, First: math.MaxUint32, Last: math.MaxUint32}},
		{[]api.Value{uint32s(1), no(), called(0x1d, symbol("x"), str("why"), dict())}, api.Perform{Kind: api.PerDetach, Handle: 1, Cond: "x"}},
		{[]api.Value{fault("")}, api.Perform{Kind: api.PerEnd}},
		{[]api.Value{named("amqp:error:list", symbol("x"), null(), dict())}, api.Perform{Kind: api.PerClose, Cond: "x"}},
	} {
		for _, v := range both(c.want.Kind, c.l...) {
			gets(t, v, c.want, api.OK)
		}
		for len(c.l) < 15 {
			c.l = append(c.l, null())
		}
		for _, v := range both(c.want.Kind, c.l...) {
			gets(t, v, api.Perform{}, api.ErrForm)
		}
	}
}

// TestAddresses: sources and targets with all their fields, each let go.
func TestAddresses(t *testing.T) {
	source := []api.Value{str("q"), uint32s(1), symbol("s"), uint32s(2), yes(), dict(), symbol("t"), dict(symbol("a"), null()), called(0x24), array(symbol("x"), symbol("y")), symbol("z")}
	target := []api.Value{str("q"), uint32s(1), symbol("s"), uint32s(2), no(), dict(), array(symbol("x"))}
	attach := func(source, target api.Value) []api.Value {
		return []api.Value{str("l"), uint32s(0), yes(), null(), null(), source, target}
	}
	want := api.Perform{Kind: api.PerAttach, Name: "l", Role: true, Snd: 2, Source: "q", Target: "q"}
	for _, v := range both(api.PerAttach, attach(named("amqp:source:list", source...), named("amqp:target:list", target...))...) {
		gets(t, v, want, api.OK)
	}
	try := func(end []api.Value, code uint64, e api.Errno) {
		t.Helper()
		p := api.Perform{Kind: api.PerAttach, Name: "l", Role: true, Snd: 2}
		v := attach(called(0x28, end...), null())
		if code == 0x29 {
			v = attach(null(), called(0x29, end...))
		}
		if len(end) > 0 && e == api.OK {
			p.Source = end[0].Text
			if code == 0x29 {
				p.Source, p.Target = "", end[0].Text
			}
		}
		if e != api.OK {
			p = api.Perform{}
		}
		gets(t, called(0x12, v...), p, e)
	}
	for code, full := range map[uint64][]api.Value{0x28: source, 0x29: target} {
		for n := range len(full) + 1 {
			try(full[:n], code, api.OK)
		}
		try(append(full[:len(full):len(full)], null()), code, api.ErrForm)
		for i := range full {
			l := append([]api.Value(nil), full...)
			l[i] = null()
			try(l, code, api.OK)
			l[i] = ubyte(0)
			try(l, code, api.ErrForm)
			l[i] = list()
			try(l, code, api.ErrForm)
		}
	}
	for _, wrong := range []api.Value{called(0x29, str("q")), called(0x27), called(0x2a), named("amqp:source", str("q")), named("amqp:target:list", str("q")), str("q"), list(str("q")), value.Desc(ulong(0x28), str("q")), array(called(0x28))} {
		gets(t, called(0x12, attach(wrong, null())...), api.Perform{}, api.ErrForm)
	}
	for _, wrong := range []api.Value{called(0x28, str("q")), called(0x2a), named("amqp:target", str("q")), named("amqp:source:list", str("q")), str("q"), list(str("q")), value.Desc(ulong(0x29), str("q")), array(called(0x29))} {
		gets(t, called(0x12, attach(null(), wrong)...), api.Perform{}, api.ErrForm)
	}
}

// TestMarks: marks that are none, and those that are.
func TestMarks(t *testing.T) {
	try := func(v api.Value, want []api.Mark, e api.Errno) {
		t.Helper()
		p := api.Perform{Kind: api.PerAttach, Role: true, Snd: 2, Marks: want}
		if e != api.OK {
			p = api.Perform{}
		}
		gets(t, called(0x12, str(""), uint32s(0), yes(), null(), null(), null(), null(), v), p, e)
	}
	accepted := api.Outcome{Kind: api.OutAccepted}
	try(null(), nil, api.OK)
	try(dict(), nil, api.OK)
	try(dict(binary(""), null()), []api.Mark{{}}, api.OK)
	try(dict(binary("b"), null(), binary("a"), called(0x24)), []api.Mark{{Tag: "b"}, {Tag: "a", State: accepted}}, api.OK)
	try(dict(binary("\xff"), named("amqp:rejected:list", fault("x"))), []api.Mark{{Tag: "\xff", State: api.Outcome{Kind: api.OutRejected, Cond: "x"}}}, api.OK)
	for _, wrong := range []api.Value{
		list(), list(binary("a"), null()), array(binary("a"), binary("b")), binary("a"), called(0x24),
		dict(str("a"), null()), dict(symbol("a"), null()), dict(null(), null()), dict(binary("a"), null(), str("b"), null()), dict(str("b"), null(), binary("a"), null()),
		dict(binary("a"), uint32s(1)), dict(binary("a"), called(0x24, null())), dict(binary("a"), list()), dict(binary("a"), called(0x23), binary("b"), null()),
		{Kind: api.ValMap, Kids: []api.Value{binary("a")}}, {Kind: api.ValMap, Kids: []api.Value{binary("a"), null(), binary("a"), called(0x24)}},
	} {
		try(wrong, nil, api.ErrForm)
	}
}

// TestCalled: each code, each name, and what is nearly one of them.
func TestCalled(t *testing.T) {
	for code := range uint64(1024) {
		for kind := api.PerOpen; kind <= api.PerClose; kind++ {
			want, e := api.Perform{}, api.ErrNone
			switch {
			case code == 0x0f+uint64(kind):
				want, e = asIf(kind), api.OK
			case code >= 0x10 && code <= 0x18:
				continue
			}
			gets(t, called(code, least(kind)...), want, e)
			gets(t, called(code|1<<32, least(kind)...), api.Perform{}, api.ErrNone)
			gets(t, called(code|1<<8, least(kind)...), api.Perform{}, api.ErrNone)
		}
		gets(t, value.Desc(uint32s(code), list()), api.Perform{}, api.ErrForm)
	}
	for i, name := range names() {
		for _, wrong := range []string{name + " ", " " + name, name[:len(name)-1], name[1:], strings.ToUpper(name), name + "\x00", strings.TrimSuffix(name, ":list"), strings.TrimPrefix(name, "amqp:"), ""} {
			gets(t, named(wrong, least(uint8(i)+1)...), api.Perform{}, api.ErrNone)
		}
		gets(t, value.Desc(str(name), list()), api.Perform{}, api.ErrForm)
		gets(t, symbol(name), api.Perform{}, api.ErrForm)
	}
	// Of what is called none of these nobody asks whether it is a list.
	gets(t, value.Desc(ulong(0x0f), str("x")), api.Perform{}, api.ErrNone)
	gets(t, value.Desc(symbol("x"), null()), api.Perform{}, api.ErrNone)
	// But whether it may be.
	gets(t, called(0x0f, api.Value{}), api.Perform{}, api.ErrForm)
	gets(t, called(0x19, symbol("\x80")), api.Perform{}, api.ErrForm)
}

// TestNoList: what is no ValDesc, or no list, or may not be.
func TestNoList(t *testing.T) {
	for _, v := range ofEach() {
		if v.Kind != api.ValDesc {
			gets(t, v, api.Perform{}, api.ErrForm)
		}
		if v.Kind == api.ValList {
			continue
		}
		for code := uint64(0x10); code <= 0x18; code++ {
			gets(t, value.Desc(ulong(code), v), api.Perform{}, api.ErrForm)
			gets(t, value.Desc(symbol(names()[code-0x10]), v), api.Perform{}, api.ErrForm)
		}
	}
	gets(t, api.Value{}, api.Perform{}, api.ErrForm)
	gets(t, api.Value{Kind: 26, Kids: []api.Value{ulong(0x18), list()}}, api.Perform{}, api.ErrForm)
	for code := uint64(0x10); code <= 0x18; code++ {
		for _, kids := range [][]api.Value{nil, {ulong(code)}, {ulong(code), list(), list()}, {list(), ulong(code)}, {{}, list()}, {ulong(code), {}}, {{Kind: api.ValUlong, Num: code, Text: "x"}, list()}} {
			gets(t, api.Value{Kind: api.ValDesc, Kids: kids}, api.Perform{}, api.ErrForm)
		}
		l := least(uint8(code - 0x0f))
		gets(t, value.Desc(ulong(code), api.Value{Kind: api.ValList, Num: 1, Kids: l}), api.Perform{}, api.ErrForm)
		gets(t, value.Desc(ulong(code), api.Value{Kind: api.ValList, Text: "x", Kids: l}), api.Perform{}, api.ErrForm)
		gets(t, value.Desc(ulong(code), called(code, l...)), api.Perform{}, api.ErrForm)
		gets(t, value.Desc(ulong(code), array(l...)), api.Perform{}, api.ErrForm)
		gets(t, list(called(code, l...)), api.Perform{}, api.ErrForm)
		gets(t, array(called(code, l...)), api.Perform{}, api.ErrForm)
	}
	// A value that has itself among its kids has no end, but the calls do.
	loop := []api.Value{uint32s(0), {Kind: api.ValList}}
	loop[1].Kids = loop
	p, e := perform.Get(api.Value{Kind: api.ValDesc, Kids: []api.Value{ulong(0x14), {Kind: api.ValList, Kids: loop}}})
	if e != api.ErrForm || !same(p, api.Perform{}) {
		t.Errorf("R1: of a value within itself: %v, %d", p, e)
	}
}

// TestRead: bodies that begin with no value, and what stands behind one.
func TestRead(t *testing.T) {
	for kind := api.PerOpen; kind <= api.PerClose; kind++ {
		b, e := perform.Write(asIf(kind))
		if e != api.OK {
			t.Fatalf("P9.3: Write: %d", e)
		}
		for n := range len(b) {
			reads(t, b[:n], api.Perform{}, api.ErrForm)
		}
		for _, behind := range []string{"\x00", "\x40", "\x45", string(b), strings.Repeat("x", 70000)} {
			want, e := api.Perform{}, api.ErrForm
			if kind == api.PerTransfer {
				want, e = asIf(kind), api.OK
				want.Payload = []byte(behind)
			}
			reads(t, append(b[:len(b):len(b)], behind...), want, e)
		}
	}
	for _, c := range []struct {
		b string
		e api.Errno
	}{
		{"", api.ErrForm}, {"00", api.ErrForm}, {"3f", api.ErrForm}, {"0053", api.ErrForm}, {"00531845ff", api.ErrForm}, {"0053", api.ErrForm}, {"00521845", api.ErrForm}, {"c0", api.ErrForm},
		// No value that is called so, alone and with others behind it.
		{"40", api.ErrForm}, {"4040", api.ErrForm}, {"45", api.ErrForm}, {"00530f45", api.ErrNone}, {"00530f45ff", api.ErrNone}, {"00531945", api.ErrNone}, {"0053194545", api.ErrNone}, {"00537540ff", api.ErrNone},
		// No list, and fields that are wrong.
		{"00531840", api.ErrForm}, {"0053184040", api.ErrForm}, {"00531445", api.ErrForm}, {"005314c0020142", api.ErrForm}, {"005314c0020143", api.OK}, {"005314c0020142ff", api.ErrForm},
		// Told in other ways than encode's.
		{"0080000000000000001845", api.OK}, {"00a30f616d71703a636c6f73653a6c69737445", api.OK}, {"005318c00100", api.OK}, {"005318d00000000400000000", api.OK}, {"005318c0020140", api.OK},
	} {
		b, _ := hex.DecodeString(c.b)
		p, e := perform.Read(b)
		if e != c.e || e != api.OK && !same(p, api.Perform{}) {
			t.Errorf("P9.3: Read of %s: %s, %d, not %d", c.b, brief(p), e, c.e)
		}
	}
}
