package outcome_test

import (
	"fmt"
	"math"
	"strings"
	"testing"

	"bellwether/api"
	"bellwether/decode"
	"bellwether/encode"
	"bellwether/outcome"
	"bellwether/value"
)

func number(kind uint8, n uint64) api.Value { return value.Number(kind, n) }

func uint32s(n uint64) api.Value { return number(api.ValUint, n) }

func ulong(n uint64) api.Value { return number(api.ValUlong, n) }

func str(s string) api.Value { return value.Text(api.ValString, s) }

func symbol(s string) api.Value { return value.Text(api.ValSymbol, s) }

func list(l ...api.Value) api.Value { return value.Many(api.ValList, l) }

func array(l ...api.Value) api.Value { return value.Many(api.ValArray, l) }

func dict(l ...api.Value) api.Value { return value.Many(api.ValMap, l) }

func called(n uint64, v api.Value) api.Value { return value.Desc(ulong(n), v) }

func named(s string, v api.Value) api.Value { return value.Desc(symbol(s), v) }

// fault: an error of a condition, as a value.
func fault(cond string) api.Value { return called(0x1d, list(symbol(cond))) }

// brief tells a value in a message of moderate length.
func brief(v any) string {
	s := fmt.Sprint(v)
	return s[:min(len(s), 200)]
}

// putsCond: PutCond answers so.
func putsCond(t *testing.T, cond string, want api.Value, e api.Errno) {
	t.Helper()
	v, got := outcome.PutCond(cond)
	if got != e || !value.Same(v, want) {
		t.Errorf("P8.1: PutCond(%q): %s, %d, not %s, %d", brief(cond), brief(v), got, brief(want), e)
	}
}

// getsCond: GetCond answers so.
func getsCond(t *testing.T, v api.Value, want string, e api.Errno) {
	t.Helper()
	cond, got := outcome.GetCond(v)
	if got != e || cond != want {
		t.Errorf("P8.1: GetCond of %s: %q, %d, not %q, %d", brief(v), brief(cond), got, brief(want), e)
	}
}

// puts: Put answers so.
func puts(t *testing.T, o api.Outcome, want api.Value, e api.Errno) {
	t.Helper()
	v, got := outcome.Put(o)
	if got != e || !value.Same(v, want) {
		t.Errorf("P8.2: Put of %s: %s, %d, not %s, %d", brief(o), brief(v), got, brief(want), e)
	}
}

// gets: Get answers so.
func gets(t *testing.T, v api.Value, want api.Outcome, e api.Errno) {
	t.Helper()
	o, got := outcome.Get(v)
	if got != e || o != want {
		t.Errorf("P8.3: Get of %s: %s, %d, not %s, %d", brief(v), brief(o), got, brief(want), e)
	}
}

// saysNothing: neither of the two that get can make anything of a value.
func saysNothing(t *testing.T, v api.Value) {
	t.Helper()
	gets(t, v, api.Outcome{}, api.ErrForm)
	getsCond(t, v, "", api.ErrForm)
}

func TestExamples(t *testing.T) {
	accepted := called(36, list())
	puts(t, api.Outcome{Kind: api.OutAccepted}, accepted, api.OK)
	gets(t, accepted, api.Outcome{Kind: api.OutAccepted}, api.OK)

	rejected := api.Outcome{Kind: api.OutRejected, Cond: "amqp:not-found"}
	v := called(37, list(called(29, list(symbol("amqp:not-found")))))
	puts(t, rejected, v, api.OK)
	gets(t, v, rejected, api.OK)

	modified := api.Outcome{Kind: api.OutModified, A: 0, B: 1}
	v = called(39, list(value.Null(), value.Bool(true)))
	puts(t, modified, v, api.OK)
	gets(t, v, modified, api.OK)

	gets(t, called(35, list(uint32s(1))), api.Outcome{}, api.ErrForm)
}

// conds: conditions that may be.
func conds() []string {
	l := []string{"", "a", "\x00", "\x7f", "a\x7fb", " ", strings.Repeat("x", 255), strings.Repeat("x", 256), strings.Repeat("\x7f", 70000)}
	for o := range 128 {
		l = append(l, string(rune(o)))
	}
	return append(l, api.CondDecode, api.CondFrame, api.CondNotNow, api.CondNot, api.CondField, api.CondRoom, api.CondFound, api.CondWindow, api.CondHandle, api.CondUnknown, api.CondCredit, api.CondLarge, api.CondStolen)
}

// wrongConds: conditions that may not be.
func wrongConds() []string {
	l := []string{"\x80a", "a\x80", "a\x80b", "\xc3\xa9", "\x7f\xff\x7f", strings.Repeat("x", 70000) + "\x80"}
	for o := 128; o < 256; o++ {
		l = append(l, string([]byte{byte(o)}))
	}
	return l
}

func TestPutCond(t *testing.T) {
	putsCond(t, "", value.Null(), api.OK)
	for _, cond := range conds() {
		if cond != "" {
			putsCond(t, cond, fault(cond), api.OK)
		}
		v, _ := outcome.PutCond(cond)
		getsCond(t, v, cond, api.OK)
	}
	for _, cond := range wrongConds() {
		putsCond(t, cond, api.Value{}, api.ErrArg)
	}
}

func TestGetCond(t *testing.T) {
	getsCond(t, value.Null(), "", api.OK)
	some := dict(symbol("a"), value.Null())
	for _, fields := range [][]api.Value{
		{symbol("x")},
		{symbol("x"), value.Null()},
		{symbol("x"), value.Null(), value.Null()},
		{symbol("x"), str("told")},
		{symbol("x"), str("")},
		{symbol("x"), str("told"), value.Null()},
		{symbol("x"), value.Null(), some},
		{symbol("x"), value.Null(), dict()},
		{symbol("x"), str("told"), some},
	} {
		getsCond(t, called(0x1d, list(fields...)), "x", api.OK)
		getsCond(t, named("amqp:error:list", list(fields...)), "x", api.OK)
	}
	getsCond(t, fault(""), "", api.OK)
	getsCond(t, fault("\x7f"), "\x7f", api.OK)
	for _, fields := range [][]api.Value{
		{},
		{value.Null()},
		{value.Null(), str("told"), some},
		{str("x")},
		{value.Text(api.ValBinary, "x")},
		{array(symbol("x"))},
		{fault("x")},
		{symbol("x"), symbol("told")},
		{symbol("x"), some},
		{symbol("x"), str("told"), str("told")},
		{symbol("x"), value.Null(), list()},
		{symbol("x"), str("told"), some, value.Null()},
		{symbol("x"), value.Null(), value.Null(), value.Null()},
		{symbol("x"), str("told"), some, some},
		{symbol("\x80")},
		{symbol("x"), str("\x80")},
		{symbol("x"), value.Null(), dict(symbol("a"))},
		{symbol("x"), {}},
	} {
		getsCond(t, called(0x1d, list(fields...)), "", api.ErrForm)
		getsCond(t, named("amqp:error:list", list(fields...)), "", api.ErrForm)
	}
	for _, v := range []api.Value{called(0x24, list()), called(0x25, list(fault("x"))), called(0x25, list()), symbol("x"), list(symbol("x")), called(0x1e, list(symbol("x"))), called(0x1d, fault("x")), list(fault("x")), array(fault("x"))} {
		getsCond(t, v, "", api.ErrForm)
	}
}

func TestPut(t *testing.T) {
	for _, c := range []struct {
		o    api.Outcome
		want api.Value
	}{
		{api.Outcome{}, value.Null()},
		{api.Outcome{Kind: api.OutReceived}, called(0x23, list(uint32s(0), ulong(0)))},
		{api.Outcome{Kind: api.OutReceived, A: 1, B: 2}, called(0x23, list(uint32s(1), ulong(2)))},
		{api.Outcome{Kind: api.OutReceived, A: 1<<32 - 1, B: 1 << 32}, called(0x23, list(uint32s(1<<32-1), ulong(1<<32)))},
		{api.Outcome{Kind: api.OutReceived, B: math.MaxUint64}, called(0x23, list(uint32s(0), ulong(math.MaxUint64)))},
		{api.Outcome{Kind: api.OutAccepted}, called(0x24, list())},
		{api.Outcome{Kind: api.OutRejected}, called(0x25, list())},
		{api.Outcome{Kind: api.OutRejected, Cond: "\x7f"}, called(0x25, list(fault("\x7f")))},
		{api.Outcome{Kind: api.OutRejected, Cond: api.CondRoom}, called(0x25, list(fault(api.CondRoom)))},
		{api.Outcome{Kind: api.OutReleased}, called(0x26, list())},
		{api.Outcome{Kind: api.OutModified}, called(0x27, list())},
		{api.Outcome{Kind: api.OutModified, A: 1}, called(0x27, list(value.Bool(true)))},
		{api.Outcome{Kind: api.OutModified, B: 1}, called(0x27, list(value.Null(), value.Bool(true)))},
		{api.Outcome{Kind: api.OutModified, A: 1, B: 1}, called(0x27, list(value.Bool(true), value.Bool(true)))},
	} {
		puts(t, c.o, c.want, api.OK)
		gets(t, c.want, c.o, api.OK)
		if !value.Right(c.want) {
			t.Errorf("P8.2: %s may not be", brief(c.want))
		}
	}
	for _, cond := range conds() {
		v, _ := outcome.Put(api.Outcome{Kind: api.OutRejected, Cond: cond})
		gets(t, v, api.Outcome{Kind: api.OutRejected, Cond: cond}, api.OK)
	}
	for _, cond := range wrongConds() {
		for kind := range uint8(8) {
			puts(t, api.Outcome{Kind: kind, Cond: cond}, api.Value{}, api.ErrArg)
		}
	}
}

// TestMayBe: outcomes of every kind with A, B and conditions at the edges.
func TestMayBe(t *testing.T) {
	edges := []uint64{0, 1, 2, 1<<32 - 1, 1 << 32, 1<<32 + 1, math.MaxInt64, math.MaxUint64}
	for kind := range 256 {
		for _, a := range edges {
			for _, b := range edges {
				for _, cond := range []string{"", "x", "\x7f", "\x80"} {
					o := api.Outcome{Kind: uint8(kind), A: a, B: b, Cond: cond}
					v, e := outcome.Put(o)
					if !mayBe(o) {
						if e != api.ErrArg || !value.Same(v, api.Value{}) {
							t.Errorf("P8.2: Put of %v, which may not be: %v, %d", o, v, e)
						}
						continue
					}
					if e != api.OK || !value.Right(v) {
						t.Errorf("P8.2: Put of %v: %v, %d", o, v, e)
					}
					gets(t, v, o, api.OK)
				}
			}
		}
	}
}

func TestGet(t *testing.T) {
	gets(t, value.Null(), api.Outcome{}, api.OK)
	some := dict(symbol("a"), value.Null())
	yes, no := value.Bool(true), value.Bool(false)
	for _, c := range []struct {
		code   uint64
		name   string
		fields []api.Value
		want   api.Outcome
	}{
		{0x23, "amqp:received:list", []api.Value{uint32s(1<<32 - 1), ulong(math.MaxUint64)}, api.Outcome{Kind: api.OutReceived, A: 1<<32 - 1, B: math.MaxUint64}},
		{0x24, "amqp:accepted:list", nil, api.Outcome{Kind: api.OutAccepted}},
		{0x25, "amqp:rejected:list", nil, api.Outcome{Kind: api.OutRejected}},
		{0x25, "amqp:rejected:list", []api.Value{value.Null()}, api.Outcome{Kind: api.OutRejected}},
		{0x25, "amqp:rejected:list", []api.Value{fault("")}, api.Outcome{Kind: api.OutRejected}},
		{0x25, "amqp:rejected:list", []api.Value{fault("x")}, api.Outcome{Kind: api.OutRejected, Cond: "x"}},
		{0x25, "amqp:rejected:list", []api.Value{named("amqp:error:list", list(symbol("x"), str("told"), some))}, api.Outcome{Kind: api.OutRejected, Cond: "x"}},
		{0x26, "amqp:released:list", nil, api.Outcome{Kind: api.OutReleased}},
		{0x27, "amqp:modified:list", nil, api.Outcome{Kind: api.OutModified}},
		{0x27, "amqp:modified:list", []api.Value{no, no, dict()}, api.Outcome{Kind: api.OutModified}},
		{0x27, "amqp:modified:list", []api.Value{value.Null(), value.Null(), value.Null()}, api.Outcome{Kind: api.OutModified}},
		{0x27, "amqp:modified:list", []api.Value{yes}, api.Outcome{Kind: api.OutModified, A: 1}},
		{0x27, "amqp:modified:list", []api.Value{yes, no}, api.Outcome{Kind: api.OutModified, A: 1}},
		{0x27, "amqp:modified:list", []api.Value{no, yes}, api.Outcome{Kind: api.OutModified, B: 1}},
		{0x27, "amqp:modified:list", []api.Value{value.Null(), yes, value.Null()}, api.Outcome{Kind: api.OutModified, B: 1}},
		{0x27, "amqp:modified:list", []api.Value{yes, yes, some}, api.Outcome{Kind: api.OutModified, A: 1, B: 1}},
	} {
		for _, v := range []api.Value{called(c.code, list(c.fields...)), named(c.name, list(c.fields...))} {
			gets(t, v, c.want, api.OK)
			getsCond(t, v, "", api.ErrForm)
			back, e := outcome.Put(c.want)
			if e != api.OK {
				t.Errorf("P8.3: %v, which Get told of %s, may not be: %d", c.want, brief(v), e)
			}
			gets(t, back, c.want, api.OK)
		}
	}
}

// TestCalled: each code, each name, and what is nearly one of them.
func TestCalled(t *testing.T) {
	codes := map[uint64]uint8{0x24: api.OutAccepted, 0x25: api.OutRejected, 0x26: api.OutReleased, 0x27: api.OutModified}
	for code := range uint64(1024) {
		o := api.Outcome{Kind: codes[code]}
		e := api.OK
		if o.Kind == api.OutNone {
			e = api.ErrForm
		}
		gets(t, called(code, list()), o, e)
		gets(t, called(code|1<<32, list()), api.Outcome{}, api.ErrForm)
		gets(t, value.Desc(uint32s(code), list()), api.Outcome{}, api.ErrForm)
		gets(t, value.Desc(number(api.ValUbyte, code), list()), api.Outcome{}, api.ErrForm)

		pair := called(code, list(uint32s(1), ulong(2)))
		if code == 0x23 {
			gets(t, pair, api.Outcome{Kind: api.OutReceived, A: 1, B: 2}, api.OK)
		} else {
			gets(t, pair, api.Outcome{}, api.ErrForm)
		}
		if code == 0x1d {
			getsCond(t, called(code, list(symbol("x"))), "x", api.OK)
		} else {
			getsCond(t, called(code, list(symbol("x"))), "", api.ErrForm)
		}
		getsCond(t, called(code|1<<32, list(symbol("x"))), "", api.ErrForm)
	}
	for _, name := range []string{"amqp:accepted:list", "amqp:rejected:list", "amqp:released:list", "amqp:modified:list", "amqp:error:list"} {
		for _, wrong := range []string{name + " ", " " + name, name[:len(name)-1], name[1:], strings.ToUpper(name), name + "\x00", strings.TrimSuffix(name, ":list"), ""} {
			saysNothing(t, named(wrong, list()))
			saysNothing(t, named(wrong, list(symbol("x"))))
		}
		saysNothing(t, value.Desc(str(name), list()))
		saysNothing(t, value.Desc(value.Text(api.ValBinary, name), list()))
		saysNothing(t, symbol(name))
	}
}

// TestNoList: what is called so, and is no list, or what may not be.
func TestNoList(t *testing.T) {
	for _, v := range ofEach() {
		holds(t, v)
		if v.Kind == api.ValList {
			continue
		}
		for _, code := range []uint64{0x1d, 0x23, 0x24, 0x25, 0x26, 0x27} {
			saysNothing(t, called(code, v))
		}
	}
	saysNothing(t, api.Value{})
	saysNothing(t, api.Value{Kind: 26})
	saysNothing(t, api.Value{Kind: 255, Kids: []api.Value{ulong(0x24), list()}})
	for _, code := range []uint64{0x1d, 0x23, 0x24, 0x25, 0x26, 0x27} {
		for _, kids := range [][]api.Value{nil, {ulong(code)}, {ulong(code), list(), list()}, {list(), ulong(code)}, {{}, list()}, {ulong(code), {}}, {{Kind: api.ValUlong, Num: code, Text: "x"}, list()}} {
			saysNothing(t, value.Many(api.ValDesc, kids))
		}
		for _, kids := range [][]api.Value{nil, {symbol("x")}, {uint32s(0), ulong(0)}} {
			saysNothing(t, called(code, api.Value{Kind: api.ValList, Num: 1, Kids: kids}))
			saysNothing(t, called(code, api.Value{Kind: api.ValList, Text: "x", Kids: kids}))
			saysNothing(t, called(code, called(code, list(kids...))))
			saysNothing(t, list(called(code, list(kids...))))
			saysNothing(t, array(called(code, list(kids...))))
		}
	}
}

// TestGreat: what is let go is asked as well whether it may be: depth and items at the edges.
func TestGreat(t *testing.T) {
	deep := func(levels int) api.Value {
		v := value.Null()
		for range levels - 1 {
			v = list(v)
		}
		return v
	}
	// The map that is let go has the depth and the items of what it has by a, beside its own.
	let := func(v api.Value) api.Value { return dict(symbol("a"), v) }
	many := func(items int) api.Value { return list(nulls(items - 1)...) }
	modified := api.Outcome{Kind: api.OutModified, A: 1}
	rejected := api.Outcome{Kind: api.OutRejected, Cond: "x"}
	told := func(v api.Value) api.Value { return called(0x1d, list(symbol("x"), value.Null(), let(v))) }
	for _, c := range []struct {
		v    api.Value
		want api.Outcome
		e    api.Errno
	}{
		{called(0x27, list(value.Bool(true), value.Null(), let(deep(api.MaxDepth-3)))), modified, api.OK},
		{called(0x27, list(value.Bool(true), value.Null(), let(deep(api.MaxDepth-2)))), api.Outcome{}, api.ErrForm},
		{called(0x27, list(value.Bool(true), value.Null(), let(many(api.MaxItems-7)))), modified, api.OK},
		{called(0x27, list(value.Bool(true), value.Null(), let(many(api.MaxItems-6)))), api.Outcome{}, api.ErrForm},
		{called(0x25, list(told(deep(api.MaxDepth-5)))), rejected, api.OK},
		{called(0x25, list(told(deep(api.MaxDepth-4)))), api.Outcome{}, api.ErrForm},
		{called(0x25, list(told(many(api.MaxItems-10)))), rejected, api.OK},
		{called(0x25, list(told(many(api.MaxItems-9)))), api.Outcome{}, api.ErrForm},
	} {
		gets(t, c.v, c.want, c.e)
	}
	getsCond(t, told(deep(api.MaxDepth-3)), "x", api.OK)
	getsCond(t, told(deep(api.MaxDepth-2)), "", api.ErrForm)
	getsCond(t, told(many(api.MaxItems-7)), "x", api.OK)
	getsCond(t, told(many(api.MaxItems-6)), "", api.ErrForm)
	// A value that has itself among its kids has no end, but the calls do.
	loop := []api.Value{uint32s(0), {Kind: api.ValList}}
	loop[1].Kids = loop
	saysNothing(t, api.Value{Kind: api.ValDesc, Kids: []api.Value{ulong(0x24), {Kind: api.ValList, Kids: loop}}})
}

// nulls: so many of them.
func nulls(n int) []api.Value {
	l := make([]api.Value, n)
	for i := range l {
		l[i] = value.Null()
	}
	return l
}

// TestBytes: what Put answers is the same behind bytes, and Get tells it as it was.
func TestBytes(t *testing.T) {
	for _, c := range []struct {
		o    api.Outcome
		want string
	}{
		{api.Outcome{}, "\x40"},
		{api.Outcome{Kind: api.OutAccepted}, "\x00\x53\x24\x45"},
		{api.Outcome{Kind: api.OutReleased}, "\x00\x53\x26\x45"},
		{api.Outcome{Kind: api.OutReceived, A: 0, B: 256}, "\x00\x53\x23\xc0\x0b\x02\x43\x80\x00\x00\x00\x00\x00\x00\x01\x00"},
		{api.Outcome{Kind: api.OutRejected, Cond: "x"}, "\x00\x53\x25\xc0\x0a\x01\x00\x53\x1d\xc0\x04\x01\xa3\x01x"},
		{api.Outcome{Kind: api.OutModified, B: 1}, "\x00\x53\x27\xc0\x03\x02\x40\x41"},
	} {
		v, _ := outcome.Put(c.o)
		b, e := encode.Value(v)
		if e != api.OK || string(b) != c.want {
			t.Errorf("P8.2: %v as bytes: %x, %d, not %x", c.o, b, e, c.want)
		}
		v, _, _ = decode.Value(b)
		gets(t, v, c.o, api.OK)
	}
}
