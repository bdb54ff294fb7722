package message_test

import (
	"bytes"
	"encoding/hex"
	"fmt"
	"math"
	"strings"
	"testing"
	"unicode/utf8"

	"bellwether/api"
	"bellwether/encode"
	"bellwether/message"
	"bellwether/value"
)

func null() api.Value { return value.Null() }

func yes() api.Value { return value.Bool(true) }

func no() api.Value { return value.Bool(false) }

func ubyte(n uint64) api.Value { return value.Number(api.ValUbyte, n) }

func uint32s(n uint64) api.Value { return value.Number(api.ValUint, n) }

func ulong(n uint64) api.Value { return value.Number(api.ValUlong, n) }

func moment(n uint64) api.Value { return value.Number(api.ValTime, n) }

func uuid() api.Value { return value.Text(api.ValUuid, "0123456789abcdef") }

func binary(s string) api.Value { return value.Text(api.ValBinary, s) }

func str(s string) api.Value { return value.Text(api.ValString, s) }

func symbol(s string) api.Value { return value.Text(api.ValSymbol, s) }

func list(l ...api.Value) api.Value { return value.Many(api.ValList, l) }

func array(l ...api.Value) api.Value { return value.Many(api.ValArray, l) }

func dict(l ...api.Value) api.Value { return value.Many(api.ValMap, l) }

func called(code uint64, v api.Value) api.Value { return value.Desc(ulong(code), v) }

func named(name string, v api.Value) api.Value { return value.Desc(symbol(name), v) }

func header(l ...api.Value) api.Value { return called(0x70, list(l...)) }

func properties(l ...api.Value) api.Value { return called(0x73, list(l...)) }

func data(s string) api.Value { return called(0x75, binary(s)) }

// bytesOf: values, one behind the other.
func bytesOf(t *testing.T, l ...api.Value) []byte {
	t.Helper()
	var b []byte
	for _, v := range l {
		part, e := encode.Value(v)
		if e != api.OK {
			t.Fatalf("encode of %s: %d", brief(v), e)
		}
		b = append(b, part...)
	}
	return b
}

// unhex: the bytes that a text tells, spaces aside.
func unhex(t *testing.T, s string) []byte {
	t.Helper()
	b, e := hex.DecodeString(strings.ReplaceAll(s, " ", ""))
	if e != nil {
		t.Fatal(e)
	}
	return b
}

// same: are two messages the same? Nil and empty bodies are.
func same(a, b api.Msg) bool {
	return a.Priority == b.Priority && a.Ttl == b.Ttl && a.Count == b.Count && a.Id == b.Id && bytes.Equal(a.Body, b.Body)
}

// brief tells anything in a message of moderate length.
func brief(v any) string {
	s := fmt.Sprintf("%+v", v)
	return s[:min(len(s), 300)]
}

// puts: Put answers so, and what it answers is told as it was.
func puts(t *testing.T, m api.Msg, want []byte) {
	t.Helper()
	b, e := message.Put(m)
	if e != api.OK || !bytes.Equal(b, want) {
		t.Errorf("P10.1: Put of %s: %.200x, %d, not %.200x", brief(m), b, e, want)
	}
	gets(t, want, m)
}

// mayNot: a message may not be.
func mayNot(t *testing.T, m api.Msg) {
	t.Helper()
	if b, e := message.Put(m); e != api.ErrArg || len(b) != 0 {
		t.Errorf("P10.1: Put of %s: %.200x, %d", brief(m), b, e)
	}
}

// gets: Get answers so.
func gets(t *testing.T, b []byte, want api.Msg) {
	t.Helper()
	m, e := message.Get(b)
	if e != api.OK || !same(m, want) {
		t.Errorf("P10.2: Get of %.200x: %s, %d, not %s", b, brief(m), e, brief(want))
	}
}

// saysNothing: bytes are no message.
func saysNothing(t *testing.T, b []byte) {
	t.Helper()
	m, e := message.Get(b)
	if e != api.ErrForm || !same(m, api.Msg{}) {
		t.Errorf("P10.2: Get of %.200x: %s, %d", b, brief(m), e)
	}
}

func TestExamples(t *testing.T) {
	puts(t, api.Msg{Priority: 4, Body: []byte("hi")}, unhex(t, "00 53 75 a0 02 68 69"))
	puts(t, api.Msg{Priority: 9, Id: "m"}, unhex(t, "00 53 70 c0 04 02 40 50 09 00 53 73 c0 04 01 a1 01 6d 00 53 75 a0 00"))
	gets(t, unhex(t, "00 53 75 a0 01 68 00 53 75 a0 01 69"), api.Msg{Priority: 4, Body: []byte("hi")})
	for _, s := range []string{"", "00 53 77 40", "00 53 75 a0 00 00 53 70 45"} {
		saysNothing(t, unhex(t, s))
	}
}

func TestPutBytes(t *testing.T) {
	for _, c := range []struct {
		m api.Msg
		b string
	}{
		{api.Msg{Priority: 4}, "00 53 75 a0 00"},
		{api.Msg{}, "00 53 70 c0 04 02 40 50 00 00 53 75 a0 00"},
		{api.Msg{Priority: 3, Body: []byte{0xff}}, "00 53 70 c0 04 02 40 50 03 00 53 75 a0 01 ff"},
		{api.Msg{Priority: 4, Ttl: 1}, "00 53 70 c0 05 03 40 40 52 01 00 53 75 a0 00"},
		{api.Msg{Priority: 4, Count: 1}, "00 53 70 c0 07 05 40 40 40 40 52 01 00 53 75 a0 00"},
		{api.Msg{Priority: 9, Ttl: 255, Count: 256}, "00 53 70 c0 0c 05 40 50 09 52 ff 40 70 00 00 01 00 00 53 75 a0 00"},
		{api.Msg{Priority: 5, Ttl: math.MaxUint32}, "00 53 70 c0 09 03 40 50 05 70 ff ff ff ff 00 53 75 a0 00"},
		{api.Msg{Priority: 5, Count: math.MaxUint32}, "00 53 70 c0 0b 05 40 50 05 40 40 70 ff ff ff ff 00 53 75 a0 00"},
		{api.Msg{Priority: 4, Ttl: 7, Count: 8}, "00 53 70 c0 08 05 40 40 52 07 40 52 08 00 53 75 a0 00"},
		{api.Msg{Priority: 4, Id: "é", Body: []byte{0}}, "00 53 73 c0 05 01 a1 02 c3 a9 00 53 75 a0 01 00"},
		{api.Msg{Priority: 1, Ttl: 2, Count: 3, Id: "\x00", Body: []byte("b")}, "00 53 70 c0 09 05 40 50 01 52 02 40 52 03 00 53 73 c0 04 01 a1 01 00 00 53 75 a0 01 62"},
	} {
		puts(t, c.m, unhex(t, c.b))
	}
}

// TestPutHeader: a header just if it says something, and null for what it would be if it were not there.
func TestPutHeader(t *testing.T) {
	numbers := []uint32{0, 1, 2, 4, 9, 255, 256, 65536, math.MaxUint32}
	for priority := range 256 {
		for _, ttl := range numbers {
			for _, count := range numbers {
				m := api.Msg{Priority: uint8(priority), Ttl: ttl, Count: count, Id: "i", Body: []byte("b")}
				if priority > 9 {
					mayNot(t, m)
					continue
				}
				l := []api.Value{null(), ubyte(uint64(priority)), uint32s(uint64(ttl)), null(), uint32s(uint64(count))}
				if priority == 4 {
					l[1] = null()
				}
				if ttl == 0 {
					l[2] = null()
				}
				if count == 0 {
					l[4] = null()
				}
				for len(l) > 0 && l[len(l)-1].Kind == api.ValNull {
					l = l[:len(l)-1]
				}
				want := []api.Value{properties(str("i")), data("b")}
				if len(l) > 0 {
					want = append([]api.Value{header(l...)}, want...)
				}
				puts(t, m, bytesOf(t, want...))
			}
		}
	}
}

// TestPutId: names of no bytes, of as many as may be, of more, and those that are no text.
func TestPutId(t *testing.T) {
	for n := range api.MaxName + 4 {
		for _, id := range []string{strings.Repeat("x", n), strings.Repeat("\x00", n), (strings.Repeat("é", n) + "z")[n%2 : n+n%2]} {
			m := api.Msg{Priority: 4, Id: id, Body: []byte("b")}
			switch {
			case len(id) > api.MaxName || !utf8.ValidString(id):
				mayNot(t, m)
			case id == "":
				puts(t, m, bytesOf(t, data("b")))
			default:
				puts(t, m, bytesOf(t, properties(str(id)), data("b")))
			}
		}
	}
	full := strings.Repeat("é", api.MaxName/2)
	puts(t, api.Msg{Priority: 4, Id: full}, bytesOf(t, properties(str(full)), data("")))
	mayNot(t, api.Msg{Priority: 4, Id: full + "x"})
	mayNot(t, api.Msg{Priority: 4, Id: strings.Repeat("x", 70000)})
	for _, id := range []string{"\x80", "\xff", "\xc0\x80", "\xed\xa0\x80", "\xf4\x90\x80\x80", "\xe2\x82", "a\xc3", "\xa9a", "a\x80b", full[:api.MaxName-2] + "\xc3"} {
		mayNot(t, api.Msg{Priority: 4, Id: id})
	}
	for _, id := range []string{"�", "\u07ff\u0800", "\U0010ffff", " ", "\x7f"} {
		puts(t, api.Msg{Priority: 4, Id: id}, bytesOf(t, properties(str(id)), data("")))
	}
}

// TestPutBody: bodies of no bytes, of as many as may be, and of more.
func TestPutBody(t *testing.T) {
	for _, n := range []int{0, 1, 2, 254, 255, 256, 257, api.MaxBody - 1, api.MaxBody} {
		for _, o := range []byte{0, 'x', 0xff} {
			body := bytes.Repeat([]byte{o}, n)
			puts(t, api.Msg{Priority: 4, Body: body}, bytesOf(t, data(string(body))))
			puts(t, api.Msg{Priority: 0, Id: "i", Body: body}, bytesOf(t, header(null(), ubyte(0)), properties(str("i")), data(string(body))))
		}
	}
	for _, n := range []int{api.MaxBody + 1, api.MaxBody + 2, 70000} {
		mayNot(t, api.Msg{Priority: 4, Body: make([]byte, n)})
	}
	puts(t, api.Msg{Priority: 4, Body: []byte{}}, bytesOf(t, data("")))
	// Where several things are wrong.
	mayNot(t, api.Msg{Priority: 10, Id: "\x80", Body: make([]byte, api.MaxBody+1)})
	mayNot(t, api.Msg{Priority: 255, Id: strings.Repeat("\x80", api.MaxName+1)})
}

// kinds of sections: their codes, their names, and what says nothing else in them.
type kind struct {
	code uint64
	name string
	is   api.Value
}

func kinds() []kind {
	return []kind{
		{0x70, "amqp:header:list", list()},
		{0x71, "amqp:delivery-annotations:map", dict()},
		{0x72, "amqp:message-annotations:map", dict()},
		{0x73, "amqp:properties:list", list()},
		{0x74, "amqp:application-properties:map", dict()},
		{0x75, "amqp:data:binary", binary("x")},
		{0x78, "amqp:footer:map", dict()},
	}
}

// amid: the bytes of sections, with data, if it does not come of itself, where it belongs to what is called by a code.
func amid(t *testing.T, code uint64, v api.Value) []byte {
	t.Helper()
	switch {
	case code < 0x75:
		return bytesOf(t, v, data("x"))
	case code > 0x75:
		return bytesOf(t, data("x"), v)
	}
	return bytesOf(t, v)
}

// TestCalled: each section by its code, by its name, and by what is nearly one.
func TestCalled(t *testing.T) {
	want := api.Msg{Priority: 4, Body: []byte("x")}
	for _, k := range kinds() {
		gets(t, amid(t, k.code, called(k.code, k.is)), want)
		gets(t, amid(t, k.code, named(k.name, k.is)), want)
		for _, wrong := range []api.Value{
			ulong(k.code | 1<<8), ulong(k.code | 1<<32), ulong(k.code | 1<<63), ulong(k.code - 0x70), ulong(k.code + 0x10), ulong(0x76), ulong(0x77), ulong(0x79), ulong(0x6f),
			symbol(""), symbol(k.name + " "), symbol(" " + k.name), symbol(k.name[1:]), symbol(k.name[:len(k.name)-1]), symbol(strings.ToUpper(k.name)), symbol(k.name + "\x00"),
			symbol(strings.TrimPrefix(k.name, "amqp:")), symbol(k.name[:strings.LastIndex(k.name, ":")]), symbol(strings.ReplaceAll(k.name, "-", "_") + ":"), symbol("amqp:amqp-value:*"), symbol("amqp:amqp-sequence:list"),
		} {
			v := value.Desc(wrong, k.is)
			saysNothing(t, amid(t, k.code, v))
			saysNothing(t, bytesOf(t, v, data("x")))
			saysNothing(t, bytesOf(t, data("x"), v))
		}
		// Twice called, and not called at all.
		for _, v := range []api.Value{called(k.code, called(k.code, k.is)), named(k.name, named(k.name, k.is)), k.is, list(called(k.code, k.is)), array(called(k.code, k.is)), dict(ulong(k.code), k.is)} {
			saysNothing(t, amid(t, k.code, v))
		}
	}
	// A code by another section's kind: all codes with all kinds.
	for code := uint64(0); code < 512; code++ {
		for _, is := range []api.Value{list(), dict(), binary("x")} {
			right := false
			for _, k := range kinds() {
				right = right || k.code == code && k.is.Kind == is.Kind
			}
			if b := amid(t, code, called(code, is)); right {
				gets(t, b, want)
			} else {
				saysNothing(t, b)
			}
		}
	}
}

// ofEach: a value of each kind, which may be.
func ofEach() []api.Value {
	return []api.Value{
		null(), yes(), no(), ubyte(0), ubyte(4), ubyte(9), ubyte(10), ubyte(255), value.Number(api.ValUshort, 1), uint32s(0), uint32s(1), uint32s(math.MaxUint32), ulong(0), ulong(1), ulong(math.MaxUint64),
		value.Number(api.ValByte, 1), value.Number(api.ValShort, 1), value.Number(api.ValInt, 1), value.Number(api.ValLong, 1), value.Number(api.ValFloat, 1), value.Number(api.ValDouble, 1), value.Number(api.ValChar, 1), moment(0), moment(math.MaxUint64),
		uuid(), value.Text(api.ValDec32, "0123"), value.Text(api.ValDec64, "01234567"), value.Text(api.ValDec128, "fedcba9876543210"),
		binary(""), binary("x"), binary(strings.Repeat("\xff", api.MaxName+1)), str(""), str("x"), str("é"), str(strings.Repeat("x", api.MaxName)), str(strings.Repeat("x", api.MaxName+1)), symbol(""), symbol("x"), symbol(strings.Repeat("s", 300)),
		list(), list(symbol("x")), dict(), dict(symbol("a"), uint32s(1)), dict(uint32s(1), null(), list(), dict()), array(), array(symbol("x")), array(str("x"), str("y")), called(0x75, binary("x")), named("a", null()), data(""), header(),
	}
}

// TestOtherKinds: sections of each other kind.
func TestOtherKinds(t *testing.T) {
	for _, k := range kinds() {
		for _, is := range ofEach() {
			if is.Kind == k.is.Kind {
				continue
			}
			saysNothing(t, amid(t, k.code, called(k.code, is)))
			saysNothing(t, amid(t, k.code, named(k.name, is)))
		}
	}
	// What is let go may have anything in it that may be.
	for _, code := range []uint64{0x71, 0x72, 0x74, 0x78} {
		for _, v := range ofEach() {
			gets(t, amid(t, code, called(code, dict(str("a"), v, v, null()))), api.Msg{Priority: 4, Body: []byte("x")})
		}
	}
}

// TestOrder: sections in any order, up to five of them: just those that the document has.
func TestOrder(t *testing.T) {
	all := kinds()
	right := 0
	var try func(l []int)
	try = func(l []int) {
		var b []byte
		bodies, is := 0, true
		for i, at := range l {
			v := called(all[at].code, all[at].is)
			if i%2 == 1 {
				v = named(all[at].name, all[at].is)
			}
			b = append(b, bytesOf(t, v)...)
			if all[at].code == 0x75 {
				bodies++
			}
			if i > 0 && (l[i-1] > at || l[i-1] == at && all[at].code != 0x75) {
				is = false
			}
		}
		if is && bodies > 0 {
			right++
			gets(t, b, api.Msg{Priority: 4, Body: []byte(strings.Repeat("x", bodies))})
		} else {
			saysNothing(t, b)
		}
		if len(l) < 5 {
			for at := range all {
				try(append(l[:len(l):len(l)], at))
			}
		}
	}
	try(nil)
	// With d of data, as many as 5 - d of the six others: 57, 42, 22, 7, 1.
	if right != 129 {
		t.Errorf("%d orders are right", right)
	}
	// All of them, each section that may stand there just once.
	var whole []api.Value
	for _, k := range all {
		whole = append(whole, called(k.code, k.is))
	}
	gets(t, bytesOf(t, whole...), api.Msg{Priority: 4, Body: []byte("x")})
	for i := range whole {
		twice := append(whole[:i+1:i+1], whole[i:]...)
		if whole[i].Kids[0].Num == 0x75 {
			gets(t, bytesOf(t, twice...), api.Msg{Priority: 4, Body: []byte("xx")})
			continue
		}
		saysNothing(t, bytesOf(t, twice...))
		saysNothing(t, bytesOf(t, append(whole[:len(whole):len(whole)], whole[i])...))
	}
}

// TestData: data in one section, in many, in all of MaxBody bytes and of one more, and none.
func TestData(t *testing.T) {
	whole := []byte(strings.Repeat("0123456789abcdef", api.MaxBody/16))
	parts := func(sizes ...int) []byte {
		var b []byte
		at := 0
		for _, n := range sizes {
			var part []byte
			for range n {
				part = append(part, whole[at%len(whole)])
				at++
			}
			b = append(b, bytesOf(t, data(string(part)))...)
		}
		return b
	}
	for _, c := range []struct {
		sizes []int
		is    bool
	}{
		{[]int{0}, true}, {[]int{1}, true}, {[]int{0, 0}, true}, {[]int{0, 1, 0}, true}, {[]int{1, 0, 2}, true}, {[]int{255, 256, 257}, true},
		{[]int{2048}, true}, {[]int{2047}, true}, {[]int{2049}, false}, {[]int{70000}, false},
		{[]int{2048, 0}, true}, {[]int{0, 2048}, true}, {[]int{2047, 1}, true}, {[]int{1, 2047}, true}, {[]int{1024, 1024}, true}, {[]int{1024, 0, 1024, 0}, true},
		{[]int{2048, 1}, false}, {[]int{1, 2048}, false}, {[]int{1024, 1025}, false}, {[]int{1024, 1024, 1}, false}, {[]int{2049, 0}, false}, {[]int{0, 2049}, false}, {[]int{2048, 2048}, false}, {[]int{700, 700, 700}, false},
	} {
		n := 0
		for _, size := range c.sizes {
			n += size
		}
		for _, b := range [][]byte{parts(c.sizes...), append(bytesOf(t, header(), properties()), parts(c.sizes...)...), append(parts(c.sizes...), bytesOf(t, called(0x78, dict()))...)} {
			if c.is {
				gets(t, b, api.Msg{Priority: 4, Body: whole[:n]})
			} else {
				saysNothing(t, b)
			}
		}
	}
	// Of each of the bytes one section; and very many of none.
	ones := make([]int, api.MaxBody)
	for i := range ones {
		ones[i] = 1
	}
	gets(t, parts(ones...), api.Msg{Priority: 4, Body: whole})
	gets(t, append(parts(ones...), parts(make([]int, 5000)...)...), api.Msg{Priority: 4, Body: whole})
	saysNothing(t, parts(append(ones, 1)...))
	// No data.
	for _, l := range [][]api.Value{{header()}, {properties(str("i"))}, {called(0x78, dict())}, {header(), called(0x71, dict()), called(0x72, dict()), properties(), called(0x74, dict()), called(0x78, dict())}, {called(0x76, list())}, {called(0x77, binary("x"))}} {
		saysNothing(t, bytesOf(t, l...))
	}
	// Sections of other contents beside data.
	for _, v := range []api.Value{called(0x76, list()), called(0x77, binary("x")), called(0x77, null()), named("amqp:amqp-value:*", str("x")), named("amqp:amqp-sequence:list", list())} {
		saysNothing(t, bytesOf(t, v, data("x")))
		saysNothing(t, bytesOf(t, data("x"), v))
	}
}
