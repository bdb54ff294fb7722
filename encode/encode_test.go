package encode_test

import (
	"encoding/hex"
	"fmt"
	"math"
	"slices"
	"strings"
	"testing"

	"bellwether/api"
	"bellwether/encode"
	"bellwether/value"
)

func number(kind uint8, n uint64) api.Value { return value.Number(kind, n) }

func many(kind uint8, l ...api.Value) api.Value { return value.Many(kind, l) }

func list(l ...api.Value) api.Value { return many(api.ValList, l...) }

func array(l ...api.Value) api.Value { return many(api.ValArray, l...) }

func octets(n int) api.Value { return value.Text(api.ValBinary, strings.Repeat("x", n)) }

// nulls: a list, a map or an array of so many nulls.
func nulls(kind uint8, n int) api.Value {
	return many(kind, slices.Repeat([]api.Value{value.Null()}, n)...)
}

// called: a value that is called by a number.
func called(n uint64, v api.Value) api.Value { return value.Desc(number(api.ValUlong, n), v) }

// named: a value that is called by a symbol.
func named(s string, v api.Value) api.Value { return value.Desc(value.Text(api.ValSymbol, s), v) }

// hexOf: bytes that are written in hex, with blanks between.
func hexOf(t *testing.T, s string) string {
	t.Helper()
	b, err := hex.DecodeString(strings.ReplaceAll(s, " ", ""))
	if err != nil {
		t.Fatal(err)
	}
	return string(b)
}

// brief: a value as text, or how that begins.
func brief(v api.Value) string {
	s := fmt.Sprint(v)
	return s[:min(len(s), 300)]
}

// isBytes: a value's bytes are just these.
func isBytes(t *testing.T, v api.Value, want string) {
	t.Helper()
	b, e := encode.Value(v)
	if e != api.OK || string(b) != want {
		t.Errorf("P5.1: %s: %.200x, %d, not %.200x", brief(v), b, e, want)
	}
}

// isHead: a value's bytes begin so, and there are so many.
func isHead(t *testing.T, what string, v api.Value, head string, long int) {
	t.Helper()
	b, e := encode.Value(v)
	if e != api.OK || len(b) != long || !strings.HasPrefix(string(b), hexOf(t, head)) {
		t.Errorf("P5.1: %s: %.20x.. of %d bytes, %d, not %s.. of %d", what, b, len(b), e, head, long)
	}
}

func TestExamples(t *testing.T) {
	for _, c := range []struct {
		v    api.Value
		want string
	}{
		{value.Null(), "40"},
		{value.Bool(true), "41"},
		{number(api.ValUint, 0), "43"},
		{number(api.ValUint, 5), "52 05"},
		{number(api.ValUint, 300), "70 00 00 01 2c"},
		{number(api.ValInt, math.MaxUint64), "54 ff"},
		{value.Text(api.ValSymbol, "hi"), "a3 02 68 69"},
		{list(), "45"},
		{list(value.Bool(true), number(api.ValUbyte, 7)), "c0 04 02 41 50 07"},
		{array(number(api.ValUint, 1), number(api.ValUint, 300)), "e0 0a 02 70 00 00 00 01 00 00 01 2c"},
		{array(), "e0 02 00 40"},
		{array(called(1, value.Bool(true)), called(1, value.Bool(true))), "e0 05 02 00 53 01 41"},
		{called(16, list()), "00 53 10 45"},
	} {
		isBytes(t, c.v, hexOf(t, c.want))
	}
}

// TestNumbers: each kind's codes, at the numbers where the next one is taken.
func TestNumbers(t *testing.T) {
	below := func(n uint64) uint64 { return -n } // one below 0, 2^64 more
	for _, c := range []struct {
		kind uint8
		n    uint64
		want string
	}{
		{api.ValBool, 0, "42"},
		{api.ValBool, 1, "41"},
		{api.ValUbyte, 0, "50 00"},
		{api.ValUbyte, 255, "50 ff"},
		{api.ValUshort, 0, "60 00 00"},
		{api.ValUshort, 258, "60 01 02"},
		{api.ValUshort, 1<<16 - 1, "60 ff ff"},
		{api.ValUint, 1, "52 01"},
		{api.ValUint, 255, "52 ff"},
		{api.ValUint, 256, "70 00 00 01 00"},
		{api.ValUint, 1<<32 - 1, "70 ff ff ff ff"},
		{api.ValUlong, 0, "44"},
		{api.ValUlong, 1, "53 01"},
		{api.ValUlong, 255, "53 ff"},
		{api.ValUlong, 256, "80 00 00 00 00 00 00 01 00"},
		{api.ValUlong, 1 << 32, "80 00 00 00 01 00 00 00 00"},
		{api.ValUlong, math.MaxUint64, "80 ff ff ff ff ff ff ff ff"},
		{api.ValByte, 0, "51 00"},
		{api.ValByte, 127, "51 7f"},
		{api.ValByte, below(1), "51 ff"},
		{api.ValByte, below(128), "51 80"},
		{api.ValShort, 0, "61 00 00"},
		{api.ValShort, 1<<15 - 1, "61 7f ff"},
		{api.ValShort, below(2), "61 ff fe"},
		{api.ValShort, below(1 << 15), "61 80 00"},
		{api.ValInt, 0, "54 00"},
		{api.ValInt, 127, "54 7f"},
		{api.ValInt, 128, "71 00 00 00 80"},
		{api.ValInt, 255, "71 00 00 00 ff"},
		{api.ValInt, 1<<31 - 1, "71 7f ff ff ff"},
		{api.ValInt, below(128), "54 80"},
		{api.ValInt, below(129), "71 ff ff ff 7f"},
		{api.ValInt, below(1 << 31), "71 80 00 00 00"},
		{api.ValLong, 0, "55 00"},
		{api.ValLong, 127, "55 7f"},
		{api.ValLong, 128, "81 00 00 00 00 00 00 00 80"},
		{api.ValLong, 1 << 32, "81 00 00 00 01 00 00 00 00"},
		{api.ValLong, below(1), "55 ff"},
		{api.ValLong, below(128), "55 80"},
		{api.ValLong, below(129), "81 ff ff ff ff ff ff ff 7f"},
		{api.ValLong, 1 << 63, "81 80 00 00 00 00 00 00 00"},
		{api.ValFloat, 0, "72 00 00 00 00"},
		{api.ValFloat, 0x3f800000, "72 3f 80 00 00"},
		{api.ValFloat, 0x7fc00001, "72 7f c0 00 01"},
		{api.ValDouble, 0, "82 00 00 00 00 00 00 00 00"},
		{api.ValDouble, 0x7ff8000000000001, "82 7f f8 00 00 00 00 00 01"},
		{api.ValChar, 0, "73 00 00 00 00"},
		{api.ValChar, 0x10ffff, "73 00 10 ff ff"},
		{api.ValTime, 0, "83 00 00 00 00 00 00 00 00"},
		{api.ValTime, below(1), "83 ff ff ff ff ff ff ff ff"},
	} {
		isBytes(t, number(c.kind, c.n), hexOf(t, c.want))
	}
}

// TestTexts: those of a length that the kind says, and those that tell their length, up to 255 bytes in one byte.
func TestTexts(t *testing.T) {
	const sixteen = "0123456789abcdef"
	isBytes(t, value.Text(api.ValUuid, sixteen), "\x98"+sixteen)
	isBytes(t, value.Text(api.ValDec32, "\x00\xff\x01\x80"), "\x74\x00\xff\x01\x80")
	isBytes(t, value.Text(api.ValDec64, "\x0001234\xff\x80"), "\x84\x0001234\xff\x80")
	isBytes(t, value.Text(api.ValDec128, sixteen), "\x94"+sixteen)
	for _, c := range []struct {
		kind        uint8
		short, long string
	}{{api.ValBinary, "\xa0", "\xb0"}, {api.ValString, "\xa1", "\xb1"}, {api.ValSymbol, "\xa3", "\xb3"}} {
		isBytes(t, value.Text(c.kind, ""), c.short+"\x00")
		isBytes(t, value.Text(c.kind, "a"), c.short+"\x01a")
		s := strings.Repeat("0123456789\x00\x7f", 10000)
		isBytes(t, value.Text(c.kind, s[:254]), c.short+"\xfe"+s[:254])
		isBytes(t, value.Text(c.kind, s[:255]), c.short+"\xff"+s[:255])
		isBytes(t, value.Text(c.kind, s[:256]), c.long+"\x00\x00\x01\x00"+s[:256])
		isBytes(t, value.Text(c.kind, s[:0x10203]), c.long+"\x00\x01\x02\x03"+s[:0x10203])
	}
	isBytes(t, value.Text(api.ValBinary, "\xff\x00"), "\xa0\x02\xff\x00")
	isBytes(t, value.Text(api.ValString, "\xc3\xa9"), "\xa1\x02\xc3\xa9") // bytes are counted, not characters
	isBytes(t, value.Text(api.ValString, strings.Repeat("\xc3\xa9", 128)), "\xb1\x00\x00\x01\x00"+strings.Repeat("\xc3\xa9", 128))
}

// TestSizes: size and count of one byte up to 255, of four beyond, whichever of both it is.
func TestSizes(t *testing.T) {
	isHead(t, "a list of 1 null", nulls(api.ValList, 1), "c0 02 01 40", 4)
	isHead(t, "a list of 254 nulls", nulls(api.ValList, 254), "c0 ff fe 40", 257)
	isHead(t, "a list of 255 nulls", nulls(api.ValList, 255), "d0 00 00 01 03 00 00 00 ff 40", 264)
	isHead(t, "a list of 256 nulls", nulls(api.ValList, 256), "d0 00 00 01 04 00 00 01 00 40", 265)
	isHead(t, "a list of 1023 nulls", nulls(api.ValList, 1023), "d0 00 00 04 03 00 00 03 ff 40", 1032)
	isHead(t, "a list of 252 bytes", list(octets(252)), "c0 ff 01 a0 fc 78", 257)
	isHead(t, "a list of 253 bytes", list(octets(253)), "d0 00 00 01 03 00 00 00 01 a0 fd 78", 264)
	isHead(t, "a list of 70000 bytes", list(octets(70000)), "d0 00 01 11 79 00 00 00 01 b0 00 01 11 70 78", 70014)

	one := number(api.ValUbyte, 1)
	isBytes(t, many(api.ValMap), "\xc1\x01\x00") // a map of nothing has no code of its own
	isBytes(t, many(api.ValMap, one, value.Null()), "\xc1\x04\x02\x50\x01\x40")
	isHead(t, "a map of 251 bytes", many(api.ValMap, octets(251), value.Null()), "c1 ff 02 a0 fb 78", 257)
	isHead(t, "a map of 252 bytes", many(api.ValMap, octets(252), value.Null()), "d1 00 00 01 03 00 00 00 02 a0 fc 78", 264)

	isHead(t, "an array of 255 nulls", nulls(api.ValArray, 255), "e0 02 ff 40", 4)
	isHead(t, "an array of 256 nulls", nulls(api.ValArray, 256), "f0 00 00 00 05 00 00 01 00 40", 10)
	isHead(t, "an array of 1023 nulls", nulls(api.ValArray, 1023), "f0 00 00 00 05 00 00 03 ff 40", 10)
	isHead(t, "an array of 252 bytes", array(octets(252)), "e0 ff 01 a0 fc 78", 257)
	isHead(t, "an array of 253 bytes", array(octets(253)), "f0 00 00 01 03 00 00 00 01 a0 fd 78", 264)
	// The constructor counts as well: of 253 bytes, two for each name and the code.
	isHead(t, "an array of 249 bytes that are called 0", array(called(0, octets(250))), "e0 ff 01 00 44 a0 fa 78", 257)
	isHead(t, "an array of 250 bytes that are called 0", array(called(0, octets(251))), "f0 00 00 01 03 00 00 00 01 00 44 a0 fb 78", 264)
	for n := range 300 {
		isAsTold(t, nulls(api.ValList, n))
		isAsTold(t, nulls(api.ValArray, n))
		isAsTold(t, list(octets(n)))
		isAsTold(t, list(list(), list(octets(n))))
		isAsTold(t, array(octets(n), octets(1)))
		isAsTold(t, array(list(octets(n)), list()))
		isAsTold(t, array(array(octets(n)), array()))
		isAsTold(t, named(strings.Repeat("n", n), value.Null()))
		isAsTold(t, array(named(strings.Repeat("n", n), value.Null())))
		isAsTold(t, many(api.ValMap, value.Null(), octets(n)))
	}
}

// TestArrays: the kids are told by the first code that can tell all of them.
func TestArrays(t *testing.T) {
	for _, c := range []struct {
		kind uint8
		l    []uint64
		want string
	}{
		{api.ValBool, []uint64{1}, "e0 02 01 41"},
		{api.ValBool, []uint64{1, 1, 1}, "e0 02 03 41"},
		{api.ValBool, []uint64{0, 0}, "e0 02 02 42"},
		{api.ValBool, []uint64{1, 0}, "e0 04 02 56 01 00"},
		{api.ValBool, []uint64{0, 1, 1}, "e0 05 03 56 00 01 01"},
		{api.ValUbyte, []uint64{0, 255}, "e0 04 02 50 00 ff"},
		{api.ValUint, []uint64{0, 0}, "e0 02 02 43"},
		{api.ValUint, []uint64{0, 255}, "e0 04 02 52 00 ff"},
		{api.ValUint, []uint64{256, 0}, "e0 0a 02 70 00 00 01 00 00 00 00 00"},
		{api.ValUlong, []uint64{0}, "e0 02 01 44"},
		{api.ValUlong, []uint64{7, 0}, "e0 04 02 53 07 00"},
		{api.ValUlong, []uint64{0, 256}, "e0 12 02 80 00 00 00 00 00 00 00 00 00 00 00 00 00 00 01 00"},
		{api.ValInt, []uint64{127, math.MaxUint64 - 127}, "e0 04 02 54 7f 80"},
		{api.ValInt, []uint64{math.MaxUint64, 128}, "e0 0a 02 71 ff ff ff ff 00 00 00 80"},
		{api.ValLong, []uint64{1, math.MaxUint64}, "e0 04 02 55 01 ff"},
		{api.ValLong, []uint64{128}, "e0 0a 01 81 00 00 00 00 00 00 00 80"},
		{api.ValChar, []uint64{0x41, 0x42}, "e0 0a 02 73 00 00 00 41 00 00 00 42"},
	} {
		var l []api.Value
		for _, n := range c.l {
			l = append(l, number(c.kind, n))
		}
		isBytes(t, array(l...), hexOf(t, c.want))
	}
	yes, a := value.Bool(true), value.Text(api.ValString, "a")
	for _, c := range []struct {
		v    api.Value
		want string
	}{
		{array(value.Null(), value.Null()), "e0 02 02 40"},
		{array(a, value.Text(api.ValString, "")), "e0 05 02 a1 01 61 00"},
		{array(value.Text(api.ValDec32, "abcd"), value.Text(api.ValDec32, "efgh")), "e0 0a 02 74 61 62 63 64 65 66 67 68"},
		{array(list(), list()), "e0 02 02 45"},
		{array(list(), list(yes)), "e0 07 02 c0 01 00 02 01 41"},
		{array(many(api.ValMap)), "e0 04 01 c1 01 00"},
		{array(many(api.ValMap, a, yes), many(api.ValMap)), "e0 0a 02 c1 05 02 a1 01 61 41 01 00"},
		{array(array(), array(yes), array(yes, value.Bool(false))), "e0 0d 03 e0 02 00 40 02 01 41 04 02 56 01 00"},
		{array(called(1, number(api.ValUint, 1)), called(1, number(api.ValUint, 0))), "e0 07 02 00 53 01 52 01 00"},
		{array(named("a", list()), named("a", list(yes))), "e0 0b 02 00 a3 01 61 c0 01 00 02 01 41"},
		{array(called(256, called(0, yes)), called(256, called(0, yes))), "e0 0e 02 00 80 00 00 00 00 00 00 01 00 00 44 41"},
		{array(called(1, array(yes)), called(1, array())), "e0 0b 02 00 53 01 e0 02 01 41 02 00 40"},
		{list(array(), array()), "c0 09 02 e0 02 00 40 e0 02 00 40"},
	} {
		isBytes(t, c.v, hexOf(t, c.want))
	}
}

// TestArraysOfLongKids: one that needs the wide code, and a short one told by it as well, on whichever side it stands.
func TestArraysOfLongKids(t *testing.T) {
	long := strings.Repeat("x", 256)
	isBytes(t, array(octets(1), octets(256)), hexOf(t, "f0 00 00 01 0e 00 00 00 02 b0 00 00 00 01 78 00 00 01 00")+long)
	isBytes(t, array(octets(256), octets(0)), hexOf(t, "f0 00 00 01 0d 00 00 00 02 b0 00 00 01 00")+long+"\x00\x00\x00\x00")
	isBytes(t, array(list(), list(octets(256))),
		hexOf(t, "f0 00 00 01 1a 00 00 00 02 d0 00 00 00 04 00 00 00 00 00 00 01 09 00 00 00 01 b0 00 00 01 00")+long)
	isBytes(t, array(nulls(api.ValArray, 256), array(value.Bool(true))),
		hexOf(t, "e0 14 02 f0 00 00 00 05 00 00 01 00 40 00 00 00 05 00 00 00 01 41"))
	// A list within holds its own kids by their own codes, however it is told itself.
	isBytes(t, array(list(number(api.ValUint, 1), number(api.ValUint, 300))), hexOf(t, "e0 0b 01 c0 08 02 52 01 70 00 00 01 2c"))
}

func TestCalled(t *testing.T) {
	yes := value.Bool(true)
	for _, c := range []struct {
		v    api.Value
		want string
	}{
		{called(0, yes), "00 44 41"},
		{called(255, yes), "00 53 ff 41"},
		{called(256, yes), "00 80 00 00 00 00 00 00 01 00 41"},
		{named("", value.Null()), "00 a3 00 40"},
		{named("ab", number(api.ValUint, 300)), "00 a3 02 61 62 70 00 00 01 2c"},
		{called(1, called(2, named("c", list(yes)))), "00 53 01 00 53 02 00 a3 01 63 c0 02 01 41"},
		{list(called(1, yes), called(1, yes)), "c0 09 02 00 53 01 41 00 53 01 41"},
		{many(api.ValMap, called(1, yes), called(2, yes)), "c1 09 02 00 53 01 41 00 53 02 41"},
		{called(1, array(called(2, yes))), "00 53 01 e0 05 01 00 53 02 41"},
	} {
		isBytes(t, c.v, hexOf(t, c.want))
	}
	long := strings.Repeat("n", 256)
	isBytes(t, named(long, yes), "\x00\xb3\x00\x00\x01\x00"+long+"\x41")
	isBytes(t, array(named(long, yes)), hexOf(t, "f0 00 00 01 0b 00 00 00 01 00 b3 00 00 01 00")+long+"\x41")
}

// TestGreatest: the deepest values and those of the most parts are told, of more none.
func TestGreatest(t *testing.T) {
	deep, want := list(), "\x45"
	for n := range 15 {
		deep = list(deep)
		want = string([]byte{0xc0, byte(3*n + 2), 1}) + want
		isBytes(t, deep, want)
	}
	isNone(t, list(deep))
	isAsTold(t, nulls(api.ValList, 1023))
	isNone(t, nulls(api.ValList, 1024))
	isNone(t, nulls(api.ValArray, 1024))
	twice := array(deep.Kids[0], deep.Kids[0])
	isAsTold(t, twice)
	isNone(t, array(twice))
	name := number(api.ValUlong, 1)
	chain := value.Desc(name, value.Null())
	for range 14 {
		chain = value.Desc(name, chain)
	}
	isBytes(t, chain, strings.Repeat("\x00\x53\x01", 15)+"\x40")
	isNone(t, value.Desc(name, chain))
}

// isNone: a value that may not be has no bytes.
func isNone(t *testing.T, v api.Value) {
	t.Helper()
	if b, e := encode.Value(v); len(b) != 0 || e != api.ErrArg {
		t.Errorf("P5.1: %s: %.200x, %d", brief(v), b, e)
	}
}

func TestWrong(t *testing.T) {
	yes := value.Bool(true)
	for _, v := range []api.Value{
		{}, {Kind: 26}, {Kind: 255}, {Kind: api.ValNull, Num: 1}, {Kind: api.ValNull, Text: "x"}, {Kind: api.ValBool, Kids: []api.Value{yes}},
		{Kind: api.ValList, Num: 1}, {Kind: api.ValMap, Text: "x"}, {Kind: api.ValBinary, Num: 1},
		number(api.ValBool, 2), number(api.ValUbyte, 256), number(api.ValUshort, 1<<16), number(api.ValUint, 1<<32), number(api.ValByte, 128), number(api.ValShort, 1<<15), number(api.ValInt, 1<<31),
		number(api.ValFloat, 1<<32), number(api.ValChar, 0xd800), number(api.ValChar, 0x110000),
		value.Text(api.ValUuid, "x"), value.Text(api.ValDec32, ""), value.Text(api.ValDec64, "x"), value.Text(api.ValDec128, "x"), value.Text(api.ValString, "\xff"), value.Text(api.ValSymbol, "\xc3\xa9"),
		many(api.ValMap, yes), many(api.ValMap, yes, yes, yes, yes), array(yes, value.Null()), array(number(api.ValUint, 1), number(api.ValUlong, 1)),
		array(called(1, yes), called(2, yes)), array(called(1, yes), yes), array(called(1, yes), called(1, value.Null())),
		many(api.ValDesc), many(api.ValDesc, yes), value.Desc(yes, yes), value.Desc(number(api.ValUint, 1), yes), many(api.ValDesc, number(api.ValUlong, 1), yes, yes),
	} {
		for _, around := range []api.Value{v, list(v), list(yes, v, yes), array(v), many(api.ValMap, v, yes), many(api.ValMap, yes, v), called(1, v), list(called(1, list(v)))} {
			isNone(t, around)
		}
	}
	endless := []api.Value{{Kind: api.ValList}}
	endless[0].Kids = endless
	isNone(t, endless[0])
}
