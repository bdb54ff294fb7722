package decode_test

import (
	"encoding/hex"
	"fmt"
	"math"
	"slices"
	"strings"
	"testing"

	"bellwether/api"
	"bellwether/decode"
	"bellwether/value"
)

func number(kind uint8, n uint64) api.Value { return value.Number(kind, n) }

func text(kind uint8, s string) api.Value { return value.Text(kind, s) }

func list(l ...api.Value) api.Value { return value.Many(api.ValList, l) }

func dict(l ...api.Value) api.Value { return value.Many(api.ValMap, l) }

func array(l ...api.Value) api.Value { return value.Many(api.ValArray, l) }

// called: a value that is called by a number.
func called(n uint64, v api.Value) api.Value { return value.Desc(number(api.ValUlong, n), v) }

// named: a value that is called by a symbol.
func named(s string, v api.Value) api.Value { return value.Desc(text(api.ValSymbol, s), v) }

// nulls: so many nulls.
func nulls(n int) []api.Value { return slices.Repeat([]api.Value{value.Null()}, n) }

// of: the bytes that are written in hex, with blanks between.
func of(t *testing.T, s string) string {
	t.Helper()
	b, err := hex.DecodeString(strings.ReplaceAll(s, " ", ""))
	if err != nil {
		t.Fatal(err)
	}
	return string(b)
}

// four: a number of 4 bytes.
func four(n int) string { return string([]byte{byte(n >> 24), byte(n >> 16), byte(n >> 8), byte(n)}) }

// brief: a value as text, or how that begins.
func brief(v api.Value) string {
	s := fmt.Sprint(v)
	return s[:min(len(s), 300)]
}

// is: bytes are all of a value; with others behind them they are as well, and with fewer they are none.
func is(t *testing.T, b string, want api.Value) {
	t.Helper()
	for _, behind := range []string{"", "\x00", "\x40", "\xff", b, strings.Repeat("\x45", 300)} {
		v, n, e := decode.Value([]byte(b + behind))
		if e != api.OK || n != len(b) || !value.Same(v, want) {
			t.Errorf("P6.1: %.100x, behind it %.20x: %s, %d, %d, not %s, %d", b, behind, brief(v), n, e, brief(want), len(b))
		}
	}
	for cut := range len(b) {
		// Of what is long not each cut is asked.
		if cut < 20 || cut > len(b)-20 || cut%97 == 0 {
			isNone(t, b[:cut], api.ErrShort)
		}
	}
}

// isNone: bytes are answered by an error, and by nothing else.
func isNone(t *testing.T, b string, want api.Errno) {
	t.Helper()
	v, n, e := decode.Value([]byte(b))
	if e != want || n != 0 || !value.Same(v, api.Value{}) {
		t.Errorf("P6.1: %.100x: %s, %d, %d, not the error %d", b, brief(v), n, e, want)
	}
}

// isForm: bytes say nothing, whatever stands behind them, and what is made of them does not either.
func isForm(t *testing.T, b string) {
	t.Helper()
	for _, behind := range []string{"", "\x00", "\x40\x40\x40\x40\x40", strings.Repeat("\x45", 300)} {
		isNone(t, b+behind, api.ErrForm)
	}
	isNone(t, "\x00\x53\x01"+b, api.ErrForm)
	isNone(t, "\xd0"+four(4+len(b))+four(1)+b, api.ErrForm)
	isNone(t, "\xd1"+four(5+len(b))+four(2)+"\x40"+b, api.ErrForm)
	isNone(t, "\xf0"+four(4+len(b))+four(1)+b, api.ErrForm)
}

func TestExamples(t *testing.T) {
	is(t, of(t, "70 00 00 00 05"), number(api.ValUint, 5))
	if v, n, e := decode.Value([]byte(of(t, "70 00 00 00 05 ff"))); !value.Same(v, number(api.ValUint, 5)) || n != 5 || e != api.OK {
		t.Errorf("P6.1: %v, %d, %d", v, n, e)
	}
	is(t, of(t, "d0 00 00 00 05 00 00 00 01 40"), list(value.Null()))
	isNone(t, of(t, "c0 04 02 41 50"), api.ErrShort)
	for _, s := range []string{"c0 02 02 41", "56 02", "c0 00", "3f", "00 40 40"} {
		isNone(t, of(t, s), api.ErrForm)
	}
	for _, s := range []string{"00", "00 53", "", "a1"} {
		isNone(t, of(t, s), api.ErrShort)
	}
	isNone(t, of(t, "f0 00 00 00 05 00 00 04 01 40"), api.ErrForm)
}

// TestNumbers: each code of those without kids that has data of one length, at its edges.
func TestNumbers(t *testing.T) {
	below := func(n uint64) uint64 { return -n } // one below 0, 2^64 more
	is(t, "\x40", value.Null())
	for _, c := range []struct {
		b    string
		kind uint8
		n    uint64
	}{
		{"41", api.ValBool, 1}, {"42", api.ValBool, 0}, {"56 00", api.ValBool, 0}, {"56 01", api.ValBool, 1},
		{"50 00", api.ValUbyte, 0}, {"50 80", api.ValUbyte, 128}, {"50 ff", api.ValUbyte, 255},
		{"60 00 00", api.ValUshort, 0}, {"60 01 02", api.ValUshort, 258}, {"60 ff ff", api.ValUshort, 1<<16 - 1},
		{"43", api.ValUint, 0}, {"52 00", api.ValUint, 0}, {"52 80", api.ValUint, 128}, {"52 ff", api.ValUint, 255},
		{"70 00 00 00 00", api.ValUint, 0}, {"70 00 00 00 ff", api.ValUint, 255}, {"70 01 02 03 04", api.ValUint, 0x01020304}, {"70 ff ff ff ff", api.ValUint, 1<<32 - 1},
		{"44", api.ValUlong, 0}, {"53 00", api.ValUlong, 0}, {"53 ff", api.ValUlong, 255},
		{"80 00 00 00 00 00 00 00 00", api.ValUlong, 0}, {"80 01 02 03 04 05 06 07 08", api.ValUlong, 0x0102030405060708}, {"80 ff ff ff ff ff ff ff ff", api.ValUlong, math.MaxUint64},
		{"51 00", api.ValByte, 0}, {"51 7f", api.ValByte, 127}, {"51 80", api.ValByte, below(128)}, {"51 ff", api.ValByte, below(1)},
		{"61 00 00", api.ValShort, 0}, {"61 7f ff", api.ValShort, 1<<15 - 1}, {"61 80 00", api.ValShort, below(1 << 15)}, {"61 ff fe", api.ValShort, below(2)}, {"61 00 ff", api.ValShort, 255},
		{"54 00", api.ValInt, 0}, {"54 7f", api.ValInt, 127}, {"54 80", api.ValInt, below(128)}, {"54 ff", api.ValInt, below(1)},
		{"71 00 00 00 00", api.ValInt, 0}, {"71 00 00 00 80", api.ValInt, 128}, {"71 ff ff ff ff", api.ValInt, below(1)}, {"71 7f ff ff ff", api.ValInt, 1<<31 - 1}, {"71 80 00 00 00", api.ValInt, below(1 << 31)},
		{"55 00", api.ValLong, 0}, {"55 7f", api.ValLong, 127}, {"55 80", api.ValLong, below(128)}, {"55 ff", api.ValLong, below(1)},
		{"81 00 00 00 00 00 00 00 01", api.ValLong, 1}, {"81 ff ff ff ff ff ff ff ff", api.ValLong, below(1)}, {"81 80 00 00 00 00 00 00 00", api.ValLong, 1 << 63}, {"81 00 00 00 00 80 00 00 00", api.ValLong, 1 << 31},
		{"72 00 00 00 00", api.ValFloat, 0}, {"72 3f 80 00 00", api.ValFloat, 0x3f800000}, {"72 ff c0 00 01", api.ValFloat, 0xffc00001},
		{"82 00 00 00 00 00 00 00 00", api.ValDouble, 0}, {"82 ff f8 00 00 00 00 00 01", api.ValDouble, 0xfff8000000000001},
		{"73 00 00 00 00", api.ValChar, 0}, {"73 00 00 d7 ff", api.ValChar, 0xd7ff}, {"73 00 00 e0 00", api.ValChar, 0xe000}, {"73 00 10 ff ff", api.ValChar, 0x10ffff},
		{"83 00 00 00 00 00 00 00 00", api.ValTime, 0}, {"83 ff ff ff ff ff ff ff ff", api.ValTime, below(1)}, {"83 00 00 01 02 03 04 05 06", api.ValTime, 0x010203040506},
	} {
		is(t, of(t, c.b), number(c.kind, c.n))
	}
	for _, s := range []string{"56 02", "56 80", "56 ff", "73 00 00 d8 00", "73 00 00 df ff", "73 00 11 00 00", "73 80 00 00 41", "73 ff ff ff ff"} {
		isForm(t, of(t, s))
	}
}

// TestTexts: those of a length that the code says, and those that tell their length, in 1 byte or in 4.
func TestTexts(t *testing.T) {
	const sixteen = "\x00123456789abcde\xff"
	is(t, "\x98"+sixteen, text(api.ValUuid, sixteen))
	is(t, "\x94"+sixteen, text(api.ValDec128, sixteen))
	is(t, "\x84"+sixteen[8:], text(api.ValDec64, sixteen[8:]))
	is(t, "\x74"+sixteen[12:], text(api.ValDec32, sixteen[12:]))
	for _, c := range []struct {
		kind        uint8
		short, long string
	}{{api.ValBinary, "\xa0", "\xb0"}, {api.ValString, "\xa1", "\xb1"}, {api.ValSymbol, "\xa3", "\xb3"}} {
		s := strings.Repeat("0123456789\x00\x7f", 6000)
		for _, n := range []int{0, 1, 2, 127, 128, 254, 255} {
			is(t, c.short+string([]byte{byte(n)})+s[:n], text(c.kind, s[:n]))
		}
		// Four bytes tell a short one as well.
		for _, n := range []int{0, 1, 255, 256, 0x10203} {
			is(t, c.long+four(n)+s[:n], text(c.kind, s[:n]))
		}
		isNone(t, c.short+"\x01", api.ErrShort)
		isNone(t, c.long+"\x7f\xff\xff\xff"+s, api.ErrShort)
		isNone(t, c.long+"\x80\x00\x00\x00"+s, api.ErrShort)
		isNone(t, c.long+"\xff\xff\xff\xff"+s, api.ErrShort)
	}
	is(t, "\xa0\x02\xff\xc0", text(api.ValBinary, "\xff\xc0"))
	is(t, "\xa1\x02\xc3\xa9", text(api.ValString, "\xc3\xa9"))
	is(t, "\xb1\x00\x00\x00\x04\xf4\x8f\xbf\xbf", text(api.ValString, "\xf4\x8f\xbf\xbf"))
	for _, s := range []string{"a1 01 80", "a1 01 c3", "a1 02 c0 80", "a1 03 ed a0 80", "b1 00 00 00 01 ff", "a3 01 80", "a3 02 c3 a9", "b3 00 00 00 01 ff"} {
		isForm(t, of(t, s))
	}
}

// codesOf: each kind's codes.
var codesOf = [25]string{"", "\x40", "\x41\x42\x56", "\x50", "\x60", "\x43\x52\x70", "\x44\x53\x80", "\x51", "\x61", "\x54\x71", "\x55\x81",
	"\x72", "\x82", "\x73", "\x83", "\x98", "\x74", "\x84", "\x94", "\xa0\xb0", "\xa1\xb1", "\xa3\xb3", "\x45\xc0\xd0", "\xc1\xd1", "\xe0\xf0"}

// allCodes: those of all kinds.
var allCodes = strings.Join(codesOf[:], "")

// kinds: the kind of each byte; 0, if it is no code.
var kinds = func() (all [256]uint8) {
	for kind, l := range codesOf {
		for _, code := range []byte(l) {
			all[code] = uint8(kind)
		}
	}
	return all
}()

// dataLong: how many bytes the data of a code have, where those that tell a size tell nothing but noughts.
func dataLong(code byte) int {
	return []int{0, 0, 0, 0, 0, 1, 2, 4, 8, 16, 1, 4, 1, 4, 1, 4}[code>>4]
}

// TestFirstBytes: every byte, with nothing behind it, and with noughts: each begins a value, or says nothing, or waits for more.
func TestFirstBytes(t *testing.T) {
	for first := range 256 {
		code := byte(first)
		kind := kinds[code]
		long := dataLong(code)
		b := string([]byte{code}) + strings.Repeat("\x00", 40)
		switch {
		case code == 0:
			isNone(t, b[:1], api.ErrShort)
			isNone(t, b, api.ErrForm)
		case kind == 0:
			isNone(t, b[:1], api.ErrForm)
			isNone(t, b, api.ErrForm)
		case long == 0:
			if v, n, e := decode.Value([]byte(b)); v.Kind != kind || n != 1 || e != api.OK {
				t.Errorf("P6.1: %x: %v, %d, %d", code, v, n, e)
			}
		default:
			for cut := 1; cut <= long; cut++ {
				isNone(t, b[:cut], api.ErrShort)
			}
			v, n, e := decode.Value([]byte(b))
			if code >= 0xc0 { // no count
				isNone(t, b, api.ErrForm)
			} else if v.Kind != kind || n != 1+long || e != api.OK {
				t.Errorf("P6.1: %x: %v, %d, %d", code, v, n, e)
			}
		}
		// What a value is called: the codes of two kinds alone. With nothing behind it, it is one that waits.
		want := api.ErrForm
		if kind == api.ValUlong || kind == api.ValSymbol {
			want = api.ErrShort
		}
		isNone(t, "\x00"+b[:1], want)
		isNone(t, "\x00"+b[:1+long], want)
	}
}

// TestLists: lists and maps, whichever way they are told.
func TestLists(t *testing.T) {
	yes, one, a := value.Bool(true), number(api.ValUint, 1), text(api.ValString, "a")
	for _, c := range []struct {
		b    string
		want api.Value
	}{
		{"45", list()},
		{"c0 01 00", list()},
		{"d0 00 00 00 04 00 00 00 00", list()},
		{"c0 02 01 40", list(value.Null())},
		{"c0 04 02 41 50 07", list(yes, number(api.ValUbyte, 7))},
		{"c0 05 02 56 01 50 07", list(yes, number(api.ValUbyte, 7))},
		{"d0 00 00 00 07 00 00 00 02 41 50 07", list(yes, number(api.ValUbyte, 7))},
		{"c0 0b 02 70 00 00 00 01 b1 00 00 00 00", list(one, text(api.ValString, ""))},
		{"c0 05 03 45 c0 01 00", api.Value{}},
		{"c0 05 02 45 c0 01 00", list(list(), list())},
		{"c0 0b 01 d0 00 00 00 05 00 00 00 01 41", list(list(yes))},
		{"c1 01 00", dict()},
		{"d1 00 00 00 04 00 00 00 00", dict()},
		{"c1 05 02 a1 01 61 41", dict(a, yes)},
		{"d1 00 00 00 08 00 00 00 02 a1 01 61 41", dict(a, yes)},
		{"c1 08 04 52 01 41 53 01 56 00", dict(one, yes, number(api.ValUlong, 1), value.Bool(false))},
		{"c1 04 02 c0 01 00 45", api.Value{}},
		{"c1 05 02 c0 01 00 45", dict(list(), list())},
		{"c0 06 01 00 53 01 c1 01 00", api.Value{}},
		{"c0 07 01 00 53 01 c1 01 00", list(called(1, dict()))},
	} {
		if c.want.Kind == 0 {
			isForm(t, of(t, c.b))
		} else {
			is(t, of(t, c.b), c.want)
		}
	}
	for _, s := range []string{
		"c1 02 01 40",       // a key without anything behind it
		"c1 04 03 40 41 42", // and one more
		"c1 05 04 40 41 40 42",
		"c1 07 04 52 01 41 52 01 41", // the same key twice
		"c1 09 04 43 41 70 00 00 00 00 41",
		"c1 06 04 43 41 52 00 41", // told in two ways
	} {
		isForm(t, of(t, s))
	}
	is(t, of(t, "c1 05 04 40 41 41 42"), dict(value.Null(), yes, yes, value.Bool(false)))
}

// TestSizes: those that are too small for a count, too small or too great for what is counted, or tell of more than there is.
func TestSizes(t *testing.T) {
	for _, narrow := range []string{"c0", "c1", "e0"} {
		isForm(t, of(t, narrow+"00"))
		isNone(t, of(t, narrow), api.ErrShort)
		isNone(t, of(t, narrow+"01"), api.ErrShort)
		isNone(t, of(t, narrow+"ff 01"), api.ErrShort)
	}
	for _, wide := range []string{"d0", "d1", "f0"} {
		for size := range 4 {
			isForm(t, of(t, wide)+four(size)+strings.Repeat("\x00", size))
			isNone(t, of(t, wide)+four(size+1)+strings.Repeat("\x00", size), api.ErrShort)
			isNone(t, of(t, wide)+four(5)[:size], api.ErrShort)
		}
		for _, size := range []string{"7f ff ff ff", "80 00 00 00", "ff ff ff ff"} {
			isNone(t, of(t, wide+size), api.ErrShort)
			isNone(t, of(t, wide+size+"00 00 00 00 40"), api.ErrShort)
			// Within another value nothing comes any more.
			isForm(t, of(t, "c0 0a 01"+wide+size+"00 00 00 00"))
		}
	}
	for _, s := range []string{
		"c0 02 00 40", "c0 03 01 40 40", "c0 02 01 50", "c0 03 02 50 01", "c0 01 01", "c0 03 01 00 53", "c0 04 01 00 53 01", // of a list
		"d0 00 00 00 05 00 00 00 00 40", "d0 00 00 00 04 00 00 00 01", "d0 00 00 00 05 00 00 00 02 40", "d0 00 00 00 06 00 00 00 01 40 40",
		"c1 02 00 40", "c1 04 02 40 40 40", "c1 02 02 40", "d1 00 00 00 05 00 00 00 02 40", "d1 00 00 00 07 00 00 00 02 40 40 40",
		"e0 01 00", "e0 01 01", "e0 03 00 40 40", "e0 03 01 40 40", "e0 02 01 50", "e0 03 02 50 01", "e0 04 01 50 01 02", // of an array
		"f0 00 00 00 04 00 00 00 00", "f0 00 00 00 05 00 00 00 01 50", "f0 00 00 00 06 00 00 00 00 40 40",
		"c0 04 01 c0 03 01", "c0 04 01 c0 00 40", "c0 05 01 a1 03 61 62", "c0 03 01 b1 00", "c0 04 01 e0 01 00", // within a list
		"c0 02 01 3f", "c0 02 01 00", "c0 02 01 ff", "c0 03 02 40 3f", "e0 02 01 3f", "e0 02 00 3f", "e0 02 01 00", "e0 02 00 00", // no codes
	} {
		isForm(t, of(t, s))
	}
}

// TestCuts: each code's data cut at each byte: alone they are wanting, within a value they say nothing.
func TestCuts(t *testing.T) {
	for _, code := range []byte(allCodes) {
		full := string([]byte{code}) + strings.Repeat("\x00", dataLong(code))
		switch code {
		case 0xa0, 0xa1, 0xa3:
			full = string([]byte{code}) + "\x03abc"
		case 0xb0, 0xb1, 0xb3:
			full = string([]byte{code}) + "\x00\x00\x00\x03abc"
		case 0xc0, 0xc1:
			full = string([]byte{code}) + "\x04\x02\x50\x01\x40"
		case 0xd0, 0xd1:
			full = string([]byte{code}) + "\x00\x00\x00\x07\x00\x00\x00\x02\x50\x01\x40"
		case 0xe0:
			full = string([]byte{code}) + "\x04\x02\x50\x01\x02"
		case 0xf0:
			full = string([]byte{code}) + "\x00\x00\x00\x07\x00\x00\x00\x02\x50\x01\x02"
		}
		for _, around := range []string{"", "\x00\x53\x01", "\x00\xa3\x02ab\x00\x44"} {
			b := around + full
			v, n, e := decode.Value([]byte(b))
			if e != api.OK || n != len(b) {
				t.Errorf("P6.1: %x: %s, %d, %d", b, brief(v), n, e)
			}
			is(t, b, v)
			is(t, "\xd0"+four(5+len(b))+four(2)+b+"\x43", list(v, number(api.ValUint, 0)))
			is(t, "\xf0"+four(4+len(b))+four(1)+b, array(v))
			for cut := range len(b) {
				isForm(t, "\xd0"+four(4+cut)+four(1)+b[:cut])
				isForm(t, "\xd0"+four(5+cut)+four(2)+"\x40"+b[:cut])
				isForm(t, "\xd1"+four(5+cut)+four(2)+"\x40"+b[:cut])
				isForm(t, "\xf0"+four(4+cut)+four(1)+b[:cut])
			}
		}
	}
}

// TestArrays: one constructor, and so many data.
func TestArrays(t *testing.T) {
	yes, no := value.Bool(true), value.Bool(false)
	for _, c := range []struct {
		b    string
		want api.Value
	}{
		{"e0 02 00 40", array()},
		{"e0 02 00 56", array()}, // whatever there is none of
		{"e0 02 00 f0", array()},
		{"f0 00 00 00 05 00 00 00 00 41", array()},
		{"e0 05 00 00 53 01 40", array()},
		{"e0 09 00 00 a3 02 61 62 00 44 d0", array()},
		{"e0 02 02 40", array(nulls(2)...)},
		{"e0 02 03 41", array(yes, yes, yes)},
		{"e0 02 01 42", array(no)},
		{"e0 04 02 56 01 00", array(yes, no)},
		{"e0 02 02 43", array(number(api.ValUint, 0), number(api.ValUint, 0))},
		{"e0 0a 02 70 00 00 00 01 00 00 01 2c", array(number(api.ValUint, 1), number(api.ValUint, 300))},
		{"f0 00 00 00 07 00 00 00 02 52 01 02", array(number(api.ValUint, 1), number(api.ValUint, 2))},
		{"e0 04 02 54 ff 7f", array(number(api.ValInt, math.MaxUint64), number(api.ValInt, 127))},
		{"e0 05 02 a1 01 61 00", array(text(api.ValString, "a"), text(api.ValString, ""))},
		{"e0 0b 02 b3 00 00 00 00 00 00 00 01 61", array(text(api.ValSymbol, ""), text(api.ValSymbol, "a"))},
		{"e0 02 02 45", array(list(), list())},
		{"e0 07 02 c0 01 00 02 01 41", array(list(), list(yes))},
		{"e0 08 02 c1 01 00 03 02 40 41", array(dict(), dict(value.Null(), yes))},
		{"e0 0a 03 e0 02 00 40 02 02 41 02 01", api.Value{}},
		{"e0 0b 03 e0 02 00 40 02 02 41 02 01 43", array(array(), array(yes, yes), array(number(api.ValUint, 0)))},
		{"e0 05 02 00 53 01 41", array(called(1, yes), called(1, yes))},
		{"e0 0b 02 00 53 01 00 a3 01 61 50 07 08", array(called(1, named("a", number(api.ValUbyte, 7))), called(1, named("a", number(api.ValUbyte, 8))))},
		{"e0 0d 01 00 80 00 00 00 00 00 00 00 01 50 07", array(called(1, number(api.ValUbyte, 7)))},
		{"e0 07 01 c0 04 01 00 44 40", array(list(called(0, value.Null())))},
	} {
		if c.want.Kind == 0 {
			isForm(t, of(t, c.b))
		} else {
			is(t, of(t, c.b), c.want)
		}
	}
	for _, s := range []string{
		"e0 04 02 56 01 02", "e0 06 01 73 00 00 d8 00", "e0 04 01 a1 01 ff", "e0 04 01 a3 01 80", // what may not be within
		"e0 04 01 00 40 40", "e0 04 00 00 40 40", "e0 05 01 00 52 01 40", "e0 05 01 00 a1 00 40", "e0 03 00 00 44", "e0 04 00 00 44 3f", "e0 05 02 00 00 44 40", // no constructors
		"e0 06 01 00 a3 01 80 40", // called what may not be
	} {
		isForm(t, of(t, s))
	}
}

// TestCalled: constructors with a 00, and with several.
func TestCalled(t *testing.T) {
	yes := value.Bool(true)
	long := strings.Repeat("n", 300)
	for _, c := range []struct {
		b    string
		want api.Value
	}{
		{of(t, "00 44 41"), called(0, yes)},
		{of(t, "00 53 00 41"), called(0, yes)},
		{of(t, "00 53 ff 56 01"), called(255, yes)},
		{of(t, "00 80 00 00 00 00 00 00 00 10 45"), called(16, list())},
		{of(t, "00 80 ff ff ff ff ff ff ff ff 45"), called(math.MaxUint64, list())},
		{of(t, "00 a3 00 40"), named("", value.Null())},
		{of(t, "00 a3 02 61 62 70 00 00 01 2c"), named("ab", number(api.ValUint, 300))},
		{of(t, "00 b3 00 00 00 01 61 41"), named("a", yes)},
		{of(t, "00 b3 00 00 01 2c") + long + "\x40", named(long, value.Null())},
		{of(t, "00 53 01 00 44 00 a3 01 63 c0 02 01 41"), called(1, called(0, named("c", list(yes))))},
		{of(t, "c0 09 02 00 53 01 41 00 53 01 41"), list(called(1, yes), called(1, yes))},
		{of(t, "c1 09 02 00 53 01 41 00 53 02 41"), dict(called(1, yes), called(2, yes))},
	} {
		is(t, c.b, c.want)
	}
	for _, s := range []string{
		"00 40 40", "00 41 40", "00 43 40", "00 52 01 40", "00 70 00 00 00 01 40", "00 55 01 40", "00 a0 01 61 40", "00 a1 01 61 40", "00 b1 00 00 00 01 61 40", "00 45 40", "00 3f 40", "00 00 53 01 53 01 40",
		"00 53 01 3f", "00 53 01 00 41", "00 53 01 01", "00 a3 01 80 40", "00 b3 00 00 00 02 c3 a9 40",
	} {
		isForm(t, of(t, s))
	}
}

// TestOrder: a constructor is asked from the left, ahead of the data; then whether these are there; then what they say.
func TestOrder(t *testing.T) {
	for _, s := range []string{
		"00 a3 01 80", "00 a3 01 80 70", "00 a3 01 80 50", "00 a3 01 80 00 53", // that the name may not be is not asked yet
		"00 a3 02 61", "00 b3 00 00 00", "00 b3 00 00 00 02 61", "00 b3 ff ff ff ff 3f", "00 80 00 00 00 00 00 00 00", "00 53 01 00", "00 53 01 00 80 3f",
		"c0 05 01 3f", "c0 05 ff", "d0 00 00 00 05 00 00 04 01", "c1 03 01 40", "e0 04 01 3f", "e0 04 00", "a1 02 ff", "a3 02 80", "73 ff ff ff", "c0 05 01 c0 00 3f",
	} {
		isNone(t, of(t, s), api.ErrShort)
	}
	for _, s := range []string{"00 3f", "00 40", "00 00", "00 53 01 3f", "00 a3 01 80 3f", "00 53 01 00 3f", "00 a3 01 80 00 a1"} {
		isNone(t, of(t, s), api.ErrForm)
	}
	// More names than may be are still asked one by one, however many there are.
	chain := strings.Repeat("\x00\x53\x01", 100000)
	isNone(t, chain, api.ErrShort)
	isNone(t, chain+"\x50", api.ErrShort)
	isNone(t, chain+"\x00\x53", api.ErrShort)
	isNone(t, chain+"\x3f", api.ErrForm)
	isNone(t, chain+"\x50\x01", api.ErrForm)
	isForm(t, chain+"\x40")
	is(t, "\xf0"+four(5+len(chain))+four(0)+chain+"\x40", array()) // an array of nothing has none of them
	isForm(t, "\xf0"+four(5+len(chain))+four(1)+chain+"\x40")
	is(t, "\xe0\x06\x00\x00\xa3\x01\x80\x40", array()) // nor what it may not be called
}

// TestCounts: at the greatest, and beyond, with parts that have no bytes as well.
func TestCounts(t *testing.T) {
	body := func(n int) string { return strings.Repeat("\x40", n) }
	is(t, "\xc0\xff\xfe"+body(254), list(nulls(254)...))
	is(t, "\xd0"+four(4+1022)+four(1022)+body(1022), list(nulls(1022)...))
	is(t, "\xd0"+four(4+1023)+four(1023)+body(1023), list(nulls(1023)...))
	is(t, "\xe0\x02\xff\x40", array(nulls(255)...))
	is(t, "\xf0"+four(5)+four(1023)+"\x40", array(nulls(1023)...))
	for _, n := range []int{1024, 1025, 1026, 5000} {
		isForm(t, "\xd0"+four(4+n)+four(n)+body(n))
		isForm(t, "\xd1"+four(4+n)+four(n)+body(n))
	}
	for _, n := range []int{1024, 1025, 1 << 16, 1 << 24, 1<<31 - 1, 1 << 31, 1<<32 - 1} {
		isForm(t, "\xd0"+four(4)+four(n))
		isForm(t, "\xd1"+four(4)+four(n))
		for _, code := range []string{"\x40", "\x41", "\x42", "\x43", "\x44", "\x45", "\x50", "\x00\x53\x01\x40"} {
			isForm(t, "\xf0"+four(4+len(code))+four(n)+code)
		}
	}
	// All parts count, wherever they stand, names too: of 1 and 3 each, of 1 and 2 each.
	three := "\x00\x44\x40"
	is(t, "\xd0"+four(4+3*341)+four(341)+strings.Repeat(three, 341), list(slices.Repeat([]api.Value{called(0, value.Null())}, 341)...))
	isForm(t, "\xd0"+four(5+3*341)+four(342)+strings.Repeat(three, 341)+"\x40")
	is(t, "\xf0"+four(4+3)+four(341)+three, array(slices.Repeat([]api.Value{called(0, value.Null())}, 341)...))
	isForm(t, "\xf0"+four(4+3)+four(342)+three)
	two := "\xc0\x02\x01\x40"
	is(t, "\xd0"+four(5+4*511)+four(512)+strings.Repeat(two, 511)+"\x40", list(append(slices.Repeat([]api.Value{list(value.Null())}, 511), value.Null())...))
	isForm(t, "\xd0"+four(4+4*512)+four(512)+strings.Repeat(two, 512))
	// Few bytes may tell of far more parts than may be: these are not even made.
	many := "\xf0" + four(5+9*1000) + four(1000) + "\xf0" + strings.Repeat(four(5)+four(1023)+"\x40", 1000)
	isForm(t, many)
	if made := testing.AllocsPerRun(1, func() { isNone(t, many, api.ErrForm) }); made > 10000 {
		t.Errorf("R1: %v pieces of memory for %d bytes", made, len(many))
	}
}

// nest: so many lists, one within the other, around bytes.
func nest(n int, b string) string {
	var all strings.Builder
	for left := n - 1; left >= 0; left-- {
		all.WriteString("\xd0" + four(4+9*left+len(b)) + four(1))
	}
	return all.String() + b
}

// within: the value of which nest makes the bytes.
func within(n int, v api.Value) api.Value {
	for range n {
		v = list(v)
	}
	return v
}

// TestDepth: at the greatest, and beyond, by lists, by arrays and by names.
func TestDepth(t *testing.T) {
	yes := value.Bool(true)
	is(t, nest(15, "\x41"), within(15, yes))
	is(t, nest(15, "\x45"), within(15, list()))
	isForm(t, nest(16, "\x41"))
	isForm(t, nest(16, "\x45"))
	isForm(t, nest(15, "\x00\x44\x41"))
	isForm(t, nest(15, "\xc0\x02\x01\x41"))
	isForm(t, nest(200000, "\x41"))
	isForm(t, nest(200000, "\x3f"))
	isNone(t, nest(200000, "\x41")[:9*200000], api.ErrShort)
	isNone(t, nest(3000000, "\x41"), api.ErrForm) // far deeper than calls within calls may go
	is(t, nest(14, "\xe0\x02\x01\x41"), within(14, array(yes)))
	isForm(t, nest(15, "\xe0\x02\x01\x41"))
	// An array's names make its kids deeper, of an array of nothing they are nobody's.
	is(t, nest(13, "\xe0\x04\x01\x00\x44\x41"), within(13, array(called(0, yes))))
	isForm(t, nest(14, "\xe0\x04\x01\x00\x44\x41"))
	is(t, nest(15, "\xe0\x04\x00\x00\x44\x41"), within(15, array()))
	isForm(t, nest(16, "\xe0\x04\x00\x00\x44\x41"))
	for names := 13; names <= 18; names++ {
		chain := strings.Repeat("\x00\x44", names)
		want := yes
		for range names {
			want = called(0, want)
		}
		if names <= 15 {
			is(t, chain+"\x41", want)
		} else {
			isForm(t, chain+"\x41")
		}
		if names <= 14 {
			is(t, "\xe0"+string([]byte{byte(2 + len(chain)), 1})+chain+"\x41", array(want))
			is(t, chain+"\xc0\x02\x01\x41", innermost(want, list(yes)))
		} else {
			isForm(t, "\xe0"+string([]byte{byte(2 + len(chain)), 1})+chain+"\x41")
			isForm(t, chain+"\xc0\x02\x01\x41")
		}
		is(t, "\xe0"+string([]byte{byte(2 + len(chain)), 0})+chain+"\x41", array())
	}
}

// innermost: what is called something as v is, but is another value.
func innermost(v, is api.Value) api.Value {
	if v.Kind != api.ValDesc {
		return is
	}
	return value.Desc(v.Kids[0], innermost(v.Kids[1], is))
}

// TestWrong: bytes that begin no value, or one that may not be, few and many.
func TestWrong(t *testing.T) {
	for _, s := range []string{"GET / HTTP/1.1", "\x01", "\x3f\x3f", "\x46", "\x57\x01", "\x75", "\x85", "\x95", "\xa2\x01a", "\xb2", "\xc2\x01\x00", "\xd2", "\xe1", "\xf1", "\xff", strings.Repeat("\xff", 100000)} {
		isForm(t, s)
	}
	isNone(t, strings.Repeat("\xa0", 100), api.ErrShort)
	v, n, e := decode.Value(nil)
	if !value.Same(v, api.Value{}) || n != 0 || e != api.ErrShort {
		t.Errorf("P6.1: nothing: %v, %d, %d", v, n, e)
	}
}

// rooms: where the lists of a value lie in memory, item by item, the room behind their ends too.
func rooms(v api.Value, seen map[*api.Value]int) {
	l := v.Kids[:cap(v.Kids)]
	for i := range l {
		seen[&l[i]]++
	}
	for _, kid := range v.Kids {
		rooms(kid, seen)
	}
}

// TestNewMemory: what was handed in stays as it was, with the room behind its end, and what is made of it is its own each time, each list too.
func TestNewMemory(t *testing.T) {
	for _, s := range []string{
		"a0 03 61 62 63", "98 00 01 02 03 04 05 06 07 08 09 0a 0b 0c 0d 0e 0f", "c0 0a 02 a1 01 61 c0 04 01 a3 01 62",
		"e0 0f 02 00 a3 02 61 62 c0 04 01 a1 01 61 02 01 45", "d1 00 00 00 09 00 00 00 02 45 c0 02 01 45", "00 b3 00 00 00 01 61 a0 01 62", "c0 05 04 45 45 45 45", "c0 02 02 41", "a1 05 61",
	} {
		whole := []byte(of(t, s) + "behind its end")
		was := string(whole)
		b := whole[:len(whole)-len("behind its end")]
		v, n, e := decode.Value(b)
		again, m, f := decode.Value(b)
		if string(whole) != was {
			t.Errorf("R3: %x is now %x", was, whole)
		}
		if !value.Same(v, again) || n != m || e != f {
			t.Errorf("R5: %x: %v, %d, %d; then %v, %d, %d", b, v, n, e, again, m, f)
		}
		want := fmt.Sprint(v) // a copy would have the same texts
		for i := range whole {
			whole[i] ^= 0xff
		}
		if fmt.Sprint(v) != want {
			t.Errorf("R3: %x was kept", b)
		}
		seen := map[*api.Value]int{}
		rooms(v, seen)
		rooms(again, seen)
		for _, often := range seen {
			if often > 1 {
				t.Errorf("R3: %x: lists share memory", was)
			}
		}
	}
}
