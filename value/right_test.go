package value_test

import (
	"math"
	"slices"
	"strings"
	"testing"
	"unicode/utf8"

	"bellwether/api"
	"bellwether/value"
)

// mayBe follows the document's words, part by part, without regard for how long that takes.
func mayBe(v api.Value) bool {
	if depthOf(v) > 16 || itemsOf(v) > 1024 {
		return false
	}
	for _, kid := range v.Kids {
		if !mayBe(kid) {
			return false
		}
	}
	n, s, kids := v.Num, v.Text, v.Kids
	signed := int64(n)
	hasNum, hasText, hasKids, is := false, false, false, true
	switch v.Kind {
	case 1:
	case 2:
		hasNum, is = true, n == 0 || n == 1
	case 3:
		hasNum, is = true, n <= math.MaxUint8
	case 4:
		hasNum, is = true, n <= math.MaxUint16
	case 5, 11:
		hasNum, is = true, n <= math.MaxUint32
	case 6, 10, 12, 14:
		hasNum = true
	case 7:
		hasNum, is = true, signed >= math.MinInt8 && signed <= math.MaxInt8
	case 8:
		hasNum, is = true, signed >= math.MinInt16 && signed <= math.MaxInt16
	case 9:
		hasNum, is = true, signed >= math.MinInt32 && signed <= math.MaxInt32
	case 13:
		hasNum, is = true, n <= utf8.MaxRune && utf8.ValidRune(rune(n))
	case 15, 18:
		hasText, is = true, len(s) == 16
	case 16:
		hasText, is = true, len(s) == 4
	case 17:
		hasText, is = true, len(s) == 8
	case 19:
		hasText = true
	case 20:
		hasText, is = true, utf8.ValidString(s)
	case 21:
		hasText, is = true, !strings.ContainsFunc(s, func(r rune) bool { return r >= 128 })
	case 22:
		hasKids = true
	case 23:
		hasKids, is = true, len(kids)%2 == 0
		for i := 0; i < len(kids); i += 2 {
			for j := 0; j < i; j += 2 {
				is = is && !equal(kids[i], kids[j])
			}
		}
	case 24:
		hasKids = true
		for i := range kids {
			for j := range kids {
				is = is && areAlike(kids[i], kids[j])
			}
		}
	case 25:
		hasKids, is = true, len(kids) == 2 && (kids[0].Kind == 6 || kids[0].Kind == 21)
	default:
		return false
	}
	return is && (hasNum || n == 0) && (hasText || s == "") && (hasKids || len(kids) == 0)
}

// areAlike: of two values each of which may be.
func areAlike(a, b api.Value) bool {
	if a.Kind != b.Kind {
		return false
	}
	return a.Kind != 25 || equal(a.Kids[0], b.Kids[0]) && areAlike(a.Kids[1], b.Kids[1])
}

// isRight: v may be or not, alone, in new memory, and as a part of others.
func isRight(t *testing.T, v api.Value, want bool) {
	t.Helper()
	if value.Right(v) != want {
		t.Errorf("P4.2: Right(%v): %v", v, !want)
	}
	if value.Right(clone(v)) != want || value.Right(value.Copy(v)) != want {
		t.Errorf("P4.2: Right(%v) in new memory: %v", v, !want)
	}
}

// isRightWithin: as isRight, and a value that is small enough may stand wherever one may.
func isRightWithin(t *testing.T, v api.Value, want bool) {
	t.Helper()
	isRight(t, v, want)
	for _, around := range []api.Value{list(v), list(truth(), v), list(v, truth()), list(list(null(), list(v))), dict(v, null()), dict(null(), v), dict(str("k"), null(), list(), v),
		array(v), array(v, v), desc(ulong(1), v), desc(symbol("a"), desc(ulong(1), v))} {
		isRight(t, around, want)
	}
}

func TestRightOfExamples(t *testing.T) {
	for _, c := range []struct {
		v    api.Value
		want bool
	}{
		{list(num(api.ValUbyte, 300)), false},
		{list(num(api.ValUbyte, 255)), true},
		{dict(uintOf(1), null(), uintOf(1), null()), false},
		{dict(uintOf(1), null(), ulong(1), null()), true},
		{array(null(), truth()), false},
		{array(list(), list()), true},
		{desc(str("a"), uintOf(1)), false},
		{desc(symbol("a"), uintOf(1)), true},
	} {
		isRightWithin(t, c.v, c.want)
	}
}

// TestRightOfNumbers: each kind's least and greatest, and what stands just beyond.
func TestRightOfNumbers(t *testing.T) {
	const all = math.MaxUint64
	below := func(n uint64) uint64 { return -n } // one below 0, 2^64 more
	for _, c := range []struct {
		kind       uint8
		yes, wrong []uint64
	}{
		{api.ValNull, []uint64{0}, []uint64{1, all}},
		{api.ValBool, []uint64{0, 1}, []uint64{2, 3, 256, 257, 1 << 32, 1<<32 + 1, 1 << 63, all}},
		{api.ValUbyte, []uint64{0, 1, 127, 128, 254, 255}, []uint64{256, 257, 300, 1 << 16, 1 << 32, 1<<32 + 5, 1 << 63, all, below(128)}},
		{api.ValUshort, []uint64{0, 255, 256, 1<<15 - 1, 1 << 15, 1<<16 - 1}, []uint64{1 << 16, 1<<16 + 1, 1 << 32, 1<<32 + 5, 1 << 63, all}},
		{api.ValUint, []uint64{0, 1 << 16, 1<<31 - 1, 1 << 31, 1<<32 - 1}, []uint64{1 << 32, 1<<32 + 1, 1 << 63, all}},
		{api.ValUlong, []uint64{0, 1, 1<<32 - 1, 1 << 32, 1<<63 - 1, 1 << 63, all}, nil},
		{api.ValByte, []uint64{0, 1, 127, below(1), below(127), below(128)}, []uint64{128, 255, 256, 1<<32 - 1, 1 << 63, 1<<63 - 1, below(129), below(256), below(1 << 31)}},
		{api.ValShort, []uint64{0, 128, 1<<15 - 1, below(1), below(129), below(1 << 15)}, []uint64{1 << 15, 1<<16 - 1, 1 << 16, 1 << 63, below(1<<15 + 1), below(1 << 16)}},
		{api.ValInt, []uint64{0, 1 << 15, 1<<31 - 1, below(1), below(1 << 31)}, []uint64{1 << 31, 1<<32 - 1, 1 << 32, 1 << 63, below(1<<31 + 1), below(1 << 32)}},
		{api.ValLong, []uint64{0, 1 << 31, 1<<63 - 1, 1 << 63, all}, nil},
		{api.ValFloat, []uint64{0, 1, 0x3f800000, 0x7f800000, 0x7fc00001, 0x80000000, 1<<32 - 1}, []uint64{1 << 32, 0x3ff0000000000000, 1 << 63, all}},
		{api.ValDouble, []uint64{0, 1, 0x3ff0000000000000, 0x7ff8000000000001, 1 << 63, all}, nil},
		{api.ValChar, []uint64{0, 0x41, 0x7f, 0x80, 0xd7ff, 0xe000, 0xffff, 0x10000, 0x10ffff}, []uint64{0xd800, 0xdbff, 0xdc00, 0xdfff, 0x110000, 1<<32 - 1, 1 << 32, 1<<32 + 0x41, 1 << 63, all}},
		{api.ValTime, []uint64{0, 1, 1 << 32, 1<<63 - 1, 1 << 63, all}, nil},
	} {
		for _, n := range c.yes {
			isRightWithin(t, num(c.kind, n), true)
		}
		for _, n := range c.wrong {
			isRightWithin(t, num(c.kind, n), false)
		}
	}
}

// TestRightOfTexts: each kind's lengths and bytes.
func TestRightOfTexts(t *testing.T) {
	long := strings.Repeat("0123456789abcdef", 1<<12)
	for _, c := range []struct {
		kind uint8
		size int
	}{{api.ValUuid, 16}, {api.ValDec32, 4}, {api.ValDec64, 8}, {api.ValDec128, 16}} {
		for n := range 40 {
			isRight(t, text(c.kind, long[:n]), n == c.size)
			isRight(t, text(c.kind, strings.Repeat("\xff", n)), n == c.size)
			isRight(t, text(c.kind, strings.Repeat("\x00", n)), n == c.size)
		}
		isRightWithin(t, text(c.kind, long[:c.size]), true)
		isRightWithin(t, text(c.kind, long[:c.size+1]), false)
		isRight(t, text(c.kind, long), false)
	}
	for _, c := range []struct {
		s              string
		isText, isName bool
	}{
		{"", true, true},
		{"a", true, true},
		{"\x00\x7f", true, true},
		{long, true, true},
		{"\xc3\xa9", true, false},
		{"a\xf4\x8f\xbf\xbf", true, false},
		{"\xe2\x82\xaca", true, false},
		{"\x80", false, false},
		{"\xff", false, false},
		{"a\xc0\x80", false, false},
		{"\xed\xa0\x80", false, false},
		{"\xf4\x90\x80\x80", false, false},
		{"\xe2\x82", false, false},
		{long + "\x80", false, false},
	} {
		isRightWithin(t, text(api.ValBinary, c.s), true)
		isRightWithin(t, text(api.ValString, c.s), c.isText)
		isRightWithin(t, text(api.ValSymbol, c.s), c.isName)
	}
}

// TestRightOfKinds: those that there are, and what one has that is another one's.
func TestRightOfKinds(t *testing.T) {
	texts := map[uint8]string{api.ValUuid: "0123456789abcdef", api.ValDec32: "0123", api.ValDec64: "01234567", api.ValDec128: "0123456789abcdef"}
	for k := range 256 {
		kind := uint8(k)
		v := text(kind, texts[kind])
		if kind == api.ValDesc {
			v.Kids = []api.Value{ulong(1), null()}
		}
		isRightWithin(t, v, kind >= 1 && kind <= 25)
		isNumber := kind >= api.ValBool && kind <= api.ValTime
		isText := kind >= api.ValUuid && kind <= api.ValSymbol
		isMany := kind >= api.ValList && kind <= api.ValDesc
		with := v
		with.Num = 1
		isRight(t, with, isNumber)
		with = v
		with.Text = "abc"
		isRight(t, with, isText && texts[kind] == "")
		with = v
		with.Kids = []api.Value{ulong(1), null()}
		isRight(t, with, isMany && kind != api.ValArray)
		with = v
		with.Kids = []api.Value{ulong(1)}
		isRight(t, with, kind == api.ValList || kind == api.ValArray)
		with = v
		with.Kids = append([]api.Value{}, v.Kids...)
		isRight(t, with, kind >= 1 && kind <= 25)
	}
}

func TestRightOfLists(t *testing.T) {
	isRight(t, list(), true)
	isRightWithin(t, list(null(), truth(), str("a"), list(), dict(), array(), desc(ulong(1), null())), true)
	// One that may not be, wherever it stands.
	for at := range 5 {
		l := []api.Value{null(), truth(), str("a"), list(), dict()}
		l[at] = num(api.ValBool, 2)
		isRightWithin(t, list(l...), false)
		isRightWithin(t, nest(list(l...), 5), false)
	}
	isRight(t, list(api.Value{}), false)
	isRight(t, list(null(), list(dict(null()))), false)
}

func TestRightOfMaps(t *testing.T) {
	a, b, c := symbol("a"), symbol("b"), symbol("c")
	key := list(dict(a, null()), truth())
	for _, x := range []struct {
		m    api.Value
		want bool
	}{
		{dict(), true},
		{dict(a), false},
		{dict(a, null()), true},
		{dict(a, null(), b), false},
		{dict(a, a), true},
		{dict(a, b, b, a), true},
		{dict(a, null(), b, null(), c, null()), true},
		{dict(a, null(), a, null()), false},
		{dict(a, null(), b, null(), a, null()), false},
		{dict(b, null(), a, null(), a, null()), false},
		{dict(a, null(), b, null(), b, null()), false},
		{dict(a, null(), b, null(), c, null(), b, truth()), false},
		{dict(a, null(), a), false},
		{dict(a, null(), str("a"), null(), text(api.ValBinary, "a"), null()), true},
		{dict(num(api.ValByte, 1), null(), num(api.ValUbyte, 1), null(), truth(), null()), true},
		{dict(num(api.ValFloat, 0), null(), num(api.ValFloat, 1<<31), null()), true}, // 0 and -0: other bits
		{dict(num(api.ValDouble, 0x7ff8000000000001), null(), num(api.ValDouble, 0x7ff8000000000001), null()), false},
		{dict(null(), null(), null(), null()), false},
		{dict(key, null(), clone(key), null()), false},
		{dict(key, null(), list(dict(a, truth()), truth()), null()), true},
		{dict(list(), null(), api.Value{Kind: api.ValList, Kids: []api.Value{}}, null()), false},
		{dict(list(), null(), dict(), null(), array(), null()), true},
		{dict(list(null()), null(), list(null(), null()), null()), true},
		{dict(str("\xff"), null()), false},
		{dict(a, str("\xff")), false},
	} {
		isRightWithin(t, x.m, x.want)
	}
	// Many keys, of which two are the same, wherever they stand.
	l := distinct(100, null())
	isRight(t, dict(l...), true)
	for _, at := range [][2]int{{0, 2}, {0, 198}, {196, 198}, {60, 160}} {
		twice := slices.Clone(l)
		twice[at[1]] = twice[at[0]]
		isRight(t, dict(twice...), false)
	}
}

func TestRightOfArrays(t *testing.T) {
	one, two, a := ulong(1), ulong(2), symbol("a")
	for _, x := range []struct {
		v    api.Value
		want bool
	}{
		{array(), true},
		{array(truth()), true},
		{array(null(), null()), true},
		{array(truth(), num(api.ValBool, 0)), true},
		{array(truth(), truth(), null()), false},
		{array(null(), truth(), truth()), false},
		{array(truth(), null(), truth()), false},
		{array(uintOf(1), ulong(1)), false},
		{array(uintOf(1), uintOf(300), uintOf(1<<32-1)), true},
		{array(str("a"), symbol("a")), false},
		{array(str("a"), str("b"), str("")), true},
		{array(list(), list(truth(), null()), list(list())), true},
		{array(dict(), dict(null(), null())), true},
		{array(list(), dict()), false},
		{array(array(truth()), array(null(), null()), array()), true}, // arrays, each of its own kind
		{array(array(truth(), null())), false},
		{array(desc(one, truth()), desc(one, truth())), true},
		{array(desc(one, truth()), desc(two, truth())), false},
		{array(desc(one, truth()), desc(uintOf(1), truth())), false},
		{array(desc(a, truth()), desc(a, truth()), desc(symbol("b"), truth())), false},
		{array(desc(a, truth()), desc(a, null())), false},
		{array(desc(a, truth()), truth()), false},
		{array(truth(), desc(a, truth())), false},
		{array(desc(a, list()), desc(a, list(truth())), desc(a, list(list()))), true},
		{array(desc(one, desc(two, truth())), desc(one, desc(two, num(api.ValBool, 0)))), true},
		{array(desc(one, desc(two, truth())), desc(one, desc(one, truth()))), false},
		{array(desc(one, desc(two, truth())), desc(two, desc(two, truth()))), false},
		{array(desc(one, desc(two, truth())), desc(one, desc(two, null()))), false},
		{array(desc(one, desc(two, truth())), desc(one, truth())), false},
		{array(desc(one, truth()), desc(one, desc(two, truth()))), false},
		{array(desc(one, array(truth())), desc(one, array(null()))), true},
		{array(num(api.ValBool, 2)), false},
		{array(uintOf(1), uintOf(1<<32)), false},
		{array(desc(one, truth()), many(api.ValDesc, one)), false},
		{array(many(api.ValDesc), many(api.ValDesc)), false},
	} {
		isRightWithin(t, x.v, x.want)
	}
}

func TestRightOfWhatIsCalledSomething(t *testing.T) {
	for _, x := range []struct {
		v    api.Value
		want bool
	}{
		{desc(ulong(0), null()), true},
		{desc(ulong(math.MaxUint64), list(truth())), true},
		{desc(symbol(""), null()), true},
		{desc(symbol("amqp:open:list"), list()), true},
		{desc(symbol("a"), desc(ulong(1), desc(symbol("b"), array()))), true},
		{desc(symbol("\xc3\xa9"), null()), false},
		{desc(uintOf(1), null()), false},
		{desc(num(api.ValLong, 1), null()), false},
		{desc(text(api.ValBinary, "a"), null()), false},
		{desc(str("a"), null()), false},
		{desc(null(), null()), false},
		{desc(list(), null()), false},
		{desc(desc(ulong(1), null()), null()), false},
		{desc(api.Value{}, null()), false},
		{desc(api.Value{Kind: api.ValUlong, Text: "x"}, null()), false},
		{desc(null(), ulong(1)), false},
		{desc(ulong(1), num(api.ValBool, 2)), false},
		{desc(ulong(1), api.Value{}), false},
		{many(api.ValDesc), false},
		{many(api.ValDesc, ulong(1)), false},
		{many(api.ValDesc, ulong(1), null(), null()), false},
		{many(api.ValDesc, ulong(1), ulong(1), ulong(1), ulong(1)), false},
	} {
		isRightWithin(t, x.v, x.want)
	}
}

// TestRightByDepth: MaxDepth may be, one more may not, whatever it is nested in, and on whichever side.
func TestRightByDepth(t *testing.T) {
	for name, in := range map[string]func(v api.Value) api.Value{
		"list":          func(v api.Value) api.Value { return list(v) },
		"list's last":   func(v api.Value) api.Value { return list(null(), list(), v) },
		"list's first":  func(v api.Value) api.Value { return list(v, list(), null()) },
		"map's key":     func(v api.Value) api.Value { return dict(v, null()) },
		"map's value":   func(v api.Value) api.Value { return dict(null(), v) },
		"array":         func(v api.Value) api.Value { return array(v) },
		"what it's":     func(v api.Value) api.Value { return desc(ulong(1), v) },
		"array of such": func(v api.Value) api.Value { return array(desc(symbol("a"), v)) },
	} {
		v := null()
		for value.Depth(v) <= 20 {
			if want := value.Depth(v) <= api.MaxDepth; value.Right(v) != want {
				t.Errorf("P4.2: %s, %d deep: %v", name, value.Depth(v), !want)
			}
			v = in(v)
		}
	}
	isRight(t, nest(null(), api.MaxDepth-1), true)
	isRight(t, nest(null(), api.MaxDepth), false)
	isRight(t, nest(list(), api.MaxDepth-1), true)
	isRight(t, nest(list(), api.MaxDepth), false)
	// What is called something: its own name is a part of it.
	isRight(t, nest(desc(ulong(1), null()), api.MaxDepth-2), true)
	isRight(t, nest(desc(ulong(1), null()), api.MaxDepth-1), false)
}

// TestRightByItems: MaxItems may be, one more may not, however they are spread.
func TestRightByItems(t *testing.T) {
	const most = api.MaxItems
	for n := most - 3; n <= most+3; n++ {
		want := n <= most
		isRight(t, list(repeat(null(), n-1)...), want)
		isRight(t, array(repeat(truth(), n-1)...), want)
		isRight(t, list(list(repeat(null(), n-2)...)), want)
		isRight(t, list(list(repeat(null(), 500)...), list(repeat(null(), n-503)...)), want)
		isRight(t, desc(ulong(1), list(repeat(null(), n-3)...)), want)
		isRight(t, nest(list(repeat(null(), n-11)...), 10), want)
		isRight(t, array(list(repeat(null(), n-4)...), list(null())), want)
		if n%2 == 1 {
			isRight(t, dict(distinct((n-1)/2, null())...), want)
		} else {
			isRight(t, list(dict(distinct((n-2)/2, null())...)), want)
		}
	}
	if v := list(repeat(null(), most-1)...); value.Items(v) != most {
		t.Errorf("P4.4: Items: %d", value.Items(v))
	}
	// Each list is small enough, all of them are not.
	isRight(t, list(repeat(list(repeat(null(), 99)...), 10)...), true)
	isRight(t, list(repeat(list(repeat(null(), 99)...), 11)...), false)
}

// TestSameAreRightAlike: what is the same may be, or may not, alike.
func TestSameAreRightAlike(t *testing.T) {
	for _, v := range someValues() {
		isRight(t, v, mayBe(v))
		if c := clone(v); !value.Same(v, c) || value.Right(v) != value.Right(c) {
			t.Errorf("P4.2: %v", v)
		}
	}
}
