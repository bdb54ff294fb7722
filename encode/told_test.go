package encode_test

import (
	"bytes"
	"encoding/binary"
	"math"
	"math/rand"
	"slices"
	"strings"
	"testing"

	"bellwether/api"
	"bellwether/encode"
	"bellwether/value"
)

// told: a value's bytes after the document's words: every code is tried, and what can't be told by it is found out by telling it.
func told(v api.Value) string {
	var names string
	for ; v.Kind == api.ValDesc; v = v.Kids[1] {
		names += "\x00" + told(v.Kids[0])
	}
	code, data := byOneCode(v.Kind, []api.Value{v})
	return names + code + data
}

// codesOf: each kind's codes, in the order in which they are tried.
var codesOf = [25]string{"", "\x40", "\x41\x42\x56", "\x50", "\x60", "\x43\x52\x70", "\x44\x53\x80", "\x51", "\x61", "\x54\x71", "\x55\x81",
	"\x72", "\x82", "\x73", "\x83", "\x98", "\x74", "\x84", "\x94", "\xa0\xb0", "\xa1\xb1", "\xa3\xb3", "\x45\xc0\xd0", "\xc1\xd1", "\xe0\xf0"}

// byOneCode: the first code by which all values of a kind can be told, and their data.
func byOneCode(kind uint8, l []api.Value) (code, data string) {
	for _, c := range []byte(codesOf[kind]) {
		data, all := "", true
		for _, v := range l {
			d, is := dataOf(c, v)
			data, all = data+d, all && is
		}
		if all {
			return string([]byte{c}), data
		}
	}
	panic("no code")
}

// dataOf: a value's data by a code; false, if it can't tell the value.
func dataOf(code byte, v api.Value) (string, bool) {
	full := string(binary.BigEndian.AppendUint64(nil, v.Num))
	switch code {
	case 0x40:
		return "", true
	case 0x41:
		return "", v.Num == 1
	case 0x42, 0x43, 0x44:
		return "", v.Num == 0
	case 0x45:
		return "", len(v.Kids) == 0
	case 0x50, 0x51, 0x56:
		return full[7:], true
	case 0x52, 0x53:
		return full[7:], v.Num < 256
	case 0x54, 0x55:
		return full[7:], int64(v.Num) >= math.MinInt8 && int64(v.Num) <= math.MaxInt8
	case 0x60, 0x61:
		return full[6:], true
	case 0x70, 0x71, 0x72, 0x73:
		return full[4:], true
	case 0x80, 0x81, 0x82, 0x83:
		return full, true
	case 0x74, 0x84, 0x94, 0x98:
		return v.Text, true
	case 0xa0, 0xa1, 0xa3:
		return string([]byte{byte(len(v.Text))}) + v.Text, len(v.Text) < 256
	case 0xb0, 0xb1, 0xb3:
		return four(len(v.Text)) + v.Text, true
	}
	inner := innerOf(code, v)
	if code == 0xc0 || code == 0xc1 || code == 0xe0 {
		return string([]byte{byte(len(inner) + 1), byte(len(v.Kids))}) + inner, len(inner) < 255 && len(v.Kids) < 256
	}
	return four(len(inner)+4) + four(len(v.Kids)) + inner, true
}

// innerOf: what stands behind the count.
func innerOf(code byte, v api.Value) string {
	if code == 0xe0 || code == 0xf0 {
		return elements(v.Kids)
	}
	var inner string
	for _, kid := range v.Kids {
		inner += told(kid)
	}
	return inner
}

func four(n int) string { return string(binary.BigEndian.AppendUint32(nil, uint32(n))) }

// elements: an array's constructor, and its kids' data.
func elements(kids []api.Value) string {
	if len(kids) == 0 {
		return "\x40"
	}
	kids = slices.Clone(kids)
	var names string
	for kids[0].Kind == api.ValDesc {
		names += "\x00" + told(kids[0].Kids[0])
		for i := range kids {
			kids[i] = kids[i].Kids[1]
		}
	}
	code, data := byOneCode(kids[0].Kind, kids)
	return names + code + data
}

// isAsTold: a value that may be has the bytes that told tells.
func isAsTold(t *testing.T, v api.Value) {
	t.Helper()
	isBytes(t, v, told(v))
}

// someNums: numbers at the edges of the codes, the kinds' own among them.
func someNums(kind uint8) []uint64 {
	l := []uint64{0, 1, 2, 127, 128, 255, 256, 1<<15 - 1, 1 << 15, 1<<16 - 1, 1<<31 - 1, 1 << 31, 1<<32 - 1, 1 << 32, 1 << 63, math.MaxUint64, math.MaxUint64 - 127, math.MaxUint64 - 128, -(1 << 15) & math.MaxUint64}
	return slices.DeleteFunc(l, func(n uint64) bool { return !value.Right(number(kind, n)) })
}

// leaf: a value without kids, of a kind that has none.
func leaf(r *rand.Rand, kind uint8) api.Value {
	switch {
	case kind == api.ValNull:
		return value.Null()
	case kind <= api.ValTime:
		l := someNums(kind)
		return number(kind, l[r.Intn(len(l))])
	}
	sizes := map[uint8]int{api.ValUuid: 16, api.ValDec32: 4, api.ValDec64: 8, api.ValDec128: 16}
	n, is := sizes[kind]
	if !is {
		n = []int{0, 1, 2, 3, 100, 250, 255, 256, 300}[r.Intn(9)]
	}
	return value.Text(kind, strings.Repeat(string(rune('a'+r.Intn(3))), n))
}

// randomValue: one of a kind, so deep at most.
func randomValue(r *rand.Rand, kind uint8, deep int) api.Value {
	if kind < api.ValList || deep <= 1 {
		return leaf(r, min(kind, api.ValSymbol))
	}
	if kind == api.ValDesc {
		return value.Desc(leaf(r, []uint8{api.ValUlong, api.ValSymbol}[r.Intn(2)]), randomValue(r, randomKind(r), deep-1))
	}
	n := []int{0, 1, 2, 3, 4, 5, 40, 254, 255, 256}[r.Intn(6+4*r.Intn(2))]
	if deep > 2 {
		n %= 5
	}
	kids := make([]api.Value, n)
	same := randomKind(r)
	for i := range kids {
		kids[i] = randomValue(r, randomKind(r), deep-1)
		if kind == api.ValArray {
			kids[i] = randomValue(r, same, deep-1)
		}
	}
	return value.Many(kind, kids)
}

func randomKind(r *rand.Rand) uint8 { return uint8(1 + r.Intn(25)) }

// manyValues: values that may be, of all kinds, no two the same.
func manyValues(t *testing.T) []api.Value {
	r := rand.New(rand.NewSource(5))
	var l []api.Value
	kinds := [26]int{}
	seen := map[string]bool{}
	for range 8000 {
		v := randomValue(r, randomKind(r), 1+r.Intn(5))
		if b := told1(v); b != "" && !seen[b] {
			seen[b] = true
			kinds[v.Kind]++
			l = append(l, v)
		}
	}
	for kind := 1; kind <= 25; kind++ {
		if kinds[kind] == 0 {
			t.Fatalf("no value of the kind %d", kind)
		}
	}
	return l
}

// told1: as told; empty of what may not be.
func told1(v api.Value) string {
	if !value.Right(v) {
		return ""
	}
	return told(v)
}

func TestManyValues(t *testing.T) {
	for _, v := range manyValues(t) {
		isAsTold(t, v)
		// Within others as well: alone, beside one that is smaller, and called something.
		for _, around := range []api.Value{list(v), list(value.Null(), v), array(v), array(v, v), called(7, v), many(api.ValMap, v, v)} {
			if value.Right(around) {
				isAsTold(t, around)
			}
		}
	}
}

// TestUnlikeBytes: values that are not the same have unlike bytes, and none begins with those of another one.
func TestUnlikeBytes(t *testing.T) {
	var all [][]byte
	for _, v := range manyValues(t) {
		b, _ := encode.Value(v)
		all = append(all, b)
	}
	slices.SortFunc(all, bytes.Compare)
	for i := 1; i < len(all); i++ {
		// What others begin with stands right ahead of the first one of them.
		if bytes.HasPrefix(all[i], all[i-1]) {
			t.Errorf("P5.1: %.100x begins with %.100x", all[i], all[i-1])
		}
	}
}

// TestListsOneByOne: behind a list's head stand the bytes of its kids.
func TestListsOneByOne(t *testing.T) {
	for _, v := range manyValues(t) {
		if v.Kind != api.ValList {
			continue
		}
		var kids []byte
		for _, kid := range v.Kids {
			b, e := encode.Value(kid)
			if e != api.OK {
				t.Fatalf("P5.1: a kid of %s: %d", brief(v), e)
			}
			kids = append(kids, b...)
		}
		b, _ := encode.Value(v)
		head := map[byte]int{0x45: 1, 0xc0: 3, 0xd0: 9}[b[0]]
		if head == 0 || !bytes.Equal(b[head:], kids) {
			t.Errorf("P5.1: %s: %.100x, its kids: %.100x", brief(v), b, kids)
		}
	}
}

// withRoom: a value all of whose lists have room behind their ends that holds something.
func withRoom(v api.Value) api.Value {
	all := make([]api.Value, len(v.Kids)+3)
	for i := range all {
		all[i] = number(api.ValUint, 7)
		if i < len(v.Kids) {
			all[i] = withRoom(v.Kids[i])
		}
	}
	v.Kids = all[:len(v.Kids)]
	return v
}

// rooms: a value's lists as they lie in memory, the room behind their ends too.
func rooms(v api.Value) []api.Value {
	l := v.Kids[:cap(v.Kids)]
	for _, kid := range v.Kids {
		l = append(l, rooms(kid)...)
	}
	return l
}

// TestNewMemory: what was handed in stays as it was, and what is answered is its own each time.
func TestNewMemory(t *testing.T) {
	for _, v := range manyValues(t) {
		v = withRoom(v)
		was := value.Many(api.ValList, rooms(v))
		b, _ := encode.Value(v)
		want := string(b)
		again, _ := encode.Value(v)
		for i := range b[:cap(b)] {
			b[:cap(b)][i] ^= 0xff
		}
		if string(again) != want {
			t.Errorf("R3: %s: two answers share memory", brief(v))
		}
		if !value.Same(value.Many(api.ValList, rooms(v)), was) {
			t.Errorf("R3: %s was changed", brief(v))
		}
		isBytes(t, v, want)
	}
}
