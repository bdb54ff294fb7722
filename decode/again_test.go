package decode_test

import (
	"math"
	"math/rand"
	"slices"
	"strings"
	"testing"

	"bellwether/api"
	"bellwether/decode"
	"bellwether/encode"
	"bellwether/value"
)

// again tells the document's words once more, as they stand: each value within is asked as if it stood alone.
func again(b string) (api.Value, int, api.Errno) {
	names, code, at, e := constructor(b)
	if e != api.OK {
		return api.Value{}, 0, e
	}
	head, n := sizeOf(code, b[at:])
	if n < 0 || n > len(b)-at {
		return api.Value{}, 0, api.ErrShort
	}
	v, is := said(code, b[at+head:at+n])
	for len(names) > 0 {
		v = value.Desc(names[len(names)-1], v)
		names = names[:len(names)-1]
	}
	if !is || !value.Right(v) {
		return api.Value{}, 0, api.ErrForm
	}
	return v, at + n, api.OK
}

// constructor: the names and the code with which bytes begin, and how many bytes these have.
func constructor(b string) (names []api.Value, code byte, at int, e api.Errno) {
	for {
		if at >= len(b) {
			return nil, 0, 0, api.ErrShort
		}
		code = b[at]
		at++
		if code != 0 && kinds[code] == 0 {
			return nil, 0, 0, api.ErrForm
		}
		if code != 0 {
			return names, code, at, api.OK
		}
		if at >= len(b) {
			return nil, 0, 0, api.ErrShort
		}
		name := b[at]
		if kinds[name] != api.ValUlong && kinds[name] != api.ValSymbol {
			return nil, 0, 0, api.ErrForm
		}
		at++
		head, n := sizeOf(name, b[at:])
		if n < 0 || n > len(b)-at {
			return nil, 0, 0, api.ErrShort
		}
		v, _ := said(name, b[at+head:at+n])
		names = append(names, v)
		at += n
	}
}

// sizeOf: how many bytes a code's data have, and how many of them tell that; -1, if these are not all there.
func sizeOf(code byte, b string) (head, all int) {
	n := dataLong(code)
	if code < 0xa0 {
		return 0, n
	}
	if n > len(b) {
		return 0, -1
	}
	return n, n + int(big(b[:n]))
}

// big: bytes as a number, the highest first.
func big(b string) (n uint64) {
	for i := range len(b) {
		n += uint64(b[i]) << (8 * (len(b) - 1 - i))
	}
	return n
}

// said: what data say; false, if they say nothing.
func said(code byte, data string) (api.Value, bool) {
	switch kind := kinds[code]; kind {
	case api.ValNull:
		return api.Value{Kind: kind}, true
	case api.ValBool:
		return value.Bool(code == 0x41 || data == "\x01"), data == "" || data == "\x00" || data == "\x01"
	case api.ValByte, api.ValShort, api.ValInt, api.ValLong, api.ValTime:
		n := int64(big(data))
		if len(data) < 8 && n >= 1<<(8*len(data)-1) {
			n -= 1 << (8 * len(data))
		}
		return number(kind, uint64(n)), true
	case api.ValList, api.ValMap, api.ValArray:
		if code == 0x45 {
			return list(), true
		}
		kids, is := saidKids(kind, data, dataLong(code))
		return value.Many(kind, kids), is
	default:
		if kind >= api.ValUuid {
			return text(kind, data), true
		}
		return number(kind, big(data)), true
	}
}

// saidKids: what the data of a list, a map or an array say, whose count has so many bytes.
func saidKids(kind uint8, data string, wide int) (kids []api.Value, is bool) {
	if len(data) < wide || big(data[:wide]) > api.MaxItems {
		return nil, false
	}
	count, data := int(big(data[:wide])), data[wide:]
	ahead := ""
	if kind == api.ValArray {
		_, _, n, e := constructor(data)
		if e != api.OK {
			return nil, false
		}
		ahead, data = data[:n], data[n:]
	}
	for range count {
		v, n, e := again(ahead + data)
		if e != api.OK {
			return nil, false
		}
		kids, data = append(kids, v), data[n-len(ahead):]
	}
	return kids, data == ""
}

// asAgain: bytes are answered as again answers them.
func asAgain(t *testing.T, b string) {
	t.Helper()
	v, n, e := decode.Value([]byte(b))
	w, m, f := again(b)
	if e != f || n != m || !value.Same(v, w) {
		t.Errorf("P6.1: %.200x: %s, %d, %d, not %s, %d, %d", b, brief(v), n, e, brief(w), m, f)
	}
}

// teller tells values in any of the ways in which they may be told.
type teller struct{ *rand.Rand }

// tell: the bytes of a value.
func (r teller) tell(v api.Value) string {
	b := ""
	for ; v.Kind == api.ValDesc; v = v.Kids[1] {
		b += "\x00" + r.tell(v.Kids[0])
	}
	code, data := r.byOneCode(v.Kind, []api.Value{v})
	return b + string([]byte{code}) + data
}

// byOneCode: any code that can tell all of some values of a kind, and their data.
func (r teller) byOneCode(kind uint8, l []api.Value) (byte, string) {
	for {
		code := codesOf[kind][r.Intn(len(codesOf[kind]))]
		all, data := true, ""
		for _, v := range l {
			d, is := r.data(code, v)
			data, all = data+d, all && is
		}
		if all {
			return code, data
		}
	}
}

// data: a value's data by a code; false, if it can't tell the value.
func (r teller) data(code byte, v api.Value) (string, bool) {
	long := dataLong(code)
	full := four(int(v.Num>>32)) + four(int(v.Num&math.MaxUint32))
	switch {
	case code == 0x40 || code == 0x41 && v.Num == 1 || code >= 0x42 && code <= 0x45 && v.Num == 0 && len(v.Kids) == 0:
		return "", true
	case code < 0x50:
		return "", false
	case code>>4 == 9 || code == 0x74 || code == 0x84:
		return v.Text, true
	case code < 0xa0:
		back, _ := said(code, full[8-long:])
		return full[8-long:], back.Num == v.Num
	case code < 0xc0:
		return four(len(v.Text))[4-long:] + v.Text, long == 4 || len(v.Text) < 256
	}
	inner := r.inner(v)
	size := long + len(inner)
	return four(size)[4-long:] + four(len(v.Kids))[4-long:] + inner, long == 4 || size < 256 && len(v.Kids) < 256
}

// inner: what stands behind a count.
func (r teller) inner(v api.Value) string {
	b := ""
	if v.Kind != api.ValArray {
		for _, kid := range v.Kids {
			b += r.tell(kid)
		}
		return b
	}
	if len(v.Kids) == 0 {
		return r.anyConstructor()
	}
	kids := append([]api.Value{}, v.Kids...)
	for kids[0].Kind == api.ValDesc {
		b += "\x00" + r.tell(kids[0].Kids[0])
		for i := range kids {
			kids[i] = kids[i].Kids[1]
		}
	}
	code, data := r.byOneCode(kids[0].Kind, kids)
	return b + string([]byte{code}) + data
}

// anyConstructor: that of an array of nothing, whatever there is none of.
func (r teller) anyConstructor() string {
	b := ""
	for range r.Intn(3) {
		b += "\x00" + r.tell(number(api.ValUlong, r.Uint64()>>r.Intn(64)))
	}
	i := r.Intn(len(allCodes))
	return b + allCodes[i:i+1]
}

// some: a value of a kind, so deep at most, that can be told; a map in it may be none that may be.
func (r teller) some(kind uint8, deep int) api.Value {
	nums := []uint64{0, 1, 2, 127, 128, 255, 256, 1<<15 - 1, 1 << 15, 1<<16 - 1, 1<<31 - 1, 1 << 31, 1<<32 - 1, 1 << 32, 1 << 63, math.MaxUint64, math.MaxUint64 - 127, math.MaxUint64 - 128, math.MaxUint64 - 1<<15, r.Uint64() >> r.Intn(64)}
	longs := []int{0, 1, 2, 3, 10, 254, 255, 256}
	switch {
	case kind == api.ValNull:
		return value.Null()
	case kind <= api.ValTime:
		nums = slices.DeleteFunc(nums, func(n uint64) bool { return !value.Right(number(kind, n)) })
		return number(kind, nums[r.Intn(len(nums))])
	case kind <= api.ValDec128:
		return text(kind, "0123456789abcdef"[:map[uint8]int{api.ValUuid: 16, api.ValDec32: 4, api.ValDec64: 8, api.ValDec128: 16}[kind]])
	case kind > api.ValSymbol && deep <= 1:
		return r.some(api.ValBinary+kind%3, 1)
	case kind <= api.ValSymbol:
		return text(kind, strings.Repeat(string(rune('a'+r.Intn(3))), longs[r.Intn(len(longs))]))
	case kind == api.ValDesc:
		return value.Desc(r.some([]uint8{api.ValUlong, api.ValSymbol}[r.Intn(2)], 1), r.some(r.kind(), deep-1))
	}
	same := r.kind()
	var kids []api.Value
	for range r.Intn(7) {
		kids = append(kids, r.some(r.kind(), deep-1))
		if kind == api.ValArray {
			kids[len(kids)-1] = r.some(same, deep-1)
		}
	}
	if kind == api.ValArray && !value.Right(array(kids...)) {
		return list(kids...) // what is not alike has no constructor
	}
	return value.Many(kind, kids)
}

func (r teller) kind() uint8 { return uint8(1 + r.Intn(25)) }

// spoil: bytes of which one or some are others, are gone, or are there twice.
func (r teller) spoil(b string) string {
	for range 1 + r.Intn(3) {
		i := r.Intn(len(b) + 1)
		j := min(len(b), i+r.Intn(3))
		some := []byte{0, 1, 2, 3, 4, 5, 0x40, 0x41, 0x42, 0x45, 0x52, 0x53, 0x56, 0x73, 0x80, 0xa0, 0xa3, 0xc0, 0xc1, 0xd0, 0xe0, 0xf0, 0xff, byte(r.Intn(256))}
		switch put := string(some[r.Intn(len(some)):][:1]); r.Intn(4) {
		case 0:
			b = b[:i] + put + b[min(len(b), i+1):]
		case 1:
			b = b[:i] + put + b[i:]
		case 2:
			b = b[:i] + b[j:]
		case 3:
			b = b[:j] + b[i:]
		}
	}
	return b
}

// TestAnyWay: values told in any way are what they were; and so are those that encode tells, in no more bytes.
func TestAnyWay(t *testing.T) {
	r := teller{rand.New(rand.NewSource(6))}
	kinds := [26]int{}
	for range 6000 {
		v := r.some(r.kind(), 1+r.Intn(5))
		b := r.tell(v)
		if !value.Right(v) {
			asAgain(t, b)
			continue
		}
		kinds[v.Kind]++
		is(t, b, v)
		few, e := encode.Value(v)
		if e != api.OK || len(few) > len(b) {
			t.Errorf("P6.1: %.200x: by encode %.200x, %d", b, few, e)
		}
		is(t, string(few), v)
		for range 5 {
			asAgain(t, r.spoil(b))
		}
	}
	for kind := 1; kind <= 25; kind++ {
		if kinds[kind] == 0 {
			t.Errorf("no value of the kind %d", kind)
		}
	}
}

// TestAnyBytes: bytes of any kind, few and many.
func TestAnyBytes(t *testing.T) {
	for i := range 1 << 16 {
		asAgain(t, string([]byte{byte(i >> 8)}))
		asAgain(t, string([]byte{byte(i >> 8), byte(i)}))
	}
	const some = "\x00\x01\x02\x03\x40\x41\x44\x50\x53\x56\xa3\xc0\xe0\x3f"
	for i := range len(some) * len(some) * len(some) * len(some) {
		b := ""
		for ; len(b) < 4; i /= len(some) {
			b += some[i%len(some) : i%len(some)+1]
		}
		asAgain(t, b)
	}
	r := rand.New(rand.NewSource(7))
	for range 50000 {
		b := make([]byte, r.Intn(40))
		for i := range b {
			b[i] = byte(r.Intn(256))
			if r.Intn(4) > 0 {
				b[i] = some[r.Intn(len(some))]
			}
		}
		asAgain(t, string(b))
		asAgain(t, "\xc0"+string([]byte{byte(len(b))})+string(b))
		asAgain(t, "\xe0"+string([]byte{byte(len(b))})+string(b))
	}
	for range 200 {
		b := make([]byte, 1+r.Intn(5000))
		r.Read(b)
		asAgain(t, string(b))
		asAgain(t, "\xf0"+four(len(b))+string(b))
		asAgain(t, "\xd0"+four(4+len(b))+four(1+r.Intn(3))+string(b))
	}
}

// TestOneByOne: values one behind the other are read one by one.
func TestOneByOne(t *testing.T) {
	r := teller{rand.New(rand.NewSource(8))}
	var all []api.Value
	b := ""
	for len(all) < 1000 {
		if v := r.some(r.kind(), 3); value.Right(v) {
			all = append(all, v)
			b += r.tell(v)
		}
	}
	for _, want := range all {
		v, n, e := decode.Value([]byte(b))
		if e != api.OK || !value.Same(v, want) {
			t.Fatalf("P6.1: %.100x: %s, %d, not %s", b, brief(v), e, brief(want))
		}
		b = b[n:]
	}
	isNone(t, b, api.ErrShort)
}
