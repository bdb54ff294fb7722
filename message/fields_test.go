package message_test

import (
	"math"
	"slices"
	"strings"
	"testing"

	"bellwether/api"
	"bellwether/value"
)

// row: of which kinds each field of a list may be.
type row [][]uint8

func headerRow() row {
	return row{{api.ValBool}, {api.ValUbyte}, {api.ValUint}, {api.ValBool}, {api.ValUint}}
}

func propertiesRow() row {
	name := []uint8{api.ValUlong, api.ValUuid, api.ValBinary, api.ValString}
	return row{
		name, {api.ValBinary}, {api.ValString}, {api.ValString}, {api.ValString}, name,
		{api.ValSymbol}, {api.ValSymbol}, {api.ValTime}, {api.ValTime}, {api.ValString}, {api.ValUint}, {api.ValString},
	}
}

// full: fields of a row as they may be, all there.
func (r row) full() []api.Value {
	var l []api.Value
	for _, kinds := range r {
		i := slices.IndexFunc(ofEach(), func(v api.Value) bool { return slices.Contains(kinds, v.Kind) })
		l = append(l, ofEach()[i])
	}
	return l
}

// told: what a field of a list says in a message of Priority 4 and Body x, and whether it may stand there.
func (r row) told(code uint64, i int, v api.Value) (api.Msg, bool) {
	m := api.Msg{Priority: 4, Body: []byte("x")}
	if v.Kind == api.ValNull {
		return m, true
	}
	if i >= len(r) || !slices.Contains(r[i], v.Kind) {
		return api.Msg{}, false
	}
	switch {
	case code == 0x70 && i == 1:
		m.Priority = uint8(v.Num)
		return m, v.Num <= 9
	case code == 0x70 && i == 2:
		m.Ttl = uint32(v.Num)
	case code == 0x70 && i == 4:
		m.Count = uint32(v.Num)
	case code == 0x73 && i == 0 && v.Kind == api.ValString:
		m.Id = v.Text
		return m, len(v.Text) <= 64
	}
	return m, true
}

// TestFields: each field of a header and of properties as it may be, null, missing and of each other kind, alone and among all others; and fields more than told.
func TestFields(t *testing.T) {
	for code, r := range map[uint64]row{0x70: headerRow(), 0x73: propertiesRow()} {
		name := kinds()[code-0x70].name
		try := func(l []api.Value, want api.Msg, is bool) {
			t.Helper()
			for _, v := range []api.Value{called(code, list(l...)), named(name, list(l...))} {
				if b := bytesOf(t, v, data("x")); is {
					gets(t, b, want)
				} else {
					saysNothing(t, b)
				}
			}
		}
		var nulls []api.Value
		for range r {
			nulls = append(nulls, null())
		}
		for i := range r {
			for _, v := range ofEach() {
				want, is := r.told(code, i, v)
				try(append(nulls[:i:i], v), want, is)
				// Behind it nulls, to the last field, and one more.
				l := slices.Clone(nulls)
				l[i] = v
				try(l, want, is)
				try(append(l, null()), api.Msg{}, false)
			}
		}
		l := r.full()
		whole := api.Msg{Priority: 4, Body: []byte("x")}
		if code == 0x70 {
			whole.Priority = 0
		}
		try(l, whole, true)
		for n := range l {
			want := whole
			if n < 2 {
				want.Priority = 4
			}
			try(l[:n], want, true)
		}
		for _, v := range ofEach() {
			try(append(l[:len(l):len(l)], v), api.Msg{}, false)
		}
		for i := range l {
			for _, v := range ofEach() {
				if _, is := r.told(code, i, v); !is {
					other := slices.Clone(l)
					other[i] = v
					try(other, api.Msg{}, false)
				}
			}
		}
	}
}

// TestHeader: what is there, and what it is where it is not.
func TestHeader(t *testing.T) {
	for _, c := range []struct {
		l    []api.Value
		want api.Msg
	}{
		{nil, api.Msg{Priority: 4}},
		{[]api.Value{yes()}, api.Msg{Priority: 4}},
		{[]api.Value{no(), null(), null(), yes()}, api.Msg{Priority: 4}},
		{[]api.Value{null(), ubyte(4)}, api.Msg{Priority: 4}},
		{[]api.Value{null(), ubyte(4), uint32s(0), null(), uint32s(0)}, api.Msg{Priority: 4}},
		{[]api.Value{null(), ubyte(0), uint32s(0), no(), uint32s(0)}, api.Msg{}},
		{[]api.Value{yes(), ubyte(9), uint32s(5), no(), uint32s(6)}, api.Msg{Priority: 9, Ttl: 5, Count: 6}},
		{[]api.Value{null(), null(), uint32s(math.MaxUint32)}, api.Msg{Priority: 4, Ttl: math.MaxUint32}},
		{[]api.Value{null(), null(), null(), null(), uint32s(math.MaxUint32)}, api.Msg{Priority: 4, Count: math.MaxUint32}},
	} {
		gets(t, bytesOf(t, header(c.l...), data("")), c.want)
		gets(t, bytesOf(t, named("amqp:header:list", list(c.l...)), called(0x71, dict()), data("")), c.want)
	}
	for n := range uint64(256) {
		b := bytesOf(t, header(null(), ubyte(n)), data("b"))
		if n <= 9 {
			gets(t, b, api.Msg{Priority: uint8(n), Body: []byte("b")})
		} else {
			saysNothing(t, b)
		}
	}
}

// TestNames: what names the message in each of its kinds, and what does not.
func TestNames(t *testing.T) {
	long := strings.Repeat("x", api.MaxName)
	for _, c := range []struct {
		v  api.Value
		id string
		is bool
	}{
		{null(), "", true}, {ulong(0), "", true}, {ulong(math.MaxUint64), "", true}, {uuid(), "", true}, {binary(""), "", true}, {binary("x"), "", true}, {binary(strings.Repeat("\xff", 70000)), "", true},
		{str(""), "", true}, {str("x"), "x", true}, {str("é\x00"), "é\x00", true}, {str(long), long, true}, {str(strings.Repeat("é", api.MaxName/2)), strings.Repeat("é", api.MaxName/2), true},
		{str(long + "x"), "", false}, {str(strings.Repeat("é", api.MaxName/2) + "x"), "", false}, {str(strings.Repeat("x", 70000)), "", false},
		{symbol("x"), "", false}, {symbol(""), "", false}, {uint32s(1), "", false}, {value.Number(api.ValLong, 1), "", false}, {list(str("x")), "", false}, {array(str("x")), "", false}, {data("x"), "", false}, {value.Text(api.ValDec128, "0123456789abcdef"), "", false},
	} {
		for _, behind := range [][]api.Value{nil, {binary("user")}, {null(), null(), null(), null(), str(long + "x")}, {binary(""), str("to"), str("about"), str(long + long), ulong(7), symbol("a"), symbol("b"), moment(1), moment(math.MaxUint64), str("g"), uint32s(1), str("h")}} {
			l := append([]api.Value{c.v}, behind...)
			b := bytesOf(t, properties(l...), data("b"))
			if c.is {
				gets(t, b, api.Msg{Priority: 4, Id: c.id, Body: []byte("b")})
			} else {
				saysNothing(t, b)
			}
		}
	}
	// The one to which it answers is not what names it, and is as long as it likes.
	for _, v := range []api.Value{null(), ulong(1), uuid(), binary("x"), str("x"), str(long + "x")} {
		gets(t, bytesOf(t, properties(str("i"), null(), null(), null(), null(), v), data("b")), api.Msg{Priority: 4, Id: "i", Body: []byte("b")})
		gets(t, bytesOf(t, properties(null(), null(), null(), null(), null(), v), data("b")), api.Msg{Priority: 4, Body: []byte("b")})
	}
}
