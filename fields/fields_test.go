package fields_test

import (
	"fmt"
	"math"
	"slices"
	"strings"
	"testing"

	"bellwether/api"
	"bellwether/fields"
	"bellwether/value"
)

const (
	code = 16
	name = "amqp:open:list"
)

func number(kind uint8, n uint64) api.Value { return value.Number(kind, n) }

func text(kind uint8, s string) api.Value { return value.Text(kind, s) }

func symbol(s string) api.Value { return text(api.ValSymbol, s) }

func list(l ...api.Value) api.Value { return value.Many(api.ValList, l) }

func array(l ...api.Value) api.Value { return value.Many(api.ValArray, l) }

func called(n uint64, v api.Value) api.Value { return value.Desc(number(api.ValUlong, n), v) }

func named(s string, v api.Value) api.Value { return value.Desc(symbol(s), v) }

// brief tells a value in a message of moderate length.
func brief(v api.Value) string {
	s := fmt.Sprint(v)
	return s[:min(len(s), 200)]
}

// open: the fields of a list that is called so.
func open(t *testing.T, l ...api.Value) *fields.Fields {
	t.Helper()
	f, e := fields.New(called(code, list(l...)), code, name)
	if f == nil || e != api.OK {
		t.Fatalf("P7.1: New of %s: %d", brief(list(l...)), e)
	}
	return f
}

// ofEach: a field of each kind, and more of those whose fields tell more than one thing, by their places.
func ofEach() []api.Value {
	return []api.Value{
		value.Null(), value.Bool(true), value.Bool(false),
		number(api.ValUbyte, 255), number(api.ValUshort, 1<<16-1), number(api.ValUint, 7), number(api.ValUlong, math.MaxUint64),
		number(api.ValByte, math.MaxUint64), number(api.ValShort, 1), number(api.ValInt, 1), number(api.ValLong, 1),
		number(api.ValFloat, 1), number(api.ValDouble, 1), number(api.ValChar, 0x41), number(api.ValTime, 0),
		text(api.ValUuid, "0123456789abcdef"), text(api.ValDec32, "0123"), text(api.ValDec64, "01234567"), text(api.ValDec128, "fedcba9876543210"),
		text(api.ValBinary, "\xff\x00"), text(api.ValString, "\xc3\xa9"), symbol("a"), symbol(""), text(api.ValString, ""),
		list(), list(symbol("a")), value.Many(api.ValMap, nil), value.Many(api.ValMap, []api.Value{symbol("a"), value.Null()}),
		array(), array(symbol("a")), array(symbol("b"), symbol(""), symbol("b")), array(text(api.ValString, "a")), array(value.Null()), array(array(symbol("a"))), array(list(symbol("a"))), array(named("a", symbol("a"))),
		called(1, symbol("a")), named("a", list()), called(code, list(symbol("a"))),
	}
}

// theSame: are two lists of texts the same?
func theSame(a, b []string) bool { return slices.Equal(a, b) }

// isSpoilt: are the fields, of which there are so many, as they should be?
func isSpoilt(t *testing.T, what string, f *fields.Fields, n int, want bool) {
	t.Helper()
	e := api.OK
	if want {
		e = api.ErrForm
	}
	for _, k := range []int{n, n + 1, math.MaxInt} {
		if got := f.Done(k); got != e {
			t.Errorf("P7.2, P7.3: Done(%d) behind %s: %d, not %d", k, what, got, e)
		}
	}
}

func TestExamples(t *testing.T) {
	f := open(t, value.Null(), number(api.ValUint, 7), symbol("a"))
	if f.Has(0) || !f.Has(1) || !f.Has(2) || f.Has(3) {
		t.Errorf("P7.1: Has: %v, %v, %v, %v", f.Has(0), f.Has(1), f.Has(2), f.Has(3))
	}
	if n := f.Number(1, api.ValUint, true, 0); n != 7 {
		t.Errorf("P7.2: Number(1): %d", n)
	}
	if n := f.Number(0, api.ValUint, false, 5); n != 5 {
		t.Errorf("P7.2: Number(0): %d", n)
	}
	if l := f.Symbols(2); !theSame(l, []string{"a"}) {
		t.Errorf("P7.2: Symbols(2): %q", l)
	}
	if e := f.Done(3); e != api.OK {
		t.Errorf("P7.3: Done(3): %d", e)
	}
	if e := f.Done(2); e != api.ErrForm {
		t.Errorf("P7.3: Done(2): %d", e)
	}
	if n := f.Number(0, api.ValUint, true, 5); n != 5 {
		t.Errorf("P7.2: Number(0), which must be: %d", n)
	}
	if e := f.Done(3); e != api.ErrForm {
		t.Errorf("P7.3: Done(3) behind what must be, and is not: %d", e)
	}
}

// nested: a list that is called so, of lists within lists, so that all is so deep.
func nested(deep int) api.Value {
	v := list()
	for range deep - 2 {
		v = list(v)
	}
	return called(code, v)
}

func TestNew(t *testing.T) {
	empty := list()
	nulls := func(n int) api.Value { return list(slices.Repeat([]api.Value{value.Null()}, n)...) }
	for _, c := range []struct {
		what string
		v    api.Value
		code uint64
		name string
		want api.Errno
	}{
		{"by the code", called(code, empty), code, name, api.OK},
		{"by the name", named(name, empty), code, name, api.OK},
		{"by the code 0", called(0, empty), 0, name, api.OK},
		{"by the greatest code", called(math.MaxUint64, empty), math.MaxUint64, name, api.OK},
		{"by the name of nothing", named("", empty), code, "", api.OK},
		{"with fields", called(code, list(ofEach()...)), code, name, api.OK},
		{"a list that is called so within", called(code, list(called(code, empty))), code, name, api.OK},
		{"by another code", called(code+1, empty), code, name, api.ErrForm},
		{"by a code that is the same in its last bytes", called(1<<32+code, empty), code, name, api.ErrForm},
		{"by another name", named("amqp:begin:list", empty), code, name, api.ErrForm},
		{"by the name's beginning", named(name[:len(name)-1], empty), code, name, api.ErrForm},
		{"by the name and more", named(name+"x", empty), code, name, api.ErrForm},
		{"by the name in other letters", named(strings.ToUpper(name), empty), code, name, api.ErrForm},
		{"by the code 0, where the name is asked", called(0, empty), code, "", api.ErrForm},
		{"by the name of nothing, where the code is asked", named("", empty), 0, name, api.ErrForm},
		{"by the code as a name", named("16", empty), code, name, api.ErrForm},
		{"called nothing", empty, code, name, api.ErrForm},
		{"nothing", value.Null(), code, name, api.ErrForm},
		{"what is no value", api.Value{}, code, name, api.ErrForm},
		{"an array of what is called so", array(called(code, empty)), code, name, api.ErrForm},
		{"called so around what is called so", called(code, called(code, empty)), code, name, api.ErrForm},
		{"called something else around what is called so", named("x", called(code, empty)), code, name, api.ErrForm},
		{"no list: null", called(code, value.Null()), code, name, api.ErrForm},
		{"no list: a map", called(code, value.Many(api.ValMap, nil)), code, name, api.ErrForm},
		{"no list: an array", named(name, array()), code, name, api.ErrForm},
		{"no list: a number", named(name, number(api.ValUint, 7)), code, name, api.ErrForm},
		{"called a number of another kind", value.Desc(number(api.ValUint, code), empty), code, name, api.ErrForm},
		{"called a text of another kind", value.Desc(text(api.ValString, name), empty), code, name, api.ErrForm},
		{"called a number with a text", value.Desc(api.Value{Kind: api.ValUlong, Num: code, Text: "x"}, empty), code, name, api.ErrForm},
		{"called a name that may not be", named("\xc3\xa9", empty), code, "\xc3\xa9", api.ErrForm},
		{"called so without anything", value.Many(api.ValDesc, []api.Value{number(api.ValUlong, code)}), code, name, api.ErrForm},
		{"called so, and one more", value.Many(api.ValDesc, []api.Value{number(api.ValUlong, code), empty, empty}), code, name, api.ErrForm},
		{"called nothing at all", value.Many(api.ValDesc, nil), code, name, api.ErrForm},
		{"a list that may not be", called(code, api.Value{Kind: api.ValList, Num: 1}), code, name, api.ErrForm},
		{"a field that may not be", called(code, list(number(api.ValUbyte, 256))), code, name, api.ErrForm},
		{"a field of no kind", called(code, list(value.Null(), api.Value{})), code, name, api.ErrForm},
		{"a field that is null, with a number", called(code, list(api.Value{Kind: api.ValNull, Num: 1})), code, name, api.ErrForm},
		{"as many as may be", called(code, nulls(api.MaxItems-3)), code, name, api.OK},
		{"one too many", called(code, nulls(api.MaxItems-2)), code, name, api.ErrForm},
		{"as deep as may be", nested(api.MaxDepth), code, name, api.OK},
		{"too deep", nested(api.MaxDepth + 1), code, name, api.ErrForm},
	} {
		f, e := fields.New(c.v, c.code, c.name)
		if e != c.want || (f != nil) != (e == api.OK) {
			t.Errorf("P7.1: New %s: %v, %d, not %d", c.what, f, e, c.want)
		}
		if e == api.OK && f.Done(len(c.v.Kids[1].Kids)) != api.OK {
			t.Errorf("P7.3: Done of what is new, %s", c.what)
		}
	}
}

func TestHas(t *testing.T) {
	one := number(api.ValUint, 0)
	f := open(t, value.Null(), one, value.Null(), list(), value.Bool(false), symbol(""), array(), value.Null())
	for i, want := range map[int]bool{math.MinInt: false, -8: false, -1: false, 0: false, 1: true, 2: false, 3: true, 4: true, 5: true, 6: true, 7: false, 8: false, 9: false, math.MaxInt: false} {
		if f.Has(i) != want {
			t.Errorf("P7.1: Has(%d): %v", i, !want)
		}
	}
	isSpoilt(t, "Has", f, 8, false)
	if f := open(t); f.Has(0) || f.Has(-1) || f.Has(1) {
		t.Error("P7.1: Has of a list of nothing")
	}
	l := ofEach()
	f = open(t, l...)
	for i, v := range l {
		if f.Has(i) != (v.Kind != api.ValNull) {
			t.Errorf("P7.1: Has of %v: %v", v, f.Has(i))
		}
	}
}

// TestKinds: a field of each kind, asked as each kind, with must and without.
func TestKinds(t *testing.T) {
	l := ofEach()
	const none = 12345
	for i, v := range l {
		for k := range 256 {
			kind := uint8(k)
			for _, must := range []bool{false, true} {
				what := fmt.Sprintf("%v, as %d, %v", v, kind, must)
				n, s := uint64(none), ""
				spoilt := v.Kind != api.ValNull && v.Kind != kind || v.Kind == api.ValNull && must
				if v.Kind == kind && kind != api.ValNull {
					n, s = v.Num, v.Text
				}
				f := open(t, l...)
				if got := f.Number(i, kind, must, none); got != n {
					t.Errorf("P7.2: Number of %s: %d, not %d", what, got, n)
				}
				isSpoilt(t, "Number of "+what, f, len(l), spoilt)
				f = open(t, l...)
				if got := f.Text(i, kind, must); got != s {
					t.Errorf("P7.2: Text of %s: %q, not %q", what, got, s)
				}
				isSpoilt(t, "Text of "+what, f, len(l), spoilt)
			}
		}
		for _, must := range []bool{false, true} {
			what := fmt.Sprintf("Bool of %v, %v", v, must)
			f := open(t, l...)
			if got := f.Bool(i, must); got != (v.Kind == api.ValBool && v.Num == 1) {
				t.Errorf("P7.2: %s: %v", what, got)
			}
			isSpoilt(t, what, f, len(l), v.Kind != api.ValNull && v.Kind != api.ValBool || v.Kind == api.ValNull && must)
		}
	}
}

// TestWanting: null fields, places below 0, and those behind the last one.
func TestWanting(t *testing.T) {
	for _, i := range []int{math.MinInt, -3, -2, -1, 0, 2, 3, 4, 5, math.MaxInt} {
		for _, must := range []bool{false, true} {
			for _, none := range []uint64{0, 1, 5, math.MaxUint64} {
				for _, kind := range []uint8{0, api.ValNull, api.ValBool, api.ValUint, api.ValSymbol, api.ValList, 255} {
					what := fmt.Sprintf("the place %d, as %d, %v", i, kind, must)
					f := open(t, value.Null(), number(api.ValUint, 7), value.Null(), value.Null())
					if n := f.Number(i, kind, must, none); n != none {
						t.Errorf("P7.2: Number of %s: %d, not %d", what, n, none)
					}
					isSpoilt(t, "Number of "+what, f, 4, must)
					f = open(t, value.Null(), number(api.ValUint, 7), value.Null(), value.Null())
					if s := f.Text(i, kind, must); s != "" {
						t.Errorf("P7.2: Text of %s: %q", what, s)
					}
					isSpoilt(t, "Text of "+what, f, 4, must)
				}
			}
			f := open(t, value.Null(), number(api.ValUint, 7), value.Null(), value.Null())
			if f.Bool(i, must) {
				t.Errorf("P7.2: Bool of the place %d", i)
			}
			isSpoilt(t, fmt.Sprintf("Bool of the place %d, %v", i, must), f, 4, must)
		}
		f := open(t, value.Null(), number(api.ValUint, 7), value.Null(), value.Null())
		for _, kinds := range [][]uint8{nil, {}, {api.ValNull}, {api.ValUint}, {0, api.ValBool}} {
			if v := f.Value(i, kinds); !value.Same(v, value.Null()) {
				t.Errorf("P7.2: Value(%d, %v): %v", i, kinds, v)
			}
		}
		if l := f.Symbols(i); len(l) != 0 {
			t.Errorf("P7.2: Symbols(%d): %q", i, l)
		}
		isSpoilt(t, fmt.Sprintf("Value and Symbols of the place %d", i), f, 4, false)
	}
}

// TestValue: of no kinds, of one, of several, with the one that stands there among them and not.
func TestValue(t *testing.T) {
	l := ofEach()
	for i, v := range l {
		rest := slices.DeleteFunc([]uint8{0, 1, 2, 3, 4, 5, 6, 7, 8, 9, 10, 11, 12, 13, 14, 15, 16, 17, 18, 19, 20, 21, 22, 23, 24, 25, 26, 255}, func(k uint8) bool { return k == v.Kind })
		sets := [][]uint8{nil, {}, {v.Kind}, {v.Kind, v.Kind}, rest, append([]uint8{v.Kind}, rest...), append(slices.Clone(rest), v.Kind), append(append(slices.Clone(rest[:9]), v.Kind), rest[9:]...)}
		for _, k := range rest {
			sets = append(sets, []uint8{k}, []uint8{k, k}, []uint8{v.Kind, k}, []uint8{k, v.Kind})
		}
		for _, kinds := range sets {
			f := open(t, l...)
			is := len(kinds) == 0 || slices.Contains(kinds, v.Kind)
			want := v
			if !is {
				want = value.Null()
			}
			before := slices.Clone(kinds)
			if got := f.Value(i, kinds); !value.Same(got, want) {
				t.Errorf("P7.2: Value of %v, of the kinds %v: %v", v, kinds, got)
			}
			isSpoilt(t, fmt.Sprintf("Value of %v, of the kinds %v", v, kinds), f, len(l), !is && v.Kind != api.ValNull)
			if !slices.Equal(kinds, before) {
				t.Errorf("R3: Value has changed the kinds %v: %v", before, kinds)
			}
		}
	}
}

// TestKindsAhead: of a list of kinds only what it has is asked, not the room behind its end.
func TestKindsAhead(t *testing.T) {
	kinds := []uint8{api.ValString, api.ValSymbol, api.ValUint}
	f := open(t, symbol("a"))
	if v := f.Value(0, kinds[:1]); !value.Same(v, value.Null()) || f.Done(1) != api.ErrForm {
		t.Errorf("P7.2: Value of a kind behind the list's end: %v", v)
	}
	f = open(t, symbol("a"))
	if v := f.Value(0, kinds[:0]); !value.Same(v, symbol("a")) || f.Done(1) != api.OK {
		t.Errorf("P7.2: Value of a list of no kinds: %v", v)
	}
	if !slices.Equal(kinds, []uint8{api.ValString, api.ValSymbol, api.ValUint}) {
		t.Errorf("R3: Value has changed what stands behind the kinds: %v", kinds)
	}
}

func TestSymbols(t *testing.T) {
	long := strings.Repeat("x", 1000)
	many := make([]string, 1000)
	var kids []api.Value
	for i := range many {
		many[i] = fmt.Sprint(i)
		kids = append(kids, symbol(many[i]))
	}
	for _, c := range []struct {
		v    api.Value
		want []string
		is   bool
	}{
		{symbol("a"), []string{"a"}, true},
		{symbol(""), []string{""}, true},
		{symbol(long), []string{long}, true},
		{array(), nil, true},
		{array(symbol("a")), []string{"a"}, true},
		{array(symbol("b"), symbol("a"), symbol("b")), []string{"b", "a", "b"}, true},
		{array(symbol(""), symbol("")), []string{"", ""}, true},
		{array(kids...), many, true},
		{value.Null(), nil, true},
		{array(value.Null()), nil, false},
		{array(text(api.ValString, "a"), text(api.ValString, "b")), nil, false},
		{array(text(api.ValBinary, "a")), nil, false},
		{array(array(symbol("a"))), nil, false},
		{array(array()), nil, false},
		{array(list(symbol("a"))), nil, false},
		{array(named("a", symbol("a"))), nil, false},
		{text(api.ValString, "a"), nil, false},
		{text(api.ValBinary, "a"), nil, false},
		{list(), nil, false},
		{list(symbol("a")), nil, false},
		{value.Many(api.ValMap, []api.Value{symbol("a"), symbol("b")}), nil, false},
		{named("a", symbol("a")), nil, false},
		{named("a", array(symbol("a"))), nil, false},
		{number(api.ValUint, 0), nil, false},
		{value.Bool(false), nil, false},
	} {
		f := open(t, value.Null(), c.v)
		if got := f.Symbols(1); !theSame(got, c.want) {
			t.Errorf("P7.2: Symbols of %s: %.100q", brief(c.v), got)
		}
		isSpoilt(t, "Symbols of "+brief(c.v), f, 2, !c.is)
	}
	l := ofEach()
	for i, v := range l {
		f := open(t, l...)
		is := v.Kind == api.ValNull || v.Kind == api.ValSymbol || v.Kind == api.ValArray && (len(v.Kids) == 0 || v.Kids[0].Kind == api.ValSymbol)
		if got := f.Symbols(i); !is && len(got) != 0 {
			t.Errorf("P7.2: Symbols of %v: %q", v, got)
		}
		isSpoilt(t, fmt.Sprintf("Symbols of %v", v), f, len(l), !is)
	}
}

// spoilers: what spoils the fields of null, 7 as ValUint.
func spoilers() map[string]func(f *fields.Fields) {
	return map[string]func(f *fields.Fields){
		"Spoil":                           (*fields.Fields).Spoil,
		"Number of null":                  func(f *fields.Fields) { f.Number(0, api.ValUint, true, 0) },
		"Number of another kind":          func(f *fields.Fields) { f.Number(1, api.ValUlong, false, 0) },
		"Number behind the last":          func(f *fields.Fields) { f.Number(2, api.ValUlong, true, 0) },
		"Number ahead of the first":       func(f *fields.Fields) { f.Number(-1, api.ValUlong, true, 0) },
		"Bool of null":                    func(f *fields.Fields) { f.Bool(0, true) },
		"Bool of another kind":            func(f *fields.Fields) { f.Bool(1, false) },
		"Text of null":                    func(f *fields.Fields) { f.Text(0, api.ValString, true) },
		"Text of another kind":            func(f *fields.Fields) { f.Text(1, api.ValString, false) },
		"Value of other kinds":            func(f *fields.Fields) { f.Value(1, []uint8{api.ValUlong, api.ValNull}) },
		"Symbols of what are none":        func(f *fields.Fields) { f.Symbols(1) },
		"another kind, and the right one": func(f *fields.Fields) { f.Text(1, api.ValUlong, true); f.Number(1, api.ValUint, true, 0) },
	}
}

// askAll asks the fields of null, 7 as ValUint for what they have, and for what they needn't have.
func askAll(t *testing.T, f *fields.Fields) {
	t.Helper()
	if f.Has(0) || !f.Has(1) || f.Has(2) {
		t.Error("P7.1: Has")
	}
	if f.Number(1, api.ValUint, true, 5) != 7 || f.Number(1, api.ValUint, false, 5) != 7 || f.Number(0, api.ValUint, false, 5) != 5 || f.Number(9, api.ValUint, false, 6) != 6 {
		t.Error("P7.2: Number")
	}
	if f.Bool(0, false) || f.Text(0, api.ValString, false) != "" || f.Text(1, api.ValUint, true) != "" {
		t.Error("P7.2: Bool, Text")
	}
	if !value.Same(f.Value(1, nil), number(api.ValUint, 7)) || !value.Same(f.Value(0, nil), value.Null()) || !value.Same(f.Value(1, []uint8{api.ValUint}), number(api.ValUint, 7)) {
		t.Error("P7.2: Value")
	}
	if len(f.Symbols(0)) != 0 || len(f.Symbols(-1)) != 0 {
		t.Error("P7.2: Symbols")
	}
}

// TestSpoilt: what spoils fields does so for good, whatever is asked behind it; what is told of them stays as it was; and other fields of the same value are their own.
func TestSpoilt(t *testing.T) {
	v := called(code, list(value.Null(), number(api.ValUint, 7)))
	for what, spoil := range spoilers() {
		f, _ := fields.New(v, code, name)
		other, _ := fields.New(v, code, name)
		askAll(t, f)
		askAll(t, f)
		isSpoilt(t, "what they have, ahead of "+what, f, 2, false)
		spoil(f)
		isSpoilt(t, what, f, 2, true)
		askAll(t, f)
		isSpoilt(t, "what they have, behind "+what, f, 2, true)
		spoil(f)
		isSpoilt(t, what+", twice", f, 2, true)
		isSpoilt(t, what+" of others", other, 2, false)
		askAll(t, other)
	}
}

func TestDone(t *testing.T) {
	null, seven := value.Null(), number(api.ValUint, 7)
	for _, l := range [][]api.Value{{}, {seven}, {null}, {null, seven}, {seven, null}, {null, null, null}, {seven, seven, null, null, seven, null}, ofEach()} {
		f := open(t, l...)
		for n := -3; n < len(l)+3; n++ {
			want := api.OK
			if n < len(l) {
				want = api.ErrForm
			}
			if e := f.Done(n); e != want {
				t.Errorf("P7.3: Done(%d) of %d fields: %d, not %d", n, len(l), e, want)
			}
		}
		if e := f.Done(math.MinInt); e != api.ErrForm {
			t.Errorf("P7.3: Done of fewer than none: %d", e)
		}
		isSpoilt(t, "Done of too few", f, len(l), false)
		f.Spoil()
		for n := -3; n < len(l)+3; n++ {
			if e := f.Done(n); e != api.ErrForm {
				t.Errorf("P7.3: Done(%d) of %d fields that are spoilt: %d", n, len(l), e)
			}
		}
	}
}

// TestNone: no fields at all.
func TestNone(t *testing.T) {
	var f *fields.Fields
	for range 2 {
		for _, i := range []int{math.MinInt, -1, 0, 1, math.MaxInt} {
			if f.Has(i) || f.Bool(i, false) || f.Bool(i, true) {
				t.Errorf("P7.3: Has or Bool(%d) of none", i)
			}
			for _, must := range []bool{false, true} {
				if f.Number(i, api.ValUint, must, 0) != 0 || f.Number(i, api.ValUint, must, 5) != 5 || f.Number(i, api.ValNull, must, math.MaxUint64) != math.MaxUint64 {
					t.Errorf("P7.3: Number(%d) of none", i)
				}
				if f.Text(i, api.ValString, must) != "" {
					t.Errorf("P7.3: Text(%d) of none", i)
				}
			}
			for _, kinds := range [][]uint8{nil, {api.ValNull}, {api.ValUint, api.ValSymbol}} {
				if v := f.Value(i, kinds); !value.Same(v, value.Null()) {
					t.Errorf("P7.3: Value(%d) of none: %v", i, v)
				}
			}
			if l := f.Symbols(i); len(l) != 0 {
				t.Errorf("P7.3: Symbols(%d) of none: %q", i, l)
			}
			if e := f.Done(i); e != api.ErrNil {
				t.Errorf("P7.3: Done(%d) of none: %d", i, e)
			}
		}
		f.Spoil()
	}
}

func TestPut(t *testing.T) {
	null, a := value.Null(), symbol("a")
	for _, c := range []struct {
		l    []api.Value
		left int
	}{
		{nil, 0},
		{[]api.Value{}, 0},
		{[]api.Value{null}, 0},
		{[]api.Value{null, null, null}, 0},
		{[]api.Value{a}, 1},
		{[]api.Value{a, null}, 1},
		{[]api.Value{a, null, null, null}, 1},
		{[]api.Value{null, a}, 2},
		{[]api.Value{null, a, null}, 2},
		{[]api.Value{null, null, a, null, a, null, null}, 5},
		{[]api.Value{list(), array(), null}, 2},
		{[]api.Value{a, value.Bool(false), null}, 2},
		{[]api.Value{a, number(api.ValUint, 0), symbol(""), null}, 3},
		{[]api.Value{list(null, null), null}, 1},
		{[]api.Value{called(1, null), null}, 1},
		{[]api.Value{array(null), null}, 1},
		{[]api.Value{a, {}}, 2}, // what may not be is put as it is
		{[]api.Value{number(api.ValUbyte, 256), null}, 1},
		{append(ofEach(), null), len(ofEach())},
	} {
		for _, n := range []uint64{0, code, 1 << 32, math.MaxUint64} {
			before := list(c.l...)
			got := fields.Put(n, c.l)
			if want := called(n, list(c.l[:c.left]...)); !value.Same(got, want) {
				t.Errorf("P7.4: Put(%d, %s): %s", n, brief(before), brief(got))
			}
			if !value.Same(before, list(c.l...)) {
				t.Errorf("R3: Put has changed %s", brief(before))
			}
		}
	}
}
