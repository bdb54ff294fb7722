package value_test

import (
	"math"
	"math/rand"
	"runtime/debug"
	"slices"
	"strings"
	"testing"

	"bellwether/api"
	"bellwether/value"
)

// The makers here build values field by field, so that what is tested does not build what it is tested with.

func num(kind uint8, n uint64) api.Value        { return api.Value{Kind: kind, Num: n} }
func text(kind uint8, s string) api.Value       { return api.Value{Kind: kind, Text: s} }
func many(kind uint8, l ...api.Value) api.Value { return api.Value{Kind: kind, Kids: l} }
func list(l ...api.Value) api.Value             { return many(api.ValList, l...) }
func dict(l ...api.Value) api.Value             { return many(api.ValMap, l...) }
func array(l ...api.Value) api.Value            { return many(api.ValArray, l...) }
func desc(name, v api.Value) api.Value          { return many(api.ValDesc, name, v) }
func null() api.Value                           { return api.Value{Kind: api.ValNull} }
func truth() api.Value                          { return num(api.ValBool, 1) }
func uintOf(n uint64) api.Value                 { return num(api.ValUint, n) }
func ulong(n uint64) api.Value                  { return num(api.ValUlong, n) }
func symbol(s string) api.Value                 { return text(api.ValSymbol, s) }
func str(s string) api.Value                    { return text(api.ValString, s) }

// equal holds two values against each other with calls within calls, as the document's words do.
func equal(a, b api.Value) bool {
	return a.Kind == b.Kind && a.Num == b.Num && a.Text == b.Text && slices.EqualFunc(a.Kids, b.Kids, equal)
}

// clone: a value in new memory, made by the tests alone.
func clone(v api.Value) api.Value {
	kids := make([]api.Value, len(v.Kids))
	for i, kid := range v.Kids {
		kids[i] = clone(kid)
	}
	v.Kids = kids
	return v
}

// spoil overwrites all that a value's lists hold, and the room behind their ends.
func spoil(v api.Value) {
	for i := range v.Kids {
		spoil(v.Kids[i])
	}
	room := v.Kids[:cap(v.Kids)]
	for i := range room {
		room[i] = num(api.ValUlong, 0xdead)
	}
}

// repeat: so many values one beside the other.
func repeat(v api.Value, n int) []api.Value {
	return slices.Repeat([]api.Value{v}, n)
}

// nest: a value within so many lists.
func nest(v api.Value, n int) api.Value {
	for range n {
		v = list(v)
	}
	return v
}

// distinct: the keys 0, 1 and so on, each with what it has.
func distinct(n int, has api.Value) []api.Value {
	var l []api.Value
	for i := range n {
		l = append(l, uintOf(uint64(i)), has)
	}
	return l
}

// someValues: those of each kind, some of which may not be.
func someValues() []api.Value {
	return []api.Value{
		{}, null(), truth(), num(api.ValBool, 0), num(api.ValBool, 2), num(api.ValUbyte, 0), num(api.ValUbyte, 255), num(api.ValUbyte, 300),
		uintOf(0), uintOf(1), ulong(0), ulong(1), ulong(math.MaxUint64), num(api.ValInt, math.MaxUint64), num(api.ValLong, math.MaxUint64),
		num(api.ValChar, 0xd800), num(api.ValFloat, 0x7fc00000), num(api.ValDouble, 0x7ff8000000000001),
		text(api.ValUuid, strings.Repeat("u", 16)), text(api.ValDec128, strings.Repeat("u", 16)), text(api.ValDec32, "abc"),
		text(api.ValBinary, "a"), text(api.ValBinary, "\xff"), str("a"), str(""), str("\xff"), symbol("a"), symbol("b"), symbol("\xc3\xa9"),
		list(), list(null()), list(null(), truth()), list(truth(), null()), list(list()), list(list(), list()), list(list(list())),
		dict(), dict(uintOf(1), null()), dict(uintOf(1)), dict(uintOf(1), null(), uintOf(1), null()), dict(list(truth()), dict()),
		array(), array(null()), array(null(), truth()), array(list(), list(truth())), array(desc(ulong(1), truth()), desc(ulong(1), truth())),
		desc(symbol("a"), uintOf(1)), desc(str("a"), uintOf(1)), desc(ulong(1), desc(ulong(2), list())), many(api.ValDesc), many(api.ValDesc, ulong(1)),
		{Kind: api.ValNull, Num: 1}, {Kind: api.ValNull, Text: "x"}, {Kind: api.ValNull, Kids: []api.Value{null()}}, {Kind: 26}, {Kind: 255, Num: 7},
		{Kind: api.ValList, Num: 1}, {Kind: api.ValUint, Text: "7"}, {Kind: api.ValString, Num: 7, Text: "7", Kids: []api.Value{{}, {Kind: 99}}},
	}
}

// randomValue: any kind with any fields, mostly such as may be; the greatest depth is handed in.
func randomValue(r *rand.Rand, deep int) api.Value {
	texts := []string{"", "a", "b", "abcd", "\x7f", "\x80", "\xc3\xa9", "12345678", "0123456789abcdef"}
	nums := []uint64{0, 1, 2, 127, 128, 255, 256, 0xd7ff, 0xd800, 0x10ffff, 0x110000, 1<<16 - 1, 1 << 16, 1<<31 - 1, 1 << 31, 1<<32 - 1, 1 << 32, math.MaxUint64, math.MaxUint64 - 127, math.MaxUint64 - 128}
	kind := uint8(r.Intn(27))
	if r.Intn(50) == 0 {
		kind = uint8(r.Intn(256))
	}
	odd := r.Intn(25) == 0 // any fields, whatever the kind
	v := api.Value{Kind: kind}
	if odd || kind >= api.ValBool && kind <= api.ValTime {
		v.Num = nums[r.Intn(len(nums))]
	}
	if odd || kind >= api.ValUuid && kind <= api.ValSymbol {
		v.Text = texts[r.Intn(len(texts))]
	}
	if deep > 1 && (odd || kind >= api.ValList) {
		for range r.Intn(5) {
			v.Kids = append(v.Kids, randomValue(r, deep-1))
		}
	}
	if kind == api.ValArray && len(v.Kids) > 0 && r.Intn(2) == 0 {
		v.Kids = append(v.Kids, clone(v.Kids[0]))
	}
	if kind == api.ValDesc && deep > 1 && r.Intn(3) > 0 {
		v.Kids = []api.Value{ulong(uint64(r.Intn(2))), randomValue(r, deep-1)}
	}
	return v
}

func isSame(t *testing.T, what string, got, want api.Value) {
	t.Helper()
	if !equal(got, want) {
		t.Errorf("%s: %v, not %v", what, got, want)
	}
}

func TestMakers(t *testing.T) {
	isSame(t, "P4.1: Null", value.Null(), api.Value{Kind: 1})
	isSame(t, "P4.1: Bool of false", value.Bool(false), api.Value{Kind: 2})
	isSame(t, "P4.1: Bool of true", value.Bool(true), api.Value{Kind: 2, Num: 1})
	isSame(t, "P4.1: Desc", value.Desc(ulong(16), list()), api.Value{Kind: 25, Kids: []api.Value{{Kind: 6, Num: 16}, {Kind: 22}}})
	isSame(t, "P4.1: Many of nil", value.Many(api.ValMap, nil), api.Value{Kind: 23})
	isSame(t, "P4.1: Many of nothing", value.Many(api.ValMap, []api.Value{}), api.Value{Kind: 23})
}

// TestMakersAskNothing: whichever kind, whichever content.
func TestMakersAskNothing(t *testing.T) {
	kids := []api.Value{num(api.ValUbyte, 300), {}, list(dict(null())), {Kind: 77, Num: 1, Text: "\xff", Kids: []api.Value{null()}}}
	for k := range 256 {
		kind := uint8(k)
		for _, n := range []uint64{0, 1, 2, 300, 0xd800, 1 << 32, math.MaxUint64} {
			isSame(t, "P4.1: Number", value.Number(kind, n), api.Value{Kind: kind, Num: n})
		}
		for _, s := range []string{"", "a", "\x00", "\xff\x80", "0123456789abcdef"} {
			isSame(t, "P4.1: Text", value.Text(kind, s), api.Value{Kind: kind, Text: s})
		}
		for n := range len(kids) + 1 {
			isSame(t, "P4.1: Many", value.Many(kind, kids[:n]), api.Value{Kind: kind, Kids: kids[:n]})
		}
	}
	for _, name := range someValues() {
		for _, v := range someValues() {
			isSame(t, "P4.1: Desc", value.Desc(name, v), api.Value{Kind: api.ValDesc, Kids: []api.Value{name, v}})
		}
	}
}

func TestSame(t *testing.T) {
	l := someValues()
	for i, a := range l {
		if !value.Same(a, a) || !value.Same(a, clone(a)) || !value.Same(clone(a), a) {
			t.Errorf("P4.3: %v is not the same as itself", a)
		}
		for j, b := range l {
			if got := value.Same(a, b); got != (i == j) {
				t.Errorf("P4.3: Same(%v, %v): %v", a, b, got)
			}
		}
	}
}

// TestSameOfEachField: values that differ in one field alone, of themselves, of their first kid, of their last one, and deep within.
func TestSameOfEachField(t *testing.T) {
	base := api.Value{Kind: api.ValList, Num: 5, Text: "t", Kids: []api.Value{truth(), null()}}
	others := []api.Value{
		{Kind: api.ValArray, Num: 5, Text: "t", Kids: []api.Value{truth(), null()}},
		{Kind: api.ValList, Num: 5 + 1<<32, Text: "t", Kids: []api.Value{truth(), null()}},
		{Kind: api.ValList, Num: 5, Text: "T", Kids: []api.Value{truth(), null()}},
		{Kind: api.ValList, Num: 5, Text: "t\x00", Kids: []api.Value{truth(), null()}},
		{Kind: api.ValList, Num: 5, Text: "t", Kids: []api.Value{null(), truth()}},
		{Kind: api.ValList, Num: 5, Text: "t", Kids: []api.Value{truth()}},
		{Kind: api.ValList, Num: 5, Text: "t", Kids: []api.Value{truth(), null(), null()}},
		{Kind: api.ValList, Num: 5, Text: "t", Kids: []api.Value{truth(), truth()}},
		{Kind: api.ValList, Num: 5, Text: "t", Kids: []api.Value{list(truth()), null()}},
		{Kind: api.ValList, Num: 5, Text: "t"},
	}
	around := []func(v api.Value) api.Value{
		func(v api.Value) api.Value { return v },
		func(v api.Value) api.Value { return list(v, null(), truth()) },
		func(v api.Value) api.Value { return list(null(), truth(), v) },
		func(v api.Value) api.Value { return dict(list(list(), null()), list(truth(), list(v)), null(), list()) },
		func(v api.Value) api.Value { return nest(v, 40) },
	}
	for _, put := range around {
		if !value.Same(put(base), put(clone(base))) {
			t.Errorf("P4.3: %v: not the same as itself", put(base))
		}
		for _, other := range others {
			if value.Same(put(base), put(other)) || value.Same(put(other), put(base)) {
				t.Errorf("P4.3: %v and %v: the same", put(base), put(other))
			}
		}
	}
}

func TestSameOfNilAndEmpty(t *testing.T) {
	a, b := api.Value{Kind: api.ValList}, api.Value{Kind: api.ValList, Kids: []api.Value{}}
	if !value.Same(a, b) || !value.Same(b, a) || !value.Same(list(a, b), list(b, a)) {
		t.Error("P4.3: no kids (nil) and no kids (empty): not the same")
	}
}

func TestDepthAndItems(t *testing.T) {
	for i, c := range []struct {
		v           api.Value
		deep, items int
	}{
		{api.Value{}, 1, 1},
		{null(), 1, 1},
		{str("abc"), 1, 1},
		{list(), 1, 1},
		{list(null()), 2, 2},
		{list(null(), null(), null()), 2, 4},
		{list(list(list())), 3, 3},
		{list(list(null(), null()), null()), 3, 5},
		{list(null(), list(null(), null())), 3, 5},
		{list(nest(null(), 3), nest(null(), 1), null()), 5, 8},
		{list(null(), nest(null(), 1), nest(null(), 3)), 5, 8},
		{list(nest(null(), 1), nest(null(), 3), nest(null(), 2)), 5, 10},
		{dict(uintOf(1), list(truth()), list(), list()), 3, 6},
		{array(array(), array(truth())), 3, 4},
		{desc(symbol("a"), desc(ulong(2), null())), 3, 5},
		{api.Value{Kind: api.ValNull, Kids: []api.Value{{Kind: 99, Kids: []api.Value{{}}}, {}}}, 3, 4},
		{nest(null(), 15), 16, 16},
		{nest(null(), 16), 17, 17},
		{nest(null(), 1000), 1001, 1001},
		{list(repeat(null(), 5000)...), 2, 5001},
		{list(repeat(list(repeat(null(), 99)...), 100)...), 3, 10001},
	} {
		if d := value.Depth(c.v); d != c.deep {
			t.Errorf("P4.4: Depth of %d: %d, not %d", i, d, c.deep)
		}
		if n := value.Items(c.v); n != c.items {
			t.Errorf("P4.4: Items of %d: %d, not %d", i, n, c.items)
		}
	}
}

// depthOf and itemsOf follow the document's words, with calls within calls.
func depthOf(v api.Value) int {
	deep := 0
	for _, kid := range v.Kids {
		deep = max(deep, depthOf(kid))
	}
	return 1 + deep
}

func itemsOf(v api.Value) int {
	n := 1
	for _, kid := range v.Kids {
		n += itemsOf(kid)
	}
	return n
}

// TestAnyValues: of any at all, what the document's words tell is answered, and what was handed in stays as it was.
func TestAnyValues(t *testing.T) {
	r := rand.New(rand.NewSource(4))
	var last api.Value
	right := 0
	for range 60000 {
		v := randomValue(r, 1+r.Intn(5))
		was := clone(v)
		want := mayBe(v)
		if want {
			right++
		}
		if value.Right(v) != want {
			t.Fatalf("P4.2: Right(%v): %v", v, !want)
		}
		c := value.Copy(v)
		if !equal(c, v) || !value.Same(c, v) || !value.Same(v, c) || value.Right(c) != want {
			t.Fatalf("P4.4: Copy(%v): %v", v, c)
		}
		if value.Same(v, last) != equal(v, last) {
			t.Fatalf("P4.3: Same(%v, %v): %v", v, last, !equal(v, last))
		}
		if d, n := value.Depth(v), value.Items(v); d != depthOf(v) || n != itemsOf(v) {
			t.Fatalf("P4.4: of %v: %d deep, %d items", v, d, n)
		}
		for _, kid := range v.Kids {
			if want && !value.Right(kid) {
				t.Fatalf("P4.2: %v may be, but its kid %v may not", v, kid)
			}
		}
		if !equal(v, was) {
			t.Fatalf("R3: %v was turned into %v", was, v)
		}
		last = v
	}
	if right < 10000 || right > 50000 {
		t.Errorf("of the values that were tried %d may be", right)
	}
}

func TestCopy(t *testing.T) {
	for _, v := range append(someValues(), nest(list(null(), truth()), 100), list(repeat(list(truth()), 3000)...)) {
		isSame(t, "P4.4: Copy", value.Copy(v), v)
	}
}

// TestNewMemory: what is made of a value is nobody else's, at any depth, and the room behind a list's end neither.
func TestNewMemory(t *testing.T) {
	inner := append(make([]api.Value, 0, 8), truth(), null())
	mid := append(make([]api.Value, 0, 8), list(inner...), symbol("m"), api.Value{Kind: api.ValList, Kids: inner})
	v := api.Value{Kind: api.ValMap, Kids: append(make([]api.Value, 0, 8), uintOf(1), api.Value{Kind: api.ValList, Kids: mid}, str("k"), null())}
	for name, built := range map[string]func(v api.Value) api.Value{
		"Copy": value.Copy,
		"Many": func(v api.Value) api.Value { return value.Many(v.Kind, v.Kids) },
		"Desc, what it is called": func(v api.Value) api.Value {
			return value.Desc(v, null()).Kids[0]
		},
		"Desc, what it is": func(v api.Value) api.Value { return value.Desc(ulong(1), v).Kids[1] },
		"Get": func(v api.Value) api.Value {
			got, _ := value.Get(dict(null(), truth(), uintOf(1), v), uintOf(1))
			return got
		},
	} {
		in, was := clone(v), clone(v)
		in.Kids = append(in.Kids, truth(), truth())[:len(in.Kids)]
		out := built(in)
		isSame(t, "R3: "+name, out, was)
		spoil(in)
		isSame(t, "R3: "+name+", when what was handed in is spoilt", out, was)
		in = clone(v)
		room := append(in.Kids, truth(), truth())
		in.Kids = room[:len(in.Kids)]
		out = built(in)
		spoil(out)
		isSame(t, "R3: what "+name+" was handed, when its answer is spoilt", in, was)
		isSame(t, "R3: the room behind what "+name+" was handed", list(room[len(in.Kids):]...), list(truth(), truth()))
	}
}

// TestListsOfOneAnswer: no two of them share memory, not even where those that were handed in did, and not behind their ends.
func TestListsOfOneAnswer(t *testing.T) {
	shared := []api.Value{truth(), null()}
	v := list(list(shared...), many(api.ValArray, shared...), list(shared[:1]...))
	c := value.Copy(v)
	for i := range c.Kids {
		others := clone(c)
		_ = append(c.Kids[i].Kids, symbol("behind"))
		isSame(t, "R3: a list of an answer, when another one grows", c, others)
		c.Kids[i].Kids[0] = symbol("turned")
		others.Kids[i].Kids[0] = symbol("turned")
		isSame(t, "R3: a list of an answer, when another one is turned", c, others)
	}
	isSame(t, "R3: what was handed in", v, list(list(truth(), null()), array(truth(), null()), list(truth())))
}

func TestGet(t *testing.T) {
	deepKey := list(dict(symbol("a"), null()), truth())
	m := dict(uintOf(1), str("uint"), ulong(1), str("ulong"), symbol("a"), list(truth()), str("a"), null(), deepKey, desc(ulong(1), null()),
		text(api.ValBinary, "a"), uintOf(7), null(), num(api.ValByte, 3), num(api.ValDouble, 0x7ff8000000000001), truth())
	if !value.Right(m) {
		t.Fatal("P4.2: a map of unlike keys may not be")
	}
	for i := 0; i < len(m.Kids); i += 2 {
		got, is := value.Get(m, clone(m.Kids[i]))
		if !is || !equal(got, m.Kids[i+1]) {
			t.Errorf("P4.5: Get by %v: %v, %v", m.Kids[i], got, is)
		}
	}
	// What is had is no key; what differs in a field is none of these.
	for _, key := range []api.Value{str("uint"), list(truth()), num(api.ValByte, 3), uintOf(0), uintOf(7), ulong(2), num(api.ValUbyte, 1), symbol("b"), symbol(""), str("A"), {},
		list(dict(symbol("a"), null())), list(dict(symbol("a"), truth()), truth()), num(api.ValDouble, 0x7ff8000000000000), {Kind: api.ValUint, Num: 1, Text: "x"}, {Kind: api.ValUint, Num: 1, Kids: []api.Value{null()}}} {
		if got, is := value.Get(m, key); is || !equal(got, api.Value{}) {
			t.Errorf("P4.5: Get by %v: %v, %v", key, got, is)
		}
	}
}

// TestGetOfAnyMap: of maps that may not be too.
func TestGetOfAnyMap(t *testing.T) {
	for _, c := range []struct {
		m, key, want api.Value
		is           bool
	}{
		{dict(uintOf(1), str("first"), uintOf(1), str("second")), uintOf(1), str("first"), true},
		{dict(uintOf(0), str("x"), uintOf(1), str("first"), uintOf(1), str("second")), uintOf(1), str("first"), true},
		{dict(uintOf(1)), uintOf(1), api.Value{}, false},
		{dict(uintOf(0), null(), uintOf(1)), uintOf(1), api.Value{}, false},
		{dict(uintOf(0), null(), uintOf(1)), uintOf(0), null(), true},
		{dict(uintOf(1), api.Value{}), uintOf(1), api.Value{}, true},
		{dict(api.Value{}, truth()), api.Value{}, truth(), true},
		{dict(num(api.ValUbyte, 300), num(api.ValBool, 9)), num(api.ValUbyte, 300), num(api.ValBool, 9), true},
		{api.Value{Kind: api.ValMap, Num: 3, Text: "x", Kids: []api.Value{null(), truth()}}, null(), truth(), true},
		{dict(), null(), api.Value{}, false},
		{dict(), api.Value{}, api.Value{}, false},
		{dict(list(), truth()), api.Value{Kind: api.ValList, Kids: []api.Value{}}, truth(), true},
	} {
		if got, is := value.Get(c.m, c.key); is != c.is || !equal(got, c.want) {
			t.Errorf("P4.5: Get(%v, %v): %v, %v", c.m, c.key, got, is)
		}
	}
}

func TestGetOfWhatIsNoMap(t *testing.T) {
	for k := range 256 {
		v := many(uint8(k), uintOf(1), truth())
		got, is := value.Get(v, uintOf(1))
		if want := uint8(k) == api.ValMap; is != want || want && !equal(got, truth()) || !want && !equal(got, api.Value{}) {
			t.Errorf("P4.5: Get of the kind %d: %v, %v", k, got, is)
		}
	}
	for _, v := range []api.Value{{}, null(), list(), desc(ulong(1), dict(uintOf(1), truth()))} {
		if got, is := value.Get(v, uintOf(1)); is || !equal(got, api.Value{}) {
			t.Errorf("P4.5: Get(%v): %v, %v", v, got, is)
		}
	}
}

// TestGetOfManyKeys: each key has its own, the first and the last one too.
func TestGetOfManyKeys(t *testing.T) {
	var l []api.Value
	for i := range 511 {
		l = append(l, uintOf(uint64(i)), ulong(uint64(i)*3))
	}
	m := dict(l...)
	for i := range 511 {
		if got, is := value.Get(m, uintOf(uint64(i))); !is || !equal(got, ulong(uint64(i)*3)) {
			t.Errorf("P4.5: Get by %d: %v, %v", i, got, is)
		}
	}
	if got, is := value.Get(m, uintOf(511)); is || !equal(got, api.Value{}) {
		t.Errorf("P4.5: Get by 511: %v, %v", got, is)
	}
}

// TestVeryDeepValues: calls end, and a value's depth is none of the stack's.
func TestVeryDeepValues(t *testing.T) {
	defer debug.SetMaxStack(debug.SetMaxStack(4 << 20))
	const deep = 1 << 18
	a, b, other := nest(truth(), deep), nest(truth(), deep), nest(null(), deep)
	if d, n := value.Depth(a), value.Items(a); d != deep+1 || n != deep+1 {
		t.Errorf("P4.4: %d deep, %d items", d, n)
	}
	if !value.Same(a, b) || value.Same(a, other) || value.Same(a, a.Kids[0]) {
		t.Error("P4.3: very deep values are told wrong")
	}
	if !value.Same(value.Copy(a), b) || !value.Same(value.Many(api.ValList, []api.Value{a}), list(b)) || !value.Same(value.Desc(a, b), desc(b, a)) {
		t.Error("P4.4: the copy of a very deep value is another one")
	}
	if value.Right(a) || value.Right(desc(ulong(1), a)) || value.Right(array(a, b)) {
		t.Error("P4.2: a very deep value may be")
	}
	if got, is := value.Get(dict(other, null(), a, b), b); !is || !value.Same(got, a) {
		t.Error("P4.5: a very deep key is not found")
	}
}

// TestVeryGreatValues: Right ends where there is one part too many, however many there are.
func TestVeryGreatValues(t *testing.T) {
	wide := list(repeat(null(), 1<<20)...)
	if value.Right(wide) || value.Items(wide) != 1<<20+1 || value.Depth(wide) != 2 || !value.Same(value.Copy(wide), wide) {
		t.Error("P4.2, P4.3, P4.4: a very wide value is told wrong")
	}
	broad := null()
	for range 12 {
		broad = list(repeat(broad, 1000)...)
	}
	if value.Right(broad) || value.Right(dict(null(), broad)) || value.Right(array(broad, broad)) {
		t.Error("P4.2: a value of 1000^12 parts may be")
	}
	round := make([]api.Value, 1)
	round[0] = list(round...)
	if value.Right(round[0]) || value.Right(desc(symbol("a"), round[0])) {
		t.Error("P4.2: a value within itself may be")
	}
}
