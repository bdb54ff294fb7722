package fields_test

import (
	"fmt"
	"math/rand"
	"slices"
	"testing"

	"bellwether/api"
	"bellwether/fields"
	"bellwether/value"
)

// again tells the document's words once more, as they stand, of a list that may be.
type again struct {
	kids   []api.Value
	spoilt bool
}

func (a *again) at(i int) api.Value {
	if i < 0 || i >= len(a.kids) {
		return value.Null()
	}
	return a.kids[i]
}

func (a *again) number(i int, kind uint8, must bool, none uint64) uint64 {
	v := a.at(i)
	if v.Kind == api.ValNull {
		a.spoilt = a.spoilt || must
		return none
	}
	if v.Kind != kind {
		a.spoilt = true
		return none
	}
	return v.Num
}

func (a *again) text(i int, kind uint8, must bool) string {
	if v := a.at(i); v.Kind != api.ValNull && v.Kind == kind {
		return v.Text
	}
	a.number(i, kind, must, 0)
	return ""
}

func (a *again) value(i int, kinds []uint8) api.Value {
	v := a.at(i)
	if v.Kind == api.ValNull || len(kinds) == 0 || slices.Contains(kinds, v.Kind) {
		return v
	}
	a.spoilt = true
	return value.Null()
}

func (a *again) symbols(i int) (l []string) {
	v := a.at(i)
	switch v.Kind {
	case api.ValNull:
	case api.ValSymbol:
		l = append(l, v.Text)
	case api.ValArray:
		for _, kid := range v.Kids {
			if kid.Kind != api.ValSymbol {
				a.spoilt = true
				return nil
			}
			l = append(l, kid.Text)
		}
	default:
		a.spoilt = true
	}
	return l
}

func (a *again) done(n int) api.Errno {
	if a.spoilt || len(a.kids) > n {
		return api.ErrForm
	}
	return api.OK
}

// asAgain asks fields one thing, and holds it against the document's words.
func asAgain(t *testing.T, r *rand.Rand, f *fields.Fields, a *again) {
	t.Helper()
	i := r.Intn(len(a.kids)+4) - 2
	kind, must, none := uint8(r.Intn(27)), r.Intn(4) == 0, r.Uint64()
	if r.Intn(2) == 0 {
		kind = a.at(i).Kind
	}
	var got, want any
	ask := r.Intn(8)
	switch ask {
	case 0:
		got, want = f.Has(i), a.at(i).Kind != api.ValNull
	case 1:
		got, want = f.Number(i, kind, must, none), a.number(i, kind, must, none)
	case 2:
		got, want = f.Bool(i, must), a.number(i, api.ValBool, must, 0) == 1
	case 3:
		got, want = f.Text(i, kind, must), a.text(i, kind, must)
	case 4:
		kinds := []uint8{kind, uint8(r.Intn(27)), uint8(r.Intn(27))}[:r.Intn(4)]
		got, want = fmt.Sprint(f.Value(i, kinds)), fmt.Sprint(a.value(i, kinds))
	case 5:
		got, want = fmt.Sprint(f.Symbols(i)), fmt.Sprint(a.symbols(i))
	case 6:
		n := len(a.kids) + r.Intn(5) - 2
		got, want = f.Done(n), a.done(n)
	case 7:
		if r.Intn(8) == 0 {
			f.Spoil()
			a.spoilt = true
		}
	}
	if got != want {
		t.Errorf("P7.1 to P7.3: %s, asked %d at %d, as %d: %v, not %v", brief(list(a.kids...)), ask, i, kind, got, want)
	}
	if e, want := f.Done(len(a.kids)), a.done(len(a.kids)); e != want {
		t.Errorf("P7.3: %s, asked %d at %d, as %d, %v: %d, not %d", brief(list(a.kids...)), ask, i, kind, must, e, want)
	}
}

// TestAny: lists of any fields, which may be, put, opened, and asked in any order.
func TestAny(t *testing.T) {
	r := rand.New(rand.NewSource(7))
	some := ofEach()
	for range 20000 {
		l := make([]api.Value, r.Intn(7))
		for i := range l {
			l[i] = some[r.Intn(len(some))]
			if r.Intn(3) == 0 {
				l[i] = value.Null()
			}
		}
		kids := l
		for len(kids) > 0 && kids[len(kids)-1].Kind == api.ValNull {
			kids = kids[:len(kids)-1]
		}
		n := r.Uint64() >> r.Intn(64)
		put := fields.Put(n, l)
		f, e := fields.New(put, n, "x")
		if e != api.OK || !value.Right(put) {
			t.Fatalf("P7.4: what Put makes of %s: %d", brief(list(l...)), e)
		}
		if other, e := fields.New(put, n+1, "x"); other != nil || e != api.ErrForm {
			t.Errorf("P7.1: by another code: %d", e)
		}
		a := again{kids: kids}
		for range r.Intn(12) {
			asAgain(t, r, f, &a)
		}
	}
}

// TestPutOpens: each field is told as it was put, and behind the last one there is nothing.
func TestPutOpens(t *testing.T) {
	l := append(ofEach(), value.Null(), value.Null())
	f, e := fields.New(fields.Put(code, l), code, name)
	if e != api.OK {
		t.Fatalf("P7.4: New of what Put makes: %d", e)
	}
	for i, v := range l {
		if got := f.Value(i, nil); !value.Same(got, v) {
			t.Errorf("P7.4: the field %d: %v, not %v", i, got, v)
		}
		if f.Has(i) != (v.Kind != api.ValNull) {
			t.Errorf("P7.4: Has(%d): %v", i, f.Has(i))
		}
	}
	if f.Has(len(l)) || f.Done(len(l)-2) != api.OK || f.Done(len(l)-3) != api.ErrForm {
		t.Error("P7.4: what is null at the end is not gone")
	}
	// What may not be is put, and does not open.
	for _, wrong := range []api.Value{{}, number(api.ValUbyte, 256), text(api.ValSymbol, "\x80"), value.Many(api.ValDesc, nil)} {
		if f, e := fields.New(fields.Put(code, []api.Value{wrong, value.Null()}), code, name); f != nil || e != api.ErrForm {
			t.Errorf("P7.1: New of a field that may not be, %v: %d", wrong, e)
		}
	}
	nulls := slices.Repeat([]api.Value{value.Null()}, 5000)
	if f, e := fields.New(fields.Put(code, nulls), code, name); e != api.OK || f.Done(0) != api.OK {
		t.Errorf("P7.4: of nothing but nulls, more than may be: %d", e)
	}
}

// scribble writes over all the memory that a value has, the room behind its lists' ends too.
func scribble(v *api.Value) {
	kids := v.Kids[:cap(v.Kids)]
	for i := range kids {
		scribble(&kids[i])
		kids[i] = symbol("scribbled")
	}
}

// deepList: fields with parts that have parts, in lists with room behind their ends.
func deepList() []api.Value {
	inner := append(make([]api.Value, 0, 8), symbol("a"), symbol("b"))
	l := append(make([]api.Value, 0, 8), api.Value{Kind: api.ValArray, Kids: inner}, list(list(symbol("c"))), symbol("d"), called(3, list()), value.Null(), value.Null())
	l = append(l, symbol("behind"))[:6]
	return l
}

// TestHandedIn: what was handed in stays as it was, and is not kept.
func TestHandedIn(t *testing.T) {
	l := deepList()
	want := list(l...)
	v := api.Value{Kind: api.ValDesc, Kids: []api.Value{number(api.ValUlong, code), {Kind: api.ValList, Kids: l}}}
	before := value.Copy(v)
	f, _ := fields.New(v, code, name)
	put := fields.Put(code, l)
	f.Value(0, nil)
	f.Symbols(0)
	if !value.Same(v, before) || !value.Same(l[:7][6], symbol("behind")) {
		t.Errorf("R3: changed: %v", l[:7])
	}
	scribble(&v)
	for i, kid := range want.Kids {
		if got := f.Value(i, nil); !value.Same(got, kid) {
			t.Errorf("R3: New keeps what it was handed: %v, not %v", got, kid)
		}
	}
	if !value.Same(put, called(code, list(want.Kids[:4]...))) {
		t.Errorf("R3: what Put has made is not its own: %v", put)
	}
}

// TestHandedOut: what is answered is new memory, and no two answers share any.
func TestHandedOut(t *testing.T) {
	l := deepList()
	want := list(l...)
	f := open(t, l...)
	first, second := f.Value(0, nil), f.Value(0, nil)
	scribble(&first)
	if !value.Same(second, want.Kids[0]) || !value.Same(f.Value(0, nil), want.Kids[0]) {
		t.Errorf("R3: Value hands out what is kept: %v", second)
	}
	names, others := f.Symbols(0), f.Symbols(0)
	for i := range names[:cap(names)] {
		names[:cap(names)][i] = "scribbled"
	}
	if !theSame(others, []string{"a", "b"}) || !theSame(f.Symbols(0), []string{"a", "b"}) {
		t.Errorf("R3: Symbols hands out what is kept: %q", others)
	}
	put, other := fields.Put(code, l), fields.Put(code, l)
	scribble(&put)
	if !value.Same(list(l...), want) || !value.Same(other, called(code, list(want.Kids[:4]...))) {
		t.Errorf("R3: Put hands out what it was handed: %v", l)
	}
	if e := f.Done(6); e != api.OK {
		t.Errorf("P7.3: Done: %d", e)
	}
}

// TestNotYourOwn: fields that were opened of one value are each their own.
func TestNotYourOwn(t *testing.T) {
	v := fields.Put(code, deepList())
	one, _ := fields.New(v, code, name)
	two, _ := fields.New(v, code, name)
	got := one.Value(0, nil)
	scribble(&got)
	if !theSame(two.Symbols(0), []string{"a", "b"}) || !value.Same(v, fields.Put(code, deepList())) {
		t.Error("R3: fields of one value share its memory")
	}
}
