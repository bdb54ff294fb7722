package outcome_test

import (
	"math"
	"math/rand"
	"slices"
	"testing"

	"bellwether/api"
	"bellwether/outcome"
	"bellwether/value"
)

// mayBe tells the document's words of outcomes once more.
func mayBe(o api.Outcome) bool {
	for _, b := range []byte(o.Cond) {
		if b >= 128 {
			return false
		}
	}
	switch o.Kind {
	case 1:
		return o.Cond == "" && o.A < 1<<32
	case 3:
		return o.A == 0 && o.B == 0
	case 5:
		return o.Cond == "" && (o.A == 0 || o.A == 1) && (o.B == 0 || o.B == 1)
	case 0, 2, 4:
		return o.Cond == "" && o.A == 0 && o.B == 0
	}
	return false
}

// row: a row of the document's table: what it is called, and of which kind its fields are; those that must be there are the first ones.
type row struct {
	code  uint64
	name  string
	kinds []uint8
	must  int
}

// rows are the document's, the error ahead, the others by the kinds of outcomes. A ValDesc stands for an error.
func rows() []row {
	return []row{
		{0x1d, "amqp:error:list", []uint8{api.ValSymbol, api.ValString, api.ValMap}, 1},
		{0x23, "amqp:received:list", []uint8{api.ValUint, api.ValUlong}, 2},
		{0x24, "amqp:accepted:list", nil, 0},
		{0x25, "amqp:rejected:list", []uint8{api.ValDesc}, 0},
		{0x26, "amqp:released:list", nil, 0},
		{0x27, "amqp:modified:list", []uint8{api.ValBool, api.ValBool, api.ValMap}, 0},
	}
}

// is: may fields, each of which may be, stand in a row?
func (r row) is(l []api.Value) bool {
	if len(l) > len(r.kinds) {
		return false
	}
	for i, kind := range r.kinds {
		v := value.Null()
		if i < len(l) {
			v = l[i]
		}
		switch {
		case v.Kind == api.ValNull:
			if i < r.must {
				return false
			}
		case v.Kind != kind:
			return false
		case kind == api.ValDesc && !rows()[0].called(v):
			return false
		}
	}
	return true
}

// called: is a value, which may be, called so, and of such fields?
func (r row) called(v api.Value) bool {
	if v.Kind != api.ValDesc || v.Kids[1].Kind != api.ValList {
		return false
	}
	by := v.Kids[0]
	return (by.Kind == api.ValUlong && by.Num == r.code || by.Kind == api.ValSymbol && by.Text == r.name) && r.is(v.Kids[1].Kids)
}

// condAgain: GetCond of a value that may be, by the document's words.
func condAgain(v api.Value) (string, api.Errno) {
	switch {
	case v.Kind == api.ValNull:
		return "", api.OK
	case rows()[0].called(v):
		return v.Kids[1].Kids[0].Text, api.OK
	}
	return "", api.ErrForm
}

// again: Get of a value that may be, by the document's words.
func again(v api.Value) (api.Outcome, api.Errno) {
	if v.Kind == api.ValNull {
		return api.Outcome{}, api.OK
	}
	for kind, r := range rows() {
		if kind == 0 || !r.called(v) {
			continue
		}
		o := api.Outcome{Kind: uint8(kind)}
		l := append(slices.Clone(v.Kids[1].Kids), value.Null(), value.Null())
		switch o.Kind {
		case api.OutReceived, api.OutModified:
			o.A, o.B = l[0].Num, l[1].Num
		case api.OutRejected:
			o.Cond, _ = condAgain(l[0])
		}
		return o, api.OK
	}
	return api.Outcome{}, api.ErrForm
}

// holds: what is got of a value, which may be, is what the document says; what is told may be, and is told again behind Put.
func holds(t *testing.T, v api.Value) {
	t.Helper()
	o, e := again(v)
	gets(t, v, o, e)
	cond, e2 := condAgain(v)
	getsCond(t, v, cond, e2)
	if e == api.OK {
		back, e := outcome.Put(o)
		if e != api.OK || !value.Right(back) {
			t.Errorf("P8.3: %v, told of %s, is put as %v, %d", o, brief(v), back, e)
		}
		gets(t, back, o, api.OK)
	}
	if e2 == api.OK {
		back, e := outcome.PutCond(cond)
		if e != api.OK || !value.Right(back) {
			t.Errorf("P8.1: %q, told of %s, is put as %v, %d", cond, brief(v), back, e)
		}
		getsCond(t, back, cond, api.OK)
	}
}

// ofEach: a value of each kind, which may be, and more of those that say more than one thing here.
func ofEach() []api.Value {
	return []api.Value{
		value.Null(), value.Bool(true), value.Bool(false),
		number(api.ValUbyte, 1), number(api.ValUshort, 1), uint32s(0), uint32s(1), uint32s(1<<32 - 1), ulong(0), ulong(1), ulong(math.MaxUint64),
		number(api.ValByte, 1), number(api.ValShort, 1), number(api.ValInt, 1), number(api.ValLong, 1),
		number(api.ValFloat, 1), number(api.ValDouble, 1), number(api.ValChar, 1), number(api.ValTime, 1),
		value.Text(api.ValUuid, "0123456789abcdef"), value.Text(api.ValDec32, "0123"), value.Text(api.ValDec64, "01234567"), value.Text(api.ValDec128, "fedcba9876543210"),
		value.Text(api.ValBinary, "x"), str("x"), str(""), symbol("x"), symbol(""), symbol("\x7f"),
		list(), list(symbol("x")), dict(), dict(symbol("a"), uint32s(1)), array(), array(symbol("x")), array(fault("x"), fault("y")),
		fault("x"), fault(""), named("amqp:error:list", list(symbol("y"), str("told"), dict())), called(0x1d, list(symbol("z"), value.Null(), dict(str("a"), list()))),
		called(0x1d, list()), called(0x1d, list(str("x"))), called(0x1d, list(value.Null(), str("x"))), called(0x1d, list(symbol("x"), symbol("y"))), called(0x1d, list(symbol("x"), str("y"), dict(), value.Null())),
		called(0x1e, list(symbol("x"))), named("amqp:error", list(symbol("x"))), called(0x1d, symbol("x")),
		called(0x24, list()), called(0x25, list(fault("x"))), named("amqp:accepted:list", list()), called(0x23, list(uint32s(1), ulong(1))),
	}
}

// full: fields of a row as they should be, all there.
func (r row) full() []api.Value {
	var l []api.Value
	for _, kind := range r.kinds {
		i := slices.IndexFunc(ofEach(), func(v api.Value) bool { return v.Kind == kind })
		l = append(l, ofEach()[i])
	}
	return l
}

// TestFields: each field of each of them as it must be, null, missing, and of each other kind; and fields more than told.
func TestFields(t *testing.T) {
	for _, r := range rows() {
		full := r.full()
		if !r.is(full) {
			t.Fatalf("%s: %v", r.name, full)
		}
		try := func(l []api.Value) {
			t.Helper()
			holds(t, called(r.code, list(l...)))
			holds(t, named(r.name, list(l...)))
		}
		for n := range len(full) + 1 {
			try(full[:n])
			for i := range n {
				for _, v := range ofEach() {
					l := slices.Clone(full[:n])
					l[i] = v
					try(l)
				}
			}
		}
		for _, v := range ofEach() {
			for more := 1; more < 4; more++ {
				try(append(slices.Clone(full), slices.Repeat([]api.Value{v}, more)...))
				try(append(slices.Repeat([]api.Value{v}, more), full...))
			}
		}
	}
}

// TestAny: any fields in what is called anything near.
func TestAny(t *testing.T) {
	r := rand.New(rand.NewSource(8))
	some := ofEach()
	names := []api.Value{ulong(0x1c), ulong(0x22), ulong(0x28), symbol("amqp:list"), symbol("")}
	var full [][]api.Value
	for _, row := range rows() {
		names = append(names, ulong(row.code), symbol(row.name))
		full = append(full, row.full())
	}
	told := 0
	for range 50000 {
		// Mostly what is nearly right: a row's own fields, some of them turned.
		i := r.Intn(len(full))
		l := slices.Clone(full[i][:r.Intn(len(full[i])+1)])
		for j := range l {
			switch r.Intn(4) {
			case 0:
				l[j] = some[r.Intn(len(some))]
			case 1:
				l[j] = value.Null()
			}
		}
		if r.Intn(8) == 0 {
			l = append(l, some[r.Intn(len(some))])
		}
		by := ulong(rows()[i].code)
		if r.Intn(4) == 0 {
			by = names[r.Intn(len(names))]
		}
		v := value.Desc(by, list(l...))
		if _, e := again(v); e == api.OK {
			told++
		}
		holds(t, v)
	}
	if told < 5000 {
		t.Errorf("of any fields only %d are outcomes", told)
	}
}

// TestAnyOutcome: any outcome is put as the document says, and is told as it was.
func TestAnyOutcome(t *testing.T) {
	r := rand.New(rand.NewSource(9))
	for range 50000 {
		o := api.Outcome{Kind: uint8(r.Intn(7))}
		if r.Intn(2) == 0 {
			o.A, o.B = r.Uint64()>>r.Intn(65), r.Uint64()>>r.Intn(65)
		}
		if r.Intn(2) == 0 {
			cond := make([]byte, r.Intn(4))
			for i := range cond {
				cond[i] = byte(r.Intn(130))
			}
			o.Cond = string(cond)
		}
		v, e := outcome.Put(o)
		if !mayBe(o) {
			if e != api.ErrArg || !value.Same(v, api.Value{}) {
				t.Errorf("P8.2: Put of %v, which may not be: %v, %d", o, v, e)
			}
			continue
		}
		if got, e2 := again(v); e != api.OK || e2 != api.OK || got != o || !value.Right(v) {
			t.Errorf("P8.2: Put of %v: %v, %d", o, v, e)
		}
		gets(t, v, o, api.OK)
	}
}

// scribble writes over all the memory that a value has, the room behind its lists' ends too.
func scribble(v *api.Value) {
	kids := v.Kids[:cap(v.Kids)]
	for i := range kids {
		scribble(&kids[i])
		kids[i] = symbol("scribbled")
	}
}

// TestNewMemory: what is made lies in memory of its own.
func TestNewMemory(t *testing.T) {
	for _, o := range []api.Outcome{{}, {Kind: api.OutReceived, A: 1, B: 2}, {Kind: api.OutAccepted}, {Kind: api.OutRejected}, {Kind: api.OutRejected, Cond: "x"}, {Kind: api.OutReleased}, {Kind: api.OutModified}, {Kind: api.OutModified, A: 1, B: 1}} {
		one, _ := outcome.Put(o)
		two, _ := outcome.Put(o)
		want := value.Copy(two)
		scribble(&one)
		three, _ := outcome.Put(o)
		if !value.Same(two, want) || !value.Same(three, want) {
			t.Errorf("R3: Put of %v hands out what is another's: %v, %v", o, two, three)
		}
	}
	one, _ := outcome.PutCond("x")
	two, _ := outcome.PutCond("x")
	scribble(&one)
	three, _ := outcome.PutCond("x")
	if !value.Same(two, fault("x")) || !value.Same(three, fault("x")) {
		t.Errorf("R3: PutCond hands out what is another's: %v, %v", two, three)
	}
}

// roomy: the same value, each list of it with room behind its end, in which something stands.
func roomy(v api.Value) api.Value {
	if len(v.Kids) == 0 {
		return v
	}
	kids := make([]api.Value, 0, len(v.Kids)+2)
	for _, kid := range v.Kids {
		kids = append(kids, roomy(kid))
	}
	_ = append(kids, symbol("behind"), value.Null())
	v.Kids = kids
	return v
}

// behind: is what stands behind the ends of a roomy value's lists as it was?
func behind(v api.Value) bool {
	if len(v.Kids) == 0 {
		return true
	}
	for _, kid := range v.Kids {
		if !behind(kid) {
			return false
		}
	}
	room := v.Kids[len(v.Kids):cap(v.Kids)]
	return value.Same(room[0], symbol("behind")) && value.Same(room[1], value.Null())
}

// TestHandedIn: what was handed in stays as it was, and is not kept.
func TestHandedIn(t *testing.T) {
	for _, r := range rows() {
		for _, l := range [][]api.Value{r.full(), append(r.full(), list(fault("x")))} {
			want := called(r.code, list(l...))
			v := roomy(want)
			o, e := outcome.Get(v)
			cond, e2 := outcome.GetCond(v)
			if !value.Same(v, want) || !behind(v) {
				t.Errorf("R3: changed: %v, not %v", v, want)
			}
			scribble(&v)
			gets(t, want, o, e)
			getsCond(t, want, cond, e2)
		}
	}
}
