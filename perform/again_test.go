package perform_test

import (
	"math"
	"math/rand"
	"reflect"
	"slices"
	"strings"
	"testing"
	"unicode/utf8"

	"bellwether/api"
	"bellwether/outcome"
	"bellwether/perform"
	"bellwether/value"
)

// field tells the document's words of a field once more: of which kind it is, or what it is beside; at most so much, and whether it must be there.
type field struct {
	kind uint8
	what string // one of symbols, state, cond, source, target, marks
	most uint64 // of a number, or of a text's bytes; 0: any
	must bool
}

func is(kind uint8) field { return field{kind: kind} }

func must(kind uint8) field { return field{kind: kind, must: true} }

func beside(what string) field { return field{what: what} }

func ends() (source, target []field) {
	u, y, b, m, s := is(api.ValUint), is(api.ValSymbol), is(api.ValBool), is(api.ValMap), beside("symbols")
	return []field{is(api.ValString), u, y, u, b, m, y, m, beside("state"), s, s}, []field{is(api.ValString), u, y, u, b, m, s}
}

// rows: the document's table, by the kinds.
func rows() [][]field {
	u, b, m, s := is(api.ValUint), is(api.ValBool), is(api.ValMap), beside("symbols")
	mu, mb, ms := must(api.ValUint), must(api.ValBool), must(api.ValString)
	one, two, tag := field{kind: api.ValUbyte, most: 1}, field{kind: api.ValUbyte, most: 2}, field{kind: api.ValBinary, most: api.MaxTag}
	return [][]field{
		nil,
		{ms, is(api.ValString), u, is(api.ValUshort), u, s, s, s, s, m},
		{is(api.ValUshort), mu, mu, mu, u, s, s, m},
		{ms, mu, mb, two, one, beside("source"), beside("target"), beside("marks"), b, u, is(api.ValUlong), s, s, m},
		{u, mu, mu, mu, u, u, u, u, b, b, m},
		{mu, u, tag, u, b, b, one, beside("state"), b, b, b},
		{mb, mu, u, b, beside("state"), b},
		{mu, b, beside("cond")},
		{beside("cond")},
		{beside("cond")},
	}
}

// is: may a value, which may be, be a field?
func (f field) is(v api.Value) bool {
	if v.Kind == api.ValNull {
		return !f.must
	}
	source, target := ends()
	switch f.what {
	case "symbols":
		other := func(v api.Value) bool { return v.Kind != api.ValSymbol }
		return v.Kind == api.ValSymbol || v.Kind == api.ValArray && !slices.ContainsFunc(v.Kids, other)
	case "state":
		_, e := outcome.Get(v)
		return e == api.OK
	case "cond":
		_, e := outcome.GetCond(v)
		return e == api.OK
	case "source":
		return isCalled(v, 0x28, "amqp:source:list", source)
	case "target":
		return isCalled(v, 0x29, "amqp:target:list", target)
	case "marks":
		for i, kid := range v.Kids {
			if i%2 == 0 && !(field{kind: api.ValBinary, most: api.MaxTag, must: true}).is(kid) || i%2 == 1 && !beside("state").is(kid) {
				return false
			}
		}
		return v.Kind == api.ValMap
	}
	return v.Kind == f.kind && (f.most == 0 || v.Num <= f.most && uint64(len(v.Text)) <= f.most)
}

// isCalled: is a value, which may be, called so, and a list of such fields?
func isCalled(v api.Value, code uint64, name string, row []field) bool {
	if v.Kind != api.ValDesc || !value.Same(v.Kids[0], ulong(code)) && !value.Same(v.Kids[0], symbol(name)) {
		return false
	}
	return v.Kids[1].Kind == api.ValList && are(v.Kids[1].Kids, row)
}

// are: may values, each of which may be, be fields of a row?
func are(l []api.Value, row []field) bool {
	for i, f := range row {
		if !f.is(at(l, i)) {
			return false
		}
	}
	return len(l) <= len(row)
}

func at(l []api.Value, i int) api.Value {
	if i < len(l) {
		return l[i]
	}
	return null()
}

// or: a number that may be wanting.
func or(v api.Value, none int64) int64 {
	if v.Kind == api.ValNull {
		return none
	}
	return int64(v.Num)
}

// again: Get of a value that may be, by the document's words.
func again(v api.Value) (api.Perform, api.Errno) {
	if v.Kind != api.ValDesc {
		return api.Perform{}, api.ErrForm
	}
	kind := 1 + slices.Index(names(), v.Kids[0].Text)
	if code := v.Kids[0].Num; v.Kids[0].Kind == api.ValUlong && code >= 0x10 && code <= 0x18 {
		kind = int(code - 0x0f)
	}
	if kind == 0 {
		return api.Perform{}, api.ErrNone
	}
	l := v.Kids[1].Kids
	if v.Kids[1].Kind != api.ValList || !are(l, rows()[kind]) {
		return api.Perform{}, api.ErrForm
	}
	if kind == 3 && l[2].Num == 0 && at(l, 9).Kind == api.ValNull {
		return api.Perform{}, api.ErrForm
	}
	return tell(uint8(kind), func(i int) api.Value { return at(l, i) }), api.OK
}

// tell: what fields, which are as they should be, say.
func tell(kind uint8, f func(i int) api.Value) api.Perform {
	n := func(i int) uint32 { return uint32(f(i).Num) }
	is := func(i int) bool { return f(i).Num == 1 }
	state := func(v api.Value) api.Outcome { o, _ := outcome.Get(v); return o }
	p := api.Perform{Kind: kind}
	switch kind {
	case 1:
		p.Id, p.Host, p.MaxFrame, p.Channels, p.Idle = f(0).Text, f(1).Text, uint32(or(f(2), math.MaxUint32)), uint16(or(f(3), 65535)), n(4)
	case 2:
		p.Remote, p.NextOut, p.InWin, p.OutWin, p.Handles = int(or(f(0), -1)), n(1), n(2), n(3), uint32(or(f(4), math.MaxUint32))
	case 3:
		p.Name, p.Handle, p.Role, p.Snd, p.Rcv = f(0).Text, int(n(1)), is(2), uint8(or(f(3), 2)), uint8(n(4))
		for i, address := range []*string{&p.Source, &p.Target} {
			if v := f(5 + i); v.Kind != api.ValNull {
				*address = at(v.Kids[1].Kids, 0).Text
			}
		}
		for i := 0; i < len(f(7).Kids); i += 2 {
			p.Marks = append(p.Marks, api.Mark{Tag: f(7).Kids[i].Text, State: state(f(7).Kids[i+1])})
		}
		if !p.Role {
			p.Count = n(9)
		}
	case 4:
		p.NextIn, p.InWin, p.NextOut, p.OutWin, p.Handle, p.Echo = or(f(0), -1), n(1), n(2), n(3), int(or(f(4), -1)), is(9)
		if p.Handle >= 0 {
			p.Count, p.Credit, p.Drain = n(5), n(6), is(8)
		}
	case 5:
		p.Handle, p.First, p.Tag, p.State = int(n(0)), or(f(1), -1), f(2).Text, state(f(7))
		p.Settled, p.More, p.Resume, p.Aborted = is(4), is(5), is(8), is(9)
	case 6:
		p.Role, p.First, p.Last, p.Settled, p.State = is(0), int64(n(1)), uint32(or(f(2), int64(n(1)))), is(3), state(f(4))
	case 7:
		p.Handle, p.Closed = int(n(0)), is(1)
		p.Cond, _ = outcome.GetCond(f(2))
	case 8, 9:
		p.Cond, _ = outcome.GetCond(f(0))
	}
	return p
}

// has: which fields each kind has, by their names in api.
func has(kind uint8) []string {
	return strings.Fields([]string{
		"Id Host MaxFrame Channels Idle", "Remote NextOut InWin OutWin Handles", "Name Handle Role Snd Rcv Source Target Marks Count",
		"NextIn InWin NextOut OutWin Handle Count Credit Drain Echo", "Handle First Tag Settled More State Resume Aborted Payload",
		"Role First Last Settled State", "Handle Closed Cond", "Cond", "Cond",
	}[kind-1])
}

// mayBe tells the document's words of performatives once more.
func mayBe(p api.Perform) bool {
	if p.Kind < 1 || p.Kind > 9 {
		return false
	}
	own := append(has(p.Kind), "Kind")
	if p.Kind == 3 && p.Role {
		own = slices.DeleteFunc(own, func(s string) bool { return s == "Count" })
	}
	if p.Kind == 4 && p.Handle == -1 {
		own = slices.DeleteFunc(own, func(s string) bool { return s == "Count" || s == "Credit" || s == "Drain" })
	}
	all := reflect.ValueOf(p)
	for i := range all.NumField() {
		f := all.Field(i)
		nothing := f.IsZero() || f.Kind() == reflect.Slice && f.Len() == 0
		if !nothing && !slices.Contains(own, all.Type().Field(i).Name) {
			return false
		}
	}
	for _, s := range []string{p.Id, p.Host, p.Name, p.Source, p.Target} {
		if !utf8.ValidString(s) {
			return false
		}
	}
	tags := map[string]bool{}
	for _, m := range p.Marks {
		if _, e := outcome.Put(m.State); e != api.OK || len(m.Tag) > 32 || tags[m.Tag] {
			return false
		}
		tags[m.Tag] = true
	}
	for _, b := range []byte(p.Cond) {
		if b >= 128 {
			return false
		}
	}
	_, e := outcome.Put(p.State)
	least := map[uint8]int64{4: -1}[p.Kind]
	first := map[uint8]int64{5: -1}[p.Kind]
	return e == api.OK && p.Remote >= -1 && p.Remote <= 65535 && int64(p.Handle) >= least && int64(p.Handle) < 1<<32 &&
		p.NextIn >= -1 && p.NextIn < 1<<32 && p.First >= first && p.First < 1<<32 && p.Snd <= 2 && p.Rcv <= 1 && len(p.Tag) <= 32
}

// putAgain: Put of a performative that may be, by the document's words: all fields, of which null is what is as it would be, but for what must be there.
func putAgain(p api.Perform) api.Value {
	state := func(o api.Outcome) api.Value { v, _ := outcome.Put(o); return v }
	cond, _ := outcome.PutCond(p.Cond)
	end := func(code uint64, s string) api.Value {
		if s == "" {
			return null()
		}
		return called(code, str(s))
	}
	marks := null()
	if len(p.Marks) > 0 {
		marks = dict()
		for _, m := range p.Marks {
			marks.Kids = append(marks.Kids, binary(m.Tag), state(m.State))
		}
	}
	n := func(n uint32) api.Value { return uint32s(uint64(n)) }
	h := func(n int64) api.Value { return uint32s(uint64(n)) }
	var told, unsaid []api.Value
	switch p.Kind {
	case 1:
		told = []api.Value{str(p.Id), str(p.Host), n(p.MaxFrame), ushort(uint64(p.Channels)), n(p.Idle)}
		unsaid = []api.Value{{}, str(""), n(math.MaxUint32), ushort(65535), n(0)}
	case 2:
		told = []api.Value{ushort(uint64(p.Remote)), n(p.NextOut), n(p.InWin), n(p.OutWin), n(p.Handles)}
		unsaid = []api.Value{ushort(math.MaxUint64), {}, {}, {}, n(math.MaxUint32)}
	case 3:
		told = []api.Value{str(p.Name), h(int64(p.Handle)), value.Bool(p.Role), ubyte(uint64(p.Snd)), ubyte(uint64(p.Rcv)), end(0x28, p.Source), end(0x29, p.Target), marks, null(), n(p.Count)}
		unsaid = []api.Value{{}, {}, {}, ubyte(2), ubyte(0), {}, {}, {}, {}, {}}
		if p.Role {
			told = told[:9]
		}
	case 4:
		told = []api.Value{h(p.NextIn), n(p.InWin), n(p.NextOut), n(p.OutWin), h(int64(p.Handle)), n(p.Count), n(p.Credit), null(), value.Bool(p.Drain), value.Bool(p.Echo)}
		unsaid = []api.Value{h(-1), {}, {}, {}, h(-1), {}, {}, {}, no(), no()}
		if p.Handle == -1 {
			told[5], told[6] = null(), null()
		}
	case 5:
		told = []api.Value{h(int64(p.Handle)), h(p.First), binary(p.Tag), null(), value.Bool(p.Settled), value.Bool(p.More), null(), state(p.State), value.Bool(p.Resume), value.Bool(p.Aborted)}
		unsaid = []api.Value{{}, h(-1), binary(""), {}, no(), no(), {}, {}, no(), no()}
	case 6:
		told = []api.Value{value.Bool(p.Role), h(p.First), n(p.Last), value.Bool(p.Settled), state(p.State)}
		unsaid = []api.Value{{}, {}, h(p.First), no(), {}}
	case 7:
		told, unsaid = []api.Value{h(int64(p.Handle)), value.Bool(p.Closed), cond}, []api.Value{{}, no(), {}}
	default:
		told, unsaid = []api.Value{cond}, []api.Value{{}}
	}
	for i, v := range told {
		if value.Same(v, unsaid[i]) {
			told[i] = null()
		}
	}
	for len(told) > 0 && told[len(told)-1].Kind == api.ValNull {
		told = told[:len(told)-1]
	}
	return called(0x0f+uint64(p.Kind), told...)
}

// holds: what is got of a value, which may be, is what the document says; what is told may be, and is told again behind Put.
func holds(t *testing.T, v api.Value) bool {
	t.Helper()
	p, e := again(v)
	gets(t, v, p, e)
	if e != api.OK {
		return false
	}
	if !mayBe(p) {
		t.Errorf("P9.2: %s, told of %s, may not be", brief(p), brief(v))
	}
	goes(t, p, putAgain(p))
	return true
}

// ofEach: a value of each kind, which may be, and more of those that say more than one thing here.
func ofEach() []api.Value {
	return []api.Value{
		null(), yes(), no(), ubyte(0), ubyte(1), ubyte(2), ubyte(3), ubyte(255), ushort(0), ushort(65535), uint32s(0), uint32s(1), uint32s(1<<32 - 1), ulong(0), ulong(math.MaxUint64),
		value.Number(api.ValByte, 1), value.Number(api.ValShort, 1), value.Number(api.ValInt, 1), value.Number(api.ValLong, 1), value.Number(api.ValFloat, 1), value.Number(api.ValDouble, 1), value.Number(api.ValChar, 1), value.Number(api.ValTime, 1),
		value.Text(api.ValUuid, "0123456789abcdef"), value.Text(api.ValDec32, "0123"), value.Text(api.ValDec64, "01234567"), value.Text(api.ValDec128, "fedcba9876543210"),
		binary(""), binary("x"), binary(strings.Repeat("\xff", 32)), binary(strings.Repeat("x", 33)), str(""), str("x"), str("é"), symbol(""), symbol("x"), symbol("\x7f"),
		list(), list(symbol("x")), dict(), dict(symbol("a"), uint32s(1)), dict(binary("a"), null()), dict(binary("a"), called(0x24), binary(""), called(0x25, fault("y"))), dict(binary("a"), str("x")),
		array(), array(symbol("x")), array(symbol("x"), symbol("y")), array(str("x")), array(uint32s(1)),
		fault("x"), fault(""), named("amqp:error:list", symbol("y"), str("told"), dict()), called(0x1d), called(0x1d, str("x")),
		called(0x24), named("amqp:accepted:list"), called(0x25, fault("x")), called(0x26), called(0x27, yes(), yes()), called(0x23, uint32s(1), ulong(2)), called(0x23), called(0x24, null()),
		called(0x28), called(0x28, str("q")), called(0x28, str("q"), uint32s(1), null(), uint32s(1)), named("amqp:source:list", str("")), called(0x28, symbol("q")), called(0x29), called(0x29, str("q")), named("amqp:target:list", str("q"), null(), symbol("x")), called(0x29, ubyte(1)),
	}
}

// full: fields of a row as they should be, all there.
func full(row []field) []api.Value {
	var l []api.Value
	for _, f := range row {
		f.must = true
		i := slices.IndexFunc(ofEach(), f.is)
		l = append(l, ofEach()[i])
	}
	return l
}

// TestFields: each field of each kind as it must be, null, missing, and of each other kind; and fields more than told.
func TestFields(t *testing.T) {
	for kind, row := range rows() {
		if kind == 0 {
			continue
		}
		told := 0
		try := func(l []api.Value) {
			t.Helper()
			for _, v := range both(uint8(kind), l...) {
				if holds(t, v) {
					told++
				}
			}
		}
		whole := full(row)
		for n := range len(whole) + 1 {
			try(whole[:n])
			for i := range n {
				if n != len(whole) && i != n-1 {
					continue
				}
				for _, v := range ofEach() {
					l := slices.Clone(whole[:n])
					l[i] = v
					try(l)
				}
			}
		}
		for _, v := range ofEach() {
			try(append(slices.Clone(whole), v))
			try(append([]api.Value{v}, whole...))
		}
		if told < 2*len(row) {
			t.Errorf("of the kind %d only %d were told", kind, told)
		}
	}
}

// TestAny: any fields in what is called anything near.
func TestAny(t *testing.T) {
	r := rand.New(rand.NewSource(9))
	some := ofEach()
	told := 0
	for range 8000 {
		kind := 1 + r.Intn(9)
		row := rows()[kind]
		l := make([]api.Value, r.Intn(len(row)+2))
		for i := range l {
			l[i] = null()
			if i < len(row) && (row[i].must || r.Intn(2) == 0) {
				right := slices.DeleteFunc(slices.Clone(some), func(v api.Value) bool { return !row[i].is(v) })
				l[i] = right[r.Intn(len(right))]
			}
			if r.Intn(40) == 0 {
				l[i] = some[r.Intn(len(some))]
			}
		}
		v := both(uint8(kind), l...)[r.Intn(2)]
		if r.Intn(20) == 0 {
			v.Kids[0] = []api.Value{ulong(0x0f), ulong(0x19), symbol("amqp:list"), symbol(""), ulong(0x28), ulong(uint64(0x10 + r.Intn(9)))}[r.Intn(6)]
		}
		if value.Right(v) && holds(t, v) {
			told++
		}
	}
	if told < 2000 {
		t.Errorf("of any fields only %d are performatives", told)
	}
}

// anyPerform: one that mostly may be: fields of its kind at any edge; sometimes one of another kind.
func anyPerform(r *rand.Rand) api.Perform {
	p := api.Perform{Kind: uint8(1 + r.Intn(9))}
	own := has(p.Kind)
	all := reflect.ValueOf(&p).Elem()
	for i := range all.NumField() {
		name := all.Type().Field(i).Name
		if name != "Kind" && (slices.Contains(own, name) && r.Intn(5) > 0 || r.Intn(600) == 0) {
			fill(r, all.Field(i), name)
		}
	}
	return p
}

// fill: any value of a field.
func fill(r *rand.Rand, f reflect.Value, name string) {
	numbers := []int64{0, 1, 2, 7, 65534, 65535, 1<<32 - 2, 1<<32 - 1}
	switch f.Kind() {
	case reflect.Bool:
		f.SetBool(r.Intn(2) == 0)
	case reflect.Uint8, reflect.Uint16, reflect.Uint32:
		f.SetUint(uint64(numbers[r.Intn(len(numbers))]) & (1<<f.Type().Bits() - 1))
		if name == "Snd" || name == "Rcv" {
			f.SetUint(uint64(r.Intn(21)) / 8)
		}
	case reflect.Int, reflect.Int64:
		f.SetInt([]int64{-1, 0, 1, 7, 255, 65535, -2, 65536, 1<<32 - 1, 1 << 32}[r.Intn(min(6+r.Intn(5), 10))])
	case reflect.String:
		f.SetString([]string{"", "a", "bc", strings.Repeat("x", 32), strings.Repeat("x", 33), "é", "\x80"}[r.Intn(4+r.Intn(4)*r.Intn(2))])
	case reflect.Struct:
		f.Set(reflect.ValueOf(anyOutcome(r)))
	case reflect.Slice:
		if name == "Payload" {
			f.SetBytes([]byte("payload")[:r.Intn(8)])
			return
		}
		var l []api.Mark
		for range r.Intn(4) {
			l = append(l, api.Mark{Tag: strings.Repeat("t", r.Intn(34)), State: anyOutcome(r)})
		}
		f.Set(reflect.ValueOf(l))
	}
}

func anyOutcome(r *rand.Rand) api.Outcome {
	return []api.Outcome{{}, {Kind: 1, A: 1, B: 1 << 40}, {Kind: 2}, {Kind: 3, Cond: "x"}, {Kind: 3}, {Kind: 4}, {Kind: 5, A: 1}, {Kind: 5, B: 1}, {Kind: 2}, {Kind: 4}, {Kind: 6}, {Kind: 2, A: 1}}[r.Intn(10+r.Intn(2)*2)]
}

// TestAnyPerform: any performative is put as the document says, and is told as it was.
func TestAnyPerform(t *testing.T) {
	r := rand.New(rand.NewSource(90))
	might := map[uint8]int{}
	for range 15000 {
		p := anyPerform(r)
		if !mayBe(p) {
			mayNot(t, p)
			continue
		}
		might[p.Kind]++
		goes(t, p, putAgain(p))
	}
	for kind := api.PerOpen; kind <= api.PerClose; kind++ {
		if might[kind] < 300 {
			t.Errorf("of the kind %d only %d may be", kind, might[kind])
		}
	}
}

// TestOthers: of each kind, each field that it does not have.
func TestOthers(t *testing.T) {
	r := rand.New(rand.NewSource(91))
	for kind := api.PerOpen; kind <= api.PerClose; kind++ {
		for i := range reflect.TypeFor[api.Perform]().NumField() {
			for range 40 {
				p := asIf(kind)
				name := reflect.TypeOf(p).Field(i).Name
				if name == "Kind" {
					continue
				}
				fill(r, reflect.ValueOf(&p).Elem().Field(i), name)
				if mayBe(p) {
					goes(t, p, putAgain(p))
				} else {
					mayNot(t, p)
				}
			}
		}
	}
}

// TestAnyBytes: bodies of any bytes are read, or not, and those that are read are told again behind Write.
func TestAnyBytes(t *testing.T) {
	r := rand.New(rand.NewSource(92))
	read := 0
	for range 15000 {
		b, e := perform.Write(anyPerform(r))
		if e != api.OK {
			continue
		}
		for range r.Intn(3) {
			switch at := r.Intn(len(b)); r.Intn(3) {
			case 0:
				b[at] = byte(r.Intn(256))
			case 1:
				b = b[:at+1]
			case 2:
				b = append(b, byte(r.Intn(256)))
			}
		}
		p, e := perform.Read(b)
		if e != api.OK {
			if !same(p, api.Perform{}) || e != api.ErrForm && e != api.ErrNone {
				t.Errorf("P9.3: Read of % x: %s, %d", b, brief(p), e)
			}
			continue
		}
		read++
		back, e := perform.Write(p)
		if e != api.OK || !mayBe(p) {
			t.Errorf("P9.3: %s, read of % x, is not written: %d", brief(p), b, e)
		}
		reads(t, back, p, api.OK)
	}
	if read < 2000 {
		t.Errorf("only %d were read", read)
	}
}

// scribble writes over all the memory that a value has, the room behind its lists' ends too.
func scribble(v *api.Value) {
	kids := v.Kids[:cap(v.Kids)]
	for i := range kids {
		scribble(&kids[i])
		kids[i] = symbol("scribbled")
	}
}

func scribbleBytes(b []byte) {
	for i := range b[:cap(b)] {
		b[:cap(b)][i] = 0xee
	}
}

// TestPayload: a performative of a Transfer hangs on its payload in nothing else.
func TestPayload(t *testing.T) {
	p := api.Perform{Kind: api.PerTransfer, Handle: 1, First: 2, Tag: "t", More: true}
	bare, _ := perform.Write(p)
	v, _ := perform.Put(p)
	for n := range 600 {
		p.Payload = []byte(strings.Repeat("\x00\x53\x14", n))[:n]
		b, e := perform.Write(p)
		if e != api.OK || !slices.Equal(b, append(bare[:len(bare):len(bare)], p.Payload...)) {
			t.Errorf("P9.3: Write with %d bytes: % x, %d", n, b, e)
		}
		puts(t, p, v, api.OK)
		reads(t, b, p, api.OK)
	}
}

// TestHandedIn: what was handed in stays as it was, and is not kept; what is answered is new memory.
func TestHandedIn(t *testing.T) {
	payload := append(make([]byte, 0, 64), "payload"...)
	marks := append(make([]api.Mark, 0, 8), api.Mark{Tag: "a"}, api.Mark{Tag: "b", State: api.Outcome{Kind: api.OutAccepted}})
	attach := api.Perform{Kind: api.PerAttach, Name: "l", Role: true, Source: "q", Marks: marks}
	transfer := api.Perform{Kind: api.PerTransfer, Tag: "t", Payload: payload}
	v, _ := perform.Put(attach)
	other, _ := perform.Put(attach)
	b, _ := perform.Write(transfer)
	b2, _ := perform.Write(transfer)
	whole := slices.Clone(b)
	if !same(attach, api.Perform{Kind: api.PerAttach, Name: "l", Role: true, Source: "q", Marks: []api.Mark{{Tag: "a"}, {Tag: "b", State: api.Outcome{Kind: api.OutAccepted}}}}) || marks[:3][2] != (api.Mark{}) || string(payload[:8]) != "payload\x00" {
		t.Errorf("R3: Put changes what it was handed: %s", brief(attach))
	}
	scribble(&v)
	gets(t, other, attach, api.OK)
	scribbleBytes(b)
	if string(payload[:8]) != "payload\x00" || !slices.Equal(b2, whole) {
		t.Error("R3: Write hands out what it was handed, or what it has made")
	}
	p, _ := perform.Get(other)
	q, _ := perform.Get(other)
	scribble(&other)
	if !same(p, attach) || !same(q, attach) {
		t.Errorf("R3: Get keeps what it was handed: %s", brief(p))
	}
	for i := range p.Marks[:cap(p.Marks)] {
		p.Marks[:cap(p.Marks)][i] = api.Mark{Tag: "scribbled"}
	}
	if !same(q, attach) {
		t.Errorf("R3: two answers share their marks: %s", brief(q))
	}
	body := append(make([]byte, 0, len(b2)+64), b2...)
	p, _ = perform.Read(body)
	q, _ = perform.Read(body)
	scribbleBytes(p.Payload)
	if !slices.Equal(body, whole) || !same(q, transfer) || slices.Max(body[len(body):cap(body)]) != 0 {
		t.Error("R3: Read hands out what it was handed")
	}
	scribbleBytes(body)
	if !same(q, transfer) {
		t.Errorf("R3: Read keeps what it was handed: %s", brief(q))
	}
}
