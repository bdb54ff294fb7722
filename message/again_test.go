package message_test

import (
	"bytes"
	"math/rand"
	"regexp"
	"slices"
	"strings"
	"testing"
	"unicode/utf8"

	"bellwether/api"
	"bellwether/decode"
	"bellwether/message"
	"bellwether/value"
)

// order tells the document's order once more, each section by a letter, all others by a dash.
var order = regexp.MustCompile(`^h?d?m?p?a?b+f?$`)

// letter of a section, and its kind.
func letter(called api.Value) (byte, uint8) {
	for i, k := range kinds() {
		if value.Same(called, ulong(k.code)) || value.Same(called, symbol(k.name)) {
			return "hdmpabf"[i], k.is.Kind
		}
	}
	return '-', 0
}

// again: Get, by the document's words.
func again(b []byte) (api.Msg, bool) {
	m := api.Msg{Priority: 4}
	letters, right := "", true
	for len(b) > 0 {
		v, n, e := decode.Value(b)
		if e != api.OK || v.Kind != api.ValDesc {
			return api.Msg{}, false
		}
		b = b[n:]
		l, kind := letter(v.Kids[0])
		is := v.Kids[1]
		right = right && is.Kind == kind
		letters += string(l)
		switch l {
		case 'h':
			right = right && headerAgain(&m, is.Kids)
		case 'p':
			right = right && propertiesAgain(&m, is.Kids)
		case 'b':
			m.Body = append(m.Body, is.Text...)
		}
	}
	if !right || !order.MatchString(letters) || len(m.Body) > 2048 {
		return api.Msg{}, false
	}
	return m, true
}

// are: is each field null, or of one of its kinds, and is there none more?
func (r row) are(l []api.Value) bool {
	for i, v := range l {
		if i >= len(r) || v.Kind != api.ValNull && !slices.Contains(r[i], v.Kind) {
			return false
		}
	}
	return true
}

func headerAgain(m *api.Msg, l []api.Value) bool {
	if !headerRow().are(l) {
		return false
	}
	for i, v := range l {
		if v.Kind == api.ValNull {
			continue
		}
		switch i {
		case 1:
			m.Priority = uint8(v.Num)
		case 2:
			m.Ttl = uint32(v.Num)
		case 4:
			m.Count = uint32(v.Num)
		}
	}
	return m.Priority <= 9
}

func propertiesAgain(m *api.Msg, l []api.Value) bool {
	if !propertiesRow().are(l) {
		return false
	}
	if len(l) > 0 && l[0].Kind == api.ValString {
		m.Id = l[0].Text
	}
	return len(m.Id) <= 64
}

// mayBe tells the document's words of messages once more.
func mayBe(m api.Msg) bool {
	return m.Priority <= 9 && utf8.ValidString(m.Id) && len(m.Id) <= 64 && len(m.Body) <= 2048
}

// lay4: a number behind bytes, its highest byte first.
func lay4(b []byte, n uint32) []byte {
	return append(b, byte(n>>24), byte(n>>16), byte(n>>8), byte(n))
}

// putAgain: Put of a message that may be, byte by byte.
func putAgain(m api.Msg) []byte {
	var b []byte
	number := func(n uint32) []byte {
		switch {
		case n == 0:
			return []byte{0x40}
		case n < 256:
			return []byte{0x52, byte(n)}
		}
		return lay4([]byte{0x70}, n)
	}
	l := [][]byte{{0x40}, {0x50, m.Priority}, number(m.Ttl), {0x40}, number(m.Count)}
	if m.Priority == 4 {
		l[1] = []byte{0x40}
	}
	for len(l) > 0 && len(l[len(l)-1]) == 1 {
		l = l[:len(l)-1]
	}
	if len(l) > 0 {
		all := bytes.Join(l, nil)
		b = append(append(b, 0, 0x53, 0x70, 0xc0, byte(len(all)+1), byte(len(l))), all...)
	}
	if n := byte(len(m.Id)); n > 0 {
		b = append(append(b, 0, 0x53, 0x73, 0xc0, n+3, 1, 0xa1, n), m.Id...)
	}
	if n := len(m.Body); n < 256 {
		b = append(b, 0, 0x53, 0x75, 0xa0, byte(n))
	} else {
		b = lay4(append(b, 0, 0x53, 0x75, 0xb0), uint32(n))
	}
	return append(b, m.Body...)
}

// holds: what is got of bytes is what the document says; what is told may be, and is told again behind Put.
func holds(t *testing.T, b []byte) bool {
	t.Helper()
	m, is := again(b)
	if !is {
		saysNothing(t, b)
		return false
	}
	gets(t, b, m)
	if !mayBe(m) {
		t.Errorf("P10.2: %s, told of %.200x, may not be", brief(m), b)
	}
	puts(t, m, putAgain(m))
	return true
}

// anyMsg: one that mostly may be.
func anyMsg(r *rand.Rand) api.Msg {
	numbers := []uint32{0, 0, 1, 255, 256, 1<<32 - 1}
	ids := []string{"", "", "m", "é\x00z", strings.Repeat("i", 64), strings.Repeat("i", 63) + "é", "\x80"}
	body := make([]byte, []int{0, 1, 2, 255, 256, 2047, 2048, 2049}[r.Intn(8)])
	r.Read(body)
	return api.Msg{Priority: uint8(r.Intn(11)), Ttl: numbers[r.Intn(6)], Count: numbers[r.Intn(6)], Id: ids[r.Intn(len(ids))], Body: body}
}

// TestAnyMsg: any message is put as the document says, and is told as it was.
func TestAnyMsg(t *testing.T) {
	r := rand.New(rand.NewSource(10))
	might := 0
	for range 6000 {
		m := anyMsg(r)
		if !mayBe(m) {
			mayNot(t, m)
			continue
		}
		might++
		puts(t, m, putAgain(m))
	}
	if might < 2000 {
		t.Errorf("only %d may be", might)
	}
}

// anySections: sections that mostly are in their order and as they may be.
func anySections(r *rand.Rand) []api.Value {
	some := ofEach()
	any := func() api.Value { return some[r.Intn(len(some))] }
	fields := func(row row) api.Value {
		l := make([]api.Value, r.Intn(len(row)+1))
		for i := range l {
			right := slices.DeleteFunc(slices.Clone(some), func(v api.Value) bool { return !slices.Contains(row[i], v.Kind) })
			l[i] = right[r.Intn(len(right))]
			if r.Intn(3) == 0 {
				l[i] = null()
			}
			if r.Intn(80) == 0 {
				l[i] = any()
			}
		}
		if r.Intn(40) == 0 {
			l = append(l, any())
		}
		return list(l...)
	}
	var l []api.Value
	for _, k := range kinds() {
		n := r.Intn(2)
		if k.code == 0x75 {
			n = r.Intn(8)
		}
		for range n {
			is := k.is
			switch {
			case k.code == 0x70:
				is = fields(headerRow())
			case k.code == 0x73:
				is = fields(propertiesRow())
			case k.code == 0x75:
				is = binary(strings.Repeat("data", r.Intn(160)))
			case r.Intn(2) == 0:
				is = dict(symbol("k"), any(), str("l"), any())
			}
			if r.Intn(100) == 0 {
				is = any()
			}
			v := called(k.code, is)
			if r.Intn(2) == 0 {
				v = named(k.name, is)
			}
			if r.Intn(100) == 0 {
				v.Kids[0] = []api.Value{ulong(0x76), ulong(0x77), symbol("amqp:amqp-value:*"), symbol("amqp:data"), ulong(0x53)}[r.Intn(5)]
			}
			l = append(l, v)
		}
	}
	if len(l) > 1 && r.Intn(10) == 0 {
		i, j := r.Intn(len(l)), r.Intn(len(l))
		l[i], l[j] = l[j], l[i]
	}
	if len(l) > 0 && r.Intn(12) == 0 {
		l = slices.Insert(l, r.Intn(len(l)), l[r.Intn(len(l))])
	}
	return l
}

// TestAnySections: any sections, and any bytes that are nearly such.
func TestAnySections(t *testing.T) {
	r := rand.New(rand.NewSource(11))
	told, none := 0, 0
	try := func(b []byte) {
		if holds(t, b) {
			told++
		} else {
			none++
		}
	}
	for range 6000 {
		b := bytesOf(t, anySections(r)...)
		try(b)
		if len(b) == 0 {
			continue
		}
		for range 1 + r.Intn(3) {
			switch at := r.Intn(min(len(b), 1+r.Intn(len(b)))); r.Intn(4) {
			case 0:
				b[at] = byte(r.Intn(256))
			case 1:
				b[at] ^= 1 << r.Intn(8)
			case 2:
				b = slices.Delete(b, at, at+1)
			case 3:
				b = slices.Insert(b, at, byte(r.Intn(256)))
			}
			if len(b) == 0 {
				break
			}
		}
		try(b)
	}
	if told < 2000 || none < 2000 {
		t.Errorf("of any sections %d are messages, %d are none", told, none)
	}
}

// TestCut: bytes that are cut anywhere are none, but for those that end with a section; and what stands behind a message and is no section makes it none.
func TestCut(t *testing.T) {
	long := strings.Repeat("b", 300)
	l := []api.Value{
		header(yes(), ubyte(9), uint32s(1), no(), uint32s(300)), called(0x71, dict(symbol("a"), uint32s(1))), named("amqp:message-annotations:map", dict()),
		properties(str("id"), binary("u")), called(0x74, dict(str("k"), list(null()))), data("x"), named("amqp:data:binary", binary(long)), data(""), called(0x78, dict(symbol("f"), null())),
	}
	whole := bytesOf(t, l...)
	ends := map[int]string{}
	body := ""
	for i, v := range l {
		if v.Kids[1].Kind == api.ValBinary {
			body += v.Kids[1].Text
		}
		if i >= 5 {
			ends[len(bytesOf(t, l[:i+1]...))] = body
		}
	}
	for n := range len(whole) + 1 {
		if body, is := ends[n]; is {
			gets(t, whole[:n], api.Msg{Priority: 9, Ttl: 1, Count: 300, Id: "id", Body: []byte(body)})
			continue
		}
		saysNothing(t, whole[:n])
	}
	if len(ends) != 4 {
		t.Errorf("%d ends", len(ends))
	}
	for _, b := range [][]byte{whole, putAgain(api.Msg{Priority: 4}), putAgain(api.Msg{Priority: 1, Id: "m", Body: []byte(long)})} {
		for _, behind := range []string{"\x00", "\x40", "\x45", "\x3f", "\x00\x53", "\x00\x53\x75", "\x00\x53\x75\xa0", "\x00\x53\x75\xa0\x01", "\x00\x53\x75\x40", "\xa0\x00", "\x00\x53\x76\x45", "\x00\x53\x79\xc1\x01\x00", strings.Repeat("x", 70000)} {
			saysNothing(t, append(b[:len(b):len(b)], behind...))
			saysNothing(t, append([]byte(behind), b...))
		}
		saysNothing(t, append(b[:len(b):len(b)], "\x00\x53\x70\x45"...))
	}
	for o := range 256 {
		saysNothing(t, []byte{byte(o)})
		saysNothing(t, []byte{0, 0x53, 0x75, 0xa0, 0, byte(o)})
		if o != 0xa0 && o != 0xb0 {
			saysNothing(t, []byte{0, 0x53, 0x75, byte(o), 0})
		}
	}
}

// TestOtherWays: sections that are told in more bytes than are needed.
func TestOtherWays(t *testing.T) {
	x := api.Msg{Priority: 4, Body: []byte("x")}
	for _, s := range []string{
		"00 53 75 b0 00 00 00 01 78", "00 80 00 00 00 00 00 00 00 75 a0 01 78", "00 a3 10 61 6d 71 70 3a 64 61 74 61 3a 62 69 6e 61 72 79 a0 01 78", "00 b3 00 00 00 10 61 6d 71 70 3a 64 61 74 61 3a 62 69 6e 61 72 79 b0 00 00 00 01 78",
		"00 53 70 c0 01 00 00 53 75 a0 01 78", "00 53 70 d0 00 00 00 04 00 00 00 00 00 53 75 a0 01 78", "00 53 70 c0 06 05 40 40 40 40 40 00 53 75 a0 01 78", "00 53 70 c0 07 04 56 00 40 40 56 01 00 53 75 a0 01 78",
		"00 53 70 c0 0b 04 40 50 04 70 00 00 00 00 56 01 00 53 75 a0 01 78", "00 53 78 d1 00 00 00 04 00 00 00 00", "00 53 75 a0 01 78 00 53 78 d1 00 00 00 04 00 00 00 00",
		"00 53 73 d0 00 00 00 09 00 00 00 01 b1 00 00 00 00 00 53 75 a0 01 78", "00 53 71 d1 00 00 00 08 00 00 00 02 a3 01 61 40 00 53 75 a0 01 78",
	} {
		b := unhex(t, s)
		want, is := again(b)
		if is != (s[:8] != "00 53 78") || is && !same(want, x) {
			// A size that is wrong by one would be a fault of this test's own.
			t.Errorf("%s is told as %s, %v", s, brief(want), is)
		}
		holds(t, b)
	}
	saysNothing(t, unhex(t, "00 53 75 a1 01 78"))
	saysNothing(t, unhex(t, "00 70 00 00 00 75 a0 01 78"))
	saysNothing(t, unhex(t, "00 43 a0 01 78"))
	saysNothing(t, unhex(t, "00 a1 10 61 6d 71 70 3a 64 61 74 61 3a 62 69 6e 61 72 79 a0 01 78"))
}

// TestMayNotBe: sections whose values may not be, and those that just may.
func TestMayNotBe(t *testing.T) {
	deep := func(n int) string { // n lists, each within the one before it
		s := "\x45"
		for range n - 1 {
			s = string([]byte{0xc0, byte(len(s) + 1), 1}) + s
		}
		return s
	}
	annotations := func(kids string, count int) []byte {
		b := lay4([]byte{0, 0x53, 0x72, 0xd1}, uint32(len(kids)+4))
		b = lay4(b, uint32(count))
		return append(append(b, kids...), "\x00\x53\x75\xa0\x01x"...)
	}
	x := api.Msg{Priority: 4, Body: []byte("x")}
	// What is called so, the map, and lists in it.
	gets(t, annotations("\x40"+deep(api.MaxDepth-2), 2), x)
	saysNothing(t, annotations("\x40"+deep(api.MaxDepth-1), 2))
	saysNothing(t, annotations("\x40"+deep(60), 2))
	// What it is called, the map, and the keys with what they have: of the items 1024 - 3 are left, so 510 keys.
	keys := func(n int) string {
		s := ""
		for i := range n {
			s += string([]byte{0x70, 0, 0, byte(i >> 8), byte(i), 0x40})
		}
		return s
	}
	gets(t, annotations(keys(510), 1020), x)
	saysNothing(t, annotations(keys(511), 1022))
	saysNothing(t, annotations(keys(5000), 10000))
	gets(t, annotations("\x43\x40\x44\x40", 4), x)
	for _, kids := range []string{"\x43\x40\x43\x41", "\x41\x40\x56\x01\x40", "\xa3\x01\x80\x40", "\x43\xa1\x01\x80", "\x43\x73\x00\x00\xd8\x00", "\x43\x56\x02", "\x43\x3f"} {
		saysNothing(t, annotations(kids, 2*len(keys(1))/3))
		saysNothing(t, annotations(kids, 2))
	}
	saysNothing(t, annotations("\x43", 1))
	saysNothing(t, annotations("\x43\x40", 1))
	saysNothing(t, annotations("\x43\x40", 3))
	// A name that is no text, or has bytes that a symbol has not.
	saysNothing(t, unhex(t, "00 53 73 c0 04 01 a1 01 80 00 53 75 a0 00"))
	saysNothing(t, unhex(t, "00 53 73 c0 06 03 40 40 a1 01 80 00 53 75 a0 00"))
	saysNothing(t, unhex(t, "00 53 73 c0 0a 07 40 40 40 40 40 40 a3 01 80 00 53 75 a0 00"))
	saysNothing(t, unhex(t, "00 53 70 c0 03 01 56 02 00 53 75 a0 00"))
	// Far more than there is.
	for _, s := range []string{"00 53 75 b0 ff ff ff ff", "00 53 75 b0 7f ff ff ff 78", "00 53 71 d1 ff ff ff ff ff ff ff ff", "00 53 71 f0 00 00 00 05 ff ff ff ff 40 00 53 75 a0 00", strings.Repeat("00", 5000), strings.Repeat("00 53 75 ", 5000)} {
		saysNothing(t, unhex(t, s))
	}
}

// scribble writes over all the memory that bytes have, the room behind their end too.
func scribble(b []byte) {
	for i := range b[:cap(b)] {
		b[:cap(b)][i] = 0xee
	}
}

// TestHandedIn: what was handed in stays as it was, and is not kept; what is answered is new memory.
func TestHandedIn(t *testing.T) {
	for _, n := range []int{1, 7, 300, api.MaxBody} {
		text := bytes.Repeat([]byte("b"), n)
		body := append(make([]byte, 0, n+64), text...)
		m := api.Msg{Priority: 9, Ttl: 1, Id: "id", Body: body}
		want := api.Msg{Priority: 9, Ttl: 1, Id: "id", Body: text}
		b, _ := message.Put(m)
		other, _ := message.Put(m)
		whole := putAgain(want)
		scribble(b)
		if !same(m, want) || slices.Max(body[n:cap(body)]) != 0 || !bytes.Equal(other, whole) {
			t.Errorf("R3: Put hands out what it was handed, or what it has made: %s", brief(m))
		}
		scribble(body)
		if !bytes.Equal(other, whole) {
			t.Errorf("R3: Put keeps what it was handed: %.100x", other)
		}
		bytesIn := append(make([]byte, 0, len(whole)+64), whole...)
		got, _ := message.Get(bytesIn)
		second, _ := message.Get(bytesIn)
		scribble(got.Body)
		if !bytes.Equal(bytesIn, whole) || slices.Max(bytesIn[len(whole):cap(bytesIn)]) != 0 || !same(second, want) {
			t.Errorf("R3: Get hands out what it was handed, or what it has made: %s", brief(second))
		}
		scribble(bytesIn)
		if !same(second, want) {
			t.Errorf("R3: Get keeps what it was handed: %s", brief(second))
		}
	}
	// What Get refuses stays as it was, too.
	wrong := append(putAgain(api.Msg{Priority: 1, Id: "m", Body: []byte("b")}), 0x40)
	before := bytes.Clone(wrong)
	saysNothing(t, wrong)
	if !bytes.Equal(wrong, before) {
		t.Error("R3: Get changes what it refuses")
	}
}

// TestFirst: what a call answers hangs on nothing that was asked ahead of it.
func TestFirst(t *testing.T) {
	b := putAgain(api.Msg{Priority: 9, Ttl: 3, Count: 2, Id: "m", Body: []byte("b")})
	for range 3 {
		gets(t, b, api.Msg{Priority: 9, Ttl: 3, Count: 2, Id: "m", Body: []byte("b")})
		gets(t, putAgain(api.Msg{Priority: 4}), api.Msg{Priority: 4})
		saysNothing(t, b[:len(b)-1])
		saysNothing(t, nil)
		saysNothing(t, []byte{})
	}
}
