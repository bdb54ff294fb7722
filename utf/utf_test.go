package utf_test

import (
	"bytes"
	"math"
	"slices"
	"strconv"
	"strings"
	"testing"
	"unicode/utf8"

	"bellwether/utf"
)

// edges: characters at the edges of each number of bytes and of the gap, and some between.
func edges() []uint32 {
	return []uint32{0, 1, 0x41, 0x7e, 0x7f, 0x80, 0x81, 0xbf, 0xc0, 0xff, 0x100, 0x7fe, 0x7ff, 0x800, 0x801, 0xfff, 0x1000,
		0x20ac, 0xd7fe, 0xd7ff, 0xe000, 0xe001, 0xfeff, 0xfffd, 0xfffe, 0xffff, 0x10000, 0x10001, 0x1f600, 0x3ffff, 0x40000,
		0xfffff, 0x100000, 0x10fffe, 0x10ffff}
}

// wrongChars: numbers that are no characters.
func wrongChars() []uint32 {
	return []uint32{0xd800, 0xd801, 0xdbff, 0xdc00, 0xdffe, 0xdfff, 0x110000, 0x110001, 0x1fffff, 0x200000, 0x3ffffff, 0x4000000,
		0x7fffffff, 0x80000000, 0x80000041, math.MaxUint32}
}

// wrongBytes: what is no text, and that holds behind and ahead of other texts too.
func wrongBytes() []string {
	return []string{
		"\xc0\x80", "\xc1\xbf", "\xe0\x80\x80", "\xe0\x9f\xbf", "\xf0\x80\x80\x80", "\xf0\x8f\xbf\xbf", "\xe0\x81\x81", "\xf0\x80\x81\x81", // more bytes than needed
		"\xed\xa0\x80", "\xed\xbf\xbf", "\xed\xa0\x80\xed\xb0\x80", // of the gap
		"\xf4\x90\x80\x80", "\xf5\x80\x80\x80", "\xf7\xbf\xbf\xbf", // above all
		"\xf8\x88\x80\x80\x80", "\xfc\x84\x80\x80\x80\x80", "\xfe", "\xff", "\xff\xbf\xbf\xbf", "\xfe\x80", // no first byte
		"\x80", "\xbf", "\x80\x80", "\xc3\xa9\xa9", "\xe2\x82\xac\x80", "\xf4\x8f\xbf\xbf\xbf", // a further byte without a first one
		"\xc2", "\xdf", "\xe2", "\xe2\x82", "\xf0", "\xf0\x9f", "\xf0\x9f\x98", "\xf4\x8f\xbf", // cut off
		"\xc2\x41", "\xc2\xc2", "\xc2\x7f", "\xc2\xc0", "\xc2\x00", "\xe2\x82\x41", "\xe2\x41\x80", "\xe2\xc2\x80", "\xe2\x82\xc0",
		"\xf0\x9f\x98\x41", "\xf0\x9f\x41\x80", "\xf0\x41\x98\x80", "\xf0\x9f\x98\xff", // no further byte where one must be
	}
}

// textByBits lays a character as the document's table says, bit by bit.
func textByBits(t *testing.T, c uint32) string {
	form := "0xxxxxxx"
	switch {
	case c > 0xffff:
		form = "11110xxx 10xxxxxx 10xxxxxx 10xxxxxx"
	case c > 0x7ff:
		form = "1110xxxx 10xxxxxx 10xxxxxx"
	case c > 0x7f:
		form = "110xxxxx 10xxxxxx"
	}
	l := []byte(form)
	for i := len(l) - 1; i >= 0; i-- {
		if l[i] == 'x' {
			l[i] = '0' + byte(c&1)
			c >>= 1
		}
	}
	if c != 0 {
		t.Fatalf("no room for a character in %s", form)
	}
	var b []byte
	for _, s := range strings.Fields(string(l)) {
		o, err := strconv.ParseUint(s, 2, 8)
		if err != nil {
			t.Fatal(err)
		}
		b = append(b, byte(o))
	}
	return string(b)
}

// isText: b is the text of l, told by each call that can tell it.
func isText(t *testing.T, b string, l []uint32) {
	t.Helper()
	if got, is := utf.Text(l); string(got) != b || !is {
		t.Errorf("P2.2: Text(%x): %x, %v, not %x", l, got, is, b)
	}
	if got, is := utf.Chars([]byte(b)); !slices.Equal(got, l) || !is {
		t.Errorf("P2.3: Chars(%x): %x, %v, not %x", b, got, is, l)
	}
	if !utf.Right([]byte(b)) {
		t.Errorf("P2.3: Right(%x): no", b)
	}
}

// isNoText: no call takes b for one.
func isNoText(t *testing.T, b string) {
	t.Helper()
	if l, is := utf.Chars([]byte(b)); len(l) != 0 || is {
		t.Errorf("P2.3: Chars(%x): %x, %v", b, l, is)
	}
	if utf.Right([]byte(b)) {
		t.Errorf("P2.3: Right(%x): yes", b)
	}
}

func TestChar(t *testing.T) {
	for n := range uint64(0x120000) {
		if want := n < 0xd800 || 0xe000 <= n && n < 0x110000; utf.Char(n) != want {
			t.Errorf("P2.1: Char(%x): %v", n, !want)
		}
	}
	for _, n := range wrongChars() {
		if utf.Char(uint64(n)) {
			t.Errorf("P2.1: Char(%x): yes", n)
		}
	}
	// What is above 32 bits is not cut down to them.
	for _, n := range []uint64{1 << 32, 1<<32 | 0x41, 1 << 63, 1<<63 | 0x10ffff, math.MaxUint64} {
		if utf.Char(n) {
			t.Errorf("P2.1: Char(%x): yes", n)
		}
	}
}

func TestTextAndChars(t *testing.T) {
	for _, c := range []struct {
		b string
		l []uint32
	}{
		{"", nil},
		{"\x00", []uint32{0}},
		{"Az\x7f", []uint32{0x41, 0x7a, 0x7f}},
		{"\x41\xdf\xbf\xe0\xa0\x80\xf4\x8f\xbf\xbf", []uint32{0x41, 0x7ff, 0x800, 0x10ffff}},
		{"\xc2\x80", []uint32{0x80}},
		{"\xef\xbf\xbf\xf0\x90\x80\x80", []uint32{0xffff, 0x10000}},
		{"\xed\x9f\xbf\xee\x80\x80", []uint32{0xd7ff, 0xe000}},
		{"\xef\xbb\xbfa", []uint32{0xfeff, 0x61}},
		{"\xe2\x82\xac\xf0\x9f\x98\x80\xc3\xa9", []uint32{0x20ac, 0x1f600, 0xe9}},
	} {
		isText(t, c.b, c.l)
	}
	if b, is := utf.Text([]uint32{}); len(b) != 0 || !is {
		t.Errorf("P2.2: Text of an empty list: %x, %v", b, is)
	}
	if l, is := utf.Chars(nil); len(l) != 0 || !is || !utf.Right(nil) {
		t.Errorf("P2.3: Chars of nil: %x, %v", l, is)
	}
}

func TestEachEdgeByItsBits(t *testing.T) {
	all, chars := "", edges()
	for _, c := range chars {
		b := textByBits(t, c)
		isText(t, b, []uint32{c})
		all += b
	}
	isText(t, all, chars)
}

func TestTextOfWhatIsNoCharacter(t *testing.T) {
	for _, c := range wrongChars() {
		for _, l := range [][]uint32{{c}, {c, 0x41}, {0x41, c}, {0x41, 0x10ffff, c, 0x800}} {
			if b, is := utf.Text(l); len(b) != 0 || is {
				t.Errorf("P2.2: Text(%x): %x, %v", l, b, is)
			}
		}
	}
}

func TestBytesThatAreNoText(t *testing.T) {
	for _, b := range wrongBytes() {
		isNoText(t, b)
		for _, c := range edges() {
			isNoText(t, textByBits(t, c)+b)
			isNoText(t, b+textByBits(t, c))
		}
	}
}

// TestEachCharacter: all of them, alone and one behind the other.
func TestEachCharacter(t *testing.T) {
	var all []uint32
	var text []byte
	for n := range uint32(0x110000) {
		l := []uint32{n}
		b, is := utf.Text(l)
		if !utf8.ValidRune(rune(n)) {
			if len(b) != 0 || is {
				t.Fatalf("P2.2: Text(%x): %x, %v", n, b, is)
			}
			continue
		}
		if string(b) != string(rune(n)) || !is {
			t.Fatalf("P2.2: Text(%x): %x, %v", n, b, is)
		}
		if back, is := utf.Chars(b); !slices.Equal(back, l) || !is {
			t.Fatalf("P2.3: Chars(%x): %x, %v", b, back, is)
		}
		all, text = append(all, n), append(text, b...)
	}
	if b, is := utf.Text(all); !bytes.Equal(b, text) || !is {
		t.Errorf("P2.2: Text of all characters: %d bytes, %v", len(b), is)
	}
	if l, is := utf.Chars(text); !slices.Equal(l, all) || !is || !utf.Right(text) {
		t.Errorf("P2.3: Chars of all characters' text: %d, %v", len(l), is)
	}
}

// sameAsLibrary: b is held to be a text just where the library holds it to be one, with the same characters.
func sameAsLibrary(t *testing.T, b []byte) {
	want := utf8.Valid(b)
	if utf.Right(b) != want {
		t.Fatalf("P2.3: Right(%x): %v", b, !want)
	}
	l, is := utf.Chars(b)
	if is != want || !want && len(l) != 0 {
		t.Fatalf("P2.3: Chars(%x): %x, %v", b, l, is)
	}
	if !want {
		return
	}
	if len(l) != utf8.RuneCount(b) {
		t.Fatalf("P2.3: Chars(%x): %x", b, l)
	}
	for i, r := range []rune(string(b)) {
		if l[i] != uint32(r) {
			t.Fatalf("P2.3: Chars(%x): %x", b, l)
		}
	}
}

// TestAllShortBytes: each byte behind each, and at the edges of what a byte may be also three and four of them.
func TestAllShortBytes(t *testing.T) {
	for x := range 256 {
		sameAsLibrary(t, []byte{byte(x)})
		for y := range 256 {
			sameAsLibrary(t, []byte{byte(x), byte(y)})
		}
	}
	last := []byte{0, 0x41, 0x7f, 0x80, 0x81, 0x9f, 0xa0, 0xbe, 0xbf, 0xc0, 0xc2, 0xe2, 0xf0, 0xff}
	for x := 0x70; x < 256; x++ {
		for y := range 256 {
			for _, z := range last {
				sameAsLibrary(t, []byte{byte(x), byte(y), z})
				for _, w := range last {
					sameAsLibrary(t, []byte{byte(x), byte(y), z, w})
				}
			}
		}
	}
}

// TestCuts: a text that is cut between two characters is two, and is none where it is cut within one.
func TestCuts(t *testing.T) {
	chars := edges()
	b, is := utf.Text(chars)
	if !is {
		t.Fatal("P2.2: Text of the edges: no")
	}
	seen := 0
	for at := 0; at <= len(b); at++ {
		ahead, is := utf.Chars(b[:at])
		behind, is2 := utf.Chars(b[at:])
		if is != is2 {
			t.Fatalf("P2.3: at %d one part alone is a text", at)
		}
		between := at == len(b) || utf8.RuneStart(b[at])
		if is != between {
			t.Fatalf("P2.3: at %d: %v", at, is)
		}
		if is {
			seen++
			if !slices.Equal(append(ahead, behind...), chars) {
				t.Fatalf("P2.3: at %d: %x, %x", at, ahead, behind)
			}
		}
	}
	if seen != len(chars)+1 {
		t.Errorf("P2.3: %d cuts between %d characters", seen, len(chars))
	}
}

func TestAscii(t *testing.T) {
	if !utf.Ascii(nil) || !utf.Ascii([]byte{}) {
		t.Error("P2.4: Ascii of nothing: no")
	}
	var low []byte
	for x := range 256 {
		want := x < 128
		for _, b := range []string{string([]byte{byte(x)}), "ab" + string([]byte{byte(x)}), string([]byte{byte(x)}) + "ab", "a" + string([]byte{byte(x)}) + "b"} {
			if utf.Ascii([]byte(b)) != want {
				t.Errorf("P2.4: Ascii(%x): %v", b, !want)
			}
		}
		if want {
			low = append(low, byte(x))
		}
	}
	for _, b := range []string{"\xc3\xa9", "a\xe2\x82\xac", "\xff\xff"} {
		if utf.Ascii([]byte(b)) {
			t.Errorf("P2.4: Ascii(%x): yes", b)
		}
	}
	// Bytes that are all below 128 are a text, of as many characters.
	l, is := utf.Chars(low)
	if len(l) != 128 || !is || !utf.Ascii(low) || !utf.Right(low) {
		t.Errorf("P2.4: all bytes below 128: %x, %v", l, is)
	}
}

// TestNothingHandedInIsChangedOrKept: the room behind a list's end neither.
func TestNothingHandedInIsChangedOrKept(t *testing.T) {
	all := []uint32{0x41, 0x7ff, 0x10ffff, 0xd800, 0x42}
	wasAll := slices.Clone(all)
	b, is := utf.Text(all[:3])
	was := slices.Clone(b)
	if !is || !slices.Equal(all, wasAll) {
		t.Fatalf("R3: Text changes what it is handed: %x, %v", all, is)
	}
	for i := range all {
		all[i] = 0x7a
	}
	if !bytes.Equal(b, was) {
		t.Errorf("R3: what Text answers hangs on what was handed in: %x", b)
	}
	room := append(slices.Clone(b), "\xff\xff\xff"...)
	wasRoom := slices.Clone(room)
	l, is := utf.Chars(room[:len(b)])
	right, low := utf.Right(room[:len(b)]), utf.Ascii(room[:1])
	if !is || !right || !low || !bytes.Equal(room, wasRoom) {
		t.Fatalf("R3: %x, %v, %v, %v", room, is, right, low)
	}
	for i := range l[:cap(l)] {
		l[:cap(l)][i] = 1
	}
	clear(room)
	l2, is := utf.Chars(b)
	if !is || !slices.Equal(l2, wasAll[:3]) {
		t.Errorf("R3: Chars again: %x, %v", l2, is)
	}
}

func TestLongText(t *testing.T) {
	const many = 1 << 18
	b := bytes.Repeat([]byte("\xe2\x82\xac\x41"), many)
	l, is := utf.Chars(b)
	if len(l) != 2*many || !is || l[0] != 0x20ac || l[len(l)-1] != 0x41 {
		t.Fatalf("P2.3: Chars of a long text: %d, %v", len(l), is)
	}
	if back, is := utf.Text(l); !bytes.Equal(back, b) || !is {
		t.Errorf("P2.2: Text of many: %d, %v", len(back), is)
	}
	isNoText(t, string(b)+"\xe2\x82")
	if back, is := utf.Text(append(l, 0xdfff)); len(back) != 0 || is {
		t.Errorf("P2.2: Text of many and one that is none: %d, %v", len(back), is)
	}
}
