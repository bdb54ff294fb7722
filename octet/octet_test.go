package octet_test

import (
	"bytes"
	"cmp"
	"math"
	"slices"
	"testing"

	"bellwether/api"
	"bellwether/octet"
)

// someNumbers: those at the edges of each width, and a few between.
func someNumbers() []uint64 {
	l := []uint64{0, 1, 2, 127, 128, 129, 258, 383, 0x0102030405060708, math.MaxUint64}
	for bits := 7; bits < 64; bits++ {
		x := uint64(1) << bits
		l = append(l, x-1, x, x+1, ^x)
	}
	return l
}

// wrongWidths: those that no number has.
func wrongWidths() []int {
	return []int{-1, -8, 9, 10, 64, 256, 257, math.MinInt, math.MaxInt, math.MinInt + 1, math.MaxInt - 7}
}

// wrongPieceWidths: those that no piece's length has.
func wrongPieceWidths() []int {
	return append(wrongWidths(), 0, 2, 3, 5, 6, 7, 8)
}

func TestLay(t *testing.T) {
	for _, c := range []struct {
		b    string
		x    uint64
		wide int
		want string
	}{
		{"\xff", 258, 2, "\xff\x01\x02"},
		{"\xff", 258, 1, "\xff\x02"},
		{"\xff", 258, 9, "\xff"},
		{"\xff", 258, 0, "\xff"},
		{"", 258, 0, ""},
		{"", 258, 3, "\x00\x01\x02"},
		{"ab", 0, 4, "ab\x00\x00\x00\x00"},
		{"", 0x0102030405060708, 8, "\x01\x02\x03\x04\x05\x06\x07\x08"},
		{"", 0x0102030405060708, 7, "\x02\x03\x04\x05\x06\x07\x08"},
		{"", 0x0102030405060708, 5, "\x04\x05\x06\x07\x08"},
		{"", math.MaxUint64, 8, "\xff\xff\xff\xff\xff\xff\xff\xff"},
	} {
		if b := octet.Lay([]byte(c.b), c.x, c.wide); string(b) != c.want {
			t.Errorf("P1.1: Lay(%x, %d, %d): %x, not %x", c.b, c.x, c.wide, b, c.want)
		}
	}
	for _, wide := range wrongWidths() {
		if b := octet.Lay([]byte("ab"), math.MaxUint64, wide); string(b) != "ab" {
			t.Errorf("P1.1: Lay of the width %d: %x", wide, b)
		}
		if b := octet.Lay(nil, math.MaxUint64, wide); len(b) != 0 {
			t.Errorf("P1.1: Lay behind nothing of the width %d: %x", wide, b)
		}
	}
}

func TestTell(t *testing.T) {
	for _, c := range []struct {
		b    string
		want uint64
		is   bool
	}{
		{"", 0, true},
		{"\x00", 0, true},
		{"\xff", 255, true},
		{"\x01\x02", 258, true},
		{"\x01\x00\x00", 1 << 16, true},
		{"\x80\x00\x00\x00", 1 << 31, true},
		{"\x00\x00\x00\x00\x00\x00\x00\x05", 5, true},
		{"\x01\x02\x03\x04\x05\x06\x07\x08", 0x0102030405060708, true},
		{"\xff\xff\xff\xff\xff\xff\xff\xff", math.MaxUint64, true},
		{"\x00\x00\x00\x00\x00\x00\x00\x00\x00", 0, false},
		{"\x00\x00\x00\x00\x00\x00\x00\x00\x05", 0, false},
		{"\x01\x02\x03\x04\x05\x06\x07\x08\x09\x0a", 0, false},
	} {
		if x, is := octet.Tell([]byte(c.b)); x != c.want || is != c.is {
			t.Errorf("P1.1: Tell(%x): %d, %v, not %d, %v", c.b, x, is, c.want, c.is)
		}
	}
	if x, is := octet.Tell(nil); x != 0 || !is {
		t.Errorf("P1.1: Tell of nil: %d, %v", x, is)
	}
	if x, is := octet.Tell(bytes.Repeat([]byte{255}, 1000)); x != 0 || is {
		t.Errorf("P1.1: Tell of a thousand: %d, %v", x, is)
	}
}

func TestLaidNumberIsTold(t *testing.T) {
	for wide := 0; wide <= 8; wide++ {
		for _, x := range someNumbers() {
			want := x
			if wide < 8 {
				want = x % (1 << (8 * wide))
			}
			b := octet.Lay(nil, x, wide)
			if len(b) != wide {
				t.Fatalf("P1.1: Lay(%d, %d): %x", x, wide, b)
			}
			if y, is := octet.Tell(b); y != want || !is {
				t.Errorf("P1.1: %d of the width %d is told as %d, %v", x, wide, y, is)
			}
		}
	}
}

func TestNumbersAreOrderedAsTheirBytes(t *testing.T) {
	for wide := 1; wide <= 8; wide++ {
		var l []uint64
		for _, x := range someNumbers() {
			if y, _ := octet.Tell(octet.Lay(nil, x, wide)); y == x {
				l = append(l, x)
			}
		}
		for _, x := range l {
			for _, y := range l {
				if bytes.Compare(octet.Lay(nil, x, wide), octet.Lay(nil, y, wide)) != cmp.Compare(x, y) {
					t.Errorf("P1.1: %d and %d of the width %d are not ordered as their bytes", x, y, wide)
				}
			}
		}
	}
}

func TestSigned(t *testing.T) {
	for _, c := range []struct {
		x    uint64
		wide int
		want int64
	}{
		{0, 1, 0},
		{127, 1, 127},
		{128, 1, -128},
		{255, 1, -1},
		{256, 1, 0},
		{383, 1, 127},
		{384, 1, -128},
		{0x7fff, 2, 0x7fff},
		{0x8000, 2, -0x8000},
		{0xfffe, 2, -2},
		{0xfffe, 4, 0xfffe},
		{0x7fffffff, 4, math.MaxInt32},
		{0x80000000, 4, math.MinInt32},
		{math.MaxUint64, 4, -1},
		{0xffffffff00000001, 4, 1},
		{1<<55 - 1, 7, 1<<55 - 1},
		{1 << 55, 7, -1 << 55},
		{1<<63 | 5, 7, 5},
	} {
		if s := int64(octet.Signed(c.x, c.wide)); s != c.want {
			t.Errorf("P1.2: Signed(%#x, %d): %d, not %d", c.x, c.wide, s, c.want)
		}
	}
}

// signedByBits follows the promise's words bit by bit.
func signedByBits(x uint64, wide int) uint64 {
	var y uint64
	for bit := 0; bit < 64; bit++ {
		y |= x >> min(bit, 8*wide-1) & 1 << bit
	}
	return y
}

func TestSignedOfEachWidth(t *testing.T) {
	for wide := 1; wide <= 7; wide++ {
		for _, x := range someNumbers() {
			if s := octet.Signed(x, wide); s != signedByBits(x, wide) {
				t.Errorf("P1.2: Signed(%#x, %d): %#x", x, wide, s)
			}
		}
	}
	for _, wide := range append(wrongWidths(), 0, 8) {
		for _, x := range someNumbers() {
			if s := octet.Signed(x, wide); s != x {
				t.Errorf("P1.2: Signed(%#x, %d): %#x", x, wide, s)
			}
		}
	}
}

func TestLayPiece(t *testing.T) {
	long := bytes.Repeat([]byte{7}, 255)
	longer := bytes.Repeat([]byte{7}, 256)
	for i, c := range []struct {
		b, piece []byte
		wide     int
		want     string
		e        api.Errno
	}{
		{[]byte{7}, []byte("ab"), 1, "\x07\x02ab", api.OK},
		{nil, []byte("a"), 4, "\x00\x00\x00\x01a", api.OK},
		{nil, nil, 1, "\x00", api.OK},
		{nil, nil, 4, "\x00\x00\x00\x00", api.OK},
		{[]byte("x"), []byte{}, 1, "x\x00", api.OK},
		{nil, long, 1, "\xff" + string(long), api.OK},
		{nil, long, 4, "\x00\x00\x00\xff" + string(long), api.OK},
		{nil, longer, 1, "", api.ErrArg},
		{[]byte{1}, longer, 4, "\x01\x00\x00\x01\x00" + string(longer), api.OK},
	} {
		if b, e := octet.LayPiece(c.b, c.piece, c.wide); string(b) != c.want || e != c.e {
			t.Errorf("P1.3: LayPiece %d: %x, %d", i, b, e)
		}
	}
	for _, wide := range wrongPieceWidths() {
		if b, e := octet.LayPiece([]byte("b"), []byte("a"), wide); len(b) != 0 || e != api.ErrArg {
			t.Errorf("P1.3: LayPiece of the width %d: %x, %d", wide, b, e)
		}
	}
}

func TestPiece(t *testing.T) {
	long := string(bytes.Repeat([]byte{7}, 255))
	for i, c := range []struct {
		b           string
		wide        int
		piece, rest string
		e           api.Errno
	}{
		{"\x02abc", 1, "ab", "c", api.OK},
		{"\x02ab", 1, "ab", "", api.OK},
		{"\x02a", 1, "", "", api.ErrShort},
		{"\x00", 1, "", "", api.OK},
		{"\x00abc", 1, "", "abc", api.OK},
		{"", 1, "", "", api.ErrShort},
		{"\xff" + long + "x", 1, long, "x", api.OK},
		{"\x00\x00\x00\x01ab", 4, "a", "b", api.OK},
		{"\x00\x00\x00\x00", 4, "", "", api.OK},
		{"\x00\x00\x01\x00" + long + "x", 4, long + "x", "", api.OK},
		{"\x00\x00\x01\x00" + long, 4, "", "", api.ErrShort},
		{"\x00\x00\x00", 4, "", "", api.ErrShort},
		{"", 4, "", "", api.ErrShort},
		{"\x7f\xff\xff\xffa", 4, "", "", api.ErrShort},
		{"\x80\x00\x00\x00", 4, "", "", api.ErrShort},
		{"\x80\x00\x00\x01a", 4, "", "", api.ErrShort},
		{"\xff\xff\xff\xff", 4, "", "", api.ErrShort},
		{"\xff\xff\xff\xffabc", 4, "", "", api.ErrShort},
	} {
		if p, r, e := octet.Piece([]byte(c.b), c.wide); string(p) != c.piece || string(r) != c.rest || e != c.e {
			t.Errorf("P1.3: Piece %d: %x, %x, %d", i, p, r, e)
		}
	}
	for _, wide := range wrongPieceWidths() {
		for _, b := range []string{"", "\x00", "\x00\x00\x00\x00\x00\x00\x00\x00\x00"} {
			if p, r, e := octet.Piece([]byte(b), wide); len(p) != 0 || len(r) != 0 || e != api.ErrArg {
				t.Errorf("P1.3: Piece of %x, of the width %d: %x, %x, %d", b, wide, p, r, e)
			}
		}
	}
}

// TestTooLongPiece: neither call touches the 2^31 bytes, so that they cost no memory.
func TestTooLongPiece(t *testing.T) {
	if uint64(math.MaxInt) < 1<<32 {
		t.Skip("no list has that many bytes here")
	}
	many := uint64(1) << 31
	b := make([]byte, many+4)
	b[0] = 0x80
	if p, r, e := octet.Piece(b, 4); len(p) != 0 || len(r) != 0 || e != api.ErrShort {
		t.Errorf("P1.3: Piece of 2^31 bytes: %d, %d, %d", len(p), len(r), e)
	}
	if l, e := octet.LayPiece(nil, b[:many], 4); len(l) != 0 || e != api.ErrArg {
		t.Errorf("P1.3: LayPiece of 2^31 bytes: %d, %d", len(l), e)
	}
}

func TestPiecesOneBehindTheOther(t *testing.T) {
	pieces := [][]byte{[]byte("a"), nil, []byte("bcd"), bytes.Repeat([]byte{1}, 255), {0}, []byte("\x00\x00\x00\x02")}
	for _, wide := range []int{1, 4} {
		for _, behind := range []string{"", "\xff", "\x00\x00\x00\x00\x00"} {
			var b []byte
			for _, p := range pieces {
				var e api.Errno
				if b, e = octet.LayPiece(b, p, wide); e != api.OK {
					t.Fatalf("P1.3: LayPiece: %d", e)
				}
			}
			b = append(b, behind...)
			for i, want := range pieces {
				p, rest, e := octet.Piece(b, wide)
				if !bytes.Equal(p, want) || e != api.OK {
					t.Fatalf("P1.3: piece %d: %x, %d", i, p, e)
				}
				b = rest
			}
			if string(b) != behind {
				t.Errorf("P1.3: behind all pieces stands %x, not %x", b, behind)
			}
		}
	}
}

func TestLessThanAPieceIsNone(t *testing.T) {
	for _, wide := range []int{1, 4} {
		b, _ := octet.LayPiece(nil, []byte("\x00\x01\x00\x00\x00ab"), wide)
		for n := range len(b) {
			if p, r, e := octet.Piece(b[:n], wide); len(p) != 0 || len(r) != 0 || e != api.ErrShort {
				t.Errorf("P1.3: of %d bytes of %d: %x, %x, %d", n, len(b), p, r, e)
			}
		}
	}
}

// spoil writes over all of a list, and over the room behind its end.
func spoil(b []byte) {
	b = b[:cap(b)]
	for i := range b {
		b[i] ^= 0xff
	}
}

// withRoom: bytes at the beginning of memory that has more behind them, and all of that memory.
func withRoom(s string) (b, all []byte) {
	all = append([]byte(s), "behind the end, longer than any number"...)
	return all[:len(s)], all
}

func TestAnswersAreNewMemory(t *testing.T) {
	b, all := withRoom("ab")
	piece, allPiece := withRoom("cd")
	was, wasPiece := slices.Clone(all), slices.Clone(allPiece)
	for wide := -1; wide <= 9; wide++ {
		spoil(octet.Lay(b, 258, wide))
		if l, e := octet.LayPiece(b, piece, wide); e == api.OK {
			spoil(l)
		}
	}
	if !bytes.Equal(all, was) || !bytes.Equal(allPiece, wasPiece) {
		t.Errorf("R3: what was handed to Lay or LayPiece is changed: %q, %q", all, allPiece)
	}
	for _, s := range []string{"\x00\x00\x00\x01ab", "\x00\x00\x00\x00", "\x00\x00\x00\x02ab"} {
		for _, wide := range []int{1, 4} {
			piecesApart(t, s, wide)
		}
	}
}

// piecesApart: a piece and its rest share no memory with what was handed in, nor with each other.
func piecesApart(t *testing.T, s string, wide int) {
	b, all := withRoom(s)
	was := slices.Clone(all)
	p, rest, e := octet.Piece(b, wide)
	if e != api.OK {
		t.Fatalf("P1.3: Piece(%x, %d): %d", s, wide, e)
	}
	wasPiece, wasRest := slices.Clone(p), slices.Clone(rest)
	spoil(p)
	if !bytes.Equal(rest, wasRest) || !bytes.Equal(all, was) {
		t.Errorf("R3: the piece of %x shares memory", s)
	}
	copy(p, wasPiece)
	spoil(rest)
	if !bytes.Equal(p, wasPiece) || !bytes.Equal(all, was) {
		t.Errorf("R3: the rest of %x shares memory", s)
	}
	copy(rest, wasRest)
	spoil(all)
	if !bytes.Equal(p, wasPiece) || !bytes.Equal(rest, wasRest) {
		t.Errorf("R3: what is answered of %x hangs on what was handed in", s)
	}
}

func TestPieceOfItself(t *testing.T) {
	b := []byte("abc")
	if l, e := octet.LayPiece(b, b, 1); string(l) != "abc\x03abc" || e != api.OK {
		t.Errorf("P1.3: a piece behind itself: %x, %d", l, e)
	}
	if l, e := octet.LayPiece(b[:1], b[1:], 1); string(l) != "a\x02bc" || string(b) != "abc" || e != api.OK {
		t.Errorf("P1.3: a piece of the room behind: %x, %x, %d", l, b, e)
	}
}
