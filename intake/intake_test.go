package intake_test

import (
	"bytes"
	"encoding/hex"
	"fmt"
	"math"
	"strings"
	"testing"

	"bellwether/api"
	"bellwether/frame"
	"bellwether/intake"
)

// The header, by the document's words.
const headerBytes = "AMQP\x00\x01\x00\x00"

// Bytes that begin no frame.
var noFrames = []string{
	"00 00 00 00", "00 00 00 01", "00 00 00 07", "00 00 00 07 02 00 00 00", // the size is below 8
	"00 00 02 01", "00 00 02 01 02 00 00 00", "00 00 10 01", "00 01 00 00", "80 00 00 08", "ff ff ff ff", "41 4d 51 50 00 01 00 00", // it is above most (512)
	"00 00 00 08 00", "00 00 00 08 01", "00 00 00 08 01 00 00 00", // the place is below 2
	"00 00 00 08 03", "00 00 00 0b 03", "00 00 02 00 81", "00 00 00 08 ff 00 00 00", // it is behind the size
	"00 00 00 08 02 01", "00 00 00 08 02 ff", "00 00 02 00 80 02", "00 00 00 08 02 01 00 00", // the type is not 0
}

// told: what Next answers.
type told struct {
	kind uint8
	f    api.Frame
}

var (
	none   = told{kind: intake.None}
	header = told{kind: intake.Header}
	bad    = told{kind: intake.Bad}
)

// aFrame: what Next answers of a frame.
func aFrame(channel uint16, body []byte) told {
	return told{kind: intake.Frame, f: api.Frame{Channel: channel, Body: body}}
}

// same: are two answers the same? Nil and empty bodies are.
func (a told) same(b told) bool {
	return a.kind == b.kind && a.f.Channel == b.f.Channel && bytes.Equal(a.f.Body, b.f.Body)
}

// String tells an answer at moderate length.
func (a told) String() string {
	return fmt.Sprintf("kind %d (channel %d, %d bytes: %.20x)", a.kind, a.f.Channel, len(a.f.Body), a.f.Body)
}

// unhex: the bytes that a text tells, spaces aside.
func unhex(t *testing.T, s string) []byte {
	t.Helper()
	b, e := hex.DecodeString(strings.ReplaceAll(s, " ", ""))
	if e != nil {
		t.Fatal(e)
	}
	return b
}

// many: so many bytes, none like those next to it.
func many(n int) []byte {
	b := make([]byte, n)
	for i := range b {
		b[i] = byte(i*7 + i>>8 + 1)
	}
	return b
}

// written: the bytes of a frame of so many bytes in all.
func written(channel uint16, size int) []byte {
	return frame.Write(api.Frame{Channel: channel, Body: many(size - 8)})
}

// scribble writes over bytes, and the room behind them.
func scribble(b []byte) {
	b = b[:cap(b)]
	for i := range b {
		b[i] ^= 0x5a
	}
}

// fresh: an intake to which nothing came.
func fresh(t *testing.T, most uint32) *intake.Intake {
	t.Helper()
	in, e := intake.New(most)
	if e != api.OK || in == nil {
		t.Fatalf("P12.1: New of %d: %v, %d", most, in, e)
	}
	return in
}

// begun: an intake whose header was told.
func begun(t *testing.T, most uint32) *intake.Intake {
	t.Helper()
	in := fresh(t, most)
	puts(t, in, intake.Start(), 8)
	says(t, in, header)
	return in
}

// puts: an intake takes so many of these bytes.
func puts(t *testing.T, in *intake.Intake, b []byte, want int) {
	t.Helper()
	if n := in.Put(b); n != want {
		t.Fatalf("P12.2: Put of %d bytes (%.20x): %d, not %d", len(b), b, n, want)
	}
}

// has: an intake holds so many bytes, and has room for so many more.
func has(t *testing.T, in *intake.Intake, held, room int) {
	t.Helper()
	if in.Held() != held || in.Room() != room {
		t.Fatalf("P12.2: Held %d, Room %d, not %d, %d", in.Held(), in.Room(), held, room)
	}
}

// says: an intake tells these, one behind the other.
func says(t *testing.T, in *intake.Intake, l ...told) {
	t.Helper()
	for i, want := range l {
		if got := next(in); !got.same(want) {
			t.Fatalf("P12.3: Next, at %d: %v, not %v", i, got, want)
		}
	}
}

// next: what is told next.
func next(in *intake.Intake) told {
	kind, f := in.Next()
	return told{kind, f}
}

// isBad: an intake is bad, and stays so.
func isBad(t *testing.T, in *intake.Intake) {
	t.Helper()
	for _, b := range [][]byte{nil, {0}, intake.Start(), written(1, 9), many(5000), append(intake.Start(), written(1, 9)...)} {
		says(t, in, bad, bad)
		has(t, in, 0, 0)
		puts(t, in, b, 0)
		has(t, in, 0, 0)
	}
	says(t, in, bad, bad, bad)
}

// TestExamples: the chapter's own, answer for answer.
func TestExamples(t *testing.T) {
	in := fresh(t, 512)
	has(t, in, 0, 520)
	puts(t, in, append(intake.Start(), 0, 0, 0, 8), 12)
	says(t, in, header, none)
	puts(t, in, unhex(t, "02 00 00 03"), 4)
	says(t, in, aFrame(3, nil), none)
	puts(t, in, unhex(t, "00 00 00 07"), 4)
	says(t, in, bad, bad)
	has(t, in, 0, 0)
	puts(t, in, many(100), 0)
}

// TestStart: the header's eight bytes, in new memory each time.
func TestStart(t *testing.T) {
	for range 3 {
		b := intake.Start()
		if string(b) != headerBytes || hex.EncodeToString(b) != "414d515000010000" {
			t.Fatalf("P12.1: Start: %x", b)
		}
		scribble(b)
	}
	in := fresh(t, 512)
	scribble(intake.Start())
	puts(t, in, []byte(headerBytes), 8)
	says(t, in, header)
}

// TestNew: of frames of MinFrame to MaxFrame bytes.
func TestNew(t *testing.T) {
	for _, most := range []uint32{api.MinFrame, api.MinFrame + 1, 1000, 1024, api.MaxFrame - 1, api.MaxFrame} {
		in := fresh(t, most)
		has(t, in, 0, int(most)+8)
		says(t, in, none, none)
		has(t, in, 0, int(most)+8)
	}
	for _, most := range []uint32{0, 1, 7, 8, 256, api.MinFrame - 1, api.MaxFrame + 1, 8192, 1 << 16, 1<<16 + 512, 1<<31 - 1, 1 << 31, 1<<31 + 512, math.MaxUint32 - 7, math.MaxUint32} {
		if in, e := intake.New(most); e != api.ErrArg || in != nil {
			t.Errorf("P12.1: New of %d: %v, %d", most, in, e)
		}
	}
}

// TestPut: an intake takes what it has room for, from the first byte on.
func TestPut(t *testing.T) {
	for _, most := range []uint32{api.MinFrame, 777, api.MaxFrame} {
		all := int(most) + 8
		for _, more := range []int{0, 1, 2, 8, 100000} {
			in := fresh(t, most)
			puts(t, in, many(all+more), all)
			has(t, in, all, 0)
			puts(t, in, nil, 0)
			puts(t, in, []byte{1}, 0)
			has(t, in, all, 0)
		}
		in := fresh(t, most)
		for i := range all {
			has(t, in, i, all-i)
			puts(t, in, nil, 0)
			puts(t, in, []byte{}, 0)
			has(t, in, i, all-i)
			puts(t, in, []byte{byte(i)}, 1)
		}
		has(t, in, all, 0)
		puts(t, in, []byte{1}, 0)

		in = fresh(t, most)
		puts(t, in, many(all-3), all-3)
		has(t, in, all-3, 3)
		puts(t, in, many(2), 2)
		has(t, in, all-1, 1)
		puts(t, in, many(2), 1)
		has(t, in, all, 0)
	}
}

// TestPutTakesTheFirst: what has no room is not taken, and comes again.
func TestPutTakesTheFirst(t *testing.T) {
	var all []byte
	for i := range 20 {
		all = append(all, written(uint16(i), 100+i)...)
	}
	in := begun(t, 512)
	puts(t, in, all, 520)
	rest := all[520:]
	for i := range 20 {
		for {
			got := next(in)
			if got.kind == intake.Frame {
				if !got.same(aFrame(uint16(i), many(92+i))) {
					t.Fatalf("P12.3: frame %d: %v", i, got)
				}
				break
			}
			if got.kind != intake.None {
				t.Fatalf("P12.3: frame %d: %v", i, got)
			}
			n := in.Put(rest)
			if n == 0 || n != min(520-in.Held()+n, len(rest)) {
				t.Fatalf("P12.2: Put: %d, and then %d are held", n, in.Held())
			}
			rest = rest[n:]
		}
	}
	says(t, in, none)
	has(t, in, 0, 520)
}

// TestRoomComesBack: what was told is not held any more, and its room is there again, time after time.
func TestRoomComesBack(t *testing.T) {
	in := fresh(t, 512)
	puts(t, in, append(intake.Start(), written(7, 512)...), 520)
	has(t, in, 520, 0)
	says(t, in, header)
	has(t, in, 512, 8)
	puts(t, in, written(8, 9), 8)
	has(t, in, 520, 0)
	says(t, in, aFrame(7, many(504)), none)
	has(t, in, 8, 512)
	puts(t, in, []byte{1}, 1)
	says(t, in, aFrame(8, []byte{1}), none)
	has(t, in, 0, 520)
	for i := range 100 {
		puts(t, in, written(uint16(i), 512), 512)
		has(t, in, 512, 8)
		says(t, in, aFrame(uint16(i), many(504)))
		has(t, in, 0, 520)
	}
}

// TestHeader: it is told as soon as its last byte is there, and not ahead of it.
func TestHeader(t *testing.T) {
	for n := range 9 {
		in := fresh(t, 512)
		for i := range n {
			says(t, in, none, none)
			has(t, in, i, 520-i)
			puts(t, in, []byte{headerBytes[i]}, 1)
		}
		if n == 8 {
			says(t, in, header, none, none)
			has(t, in, 0, 520)
			continue
		}
		says(t, in, none)
		has(t, in, n, 520-n)
		puts(t, in, []byte(headerBytes[n:]), 8-n)
		says(t, in, header, none)
		has(t, in, 0, 520)
	}
}

// TestWrongHeader: what differs from the header is bad as soon as the byte is there, whatever it is and whatever stands behind it.
func TestWrongHeader(t *testing.T) {
	for at := range 8 {
		for o := range 256 {
			if byte(o) == headerBytes[at] {
				continue
			}
			wrong := []byte(headerBytes)
			wrong[at] = byte(o)
			in := fresh(t, 512)
			puts(t, in, wrong[:at], at)
			says(t, in, none)
			puts(t, in, wrong[at:at+1], 1)
			isBad(t, in)

			for n := at + 1; n <= 8; n++ {
				in := fresh(t, 512)
				puts(t, in, wrong[:n], n)
				isBad(t, in)
			}
			in = fresh(t, 512)
			puts(t, in, append(wrong, written(1, 9)...), 17)
			isBad(t, in)
		}
	}
	for _, s := range []string{"GET / HTTP/1.1\r\n", "amqp\x00\x01\x00\x00", "AMQP\x03\x01\x00\x00", "AMQP\x02\x01\x00\x00", "AMQP\x00\x00\x09\x01", "AMQP\x01\x01\x00\x0a", "\x00AMQP\x00\x01\x00\x00", "AMQP\x01\x00\x00\x00", "\x00\x00\x00\x08\x02\x00\x00\x00"} {
		in := fresh(t, 4096)
		puts(t, in, []byte(s), len(s))
		isBad(t, in)
	}
	in := fresh(t, 512)
	puts(t, in, bytes.Repeat([]byte{'B'}, 600), 520)
	isBad(t, in)
}

// TestFrame: it is told as soon as its last byte is there, and not ahead of it.
func TestFrame(t *testing.T) {
	for _, c := range []struct {
		b    []byte
		want told
	}{
		{written(0, 8), aFrame(0, nil)},
		{written(65535, 9), aFrame(65535, []byte{1})},
		{written(3, 100), aFrame(3, many(92))},
		{written(258, 511), aFrame(258, many(503))},
		{written(258, 512), aFrame(258, many(504))},
		{unhex(t, "00 00 00 0c 03 00 00 05 11 22 33 44"), aFrame(5, nil)},
		{unhex(t, "00 00 00 0e 03 00 01 05 11 22 33 44 55 66"), aFrame(261, []byte{0x55, 0x66})},
	} {
		in := begun(t, 512)
		for i := range c.b {
			says(t, in, none, none)
			has(t, in, i, 520-i)
			puts(t, in, c.b[i:i+1], 1)
		}
		says(t, in, c.want, none, none)
		has(t, in, 0, 520)
		for n := range c.b {
			in := begun(t, 512)
			puts(t, in, c.b[:n], n)
			says(t, in, none)
			puts(t, in, c.b[n:], len(c.b)-n)
			says(t, in, c.want, none)
			has(t, in, 0, 520)
		}
	}
}

// TestFrames: one, two and many that are held are told one by one, in their order.
func TestFrames(t *testing.T) {
	for _, most := range []uint32{512, 1000, 4096} {
		for _, size := range []int{8, 9, 30, 500, 512} {
			for _, n := range []int{1, 2, 3, (int(most) + 8) / size} {
				var b []byte
				for i := range n {
					b = append(b, written(uint16(i+1), size)...)
				}
				if len(b) > int(most)+8 {
					continue
				}
				in := begun(t, most)
				puts(t, in, b, len(b))
				for i := range n {
					has(t, in, len(b)-i*size, int(most)+8-len(b)+i*size)
					says(t, in, aFrame(uint16(i+1), many(size-8)))
				}
				says(t, in, none, none)
				has(t, in, 0, int(most)+8)
			}
		}
	}
}

// TestGreatest: a frame of as many bytes as may be is told, one of a byte more is not.
func TestGreatest(t *testing.T) {
	for _, most := range []uint32{512, 513, 2000, 4095, 4096} {
		in := begun(t, most)
		puts(t, in, written(9, int(most)), int(most))
		says(t, in, aFrame(9, many(int(most)-8)), none)
		over := written(9, int(most)+1)
		puts(t, in, over[:3], 3)
		says(t, in, none)
		puts(t, in, over[3:4], 1)
		isBad(t, in)

		in = begun(t, most)
		puts(t, in, over, int(most)+1)
		isBad(t, in)
	}
}

// TestWrongFrame: what is no frame is bad as soon as the byte is there that says so, and what stands ahead of it is told.
func TestWrongFrame(t *testing.T) {
	for _, s := range noFrames {
		wrong := unhex(t, s)
		for ahead := range 3 {
			in := begun(t, 512)
			for i := range ahead {
				puts(t, in, written(uint16(i), 20), 20)
			}
			puts(t, in, wrong, len(wrong))
			for i := range ahead {
				says(t, in, aFrame(uint16(i), many(12)))
			}
			isBad(t, in)
		}
		in := begun(t, 512)
		puts(t, in, append(bytes.Clone(wrong), written(1, 30)...), len(wrong)+30)
		isBad(t, in)
	}
	for _, c := range []struct {
		b     string
		ahead int // bytes of which nothing is wrong yet
	}{{"00 00 00 07", 3}, {"00 00 02 01", 3}, {"ff ff ff ff", 3}, {"00 00 00 08 01", 4}, {"00 00 00 08 03", 4}, {"00 00 00 08 02 01", 5}} {
		b := unhex(t, c.b)
		in := begun(t, 512)
		for i := range b {
			says(t, in, none)
			has(t, in, i, 520-i)
			puts(t, in, b[i:i+1], 1)
			if i == c.ahead {
				break
			}
		}
		isBad(t, in)
	}
}

// TestHeaderOnce: behind the header another one is no frame, and ahead of it a frame is no header.
func TestHeaderOnce(t *testing.T) {
	in := fresh(t, 4096)
	puts(t, in, []byte(headerBytes+headerBytes), 16)
	says(t, in, header)
	isBad(t, in)
	in = fresh(t, 4096)
	puts(t, in, append(written(1, 20), headerBytes...), 28)
	isBad(t, in)
}

// TestNil: no intake says nothing, holds nothing, takes nothing.
func TestNil(t *testing.T) {
	var in *intake.Intake
	for _, b := range [][]byte{nil, {}, {1}, intake.Start(), many(5000)} {
		if n := in.Put(b); n != 0 {
			t.Errorf("P12.4: Put of %d bytes: %d", len(b), n)
		}
		if in.Held() != 0 || in.Room() != 0 {
			t.Errorf("P12.4: Held %d, Room %d", in.Held(), in.Room())
		}
		if got := next(in); !got.same(none) {
			t.Errorf("P12.4: Next: %v", got)
		}
	}
}

// TestHandedIn: what is handed in stays as it was, the room behind it too, and is held nowhere.
func TestHandedIn(t *testing.T) {
	room := append(append(intake.Start(), written(4, 100)...), many(300)...)
	kept := bytes.Clone(room)
	in := fresh(t, 512)
	puts(t, in, room[:60], 60)
	puts(t, in, room[60:108], 48)
	if !bytes.Equal(room, kept) {
		t.Fatalf("P12.4: what was handed in is %x", room)
	}
	scribble(room)
	changed := bytes.Clone(room)
	says(t, in, header, aFrame(4, many(92)), none)
	if !bytes.Equal(room, changed) {
		t.Fatalf("P12.4: what was handed in is %x", room)
	}
	puts(t, in, kept, 408)
	puts(t, in, many(600), 112)
	puts(t, in, kept, 0)
	if !bytes.Equal(kept[:8], []byte(headerBytes)) || !bytes.Equal(kept[108:], many(300)) {
		t.Fatalf("P12.4: what was handed in is %x", kept)
	}
}

// TestHandedOut: what a caller writes into what is handed out changes nothing that is told later.
func TestHandedOut(t *testing.T) {
	in := begun(t, 512)
	var b []byte
	for i := range 6 {
		b = append(b, written(uint16(i), 80)...)
	}
	puts(t, in, b, 480)
	var l []told
	for i := range 6 {
		got := next(in)
		if !got.same(aFrame(uint16(i), many(72))) {
			t.Fatalf("P12.3: frame %d: %v", i, got)
		}
		if i%2 == 0 {
			scribble(got.f.Body)
			continue
		}
		l = append(l, got)
	}
	puts(t, in, bytes.Repeat([]byte{0xff}, 600), 520)
	says(t, in, bad)
	for i, got := range l {
		if !got.same(aFrame(uint16(2*i+1), many(72))) {
			t.Errorf("P12.4: a frame that was told became %v", got)
		}
		scribble(got.f.Body)
	}
	if !bytes.Equal(b[:80], written(0, 80)) {
		t.Errorf("P12.4: what was handed in is %x", b)
	}
}

// TestTwo: one intake knows nothing of another.
func TestTwo(t *testing.T) {
	a, b, c := fresh(t, 512), fresh(t, 512), fresh(t, 4096)
	puts(t, a, intake.Start(), 8)
	puts(t, b, []byte("x"), 1)
	says(t, b, bad)
	says(t, c, none)
	says(t, a, header)
	puts(t, a, written(1, 20), 20)
	puts(t, c, intake.Start(), 8)
	isBad(t, b)
	says(t, c, header, none)
	says(t, a, aFrame(1, many(12)), none)
	puts(t, c, written(2, 4000), 4000)
	has(t, a, 0, 520)
	has(t, c, 4000, 104)
	says(t, c, aFrame(2, many(3992)), none)
}
