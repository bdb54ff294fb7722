package frame_test

import (
	"bytes"
	"encoding/hex"
	"fmt"
	"math"
	"strings"
	"testing"

	"bellwether/api"
	"bellwether/frame"
)

// unhex: the bytes that a text tells, spaces aside.
func unhex(t *testing.T, s string) []byte {
	t.Helper()
	b, e := hex.DecodeString(strings.ReplaceAll(s, " ", ""))
	if e != nil {
		t.Fatal(e)
	}
	return b
}

// of: a frame.
func of(channel uint16, body []byte) api.Frame { return api.Frame{Channel: channel, Body: body} }

// same: are two frames the same? Nil and empty bodies are.
func same(f, g api.Frame) bool { return f.Channel == g.Channel && bytes.Equal(f.Body, g.Body) }

// brief tells a frame in a message of moderate length.
func brief(f api.Frame) string {
	return fmt.Sprintf("(channel %d, %d bytes: %.40x)", f.Channel, len(f.Body), f.Body)
}

// writes: Write answers so, and what it answers is read as it was.
func writes(t *testing.T, f api.Frame, want []byte) {
	t.Helper()
	if b := frame.Write(f); !bytes.Equal(b, want) {
		t.Errorf("P11.1: Write of %s: %.60x, not %.60x", brief(f), b, want)
	}
	reads(t, want, uint32(len(want)), f, len(want))
}

// reads: Read answers a frame of so many bytes.
func reads(t *testing.T, b []byte, most uint32, want api.Frame, wantN int) {
	t.Helper()
	f, n, e := frame.Read(b, most)
	if e != api.OK || n != wantN || !same(f, want) {
		t.Errorf("P11.2: Read of %.60x (%d bytes), %d: %s, %d, %d, not %s, %d", b, len(b), most, brief(f), n, e, brief(want), wantN)
	}
}

// says: Read answers an error, and nothing beside it.
func says(t *testing.T, b []byte, most uint32, want api.Errno) {
	t.Helper()
	f, n, e := frame.Read(b, most)
	if e != want || n != 0 || f.Channel != 0 || len(f.Body) != 0 {
		t.Errorf("P11.2: Read of %.60x (%d bytes), %d: %s, %d, %d, not %d", b, len(b), most, brief(f), n, e, want)
	}
}

// lay4: a number behind bytes, its highest byte first.
func lay4(b []byte, n uint32) []byte {
	return append(b, byte(n>>24), byte(n>>16), byte(n>>8), byte(n))
}

// headed: bytes that say so of themselves.
func headed(size uint32, place, kind byte, channel uint16, rest []byte) []byte {
	return append(append(lay4(nil, size), place, kind, byte(channel>>8), byte(channel)), rest...)
}

// many: so many bytes, none like those next to it.
func many(n int) []byte {
	b := make([]byte, n)
	for i := range b {
		b[i] = byte(i*7 + i>>8 + 1)
	}
	return b
}

// TestExamples: the chapter's own, byte for byte.
func TestExamples(t *testing.T) {
	one := unhex(t, "00 00 00 09 02 00 00 01 aa")
	writes(t, of(1, []byte{0xaa}), one)
	reads(t, append(one, 0xff), 512, of(1, []byte{0xaa}), 9)
	reads(t, unhex(t, "00 00 00 0c 03 00 00 00 11 22 33 44"), 512, of(0, nil), 12)
	for _, s := range []string{"00 00 00 07", "00 00 02 01", "00 00 00 08 01", "00 00 00 08 03", "00 00 00 08 02 01"} {
		says(t, unhex(t, s), 512, api.ErrForm)
	}
	for _, s := range []string{"00 00 00", "00 00 00 08 02 00 00"} {
		says(t, unhex(t, s), 512, api.ErrShort)
	}
}

// TestWrite: frames of any channels and bodies.
func TestWrite(t *testing.T) {
	for _, channel := range []uint16{0, 1, 2, 127, 128, 255, 256, 257, 0x1234, 32767, 32768, 65534, 65535} {
		for _, n := range []int{0, 1, 2, 8, 247, 248, 249, 504, 505, 65527, 65528, 100000, 1<<24 - 8, 1<<24 + 1} {
			if n > 505 && channel != 0x1234 {
				continue
			}
			f := of(channel, many(n))
			writes(t, f, headed(uint32(n+8), 2, 0, channel, f.Body))
		}
	}
	writes(t, of(3, nil), unhex(t, "00 00 00 08 02 00 00 03"))
	writes(t, of(3, []byte{}), unhex(t, "00 00 00 08 02 00 00 03"))
	writes(t, of(65535, []byte("AMQP")), unhex(t, "00 00 00 0c 02 00 ff ff 41 4d 51 50"))
}

// TestSize: below 8 it is none, whatever may be; nor is it above what may be.
func TestSize(t *testing.T) {
	for size := range uint32(8) {
		for _, most := range []uint32{0, 1, 7, 8, 9, 512, math.MaxUint32} {
			for n := range 9 {
				says(t, append(lay4(nil, size), make([]byte, n)...), most, api.ErrForm)
				says(t, headed(size, 2, 0, 1, make([]byte, n)), most, api.ErrForm)
			}
		}
	}
	for _, most := range []uint32{8, 9, 10, 100, 255, 256, 512, 65535, 65536, 1 << 24} {
		for size := most - 1; size <= most+1; size++ {
			b := headed(size, 2, 0, 7, many(int(size)))
			if size > most || size < 8 {
				says(t, b, most, api.ErrForm)
				says(t, b[:4], most, api.ErrForm)
				continue
			}
			reads(t, b, most, of(7, b[8:size]), int(size))
			says(t, b[:size-1], most, api.ErrShort)
		}
	}
	none := frame.Write(of(0, nil))
	for most := range uint32(8) {
		says(t, none, most, api.ErrForm)
	}
	reads(t, none, 8, of(0, nil), 8)
	reads(t, none, math.MaxUint32, of(0, nil), 8)
}

// TestGreatSize: sizes that no bytes have are as they are told, not less.
func TestGreatSize(t *testing.T) {
	for _, size := range []uint32{1<<31 - 1, 1 << 31, 1<<31 + 8, 1<<32 - 8, 1<<32 - 1} {
		b := headed(size, 2, 0, 0, many(20))
		says(t, b, math.MaxUint32, api.ErrShort)
		says(t, b, size, api.ErrShort)
		says(t, b, size-1, api.ErrForm)
		says(t, b, 1<<31-2, api.ErrForm)
		says(t, b, 512, api.ErrForm)
		says(t, b, 0, api.ErrForm)
		says(t, headed(size, 255, 0, 0, nil), math.MaxUint32, api.ErrShort)
		says(t, headed(size, 1, 0, 0, nil), math.MaxUint32, api.ErrForm)
		says(t, headed(size, 2, 1, 0, nil), math.MaxUint32, api.ErrForm)
	}
}

// TestPlace: a body stands within its frame, or at its end; what stands up to it is nobody's.
func TestPlace(t *testing.T) {
	for size := 8; size < 1100; size++ {
		all := headed(uint32(size), 0, 0, 9, many(size))
		for _, place := range []int{0, 1, 2, 3, size/4 - 1, size / 4, size/4 + 1, 127, 128, 255} {
			if place < 0 || place > 255 {
				continue
			}
			all[4] = byte(place)
			if place < 2 || 4*place > size {
				says(t, all, 2000, api.ErrForm)
				says(t, all[:5], 2000, api.ErrForm)
				continue
			}
			reads(t, all, 2000, of(9, all[4*place:size]), size)
		}
	}
}

// TestUpToBody: what stands up to the body may be anything.
func TestUpToBody(t *testing.T) {
	for _, up := range []string{"", "00000000", "ffffffff", "11223344 55667788", "00000008 02000001"} {
		ahead := unhex(t, up)
		for _, body := range []string{"", "ab", "00000009 020000 01aa"} {
			b := unhex(t, body)
			size := 8 + len(ahead) + len(b)
			reads(t, headed(uint32(size), byte(2+len(ahead)/4), 0, 5, append(ahead[:len(ahead):len(ahead)], b...)), 512, of(5, b), size)
		}
	}
}

// TestType: it is 0.
func TestType(t *testing.T) {
	for kind := range 256 {
		b := headed(9, 2, byte(kind), 1, []byte{7, 8})
		if kind == 0 {
			reads(t, b, 512, of(1, []byte{7}), 9)
			continue
		}
		for n := 6; n <= len(b); n++ {
			says(t, b[:n], 512, api.ErrForm)
		}
		says(t, b[:5], 512, api.ErrShort)
	}
}

// TestCut: a frame that is right is short wherever it is cut, and there with its last byte.
func TestCut(t *testing.T) {
	for _, b := range [][]byte{
		frame.Write(of(0, nil)),
		frame.Write(of(1, []byte{0xaa})),
		frame.Write(of(65535, many(300))),
		headed(12, 3, 0, 0, []byte{0x11, 0x22, 0x33, 0x44}),
		headed(13, 3, 0, 256, []byte{0x11, 0x22, 0x33, 0x44, 0x55}),
	} {
		for n := range b {
			says(t, b[:n], 512, api.ErrShort)
		}
		reads(t, b, 512, of(uint16(b[6])<<8|uint16(b[7]), b[4*int(b[4]):]), len(b))
	}
	says(t, nil, 512, api.ErrShort)
	says(t, []byte{}, 0, api.ErrShort)
	for n := range 4 {
		for _, most := range []uint32{0, 8, math.MaxUint32} {
			says(t, bytes.Repeat([]byte{0xff}, n), most, api.ErrShort)
			says(t, make([]byte, n), most, api.ErrShort)
		}
	}
}

// TestOrder: the first that is so is the answer, where two are.
func TestOrder(t *testing.T) {
	for _, c := range []struct {
		b    string
		most uint32
		want api.Errno
	}{
		{"00 00 00", 0, api.ErrShort},                        // no 4 bytes, and a size that would be below 8
		{"ff ff ff", 512, api.ErrShort},                      // no 4 bytes, and a size that would be above most
		{"00 00 00 07", 512, api.ErrForm},                    // the size, and no 5
		{"00 00 02 01", 512, api.ErrForm},                    // the size, and no 5
		{"00 00 00 07 00", 512, api.ErrForm},                 // the size, and the place
		{"00 00 00 08", 512, api.ErrShort},                   // no 5 alone
		{"00 00 00 08", 8, api.ErrShort},                     // no 5 alone
		{"00 00 00 08", 7, api.ErrForm},                      // the size, and no 5
		{"00 00 00 08 00", 512, api.ErrForm},                 // the place, and no 6
		{"00 00 00 08 01", 512, api.ErrForm},                 // the place, and no 6
		{"00 00 00 08 03", 512, api.ErrForm},                 // the place, and no 6
		{"00 00 00 0b 03", 512, api.ErrForm},                 // the place, and no 6
		{"00 00 00 0c 03", 512, api.ErrShort},                // no 6 alone
		{"00 00 00 08 02", 512, api.ErrShort},                // no 6 alone
		{"00 00 00 08 02 01", 512, api.ErrForm},              // the type, and too few
		{"00 00 00 08 02 ff 00", 512, api.ErrForm},           // the type, and one too few
		{"00 00 00 09 02 80 00 01", 512, api.ErrForm},        // the type, and one too few
		{"00 00 00 08 02 00", 512, api.ErrShort},             // too few alone
		{"00 00 00 08 02 00 00", 512, api.ErrShort},          // one too few alone
		{"00 00 00 09 02 00 00 01", 512, api.ErrShort},       // one too few alone
		{"00 00 00 09 02 00 00 01", 8, api.ErrForm},          // the size, and one too few
		{"00 00 00 0c 03 00 00 01 11 22", 512, api.ErrShort}, // the body's place is not there yet
	} {
		says(t, unhex(t, c.b), c.most, c.want)
	}
}

// TestBehind: a frame hangs on its own bytes alone; what is ErrForm stays so, whatever stands behind it.
func TestBehind(t *testing.T) {
	behind := [][]byte{nil, {0}, {0xff}, {0, 0, 0, 7}, frame.Write(of(8, []byte{8})), many(600)}
	for _, s := range behind {
		for _, f := range []api.Frame{of(0, nil), of(1, []byte{0xaa}), of(65535, many(1000))} {
			b := frame.Write(f)
			reads(t, append(b, s...), 1008, f, len(b))
		}
		for _, wrong := range []string{"00 00 00 00", "00 00 00 07", "00 00 02 01", "ff ff ff ff", "00 00 00 08 00", "00 00 00 08 01", "00 00 00 08 03", "00 00 02 00 81", "00 00 00 08 02 01", "00 00 02 00 80 ff"} {
			says(t, append(unhex(t, wrong), s...), 512, api.ErrForm)
		}
	}
}

// TestOneBehindTheOther: frames are read one by one, in their order.
func TestOneBehindTheOther(t *testing.T) {
	var all []byte
	var l []api.Frame
	for i := range 60 {
		f := of(uint16(i*1117), many(i*i))
		l = append(l, f)
		all = append(all, frame.Write(f)...)
	}
	for _, want := range l {
		f, n, e := frame.Read(all, 4000)
		if e != api.OK || n != len(want.Body)+8 || !same(f, want) {
			t.Fatalf("P11.2: %s, %d, %d, not %s", brief(f), n, e, brief(want))
		}
		all = all[n:]
	}
	if len(all) != 0 {
		t.Errorf("P11.2: %d bytes are left", len(all))
	}
}

// TestHandedIn: what is handed in stays as it was, the room behind it too, and what is answered is new memory.
func TestHandedIn(t *testing.T) {
	room := many(40)
	f := of(5, room[:20])
	b := frame.Write(f)
	again := frame.Write(f)
	scribble(b)
	if !bytes.Equal(room, many(40)) {
		t.Errorf("P11.1: what was handed in is %x", room)
	}
	scribble(room)
	if !bytes.Equal(again, headed(28, 2, 0, 5, many(20))) {
		t.Errorf("P11.1: what was answered is %x", again)
	}

	// What was handed in ends within a longer list.
	bytesIn := append(headed(30, 2, 0, 5, many(22)), many(10)...)
	kept := bytes.Clone(bytesIn)
	g, _, _ := frame.Read(bytesIn[:30], 512)
	h, _, _ := frame.Read(bytesIn[:30], 512)
	scribble(g.Body)
	if !bytes.Equal(bytesIn, kept) {
		t.Errorf("P11.2: what was handed in is %x", bytesIn)
	}
	scribble(bytesIn)
	if !same(h, of(5, many(22))) {
		t.Errorf("P11.2: what was answered is %s", brief(h))
	}
	frame.Read(kept[:29], 512)
	if !bytes.Equal(kept, append(headed(30, 2, 0, 5, many(22)), many(10)...)) {
		t.Errorf("P11.2: what was handed in is %x", kept)
	}
}

// scribble writes over bytes, and the room behind them.
func scribble(b []byte) {
	b = b[:cap(b)]
	for i := range b {
		b[i] ^= 0x5a
	}
}
