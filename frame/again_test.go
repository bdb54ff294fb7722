package frame_test

import (
	"encoding/binary"
	"math"
	"math/rand"
	"testing"

	"bellwether/api"
	"bellwether/frame"
)

// again: Read, by the document's words, one behind the other.
func again(b []byte, most uint32) (api.Frame, int, api.Errno) {
	var none api.Frame
	if len(b) < 4 {
		return none, 0, api.ErrShort
	}
	size := binary.BigEndian.Uint32(b)
	if size < 8 || size > most {
		return none, 0, api.ErrForm
	}
	if len(b) == 4 {
		return none, 0, api.ErrShort
	}
	up := int64(b[4]) * 4
	if up < 8 || up > int64(size) {
		return none, 0, api.ErrForm
	}
	if len(b) == 5 {
		return none, 0, api.ErrShort
	}
	if b[5] != 0 {
		return none, 0, api.ErrForm
	}
	if int64(len(b)) < int64(size) {
		return none, 0, api.ErrShort
	}
	return of(binary.BigEndian.Uint16(b[6:8]), b[up:size]), int(size), api.OK
}

// holds: what is read of bytes is what the document says, and what is read is written and read once more.
func holds(t *testing.T, b []byte, most uint32) api.Errno {
	t.Helper()
	f, n, e := again(b, most)
	if e != api.OK {
		says(t, b, most, e)
		return e
	}
	reads(t, b, most, f, n)
	reads(t, frame.Write(f), most, f, 8+len(f.Body))
	return e
}

// TestEachPair: every size, place, type and cut that the document names, with every other.
func TestEachPair(t *testing.T) {
	seen := map[api.Errno]int{}
	rest := many(1100)
	for _, most := range []uint32{0, 1, 7, 8, 9, 12, 512, 1024, 1 << 31, math.MaxUint32} {
		for _, size := range []uint32{0, 1, 7, 8, 9, 11, 12, 13, 511, 512, 513, 1020, 1 << 16, 1<<31 - 1, 1 << 31, math.MaxUint32} {
			for _, place := range []byte{0, 1, 2, 3, 4, 127, 128, 129, 255} {
				for _, kind := range []byte{0, 1, 255} {
					b := headed(size, place, kind, 0x0102, rest)
					for n := range 15 {
						seen[holds(t, b[:n], most)]++
					}
					for n := max(15, int(min(size, 1024))-1); n <= int(min(size, 1024))+1; n++ {
						seen[holds(t, b[:n], most)]++
					}
				}
			}
		}
	}
	for _, e := range []api.Errno{api.OK, api.ErrShort, api.ErrForm} {
		if seen[e] < 100 {
			t.Errorf("only %d answers are %d", seen[e], e)
		}
	}
}

// TestAnyBytes: any bytes, mostly like those of a frame.
func TestAnyBytes(t *testing.T) {
	r := rand.New(rand.NewSource(11))
	right := 0
	for range 60000 {
		body := make([]byte, r.Intn(40))
		r.Read(body)
		b := frame.Write(of(uint16(r.Intn(65536)), body))
		for range r.Intn(3) {
			i := r.Intn(len(b))
			if r.Intn(2) == 0 {
				i = r.Intn(6)
			}
			b[i] = [...]byte{0, 1, 2, 3, 4, 8, 12, 255, byte(r.Intn(256))}[r.Intn(9)]
		}
		if r.Intn(2) == 0 {
			b = append(b, body...)
		}
		if r.Intn(3) == 0 {
			b = b[:r.Intn(len(b)+1)]
		}
		most := []uint32{8, 20, 40, 512, math.MaxUint32}[r.Intn(5)]
		if holds(t, b, most) == api.OK {
			right++
		}
	}
	if right < 5000 {
		t.Errorf("only %d are frames", right)
	}
}

// TestAnyFrame: any frame is told as it was, if it is not longer than may be, with anything behind it.
func TestAnyFrame(t *testing.T) {
	r := rand.New(rand.NewSource(12))
	for range 3000 {
		body, behind := make([]byte, r.Intn(700)), make([]byte, r.Intn(20))
		r.Read(body)
		r.Read(behind)
		f := of(uint16(r.Intn(65536)), body)
		b := frame.Write(f)
		size := len(b)
		writes(t, f, headed(uint32(size), 2, 0, f.Channel, body))
		b = append(b, behind...)
		reads(t, b, uint32(size), f, size)
		reads(t, b, math.MaxUint32, f, size)
		says(t, b, uint32(size-1), api.ErrForm)
	}
}

// TestStaysSo: what is a frame, or none, is so with anything behind it; what is short only waits for more.
func TestStaysSo(t *testing.T) {
	r := rand.New(rand.NewSource(13))
	for range 20000 {
		b := headed(uint32(r.Intn(24)), byte(r.Intn(6)), byte(r.Intn(8)/7), uint16(r.Intn(4)), many(r.Intn(20)))
		before := api.ErrShort
		for n := range len(b) + 1 {
			_, _, e := frame.Read(b[:n], 20)
			if before != api.ErrShort && e != before {
				t.Fatalf("P11.2: of %x it is %d with %d bytes, and was %d", b, e, n, before)
			}
			before = e
		}
	}
}
