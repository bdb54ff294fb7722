package intake_test

import (
	"encoding/binary"
	"math/rand"
	"testing"

	"bellwether/api"
	"bellwether/frame"
	"bellwether/intake"
)

// again is an intake by the document's words: all that was taken, and how far it was told.
type again struct {
	most  int
	taken []byte
	at    int // how many of them were told
	begun bool
	bad   bool
}

// held: how many bytes it holds.
func (a *again) held() int {
	if a.bad {
		return 0
	}
	return len(a.taken) - a.at
}

// room: how many more it takes.
func (a *again) room() int {
	if a.bad {
		return 0
	}
	return a.most + 8 - a.held()
}

// put: so many of the bytes as there is room for.
func (a *again) put(b []byte) int {
	n := 0
	for n < len(b) && a.room() > 0 {
		a.taken = append(a.taken, b[n])
		n++
	}
	return n
}

// next: what is told next.
func (a *again) next() told {
	if a.bad {
		return bad
	}
	b := a.taken[a.at:]
	if a.begun {
		return a.frame(b)
	}
	for i := range 8 {
		if i == len(b) {
			return none
		}
		if b[i] != headerBytes[i] {
			a.bad = true
			return bad
		}
	}
	a.begun = true
	a.at += 8
	return header
}

// frame: what is told of bytes behind the header.
func (a *again) frame(b []byte) told {
	if len(b) < 4 {
		return none
	}
	size := int64(binary.BigEndian.Uint32(b))
	switch {
	case size < 8 || size > int64(a.most),
		len(b) > 4 && (b[4] < 2 || int64(b[4])*4 > size),
		len(b) > 5 && b[5] != 0:
		a.bad = true
		return bad
	case int64(len(b)) < size:
		return none
	}
	a.at += int(size)
	return aFrame(binary.BigEndian.Uint16(b[6:]), b[int(b[4])*4:size])
}

// agrees: an intake holds, and has room for, what the document says, and not more than may be.
func agrees(t *testing.T, in *intake.Intake, a *again) {
	t.Helper()
	if in.Held() != a.held() || in.Room() != a.room() {
		t.Fatalf("P12.2: Held %d, Room %d, not %d, %d", in.Held(), in.Room(), a.held(), a.room())
	}
	if in.Held() > a.most+8 {
		t.Fatalf("P12.2: Held %d of %d", in.Held(), a.most)
	}
}

// tells: an intake tells next what the document says.
func tells(t *testing.T, in *intake.Intake, a *again) told {
	t.Helper()
	got, want := next(in), a.next()
	if !got.same(want) {
		t.Fatalf("P12.3: Next: %v, not %v, with %d bytes told", got, want, a.at)
	}
	if got.kind == intake.None && in.Room() == 0 {
		t.Fatalf("P12.3: None, and no room")
	}
	agrees(t, in, a)
	return got
}

// takes: an intake takes of bytes what the document says.
func takes(t *testing.T, in *intake.Intake, a *again, b []byte) int {
	t.Helper()
	n, want := in.Put(b), a.put(b)
	if n != want {
		t.Fatalf("P12.2: Put of %d bytes: %d, not %d", len(b), n, want)
	}
	agrees(t, in, a)
	return n
}

// anyFrame: the bytes of any frame of at most so many bytes, now and then with something ahead of its body.
func anyFrame(r *rand.Rand, most int) []byte {
	size := 8 + r.Intn(40)
	if r.Intn(6) == 0 {
		size = most - r.Intn(3)
	}
	body := make([]byte, size-8)
	r.Read(body)
	b := frame.Write(api.Frame{Channel: uint16(r.Intn(65536)), Body: body})
	if r.Intn(3) == 0 {
		b[4] = byte(2 + r.Intn(size/4-1))
	}
	return b
}

// anyBytes: a header and frames, now and then with a few bytes changed.
func anyBytes(r *rand.Rand, most int) []byte {
	all := intake.Start()
	if r.Intn(12) == 0 {
		all[r.Intn(8)] ^= 1 << r.Intn(8)
	}
	for range r.Intn(30) {
		b := anyFrame(r, most)
		if r.Intn(25) == 0 {
			b[r.Intn(6)] = [...]byte{0, 1, 2, 3, 8, 255, byte(r.Intn(256))}[r.Intn(7)]
		}
		all = append(all, b...)
	}
	return all[:len(all)-r.Intn(9)]
}

// inPieces: what is told of bytes that come in pieces that cut tells the lengths of; each is told whatever was told by then.
func inPieces(t *testing.T, most uint32, all []byte, cut func() int) []told {
	t.Helper()
	in := fresh(t, most)
	var l []told
	for left := 3*len(all) + 1000; ; left-- {
		if left == 0 {
			t.Fatalf("P12.3: it goes on without end")
		}
		got := next(in)
		switch {
		case got.kind == intake.Bad:
			return append(l, got)
		case got.kind != intake.None:
			l = append(l, got)
			continue
		case len(all) == 0:
			return l
		case in.Room() == 0:
			t.Fatalf("P12.3: None, and no room")
		}
		all = all[in.Put(all[:min(cut(), len(all))]):]
	}
}

// alike: were the same told, in one order?
func alike(l, m []told) bool {
	if len(l) != len(m) {
		return false
	}
	for i := range l {
		if !l[i].same(m[i]) {
			return false
		}
	}
	return true
}

// TestAnyDoings: bytes of any kind that come anyhow, and are told at any time, are taken and told as the document says.
func TestAnyDoings(t *testing.T) {
	r := rand.New(rand.NewSource(21))
	seen := map[uint8]int{}
	full := 0
	for range 3000 {
		most := []int{512, 512, 513, 700, 4095, 4096}[r.Intn(6)]
		in := fresh(t, uint32(most))
		a := &again{most: most}
		all := anyBytes(r, most)
		wide := []int{2, 20, 700, 10000}[r.Intn(4)]
		for step := 0; len(all) > 0 && step < 3000; step++ {
			if r.Intn(2) == 0 {
				seen[tells(t, in, a).kind]++
				continue
			}
			n := takes(t, in, a, all[:min(r.Intn(wide), len(all))])
			all = all[n:]
			if in.Room() == 0 {
				full++
			}
			if a.bad && r.Intn(5) == 0 {
				break
			}
		}
		for range 40 {
			seen[tells(t, in, a).kind]++
		}
	}
	for _, kind := range []uint8{intake.None, intake.Header, intake.Frame, intake.Bad} {
		if seen[kind] < 500 {
			t.Errorf("only %d answers are %d", seen[kind], kind)
		}
	}
	if full < 500 {
		t.Errorf("only %d times it was full", full)
	}
}

// TestCutAtEachPlace: what is told does not hang on the one place where bytes are cut.
func TestCutAtEachPlace(t *testing.T) {
	r := rand.New(rand.NewSource(22))
	for range 40 {
		all := anyBytes(r, 512)
		all = all[:min(len(all), 900)]
		want := inPieces(t, 512, all, func() int { return len(all) })
		for n := range all {
			first := n
			cut := func() int {
				here := first
				first = len(all)
				return here
			}
			if got := inPieces(t, 512, all, cut); !alike(got, want) {
				t.Fatalf("P12.3: cut at %d of %x: %v, not %v", n, all, got, want)
			}
		}
	}
}

// TestAnyPieces: nor on any places, byte by byte among them.
func TestAnyPieces(t *testing.T) {
	r := rand.New(rand.NewSource(23))
	for range 600 {
		most := uint32(512 + r.Intn(2)*r.Intn(3585))
		all := anyBytes(r, int(most))
		want := inPieces(t, most, all, func() int { return len(all) })
		for _, wide := range []int{1, 2, 9, 600, 9000} {
			got := inPieces(t, most, all, func() int { return 1 + r.Intn(wide) })
			if !alike(got, want) {
				t.Fatalf("P12.3: in pieces of %d of %x: %v, not %v", wide, all, got, want)
			}
		}
	}
}

// TestAsSoonAs: byte by byte each thing is told with its last byte, and nothing between.
func TestAsSoonAs(t *testing.T) {
	r := rand.New(rand.NewSource(24))
	for range 300 {
		in := fresh(t, 512)
		whole := [][]byte{intake.Start()}
		for range r.Intn(12) {
			whole = append(whole, anyFrame(r, 512))
		}
		for i, b := range whole {
			for k := range b {
				says(t, in, none)
				puts(t, in, b[k:k+1], 1)
			}
			kind := intake.Frame
			if i == 0 {
				kind = intake.Header
			}
			if got := next(in); got.kind != kind {
				t.Fatalf("P12.3: with the last byte of %x: %v", b, got)
			}
		}
		says(t, in, none)
		has(t, in, 0, 520)
	}
}

// TestRandomBytes: bytes of no kind end it, and never break it.
func TestRandomBytes(t *testing.T) {
	r := rand.New(rand.NewSource(25))
	for range 3000 {
		in := fresh(t, 512)
		a := &again{most: 512}
		if r.Intn(3) > 0 {
			takes(t, in, a, intake.Start())
		}
		b := make([]byte, r.Intn(700))
		r.Read(b)
		if r.Intn(2) == 0 {
			for i := range b {
				b[i] &= 0x0b
			}
		}
		for len(b) > 0 && !a.bad {
			n := takes(t, in, a, b[:min(1+r.Intn(30), len(b))])
			b = b[n:]
			tells(t, in, a)
		}
		for range 5 {
			tells(t, in, a)
			takes(t, in, a, b)
		}
	}
}
