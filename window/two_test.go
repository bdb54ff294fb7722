package window_test

import (
	"math/rand"
	"testing"

	"bellwether/window"
)

// What is on its way from one window to the other one.
const (
	aBegin = iota
	aTransfer
	aFlow
)

// parcel is one thing on its way.
type parcel struct {
	kind              int
	nextIn            int64
	in, next, nextOut uint32
}

// end is one of two windows, with what is on its way to the other one.
type end struct {
	w     *window.Window
	began bool // did it say where its numbers begin?
	way   []parcel
	sent  int // transfers
	got   int
	flows int // that came
}

// transfers: how many are on their way from it.
func (e *end) transfers() uint32 {
	n := uint32(0)
	for _, p := range e.way {
		if p.kind == aTransfer {
			n++
		}
	}
	return n
}

// begin: it says where its numbers begin, and what it takes: by a begin, or by a flow. (That has not seen the peer's, maybe.)
func (e *end) begin(flow, unseen bool) {
	if e.began {
		return
	}
	e.began = true
	if !flow {
		_, in := e.w.Left()
		e.way = append(e.way, parcel{kind: aBegin, in: in})
		return
	}
	e.grant()
	if unseen && e.got == 0 {
		e.way[len(e.way)-1].nextIn = -1
	}
}

// grant: a flow goes out.
func (e *end) grant() {
	nextIn, in, nextOut := e.w.Grant()
	e.way = append(e.way, parcel{kind: aFlow, nextIn: int64(nextIn), in: in, nextOut: nextOut})
}

// send: a transfer goes out, if one may.
func (e *end) send(t *testing.T) bool {
	t.Helper()
	if !e.began {
		return false
	}
	n, is := e.w.Sent()
	if !is {
		return false
	}
	if n != uint32(e.sent) {
		t.Fatalf("P15.3: the transfer %d has the number %d", e.sent, n)
	}
	e.sent++
	e.way = append(e.way, parcel{kind: aTransfer, next: n})
	return true
}

// comes: what is first on its way to it from the other one.
func (e *end) comes(t *testing.T, from *end) bool {
	t.Helper()
	if len(from.way) == 0 {
		return false
	}
	p := from.way[0]
	from.way = from.way[1:]
	switch p.kind {
	case aBegin:
		e.w.Begun(p.next, p.in)
	case aFlow:
		e.flows++
		e.w.Told(p.nextIn, p.in, p.nextOut)
	case aTransfer:
		if !e.w.Got() {
			t.Fatalf("P15.6: the transfer %d is refused", p.next)
		}
		e.got++
	}
	return true
}

// fits: what one may send, and what is on its way, are together not more than what the other one takes.
func (e *end) fits(t *testing.T, other *end) {
	t.Helper()
	out, _ := e.w.Left()
	if _, in := other.w.Left(); out+e.transfers() > in {
		t.Fatalf("P15.6: %d may be sent, %d are on their way, %d are taken", out, e.transfers(), in)
	}
}

// two windows, one at each end.
func two(grant, other uint32) [2]*end {
	return [2]*end{{w: window.New(grant)}, {w: window.New(other)}}
}

// fit: both ends do.
func fit(t *testing.T, ends [2]*end) {
	t.Helper()
	ends[0].fits(t, ends[1])
	ends[1].fits(t, ends[0])
}

// turn: one end does something; a way is how each of the things is weighed against the others.
func turn(t *testing.T, r *rand.Rand, ends [2]*end, weighs [4]int) {
	t.Helper()
	i := r.Intn(2)
	e, other := ends[i], ends[1-i]
	n, all := 0, 0
	for _, w := range weighs {
		all += w
	}
	for k := r.Intn(all); n < 3 && k >= weighs[n]; n++ {
		k -= weighs[n]
	}
	switch n {
	case 0:
		e.send(t)
	case 1:
		e.comes(t, other)
	case 2:
		if e.began && e.w.Need() {
			e.grant()
		}
	case 3:
		if e.began {
			e.grant()
		}
	}
	fit(t, ends)
}

// ended: all that is on its way comes, and all that was sent has come.
func ended(t *testing.T, ends [2]*end) {
	t.Helper()
	for ends[0].comes(t, ends[1]) || ends[1].comes(t, ends[0]) {
		fit(t, ends)
	}
	if ends[0].sent != ends[1].got || ends[1].sent != ends[0].got {
		t.Fatalf("P15.6: sent %d and %d, got %d and %d", ends[0].sent, ends[1].sent, ends[1].got, ends[0].got)
	}
}

// TestTwo: of two windows that tell one another what they grant, none refuses what comes, however long anything is on its way.
func TestTwo(t *testing.T) {
	t.Parallel()
	r := rand.New(rand.NewSource(48))
	weighs := [][4]int{{5, 5, 3, 0}, {9, 2, 2, 1}, {2, 9, 2, 1}, {5, 5, 0, 4}, {20, 1, 1, 0}, {1, 1, 0, 5}, {20, 20, 1, 0}}
	sent, flows, full := 0, 0, 0
	for i := range 3000 {
		grants := []uint32{0, 1, 2, 3, 4, 7, 16, 255, 256, 300, highest}
		ends := two(grants[r.Intn(len(grants))], grants[r.Intn(len(grants))])
		for _, e := range ends {
			e.begin(i%2 == 1, i%4 == 1)
			fit(t, ends)
			if r.Intn(2) == 0 {
				e.grant()
			}
			if r.Intn(2) == 0 {
				ends[0].comes(t, ends[1])
				ends[1].comes(t, ends[0])
			}
			fit(t, ends)
		}
		for range 100 + r.Intn(300) {
			turn(t, r, ends, weighs[i%len(weighs)])
			for k, e := range ends {
				if _, in := ends[1-k].w.Left(); in > 0 && in == e.transfers() {
					full++
				}
			}
		}
		ended(t, ends)
		sent += ends[0].sent + ends[1].sent
		flows += ends[0].flows + ends[1].flows
	}
	if sent < 100000 || flows < 50000 || full < 10000 {
		t.Errorf("P15.6: %d sent, %d flows, %d times as many on their way as are taken: not enough", sent, flows, full)
	}
}

// TestTwoGoOn: if a flow goes out whenever one is needed, all that one wants to send comes, whatever the grant is.
func TestTwoGoOn(t *testing.T) {
	for _, grant := range []uint32{1, 2, 3, 4, 5, 16, 255, 256} {
		ends := two(grant, 1)
		ends[0].begin(false, false)
		ends[1].begin(false, false)
		ends[1].comes(t, ends[0])
		ends[0].comes(t, ends[1])
		for ends[1].sent < 2000 {
			ahead := ends[1].sent
			for ends[1].send(t) {
				fit(t, ends)
			}
			for ends[0].comes(t, ends[1]) {
				if ends[0].w.Need() {
					ends[0].grant()
				}
				fit(t, ends)
			}
			for ends[1].comes(t, ends[0]) {
				fit(t, ends)
			}
			if ends[1].sent == ahead {
				t.Fatalf("P15.6: a grant of %d: behind %d transfers none may be sent", grant, ahead)
			}
		}
		ended(t, ends)
	}
}

// TestTwoEach: all rows of five things that two ends of small windows may do.
func TestTwoEach(t *testing.T) {
	t.Parallel()
	for _, grants := range [][2]uint32{{1, 1}, {1, 2}, {2, 3}} {
		for row := range 1 << 15 {
			ends := two(grants[0], grants[1])
			ends[0].begin(false, false)
			ends[1].begin(true, true)
			for k := row; k > 0; k >>= 3 {
				e, other := ends[k&1], ends[1-k&1]
				switch k >> 1 & 3 {
				case 0:
					e.send(t)
				case 1:
					e.comes(t, other)
				case 2:
					e.grant()
				case 3:
					for e.comes(t, other) {
						fit(t, ends)
					}
				}
				fit(t, ends)
			}
			ended(t, ends)
		}
	}
}

// TestTwoRound: transfers whose numbers go round come as well, flow by flow.
func TestTwoRound(t *testing.T) {
	w := window.New(4)
	w.Begun(highest-5, 0)
	for i := range uint32(40) {
		if !w.Got() {
			t.Fatalf("P15.6: the transfer %d is refused", highest-5+i)
		}
		if w.Need() {
			grants(t, w, highest-5+i+1, 4, 0)
		}
	}
}
