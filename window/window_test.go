package window_test

import (
	"math"
	"testing"

	"bellwether/api"
	"bellwether/window"
)

// The highest number of 32 bits.
const highest = math.MaxUint32

// Numbers of transfers: the lowest and the highest, and what is next to the middle, where others end.
var numbers = []uint32{0, 1, 2, 3, 7, 255, 256, 257, 65535, 65536, 1<<31 - 257, 1<<31 - 2, 1<<31 - 1, 1 << 31, 1<<31 + 1, 1<<32 - 257, 1<<32 - 256, highest - 2, highest - 1, highest}

// How many transfers: none, the most that may be left and what is next to it, and far more.
var amounts = []uint32{0, 1, 2, 3, 127, 128, 129, api.MaxWindow - 1, api.MaxWindow, api.MaxWindow + 1, 2 * api.MaxWindow, 65535, 65536, 65536 + 4, 1<<31 - 1, 1 << 31, 1<<31 + 1, highest - 1, highest}

// mostOf: so many, but MaxWindow at most, by the document's words.
func mostOf(n uint32) uint32 {
	if n > 256 {
		return 256
	}
	return n
}

// grantOf: the grant that a window has which is made with a number, by the document's words.
func grantOf(n uint32) uint32 {
	if n == 0 {
		return 1
	}
	return mostOf(n)
}

// left: Left tells these.
func left(t *testing.T, w *window.Window, out, in uint32) {
	t.Helper()
	if o, i := w.Left(); o != out || i != in {
		t.Fatalf("P15.1: Left: %d, %d, not %d, %d", o, i, out, in)
	}
}

// grants: Grant tells these, and in left is the grant behind it; the rest is as it was.
func grants(t *testing.T, w *window.Window, nextIn, in, nextOut uint32) {
	t.Helper()
	out, _ := w.Left()
	if a, b, c := w.Grant(); a != nextIn || b != in || c != nextOut {
		t.Fatalf("P15.5: Grant: %d, %d, %d, not %d, %d, %d", a, b, c, nextIn, in, nextOut)
	}
	left(t, w, out, in)
}

// sends: Sent answers so many numbers in their order, from one on.
func sends(t *testing.T, w *window.Window, from uint32, n int) {
	t.Helper()
	for i := range n {
		if m, is := w.Sent(); m != from+uint32(i) || !is {
			t.Fatalf("P15.3: Sent, %d of %d: %d, %v, not %d, true", i, n, m, is, from+uint32(i))
		}
	}
}

// sendsNone: Sent answers no, and turns nothing.
func sendsNone(t *testing.T, w *window.Window) {
	t.Helper()
	_, in := w.Left()
	for range 2 {
		if m, is := w.Sent(); m != 0 || is {
			t.Fatalf("P15.3: Sent with nothing left: %d, %v", m, is)
		}
		left(t, w, 0, in)
	}
}

// gets: Got answers yes, so often.
func gets(t *testing.T, w *window.Window, n int) {
	t.Helper()
	for i := range n {
		if !w.Got() {
			t.Fatalf("P15.3: Got, %d of %d: no", i, n)
		}
	}
}

// getsNone: Got answers no, and turns nothing.
func getsNone(t *testing.T, w *window.Window) {
	t.Helper()
	out, in := w.Left()
	for range 2 {
		if w.Got() {
			t.Fatalf("P15.3: Got, where none may come (in left %d): yes", in)
		}
		left(t, w, out, in)
	}
}

// needs: Need answers this.
func needs(t *testing.T, w *window.Window, want bool) {
	t.Helper()
	if is := w.Need(); is != want {
		_, in := w.Left()
		t.Fatalf("P15.5: Need with %d left: %v", in, is)
	}
}

// TestExamples: the chapter's own, answer for answer.
func TestExamples(t *testing.T) {
	w := window.New(4)
	w.Begun(7, 2)
	left(t, w, 2, 4)
	sends(t, w, 0, 2)
	sendsNone(t, w)
	w.Told(2, 3, 9)
	left(t, w, 3, 4)
	gets(t, w, 2)
	left(t, w, 3, 2)
	needs(t, w, true)
	grants(t, w, 9, 4, 2)
}

// TestNew: a window of a grant, from 1 to MaxWindow, with nothing to be sent.
func TestNew(t *testing.T) {
	for n := range uint32(600) {
		left(t, window.New(n), 0, grantOf(n))
	}
	for _, n := range amounts {
		w := window.New(n)
		left(t, w, 0, grantOf(n))
		sendsNone(t, w)
		getsNone(t, w)
		needs(t, w, false)
		grants(t, w, 0, grantOf(n), 0)
		left(t, w, 0, grantOf(n))
	}
}

// TestBegun: the peer's numbers begin where it says, and it takes as many as it says, MaxWindow at most.
func TestBegun(t *testing.T) {
	for _, next := range numbers {
		for _, in := range amounts {
			w := window.New(5)
			w.Begun(next, in)
			left(t, w, mostOf(in), 5)
			needs(t, w, false)
			gets(t, w, 2)
			left(t, w, mostOf(in), 3)
			grants(t, w, next+2, 5, 0)
			sends(t, w, 0, int(mostOf(in)))
			sendsNone(t, w)
		}
	}
	for in := range uint32(600) {
		w := window.New(1)
		w.Begun(0, in)
		left(t, w, mostOf(in), 1)
	}
}

// TestBegunAgain: a second time it is what is said then, whatever was known.
func TestBegunAgain(t *testing.T) {
	for _, next := range numbers {
		for _, in := range amounts {
			w := window.New(9)
			w.Begun(100, 30)
			sends(t, w, 0, 4)
			gets(t, w, 5)
			w.Begun(next, in)
			left(t, w, mostOf(in), 4)
			grants(t, w, next, 9, 4)
			sends(t, w, 4, int(mostOf(in)))

			w = window.New(9)
			w.Told(0, 5, 100)
			w.Begun(next, in)
			left(t, w, mostOf(in), 9)
			grants(t, w, next, 9, 0)
		}
	}
}

// TestSent: as many as are left, with numbers one behind the other, and no more.
func TestSent(t *testing.T) {
	for _, n := range []int{0, 1, 2, 3, 255, 256} {
		w := window.New(7)
		w.Begun(40, uint32(n))
		gets(t, w, 1)
		for i := range n {
			left(t, w, uint32(n-i), 6)
			sends(t, w, uint32(i), 1)
		}
		sendsNone(t, w)
		grants(t, w, 41, 7, uint32(n))
		sendsNone(t, w)
		w.Told(int64(n), 1, 0)
		sends(t, w, uint32(n), 1)
		sendsNone(t, w)
	}
}

// TestGot: as many as are left, and no more.
func TestGot(t *testing.T) {
	for _, n := range []int{1, 2, 3, 255, 256} {
		w := window.New(uint32(n))
		w.Begun(10, 3)
		sends(t, w, 0, 1)
		for i := range n {
			left(t, w, 2, uint32(n-i))
			gets(t, w, 1)
		}
		left(t, w, 2, 0)
		getsNone(t, w)
		grants(t, w, 10+uint32(n), uint32(n), 1)
		gets(t, w, n)
		getsNone(t, w)
		grants(t, w, 10+2*uint32(n), uint32(n), 1)
	}
}

// TestGotUnknown: none comes while next in is not known, whatever is left; then as many as are.
func TestGotUnknown(t *testing.T) {
	for _, n := range []uint32{1, 2, 7, 256} {
		w := window.New(n)
		getsNone(t, w)
		w.Grant()
		getsNone(t, w)
		w.Told(0, 3, 6)
		gets(t, w, int(n))
		getsNone(t, w)
		grants(t, w, 6+n, n, 0)

		w = window.New(n)
		getsNone(t, w)
		w.Begun(0, 0)
		gets(t, w, int(n))
		getsNone(t, w)
		grants(t, w, n, n, 0)
	}
}

// TestGotRound: behind the highest number stands 0.
func TestGotRound(t *testing.T) {
	for _, told := range []bool{false, true} {
		w := window.New(3)
		if told {
			w.Told(-1, 0, highest)
		} else {
			w.Begun(highest, 0)
		}
		grants(t, w, highest, 3, 0)
		gets(t, w, 1)
		left(t, w, 0, 2)
		grants(t, w, 0, 3, 0)
		gets(t, w, 1)
		grants(t, w, 1, 3, 0)
		// That it is 0 does not make it one that is not known.
		w.Told(0, 0, 77)
		grants(t, w, 1, 3, 0)
	}
	w := window.New(3)
	w.Begun(highest, 0)
	gets(t, w, 1)
	w.Told(0, 0, 77)
	grants(t, w, 0, 3, 0)
	gets(t, w, 1)
	grants(t, w, 1, 3, 0)
}

// told: of a window that has sent so many, a flow of the peer's leaves so many to be sent, and nothing else is turned.
func told(t *testing.T, sent int, nextIn int64, in, want uint32) {
	t.Helper()
	w := window.New(6)
	w.Begun(20, uint32(sent))
	sends(t, w, 0, sent)
	gets(t, w, 1)
	w.Told(nextIn, in, 555)
	if out, _ := w.Left(); out != want {
		t.Fatalf("P15.4: next out %d, Told(%d, %d): out left %d, not %d", sent, nextIn, in, out, want)
	}
	left(t, w, want, 5)
	needs(t, w, false)
	grants(t, w, 21, 6, uint32(sent))
	if want <= 2 {
		sends(t, w, uint32(sent), int(want))
		sendsNone(t, w)
	}
}

// TestTold: what the peer takes, from where it is, less what was sent since.
func TestTold(t *testing.T) {
	told(t, 0, 0, 0, 0)
	told(t, 0, 0, 1, 1)
	told(t, 0, 0, 9, 9)
	told(t, 2, 2, 3, 3)
	told(t, 2, 0, 3, 1)
	told(t, 2, 1, 1, 0)
	told(t, 9, 5, 10, 6)
	told(t, 9, 9, 0, 0)
	// MaxWindow at most.
	told(t, 9, 9, 255, 255)
	told(t, 9, 9, 256, 256)
	told(t, 9, 9, 257, 256)
	told(t, 9, 0, 264, 255)
	told(t, 9, 0, 265, 256)
	told(t, 9, 0, 266, 256)
	told(t, 9, 9, 65536, 256)
	// What is told of the peer's next in is not held against what was sent.
	told(t, 9, 12, 3, 6)
	told(t, 9, 12, 0, 3)
	told(t, 0, 300, 0, 256)
}

// TestToldHalf: just below half of all numbers are many; from half on, none.
func TestToldHalf(t *testing.T) {
	for _, sent := range []int{0, 1, 9, 256} {
		n := int64(sent)
		told(t, sent, n, 1<<31-1, 256)
		told(t, sent, n, 1<<31, 0)
		told(t, sent, n, 1<<31+1, 0)
		told(t, sent, n, 1<<31+5, 0)
		told(t, sent, n, highest, 0)
		told(t, sent, n+1<<31-1, 0, 256)
		told(t, sent, n+1<<31, 0, 0)
		told(t, sent, n+1<<31+1, 0, 0)
		told(t, sent, n+1<<30, 1<<30-1, 256)
		told(t, sent, n+1<<30, 1<<30, 0)
	}
	// One and more that were sent, but are not taken: what is left would be below 0.
	told(t, 1, 0, 0, 0)
	told(t, 9, 0, 8, 0)
	told(t, 9, 3, 2, 0)
	told(t, 256, 0, 255, 0)
	told(t, 256, 0, 256, 0)
	told(t, 256, 0, 257, 1)
}

// TestToldBelow: a next in of the peer's that is below 0 is 0.
func TestToldBelow(t *testing.T) {
	for _, nextIn := range []int64{-1, -2, -256, math.MinInt32, -1 << 31, -1<<32 + 1, -1 << 32, -1<<32 - 1, -1 << 40, math.MinInt64 + 1, math.MinInt64} {
		told(t, 0, nextIn, 0, 0)
		told(t, 0, nextIn, 1, 1)
		told(t, 0, nextIn, 9, 9)
		told(t, 0, nextIn, 300, 256)
		told(t, 0, nextIn, 1<<31-1, 256)
		told(t, 0, nextIn, 1<<31, 0)
		told(t, 0, nextIn, highest, 0)
		told(t, 4, nextIn, 9, 5)
		told(t, 4, nextIn, 4, 0)
		told(t, 4, nextIn, 3, 0)
		told(t, 4, nextIn, 1<<31+3, 256)
		told(t, 4, nextIn, 1<<31+4, 0)
	}
}

// TestToldRound: the sum goes round.
func TestToldRound(t *testing.T) {
	told(t, 0, highest, 0, 0)
	told(t, 0, highest, 1, 0)
	told(t, 0, highest, 2, 1)
	told(t, 0, highest, 3, 2)
	told(t, 0, highest, 257, 256)
	told(t, 0, highest, 258, 256)
	told(t, 0, 3, highest, 2)
	told(t, 0, highest, highest, 0)
	told(t, 4, highest, 6, 1)
	told(t, 4, highest, 5, 0)
	told(t, 4, highest, 4, 0)
	told(t, 4, highest, 0, 0)
	told(t, 4, 1<<31, 1<<31, 0)
	told(t, 4, 1<<31, 1<<31+5, 1)
	told(t, 4, 1<<31+4, 0, 0)
	told(t, 4, 1<<31+3, 0, 256)
	told(t, 4, 7, highest, 2)
	told(t, 9, highest, 1<<31+9, 256)
	told(t, 9, highest, 1<<31+10, 0)
}

// TestToldKnows: the peer's next out is next in, if that is not known; else it is let go.
func TestToldKnows(t *testing.T) {
	for _, next := range numbers {
		w := window.New(4)
		w.Told(-1, 2, next)
		left(t, w, 2, 4)
		gets(t, w, 1)
		left(t, w, 2, 3)
		grants(t, w, next+1, 4, 0)
		for _, other := range numbers {
			w.Told(0, 3, other)
			left(t, w, 3, 4)
			grants(t, w, next+1, 4, 0)
		}
		gets(t, w, 4)
		grants(t, w, next+5, 4, 0)

		w = window.New(4)
		w.Begun(next, 9)
		for _, other := range numbers {
			w.Told(0, 3, other)
			grants(t, w, next, 4, 0)
		}
	}
}

// TestNeed: at most half of the grant is left; half of an odd one is half of the even one below it.
func TestNeed(t *testing.T) {
	for n := range uint32(260) {
		grant := grantOf(n)
		w := window.New(n)
		w.Begun(3, 4)
		for in := grant; ; in-- {
			left(t, w, 4, in)
			needs(t, w, in+in <= grant)
			needs(t, w, in+in <= grant)
			left(t, w, 4, in)
			if in == 0 {
				break
			}
			gets(t, w, 1)
		}
		grants(t, w, 3+grant, grant, 0)
		needs(t, w, false)
	}
	for _, n := range []uint32{1000, 1 << 31, highest} {
		w := window.New(n)
		w.Begun(0, 0)
		gets(t, w, 127)
		needs(t, w, false)
		gets(t, w, 1)
		needs(t, w, true)
	}
}

// TestGrant: what a flow is to say, whatever was left, once or again.
func TestGrant(t *testing.T) {
	for _, n := range []uint32{1, 2, 3, 4, 255, 256} {
		for got := range int(n) + 1 {
			w := window.New(n)
			w.Begun(50, 8)
			sends(t, w, 0, 3)
			gets(t, w, got)
			next := 50 + uint32(got)
			grants(t, w, next, n, 3)
			left(t, w, 5, n)
			grants(t, w, next, n, 3)
			needs(t, w, false)
			sends(t, w, 3, 1)
			gets(t, w, 1)
			grants(t, w, next+1, n, 4)
		}
	}
}

// TestGrantUnknown: while next in is not known, a flow says 0 of it; of next out what it is.
func TestGrantUnknown(t *testing.T) {
	for _, n := range amounts {
		w := window.New(n)
		grants(t, w, 0, grantOf(n), 0)
		grants(t, w, 0, grantOf(n), 0)
		sendsNone(t, w)
		getsNone(t, w)
	}
	w := window.New(3)
	grants(t, w, 0, 3, 0)
	// That a flow said 0 of it does not make it known.
	w.Told(0, 2, 12)
	sends(t, w, 0, 2)
	gets(t, w, 2)
	grants(t, w, 14, 3, 2)
}

// TestBeside: two beside one another, which know nothing of each other.
func TestBeside(t *testing.T) {
	v, w := window.New(4), window.New(9)
	v.Begun(7, 2)
	left(t, w, 0, 9)
	getsNone(t, w)
	sendsNone(t, w)
	w.Begun(100, 30)
	left(t, v, 2, 4)
	sends(t, w, 0, 5)
	sends(t, v, 0, 1)
	gets(t, w, 6)
	gets(t, v, 3)
	left(t, v, 1, 1)
	left(t, w, 25, 3)
	needs(t, v, true)
	needs(t, w, true)
	grants(t, v, 10, 4, 1)
	left(t, w, 25, 3)
	w.Told(5, 1, 0)
	left(t, v, 1, 4)
	left(t, w, 1, 3)
	grants(t, w, 106, 9, 5)
	left(t, v, 1, 4)

	v, w = window.New(4), window.New(4)
	v.Told(0, 3, 8)
	getsNone(t, w)
	grants(t, w, 0, 4, 0)
	left(t, w, 0, 4)
	left(t, v, 3, 4)
}

// TestNil: of no window nothing is told but no and noughts, whatever it is told.
func TestNil(t *testing.T) {
	var w *window.Window
	none := func() {
		t.Helper()
		left(t, w, 0, 0)
		sendsNone(t, w)
		getsNone(t, w)
		needs(t, w, false)
		grants(t, w, 0, 0, 0)
	}
	none()
	for _, next := range numbers {
		for _, in := range amounts {
			w.Begun(next, in)
			none()
			w.Told(int64(next), in, next)
			none()
			w.Told(-1, in, next)
			none()
		}
	}
	if w != nil {
		t.Error("P15.5: no window became one")
	}
}
