package window_test

import (
	"testing"

	"bellwether/window"
)

// TestSentRound: behind the transfer of the highest number the one of number 0 is sent. (No other way leads there than that all are sent; it lasts some seconds, beside other tests, and is left out of short runs.)
func TestSentRound(t *testing.T) {
	if testing.Short() {
		t.Skip("all numbers are gone through")
	}
	t.Parallel()
	w := window.New(4)
	for n := int64(0); n < 1<<32; n += 256 {
		w.Told(n, 256, 0)
		for k := range int64(256) {
			if m, is := w.Sent(); !is || int64(m) != n+k {
				t.Fatalf("P15.3: the transfer %d: %d, %v", n+k, m, is)
			}
		}
		if n == 1<<32-512 {
			atTheHighest(t, w)
		}
	}
	sendsNone(t, w)
	w.Told(highest, 2, 0)
	left(t, w, 1, 4)
	grants(t, w, 0, 4, 0)
	sends(t, w, 0, 1)
	grants(t, w, 0, 4, 1)
	w.Told(highest-3, 6, 0)
	left(t, w, 1, 4)
	w.Told(highest-3, 5, 0)
	sendsNone(t, w)
	w.Told(1, 1<<31-1, 0)
	left(t, w, 256, 4)
	w.Told(1, 1<<31, 0)
	left(t, w, 0, 4)
}

// atTheHighest: of a window whose next out is 255 ahead of the highest number, what is told is reckoned round.
func atTheHighest(t *testing.T, w *window.Window) {
	t.Helper()
	grants(t, w, 0, 4, highest-255)
	for _, c := range []struct {
		nextIn   int64
		in, want uint32
	}{
		{highest - 255, 0, 0}, {highest - 255, 255, 255}, {highest - 255, 256, 256}, {highest - 255, 257, 256}, {highest, 1, 256}, {highest, 0, 255},
		{0, 0, 256}, {-1, 0, 256}, {0, 1, 256}, {1<<31 - 257, 0, 256}, {1<<31 - 256, 0, 0}, {0, 1<<31 - 257, 256}, {0, 1<<31 - 256, 0}, {highest - 256, 0, 0}, {0, highest - 255, 0}, {0, highest - 254, 1},
	} {
		w.Told(c.nextIn, c.in, 0)
		if out, _ := w.Left(); out != c.want {
			t.Fatalf("P15.4: next out %d, Told(%d, %d): out left %d, not %d", highest-255, c.nextIn, c.in, out, c.want)
		}
	}
}
