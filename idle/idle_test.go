package idle_test

import (
	"math"
	"testing"

	"bellwether/api"
	"bellwether/idle"
)

// The greatest moment, by the document's words.
const greatest = int64(1) << 61

// Waits: none, the shortest, odd and even ones, the longest, and longer than may be.
var waits = []uint32{0, 1, 2, 3, 4, 5, 6, 7, 8, 9, 10, 100, 255, 256, 65535, 65536, api.MaxTicks/2 - 1, api.MaxTicks / 2, api.MaxTicks/2 + 1, api.MaxTicks - 2, api.MaxTicks - 1, api.MaxTicks, api.MaxTicks + 1, api.MaxTicks + 2, 2 * api.MaxTicks, 1<<31 - 1, 1 << 31, 1<<31 + 5, math.MaxUint32 - 1, math.MaxUint32}

// Moments that may be, far enough from the greatest that all waits end ahead of it.
var moments = []int64{0, 1, 2, 7, 100, 1 << 20, 1<<31 - 1, 1 << 31, 1<<32 - 1, 1 << 32, 1<<32 + 9, 1 << 52, 1<<53 + 1, 1 << 60, greatest - 2*api.MaxTicks}

// Moments below 0, and above the greatest.
var (
	below = []int64{-1, -2, -100, -api.MaxTicks, math.MinInt32, -1 << 32, -greatest, -greatest - 1, -1 << 62, math.MinInt64 + 1, math.MinInt64}
	above = []int64{greatest + 1, greatest + 2, greatest + api.MaxTicks, greatest + 2*api.MaxTicks, 1<<62 - 1, 1 << 62, 1<<62 + 1, math.MaxInt64 - 1, math.MaxInt64}
)

// ownTicks: how many ticks may pass, by the document's words, without anything coming.
func ownTicks(own uint32) int64 {
	if own > 1048576 {
		return 1048576
	}
	return int64(own)
}

// peerTicks: how many ticks pass, by the document's words, till something is due.
func peerTicks(peer uint32) int64 {
	switch {
	case peer == 0:
		return 0
	case peer > 1048576:
		return 524288
	case peer < 4:
		return 1
	case peer%2 == 1:
		return int64(peer-1) / 2
	}
	return int64(peer) / 2
}

// isAt: at a moment it is late, due, or neither.
func isAt(t *testing.T, x *idle.Idle, now int64, late, due bool) {
	t.Helper()
	if got := x.Late(now); got != late {
		t.Fatalf("P14.2: Late(%d): %v", now, got)
	}
	if got := x.Due(now); got != due {
		t.Fatalf("P14.2: Due(%d): %v", now, got)
	}
}

// ends: When tells this moment.
func ends(t *testing.T, x *idle.Idle, want int64) {
	t.Helper()
	if m, is := x.When(); m != want || !is {
		t.Fatalf("P14.3: When: %d, %v, not %d, true", m, is, want)
	}
}

// neverEnds: When tells none.
func neverEnds(t *testing.T, x *idle.Idle) {
	t.Helper()
	if m, is := x.When(); m != 0 || is {
		t.Fatalf("P14.3: When: %d, %v, not 0, false", m, is)
	}
}

// turns: Late is no up to the tick ahead of a moment, and yes from that on. (Asked at moments from the latest that was told on.)
func turns(t *testing.T, what string, is func(int64) bool, latest, at int64) {
	t.Helper()
	for _, m := range []int64{latest, latest + 1, (latest + at) / 2, at - 2, at - 1} {
		if m >= latest && m < at && is(m) {
			t.Fatalf("P14.2: %s: %d ticks ahead of %d already (latest %d)", what, at-m, at, latest)
		}
	}
	for _, m := range append([]int64{at, at + 1, at + 2, at + 1000, at + api.MaxTicks, 2*at + 1, greatest - 1, greatest}, above...) {
		if m >= at && !is(m) {
			t.Fatalf("P14.2: %s: not at %d, %d ticks behind %d (latest %d)", what, m, m-at, at, latest)
		}
	}
}

// never: something is so at no moment.
func never(t *testing.T, what string, is func(int64) bool) {
	t.Helper()
	for _, l := range [][]int64{below, moments, {greatest - 1, greatest}, above} {
		for _, m := range l {
			if is(m) {
				t.Fatalf("P14.2: %s at %d, of a wait without an end", what, m)
			}
		}
	}
}

// TestExamples: the chapter's own, answer for answer.
func TestExamples(t *testing.T) {
	x := idle.New(10, 8, 100)
	if x.Due(103) || !x.Due(104) {
		t.Errorf("P14.2: Due(103): %v, Due(104): %v", x.Due(103), x.Due(104))
	}
	if x.Late(109) || !x.Late(110) {
		t.Errorf("P14.2: Late(109): %v, Late(110): %v", x.Late(109), x.Late(110))
	}
	ends(t, x, 104)
	x.Sent(104)
	ends(t, x, 108)
	x.Got(105)
	x.Sent(112)
	ends(t, x, 115)
}

// TestNew: something came, and was sent, at the moment that is told.
func TestNew(t *testing.T) {
	for _, own := range waits {
		for _, peer := range waits {
			for _, now := range moments {
				x := idle.New(own, peer, now)
				o, p := ownTicks(own), peerTicks(peer)
				if o == 0 {
					never(t, "Late", x.Late)
				} else {
					turns(t, "Late", x.Late, now, now+o)
				}
				if p == 0 {
					never(t, "Due", x.Due)
				} else {
					turns(t, "Due", x.Due, now, now+p)
				}
				switch {
				case o == 0 && p == 0:
					neverEnds(t, x)
				case o == 0 || p > 0 && p < o:
					ends(t, x, now+p)
				default:
					ends(t, x, now+o)
				}
			}
		}
	}
}

// TestLate: it is so when own ticks went by since something came, and at each moment behind.
func TestLate(t *testing.T) {
	for _, c := range []struct {
		own   uint32
		ticks int64
	}{{1, 1}, {2, 2}, {3, 3}, {10, 10}, {1048575, 1048575}, {1048576, 1048576}, {1048577, 1048576}, {2097152, 1048576}, {1 << 31, 1048576}, {1<<32 - 1, 1048576}} {
		for _, peer := range []uint32{0, 1, 8, 1048576, 1<<32 - 1} {
			x := idle.New(c.own, peer, 5)
			turns(t, "Late", x.Late, 5, 5+c.ticks)
			x.Got(5 + c.ticks)
			turns(t, "Late", x.Late, 5+c.ticks, 5+2*c.ticks)
			x.Got(1 << 40)
			turns(t, "Late", x.Late, 1<<40, 1<<40+c.ticks)
			x.Got(1 << 40)
			x.Got(1<<40 + 1)
			turns(t, "Late", x.Late, 1<<40+1, 1<<40+1+c.ticks)
		}
	}
}

// TestDue: it is so when half of peer's ticks went by since something was sent, 1 at least, and at each moment behind.
func TestDue(t *testing.T) {
	for _, c := range []struct {
		peer  uint32
		ticks int64
	}{{1, 1}, {2, 1}, {3, 1}, {4, 2}, {5, 2}, {6, 3}, {7, 3}, {8, 4}, {9, 4}, {1048574, 524287}, {1048575, 524287}, {1048576, 524288}, {1048577, 524288}, {1048578, 524288}, {2097152, 524288}, {1 << 31, 524288}, {1<<32 - 2, 524288}, {1<<32 - 1, 524288}} {
		for _, own := range []uint32{0, 1, 10, 1048576, 1<<32 - 1} {
			x := idle.New(own, c.peer, 5)
			turns(t, "Due", x.Due, 5, 5+c.ticks)
			x.Sent(5 + c.ticks)
			turns(t, "Due", x.Due, 5+c.ticks, 5+2*c.ticks)
			x.Sent(1 << 40)
			turns(t, "Due", x.Due, 1<<40, 1<<40+c.ticks)
			x.Sent(1 << 40)
			x.Sent(1<<40 + 1)
			turns(t, "Due", x.Due, 1<<40+1, 1<<40+1+c.ticks)
		}
	}
}

// TestNoEnd: where own is 0 nothing is late, where peer is 0 nothing is due, whatever came and was sent; the other wait ends as ever.
func TestNoEnd(t *testing.T) {
	x := idle.New(0, 8, 100)
	never(t, "Late", x.Late)
	turns(t, "Due", x.Due, 100, 104)
	ends(t, x, 104)
	x.Got(103)
	never(t, "Late", x.Late)
	ends(t, x, 104)
	x.Sent(110)
	never(t, "Late", x.Late)
	turns(t, "Due", x.Due, 110, 114)
	ends(t, x, 114)

	x = idle.New(10, 0, 100)
	never(t, "Due", x.Due)
	turns(t, "Late", x.Late, 100, 110)
	ends(t, x, 110)
	x.Sent(105)
	never(t, "Due", x.Due)
	ends(t, x, 110)
	x.Got(120)
	never(t, "Due", x.Due)
	turns(t, "Late", x.Late, 120, 130)
	ends(t, x, 130)

	x = idle.New(0, 0, 100)
	for _, m := range append(append(append([]int64{}, moments...), below...), above...) {
		neverEnds(t, x)
		never(t, "Late", x.Late)
		never(t, "Due", x.Due)
		x.Got(m)
		neverEnds(t, x)
		x.Sent(m)
	}
	neverEnds(t, x)
	never(t, "Late", x.Late)
	never(t, "Due", x.Due)
}

// TestGotAlone: what comes turns nothing of what is due.
func TestGotAlone(t *testing.T) {
	x := idle.New(10, 8, 100)
	for m := int64(101); m < 104; m++ {
		x.Got(m)
		isAt(t, x, m, false, false)
		turns(t, "Due", x.Due, m, 104)
		turns(t, "Late", x.Late, m, m+10)
		ends(t, x, 104)
	}
	for m := int64(104); m < 130; m++ {
		isAt(t, x, m, false, true)
		x.Got(m)
		isAt(t, x, m, false, true)
		turns(t, "Late", x.Late, m, m+10)
		ends(t, x, 104)
	}
	x.Sent(130)
	isAt(t, x, 130, false, false)
	turns(t, "Due", x.Due, 130, 134)
	ends(t, x, 134)
}

// TestSentAlone: what is sent turns nothing of what is late.
func TestSentAlone(t *testing.T) {
	x := idle.New(10, 40, 100)
	for m := int64(101); m < 110; m++ {
		x.Sent(m)
		isAt(t, x, m, false, false)
		turns(t, "Late", x.Late, m, 110)
		turns(t, "Due", x.Due, m, m+20)
		ends(t, x, 110)
	}
	for m := int64(110); m < 150; m++ {
		isAt(t, x, m, true, false)
		x.Sent(m)
		isAt(t, x, m, true, false)
		turns(t, "Due", x.Due, m, m+20)
		ends(t, x, 110)
	}
	x.Got(150)
	isAt(t, x, 150, false, false)
	turns(t, "Late", x.Late, 150, 160)
	ends(t, x, 160)
}

// TestBothOver: late and due are two things; both may be so, and each is till its own end comes.
func TestBothOver(t *testing.T) {
	x := idle.New(10, 8, 100)
	isAt(t, x, 110, true, true)
	x.Got(110)
	isAt(t, x, 110, false, true)
	isAt(t, x, 120, true, true)
	x.Sent(120)
	isAt(t, x, 120, true, false)
	isAt(t, x, 124, true, true)
	x.Got(124)
	x.Sent(124)
	isAt(t, x, 124, false, false)
	isAt(t, x, 127, false, false)
	isAt(t, x, 128, false, true)
	isAt(t, x, 133, false, true)
	isAt(t, x, 134, true, true)
}

// TestBelow: a moment below 0 counts as 0, whichever call it is handed to.
func TestBelow(t *testing.T) {
	for _, m := range below {
		x := idle.New(10, 8, m)
		isAt(t, x, m, false, false)
		isAt(t, x, 0, false, false)
		turns(t, "Late", x.Late, 0, 10)
		turns(t, "Due", x.Due, 0, 4)
		ends(t, x, 4)

		for _, k := range below {
			x.Got(k)
			x.Sent(k)
			isAt(t, x, k, false, false)
			ends(t, x, 4)
			turns(t, "Late", x.Late, 0, 10)
			turns(t, "Due", x.Due, 0, 4)
		}
		x.Got(1)
		x.Sent(2)
		ends(t, x, 6)
		turns(t, "Late", x.Late, 2, 11)

		x = idle.New(1, 1, 0)
		isAt(t, x, m, false, false)
		isAt(t, x, 1, true, true)
		x.Got(m)
		x.Sent(m)
		isAt(t, x, m, false, false)
		isAt(t, x, 1, true, true)
		ends(t, x, 1)
	}
}

// TestAbove: a moment above 2^61 counts as 2^61, whichever call it is handed to.
func TestAbove(t *testing.T) {
	for _, m := range append([]int64{greatest}, above...) {
		for _, w := range []uint32{1, 2, 3, 8, 10, api.MaxTicks, math.MaxUint32} {
			for _, x := range []*idle.Idle{idle.New(w, w, m), toldAll(idle.New(w, w, 0), m), toldAll(idle.New(w, w, greatest-1), m)} {
				for _, k := range append([]int64{0, 1, greatest - 1, greatest, m}, append(below, above...)...) {
					isAt(t, x, k, false, false)
				}
			}
		}

		x := idle.New(10, 8, greatest-11)
		isAt(t, x, m, true, true)
		x.Sent(greatest - 4)
		isAt(t, x, m, true, true)
		x.Sent(greatest - 3)
		isAt(t, x, m, true, false)
		x.Got(greatest - 10)
		isAt(t, x, m, false, false)

		x = idle.New(10, 8, greatest-10)
		isAt(t, x, greatest-1, false, true)
		isAt(t, x, m, true, true)
		ends(t, x, greatest-6)
		x.Sent(greatest - 4)
		isAt(t, x, m, true, true)
		ends(t, x, greatest)
		x.Got(m)
		isAt(t, x, m, false, true)
		ends(t, x, greatest)
		x.Sent(m)
		isAt(t, x, m, false, false)
	}
}

// toldAll: something came, and was sent, at a moment.
func toldAll(x *idle.Idle, m int64) *idle.Idle {
	x.Got(m)
	x.Sent(m)
	return x
}

// TestAheadAsked: a moment ahead of the latest counts as that when Late and Due are asked, whichever call told the latest.
func TestAheadAsked(t *testing.T) {
	early := append([]int64{0, 1, 50, 99, 100, 101, 103, 104, 105, 109, 110, 111, 119}, below...)
	for _, m := range early {
		x := idle.New(10, 8, 120)
		isAt(t, x, m, false, false)
		ends(t, x, 124)

		x = idle.New(10, 8, 100)
		x.Got(120)
		isAt(t, x, m, false, true)
		ends(t, x, 104)
		x.Sent(120)
		isAt(t, x, m, false, false)
		ends(t, x, 124)

		x = idle.New(10, 8, 100)
		x.Sent(120)
		isAt(t, x, m, true, false)
		ends(t, x, 110)
		x.Got(120)
		isAt(t, x, m, false, false)
		ends(t, x, 124)

		x = idle.New(10, 8, 100)
		x.Got(103)
		isAt(t, x, min(m, 103), false, false)
		x.Got(104)
		isAt(t, x, min(m, 104), false, true)

		x = idle.New(10, 40, 100)
		x.Sent(109)
		isAt(t, x, min(m, 109), false, false)
		x.Sent(110)
		isAt(t, x, min(m, 110), true, false)
	}
}

// TestAheadTold: so it does when Got and Sent are told of it, whichever call told the latest.
func TestAheadTold(t *testing.T) {
	for _, m := range append([]int64{0, 1, 50, 99, 100, 101, 104, 110, 119, 120}, below...) {
		x := idle.New(10, 8, 120)
		x.Got(m)
		turns(t, "Late", x.Late, 120, 130)
		x.Sent(m)
		turns(t, "Due", x.Due, 120, 124)
		ends(t, x, 124)

		x = idle.New(10, 8, 100)
		x.Got(120)
		x.Sent(m)
		turns(t, "Due", x.Due, 120, 124)
		turns(t, "Late", x.Late, 120, 130)
		ends(t, x, 124)
		x.Got(m)
		turns(t, "Late", x.Late, 120, 130)

		x = idle.New(10, 60, 100)
		x.Sent(120)
		x.Got(m)
		turns(t, "Late", x.Late, 120, 130)
		turns(t, "Due", x.Due, 120, 150)
		ends(t, x, 130)
		x.Sent(m)
		turns(t, "Due", x.Due, 120, 150)
	}
}

// TestAskedTellsNothing: a moment at which something is asked is not told by that, however late it is and however often it is asked.
func TestAskedTellsNothing(t *testing.T) {
	x := idle.New(10, 8, 100)
	for range 3 {
		for _, m := range append([]int64{104, 110, 1 << 40, greatest}, above...) {
			isAt(t, x, m, m >= 110, true)
			isAt(t, x, 0, false, false)
			isAt(t, x, 103, false, false)
			isAt(t, x, 109, false, true)
			ends(t, x, 104)
		}
	}
	x.Sent(101)
	ends(t, x, 105)
	x.Got(102)
	turns(t, "Due", x.Due, 102, 105)
	turns(t, "Late", x.Late, 102, 112)
	x.When()
	x.Late(1000)
	x.Due(1000)
	x.Sent(103)
	turns(t, "Due", x.Due, 103, 107)
	ends(t, x, 107)
}

// TestWhen: the earliest end of the two, whichever that is, and either alone.
func TestWhen(t *testing.T) {
	for _, c := range []struct {
		own, peer uint32
		got, sent int64 // 0: not told
		want      int64
	}{
		{10, 8, 0, 0, 104}, {4, 8, 0, 0, 104}, {3, 8, 0, 0, 103}, {5, 8, 0, 0, 104},
		{1, 1, 0, 0, 101}, {1, 2, 0, 0, 101}, {1, 3, 0, 0, 101}, {2, 3, 0, 0, 101}, {1, 4, 0, 0, 101}, {2, 4, 0, 0, 102}, {3, 4, 0, 0, 102},
		{0, 1, 0, 0, 101}, {0, 8, 0, 0, 104}, {1, 0, 0, 0, 101}, {10, 0, 0, 0, 110},
		{10, 8, 0, 105, 109}, {10, 8, 0, 106, 110}, {10, 8, 0, 107, 110}, {10, 8, 0, 150, 110},
		{10, 8, 103, 0, 104}, {10, 8, 150, 0, 104}, {10, 60, 119, 0, 129}, {10, 60, 120, 0, 130}, {10, 60, 121, 0, 130},
		{10, 8, 105, 112, 115}, {10, 8, 105, 111, 115}, {10, 8, 105, 110, 114}, {10, 8, 200, 200, 204}, {3, 8, 200, 200, 203},
		{0, 8, 150, 0, 104}, {0, 8, 0, 150, 154}, {10, 0, 150, 0, 160}, {10, 0, 0, 150, 110},
		{1048576, 1048576, 0, 0, 524388}, {1<<32 - 1, 1<<32 - 1, 0, 0, 524388}, {1048577, 0, 0, 0, 1048676}, {1<<32 - 1, 0, 0, 0, 1048676}, {0, 1<<32 - 1, 0, 0, 524388}, {524288, 1<<32 - 1, 0, 101, 524388}, {524289, 1<<32 - 1, 0, 101, 524389}, {524290, 1<<32 - 1, 0, 101, 524389},
	} {
		x := idle.New(c.own, c.peer, 100)
		if c.got != 0 {
			x.Got(c.got)
		}
		if c.sent != 0 {
			x.Sent(c.sent)
		}
		for range 3 {
			if m, is := x.When(); m != c.want || !is {
				t.Errorf("P14.3: When of %+v: %d, %v", c, m, is)
			}
		}
	}
}

// TestWhenOneIsSo: at the moment that When tells one of the two is so, and at none from the latest on that is earlier.
func TestWhenOneIsSo(t *testing.T) {
	for _, own := range waits {
		for _, peer := range waits {
			if own == 0 && peer == 0 {
				continue
			}
			x := idle.New(own, peer, 1000)
			latest := int64(1000)
			for i, step := range []int64{0, 1, 2, 3, 10, 1 << 19, 1 << 20, 1<<20 + 1} {
				latest += step
				if i%3 != 1 {
					x.Got(latest)
				}
				if i%3 != 2 {
					x.Sent(latest)
				}
				m, is := x.When()
				if !is || !x.Late(m) && !x.Due(m) {
					t.Fatalf("P14.3: New(%d, %d), latest %d: When: %d, %v, and nothing is so then", own, peer, latest, m, is)
				}
				for _, k := range []int64{latest, (latest + m) / 2, m - 2, m - 1} {
					if k >= latest && k < m && (x.Late(k) || x.Due(k)) {
						t.Fatalf("P14.3: New(%d, %d), latest %d: When: %d, but it is so at %d", own, peer, latest, m, k)
					}
				}
			}
		}
	}
}

// TestTwo: two beside one another know nothing of each other.
func TestTwo(t *testing.T) {
	a, b, c := idle.New(10, 8, 100), idle.New(10, 8, 100), idle.New(0, 3, 7)
	a.Got(150)
	a.Sent(160)
	isAt(t, b, 0, false, false)
	isAt(t, b, 109, false, true)
	ends(t, b, 104)
	ends(t, c, 8)
	b.Sent(105)
	ends(t, a, 160)
	ends(t, b, 109)
	isAt(t, a, 0, true, false)
	b.Got(101)
	turns(t, "Late", b.Late, 105, 115)
	c.Sent(1 << 50)
	isAt(t, b, 0, false, false)
	isAt(t, a, 163, true, false)
	isAt(t, a, 164, true, true)
	ends(t, c, 1<<50+1)
	d := idle.New(10, 8, 2)
	isAt(t, d, 0, false, false)
	ends(t, d, 6)
	ends(t, b, 109)
}

// TestNil: of no waits nothing is so, whatever they are told.
func TestNil(t *testing.T) {
	var x *idle.Idle
	for _, m := range append(append(append([]int64{}, moments...), below...), above...) {
		isAt(t, x, m, false, false)
		neverEnds(t, x)
		x.Got(m)
		isAt(t, x, m, false, false)
		x.Sent(m)
		neverEnds(t, x)
	}
	if x != nil {
		t.Error("P14.3: no waits became some")
	}
}
