package idle_test

import (
	"math"
	"math/rand"
	"testing"

	"bellwether/api"
	"bellwether/idle"
)

// end is one of two that talk: its waits, and when it sent last.
type end struct {
	own, peer uint32
	x         *idle.Idle
	sent      int64
	longest   int64 // gap between what it sent
}

// newEnd: one that begins at a moment.
func newEnd(own, peer uint32, now int64) *end {
	return &end{own: own, peer: peer, x: idle.New(own, peer, now), sent: now}
}

// pair: two ends, each of which says how long it waits.
func pair(a, b uint32, now int64) [2]*end {
	return [2]*end{newEnd(a, b, now), newEnd(b, a, now)}
}

// sends: something goes to the other end.
func (e *end) sends(other *end, now int64) {
	e.x.Sent(now)
	other.x.Got(now)
	e.longest = max(e.longest, now-e.sent)
	e.sent = now
}

// tick: what is due is sent; the gap is not longer than the document says.
func (e *end) tick(t *testing.T, other *end, now int64) {
	if e.x.Due(now) {
		if e.peer == 0 {
			t.Fatalf("P14.4: at %d something is due to a peer that never asks for it", now)
		}
		e.sends(other, now)
	}
	if e.peer != 0 && now-e.sent > peerTicks(e.peer) {
		t.Fatalf("P14.4: of a peer's %d ticks %d went by with nothing sent", e.peer, now-e.sent)
	}
}

// inTime: nobody is late, and whoever waits for more than one tick is not ahead of what comes at a moment either.
func inTime(t *testing.T, ends [2]*end, now int64, ahead bool) {
	for _, e := range ends {
		if ahead && e.own == 1 {
			continue
		}
		if e.x.Late(now) {
			t.Fatalf("P14.4: at %d an end that waits for %d ticks says that its peer is late (ahead of what comes then: %v)", now, e.own, ahead)
		}
	}
}

// talk: both send what is due, at each tick, and nobody is late. Which one is first at a tick is told.
func talk(t *testing.T, ends [2]*end, from, ticks int64, first func(now int64) int) {
	t.Helper()
	for now := from + 1; now <= from+ticks; now++ {
		inTime(t, ends, now, true)
		i := first(now)
		ends[i].tick(t, ends[1-i], now)
		ends[1-i].tick(t, ends[i], now)
		inTime(t, ends, now, false)
	}
}

// TestTwoEnds: two that each send what is due at each tick are never late to one another, whatever their waits; and nothing is sent sooner than need be.
func TestTwoEnds(t *testing.T) {
	for a := range uint32(34) {
		for b := range uint32(34) {
			for first := range 2 {
				ends := pair(a, b, 1000)
				talk(t, ends, 1000, 150, func(int64) int { return first })
				for _, e := range ends {
					if e.longest != peerTicks(e.peer) {
						t.Fatalf("P14.4: of a peer's %d ticks the longest gap was %d", e.peer, e.longest)
					}
				}
			}
		}
	}
}

// TestTwoEndsLong: so are those that wait longest.
func TestTwoEndsLong(t *testing.T) {
	for _, c := range [][2]uint32{{api.MaxTicks, api.MaxTicks}, {api.MaxTicks - 1, 3}, {api.MaxTicks + 1, 1}, {math.MaxUint32, 1000}, {0, math.MaxUint32}} {
		ends := pair(c[0], c[1], 7)
		talk(t, ends, 7, 1<<20+1<<19, func(int64) int { return 0 })
		for _, e := range ends {
			if e.longest != peerTicks(e.peer) {
				t.Fatalf("P14.4: of a peer's %d ticks the longest gap was %d", e.peer, e.longest)
			}
		}
	}
}

// TestTwoEndsThatTalk: so are two that also send what is not due, at any moments.
func TestTwoEndsThatTalk(t *testing.T) {
	r := rand.New(rand.NewSource(45))
	for range 600 {
		ends := pair(uint32(r.Intn(40)), uint32(r.Intn(40)), 0)
		often := 1 + r.Intn(30)
		talk(t, ends, 0, 300, func(now int64) int {
			if i := r.Intn(2); r.Intn(often) == 0 {
				ends[i].sends(ends[1-i], now)
			}
			return r.Intn(2)
		})
	}
}

// TestPairsBeside: two pairs beside one another, whose ticks come by turns, know nothing of each other: one that goes still does not make the other one late.
func TestPairsBeside(t *testing.T) {
	for _, c := range [][4]uint32{{8, 8, 8, 8}, {2, 3, 9, 20}, {1, 1, 30, 2}, {5, 0, 0, 7}} {
		busy, still := pair(c[0], c[1], 0), pair(c[2], c[3], 0)
		for now := range int64(200) {
			talk(t, busy, now, 1, func(now int64) int { return int(now % 2) })
			if now < 50 {
				talk(t, still, now, 1, func(int64) int { return 0 })
			}
		}
		for _, e := range still {
			if late := e.own != 0; e.x.Late(199) != late || e.x.Late(0) {
				t.Errorf("P14.4: an end that waits for %d ticks, to which nothing came for 150: Late: %v", e.own, !late)
			}
		}
	}
}

// TestComesSoOften: who waits for as long as the gap, or longer, is not late behind what comes; who waits for less is.
func TestComesSoOften(t *testing.T) {
	for peer := uint32(1); peer < 60; peer++ {
		gap := peerTicks(peer)
		for own := uint32(1); own < 70; own++ {
			sender, waiter := newEnd(0, peer, 0), newEnd(own, 0, 0)
			var late, lateAhead bool
			for now := int64(1); now <= 6*gap; now++ {
				lateAhead = lateAhead || waiter.x.Late(now)
				sender.tick(t, waiter, now)
				late = late || waiter.x.Late(now)
			}
			if late != (int64(own) < gap) || lateAhead != (int64(own) <= gap) {
				t.Fatalf("P14.4: something comes each %d ticks; one that waits for %d: late %v, ahead of what comes %v", gap, own, late, lateAhead)
			}
		}
	}
}
