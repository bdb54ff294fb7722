package idle_test

import (
	"math"
	"math/rand"
	"testing"

	"bellwether/idle"
)

// The calls that tell of something.
const (
	gotIt = iota
	sentIt
)

// step is one of these calls, with its moment.
type step struct {
	call int
	now  int64
}

// again is two waits by the document's words: how long they are, and all that was told, in its order.
type again struct {
	own, peer uint32
	begin     int64
	steps     []step
}

// counted: the moments as which those that were told count: when something came last, when something was sent last, and the latest of all.
func (a again) counted() (got, sent, latest int64) {
	latest = within(a.begin)
	got, sent = latest, latest
	for _, s := range a.steps {
		if m := within(s.now); m > latest {
			latest = m
		}
		if s.call == gotIt {
			got = latest
		} else {
			sent = latest
		}
	}
	return got, sent, latest
}

// within: a moment that is neither below 0 nor above the greatest.
func within(m int64) int64 {
	switch {
	case m < 0:
		return 0
	case m > greatest:
		return greatest
	}
	return m
}

// is: what is so at a moment.
func (a again) is(now int64) (late, due bool) {
	got, sent, latest := a.counted()
	now = within(now)
	if now < latest {
		now = latest
	}
	own, peer := ownTicks(a.own), peerTicks(a.peer)
	return own != 0 && now-got >= own, peer != 0 && now-sent >= peer
}

// when: the moment to which one comes who goes on from both waits' beginnings, tick by tick, till one is over.
func (a again) when() (int64, bool) {
	if a.own == 0 && a.peer == 0 {
		return 0, false
	}
	got, sent, _ := a.counted()
	own, peer := ownTicks(a.own), peerTicks(a.peer)
	m := got
	if own == 0 || peer != 0 && sent < got {
		m = sent
	}
	for {
		if own != 0 && m-got >= own || peer != 0 && m-sent >= peer {
			return m, true
		}
		m++
	}
}

// do: a step, done by both.
func (a *again) do(x *idle.Idle, s step) {
	a.steps = append(a.steps, s)
	if s.call == gotIt {
		x.Got(s.now)
	} else {
		x.Sent(s.now)
	}
}

// agrees: waits tell at a moment what the document says.
func agrees(t *testing.T, x *idle.Idle, a again, now int64) {
	t.Helper()
	if late, due := a.is(now); x.Late(now) != late || x.Due(now) != due {
		t.Fatalf("P14.2: %+v: Late(%d): %v, Due: %v, not %v, %v", a, now, x.Late(now), x.Due(now), late, due)
	}
}

// agreesWhen: waits tell their end as the document says. (Of ends above the greatest moment nothing is asked: nobody comes there.)
func agreesWhen(t *testing.T, x *idle.Idle, a again) {
	t.Helper()
	want, wanted := a.when()
	if want > greatest {
		return
	}
	if m, is := x.When(); m != want || is != wanted {
		t.Fatalf("P14.3: %+v: When: %d, %v, not %d, %v", a, m, is, want, wanted)
	}
}

// TestEachRow: behind each row of tellings, at any moments, short waits answer at each moment what the document says.
func TestEachRow(t *testing.T) {
	var steps []step
	for now := int64(-1); now <= 4; now++ {
		steps = append(steps, step{gotIt, now}, step{sentIt, now})
	}
	rows := [][]step{nil}
	for from := 0; len(rows[from]) < 3; from++ {
		for _, s := range steps {
			rows = append(rows, append(append([]step{}, rows[from]...), s))
		}
	}
	for own := range uint32(4) {
		for peer := range uint32(7) {
			for begin := int64(-1); begin <= 2; begin++ {
				for _, row := range rows {
					x, a := idle.New(own, peer, begin), again{own: own, peer: peer, begin: begin}
					for _, s := range row {
						a.do(x, s)
					}
					for now := int64(-1); now <= 9; now++ {
						agrees(t, x, a, now)
					}
					agreesWhen(t, x, a)
				}
			}
		}
	}
}

// anyWait: short ones often, the longest and longer ones now and then.
func anyWait(r *rand.Rand) uint32 {
	switch r.Intn(8) {
	case 0:
		return 0
	case 1:
		return waits[r.Intn(len(waits))]
	case 2:
		return r.Uint32()
	}
	return uint32(r.Intn(30))
}

// anyMoment: one not far from another one, an end of a wait and what is next to it, or any.
func anyMoment(r *rand.Rand, x *idle.Idle, near int64) int64 {
	switch r.Intn(12) {
	case 0:
		return below[r.Intn(len(below))]
	case 1:
		return r.Int63n(greatest) - r.Int63n(greatest)
	case 2, 3, 4:
		if m, is := x.When(); is {
			return m + int64(r.Intn(5)) - 2
		}
	}
	return near + int64(r.Intn(40)) - 15
}

// TestAnyDoings: whatever is told in whatever order, Late, Due and When answer what the document says.
func TestAnyDoings(t *testing.T) {
	r := rand.New(rand.NewSource(41))
	var late, due, both, neither int
	for i := range 4000 {
		begin := []int64{0, 5, 1000, 1 << 33, greatest - 300, greatest - 5, -7, math.MaxInt64}[i%8]
		a := again{own: anyWait(r), peer: anyWait(r), begin: begin}
		x := idle.New(a.own, a.peer, begin)
		for range 30 {
			_, _, latest := a.counted()
			now := anyMoment(r, x, latest)
			agrees(t, x, a, now)
			switch l, d := a.is(now); {
			case l && d:
				both++
			case l:
				late++
			case d:
				due++
			default:
				neither++
			}
			if r.Intn(60) == 0 {
				now = above[r.Intn(len(above))]
			} else if now > latest+100 && r.Intn(20) > 0 {
				now = latest + 1
			}
			a.do(x, step{r.Intn(2), now})
			agrees(t, x, a, anyMoment(r, x, latest))
			if ownTicks(a.own) < 1000 && peerTicks(a.peer) < 1000 && a.own+a.peer > 0 {
				agreesWhen(t, x, a)
			}
		}
	}
	for _, n := range []int{late, due, both, neither} {
		if n < 3000 {
			t.Errorf("P14.2: late %d times, due %d, both %d, neither %d: not enough", late, due, both, neither)
		}
	}
}

// TestAnyLong: so do the longest waits, which end where the document says.
func TestAnyLong(t *testing.T) {
	r := rand.New(rand.NewSource(42))
	for range 3000 {
		own, peer := waits[r.Intn(len(waits))], waits[r.Intn(len(waits))]
		a := again{own: own, peer: peer, begin: r.Int63n(1 << 40)}
		x := idle.New(own, peer, a.begin)
		for range 6 {
			_, _, latest := a.counted()
			a.do(x, step{r.Intn(2), latest + r.Int63n(1<<20) - 1000})
			got, sent, _ := a.counted()
			o, p := ownTicks(own), peerTicks(peer)
			for _, m := range []int64{got + o - 1, got + o, got + o + 1, sent + p - 1, sent + p, sent + p + 1} {
				agrees(t, x, a, m)
			}
			switch {
			case o == 0 && p == 0:
				neverEnds(t, x)
			case o == 0 || p != 0 && sent+p < got+o:
				ends(t, x, sent+p)
			default:
				ends(t, x, got+o)
			}
		}
	}
}

// TestAskedChangesNothing: of two to which the same is told, the one that is also asked at any moments answers all the same.
func TestAskedChangesNothing(t *testing.T) {
	r := rand.New(rand.NewSource(43))
	for range 1500 {
		own, peer := uint32(r.Intn(20)), uint32(r.Intn(20))
		x, y, latest := idle.New(own, peer, 50), idle.New(own, peer, 50), int64(50)
		for range 20 {
			for range r.Intn(4) {
				y.Late(anyMoment(r, y, latest+100))
				y.Due(anyMoment(r, y, latest+100))
				y.When()
			}
			now := anyMoment(r, x, latest)
			if now > latest+100 {
				now = latest
			}
			latest = max(latest, now)
			if r.Intn(2) == 0 {
				x.Got(now)
				y.Got(now)
			} else {
				x.Sent(now)
				y.Sent(now)
			}
			for m := latest - 2; m < latest+25; m++ {
				if x.Late(m) != y.Late(m) || x.Due(m) != y.Due(m) {
					t.Fatalf("P14.2: New(%d, %d): at %d the one that was asked says otherwise", own, peer, m)
				}
			}
		}
	}
}

// TestAnyBeside: several beside one another each answer as if they were alone.
func TestAnyBeside(t *testing.T) {
	r := rand.New(rand.NewSource(44))
	for range 500 {
		var xs []*idle.Idle
		var as []again
		for range 2 + r.Intn(4) {
			a := again{own: uint32(r.Intn(20)), peer: uint32(r.Intn(20)), begin: int64(r.Intn(50))}
			xs, as = append(xs, idle.New(a.own, a.peer, a.begin)), append(as, a)
		}
		for range 40 {
			i := r.Intn(len(xs))
			as[i].do(xs[i], step{r.Intn(2), int64(r.Intn(100))})
			for k := range xs {
				agrees(t, xs[k], as[k], int64(r.Intn(130)))
			}
		}
		for i := range xs {
			agreesWhen(t, xs[i], as[i])
		}
	}
}
