package window_test

import (
	"fmt"
	"math"
	"math/rand"
	"testing"

	"bellwether/window"
)

// The calls that turn something.
const (
	begun = iota
	sent
	got
	toldOf
	granted
)

// step is one of these calls, with what it is handed.
type step struct {
	call     int
	nextIn   int64
	in, next uint32
}

// again is a window by the document's words, with numbers that do not go round by themselves.
type again struct {
	nextOut, nextIn, out, in, grant int64
	known                           bool
}

// round: how many numbers there are.
const round = int64(1) << 32

// roundly: a number that went round, as often as need be.
func roundly(n int64) int64 {
	return (n%round + round) % round
}

// newAgain: a window of a grant.
func newAgain(grant uint32) *again {
	g := int64(grant)
	switch {
	case g < 1:
		g = 1
	case g > 256:
		g = 256
	}
	return &again{in: g, grant: g}
}

// begun: the peer has begun.
func (a *again) begun(next, in uint32) {
	a.nextIn, a.known, a.out = int64(next), true, int64(in)
	if a.out > 256 {
		a.out = 256
	}
}

// sent: a transfer is sent.
func (a *again) sent() (uint32, bool) {
	if a.out < 1 {
		return 0, false
	}
	n := a.nextOut
	a.out, a.nextOut = a.out-1, roundly(n+1)
	return uint32(n), true
}

// got: a transfer came.
func (a *again) got() bool {
	if a.known && a.in > 0 {
		a.in, a.nextIn = a.in-1, roundly(a.nextIn+1)
		return true
	}
	return false
}

// told: what a flow says.
func (a *again) told(nextIn int64, in, nextOut uint32) {
	if nextIn < 0 {
		nextIn = 0
	}
	a.out = roundly(roundly(nextIn) + int64(in) - a.nextOut)
	if a.out >= round/2 {
		a.out = 0
	}
	if a.out > 256 {
		a.out = 256
	}
	if !a.known {
		a.nextIn, a.known = int64(nextOut), true
	}
}

// granted: what a flow is to say.
func (a *again) granted() (nextIn, in, nextOut uint32) {
	a.in = a.grant
	if a.known {
		nextIn = uint32(a.nextIn)
	}
	return nextIn, uint32(a.in), uint32(a.nextOut)
}

// do: a step, done by both, and answered alike.
func (a *again) do(t *testing.T, w *window.Window, s step) {
	t.Helper()
	switch s.call {
	case begun:
		w.Begun(s.next, s.in)
		a.begun(s.next, s.in)
	case toldOf:
		w.Told(s.nextIn, s.in, s.next)
		a.told(s.nextIn, s.in, s.next)
	case sent:
		n, is := w.Sent()
		if m, may := a.sent(); n != m || is != may {
			t.Fatalf("P15.3: Sent: %d, %v, not %d, %v (behind it %+v)", n, is, m, may, *a)
		}
	case got:
		is := w.Got()
		if may := a.got(); is != may {
			t.Fatalf("P15.3: Got: %v, not %v (behind it %+v)", is, may, *a)
		}
	case granted:
		a.agreesGrant(t, w)
	}
	a.agrees(t, w)
}

// agrees: a window tells what the document says, without turning anything.
func (a *again) agrees(t *testing.T, w *window.Window) {
	t.Helper()
	if out, in := w.Left(); int64(out) != a.out || int64(in) != a.in {
		t.Fatalf("P15.1: Left: %d, %d, not %d, %d", out, in, a.out, a.in)
	}
	if is := w.Need(); is != (a.in <= a.grant/2) {
		t.Fatalf("P15.5: Need: %v (%+v)", is, *a)
	}
}

// agreesGrant: Grant tells what the document says.
func (a *again) agreesGrant(t *testing.T, w *window.Window) {
	t.Helper()
	x, y, z := w.Grant()
	if nextIn, in, nextOut := a.granted(); x != nextIn || y != in || z != nextOut {
		t.Fatalf("P15.5: Grant: %d, %d, %d, not %d, %d, %d", x, y, z, nextIn, in, nextOut)
	}
}

// behind: what both answer behind a row of steps: what a flow says, how many are sent then, and how many come.
func (a *again) behind(t *testing.T, w *window.Window) {
	t.Helper()
	for range 2 {
		a.do(t, w, step{call: got})
		a.do(t, w, step{call: sent})
	}
	a.do(t, w, step{call: granted})
	a.do(t, w, step{call: sent})
	a.do(t, w, step{call: toldOf, nextIn: 2, in: 3, next: 6})
	a.do(t, w, step{call: got})
	a.do(t, w, step{call: granted})
}

// TestEachRow: behind each row of up to four steps, windows answer what the document says.
func TestEachRow(t *testing.T) {
	t.Parallel()
	steps := []step{
		{call: sent}, {call: got}, {call: granted},
		{call: begun, next: 0, in: 0}, {call: begun, next: highest, in: 1}, {call: begun, next: 5, in: 300},
		{call: toldOf, nextIn: -1, in: 2, next: 9}, {call: toldOf, nextIn: 1, in: 1, next: highest},
		{call: toldOf, nextIn: highest, in: 3, next: 0}, {call: toldOf, nextIn: 1, in: 1 << 31, next: 4},
		{call: toldOf, nextIn: 0, in: 1<<31 - 1, next: 4}, {call: toldOf, nextIn: 0, in: 0, next: 1},
	}
	rows := [][]step{nil}
	for from := 0; len(rows[from]) < 4; from++ {
		for _, s := range steps {
			rows = append(rows, append(append([]step{}, rows[from]...), s))
		}
	}
	for _, grant := range []uint32{0, 1, 2, 3, 4} {
		for _, row := range rows {
			w, a := window.New(grant), newAgain(grant)
			a.agrees(t, w)
			for _, s := range row {
				a.do(t, w, s)
			}
			a.behind(t, w)
			if t.Failed() {
				t.Fatal(row)
			}
		}
	}
}

// anyNumber: one near to another one, or an edge, or any.
func anyNumber(r *rand.Rand, near int64) uint32 {
	switch r.Intn(6) {
	case 0:
		return numbers[r.Intn(len(numbers))]
	case 1:
		return r.Uint32()
	}
	return uint32(near + int64(r.Intn(40)) - 20)
}

// anyNextIn: likewise, and below 0 now and then.
func anyNextIn(r *rand.Rand, near int64) int64 {
	switch r.Intn(12) {
	case 0:
		return -1
	case 1:
		return []int64{-2, -300, math.MinInt32, -round, -round - 1, math.MinInt64}[r.Intn(6)]
	}
	return int64(anyNumber(r, near))
}

// anyAmount: few often, an edge or any now and then; and so many that what is told ends near to half of all numbers.
func anyAmount(r *rand.Rand, a *again, nextIn int64) uint32 {
	switch r.Intn(8) {
	case 0:
		return amounts[r.Intn(len(amounts))]
	case 1:
		return r.Uint32()
	case 2:
		return uint32(a.nextOut - max(nextIn, 0) + round/2 + int64(r.Intn(5)) - 2)
	case 3:
		return uint32(a.nextOut - max(nextIn, 0) + int64(r.Intn(300)) - 2)
	}
	return uint32(r.Intn(20))
}

// anyStep of a window.
func anyStep(r *rand.Rand, a *again) step {
	switch n := r.Intn(20); {
	case n < 7:
		return step{call: sent}
	case n < 14:
		return step{call: got}
	case n < 16:
		return step{call: granted}
	case n < 17:
		return step{call: begun, next: anyNumber(r, a.nextIn), in: anyAmount(r, a, 0)}
	}
	nextIn := anyNextIn(r, a.nextOut)
	return step{call: toldOf, nextIn: nextIn, in: anyAmount(r, a, nextIn), next: anyNumber(r, a.nextIn)}
}

// TestAnyDoings: whatever is done in whatever order, a window answers what the document says.
func TestAnyDoings(t *testing.T) {
	r := rand.New(rand.NewSource(45))
	had := map[string]int{}
	for range 4000 {
		grant := []uint32{0, 1, 2, 3, 8, 255, 256, 257, highest, r.Uint32(), uint32(r.Intn(20))}[r.Intn(11)]
		w, a := window.New(grant), newAgain(grant)
		for range 60 {
			s := anyStep(r, a)
			ahead := *a
			a.do(t, w, s)
			had[fmt.Sprint(s.call, ahead.out > 0, ahead.in > 0, ahead.known)]++
			if s.call == toldOf {
				had[fmt.Sprint("told ", a.out > 0, a.out == 256)]++
			}
		}
		a.behind(t, w)
	}
	for _, n := range []string{"told true true", "told true false", "told false false"} {
		if had[n] < 2000 {
			t.Errorf("P15.4: %s but %d times", n, had[n])
		}
	}
	for _, n := range []string{fmt.Sprint(sent, false, true, true), fmt.Sprint(sent, true, true, true), fmt.Sprint(got, true, true, true), fmt.Sprint(got, true, false, true), fmt.Sprint(got, false, true, false)} {
		if had[n] < 2000 {
			t.Errorf("P15.3: %s but %d times", n, had[n])
		}
	}
}

// TestToldAtAll: at all next outs below 20 and near the greatest window, with all edges of what is told.
func TestToldAtAll(t *testing.T) {
	for _, n := range []int{0, 1, 2, 3, 19, 255, 256} {
		for _, nextIn := range numbers {
			for _, in := range append(append([]uint32{}, amounts...), numbers...) {
				w, a := window.New(2), newAgain(2)
				a.do(t, w, step{call: begun, next: 4, in: uint32(n)})
				for range n {
					a.do(t, w, step{call: sent})
				}
				a.do(t, w, step{call: toldOf, nextIn: int64(nextIn), in: in, next: 11})
				a.behind(t, w)
			}
		}
	}
}

// TestToldAbove: a next in of more than 32 bits goes round too.
func TestToldAbove(t *testing.T) {
	for _, nextIn := range []int64{round, round + 1, round + 7, 2*round - 1, 5*round + 3, 1<<62 + 3, math.MaxInt64 - 1, math.MaxInt64} {
		for _, in := range amounts {
			w, a := window.New(2), newAgain(2)
			a.do(t, w, step{call: begun, next: 4, in: 2})
			a.do(t, w, step{call: sent})
			a.do(t, w, step{call: toldOf, nextIn: nextIn, in: in, next: 11})
			a.behind(t, w)
		}
	}
}

// TestAskedChangesNothing: of two that do the same, the one that is also asked answers all the same.
func TestAskedChangesNothing(t *testing.T) {
	r := rand.New(rand.NewSource(46))
	for range 1500 {
		grant := uint32(r.Intn(10))
		v, w, a := window.New(grant), window.New(grant), newAgain(grant)
		for range 25 {
			s, b := anyStep(r, a), *a
			for range r.Intn(4) {
				w.Need()
				w.Left()
			}
			b.do(t, v, s)
			a.do(t, w, s)
		}
		b := *a
		b.behind(t, v)
		a.behind(t, w)
	}
}

// TestAnyBeside: several beside one another each answer as if they were alone.
func TestAnyBeside(t *testing.T) {
	r := rand.New(rand.NewSource(47))
	for range 400 {
		var ws []*window.Window
		var as []*again
		for range 2 + r.Intn(4) {
			grant := uint32(r.Intn(12))
			ws, as = append(ws, window.New(grant)), append(as, newAgain(grant))
		}
		for range 60 {
			i := r.Intn(len(ws))
			as[i].do(t, ws[i], anyStep(r, as[i]))
			for k := range ws {
				as[k].agrees(t, ws[k])
			}
		}
		for k := range ws {
			as[k].behind(t, ws[k])
		}
	}
}
