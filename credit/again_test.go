package credit_test

import (
	"fmt"
	"math/rand"
	"testing"

	"bellwether/credit"
)

// The calls that turn something.
const (
	toldOf = iota
	heardOf
	granted
	taken
	dried
)

// step is one of these calls, with what it is handed.
type step struct {
	call          int
	count, amount uint32
	drain         bool
}

// again is a credit by the document's words, with numbers that do not go round by themselves.
type again struct {
	count, left int64
	drain       bool
}

// round: how many counts there are.
const round = int64(1) << 32

// roundly: a number that went round, as often as need be.
func roundly(n int64) int64 {
	return (n%round + round) % round
}

// leave: so many are left, or the most that may be.
func (a *again) leave(n int64) {
	if n > 1000 {
		n = 1000
	}
	a.left = n
}

// told: what the receiver's flow says.
func (a *again) told(count, amount uint32, drain bool) {
	n := roundly(int64(count) + int64(amount) - a.count)
	if n >= round/2 {
		n = 0
	}
	a.leave(n)
	a.drain = drain
}

// heard: what the sender's flow says. Each count that is beyond by at most left is asked, one by one.
func (a *again) heard(count uint32) {
	for n := int64(0); n <= a.left; n++ {
		if roundly(a.count+n) != int64(count) {
			continue
		}
		a.left, a.count = a.left-n, int64(count)
		if a.drain && a.left == 0 {
			a.drain = false
		}
		return
	}
}

// grant: so many are left.
func (a *again) grant(amount uint32, drain bool) int64 {
	a.leave(int64(amount))
	a.drain = drain
	return a.count
}

// take: a delivery goes, or comes.
func (a *again) take() bool {
	if a.left == 0 {
		return false
	}
	a.left, a.count = a.left-1, roundly(a.count+1)
	return true
}

// dry: all that is left goes, if that is asked for: one by one.
func (a *again) dry() (int64, bool) {
	if !a.drain {
		return 0, false
	}
	n := int64(0)
	for a.take() {
		n++
	}
	a.drain = false
	return n, true
}

// do: a step, done by both, and answered alike.
func (a *again) do(t *testing.T, c *credit.Credit, s step) {
	t.Helper()
	ahead := *a
	switch s.call {
	case toldOf:
		c.Told(s.count, s.amount, s.drain)
		a.told(s.count, s.amount, s.drain)
	case heardOf:
		c.Heard(s.count)
		a.heard(s.count)
	case granted:
		n := c.Grant(s.amount, s.drain)
		if m := a.grant(s.amount, s.drain); int64(n) != m {
			t.Fatalf("P16.3: %+v: Grant: %d, not %d", ahead, n, m)
		}
	case taken:
		is := c.Take()
		if may := a.take(); is != may {
			t.Fatalf("P16.2: %+v: Take: %v", ahead, is)
		}
	case dried:
		n, is := c.Dry()
		if m, may := a.dry(); int64(n) != m || is != may {
			t.Fatalf("P16.2: %+v: Dry: %d, %v, not %d, %v", ahead, n, is, m, may)
		}
	}
	if n, m, d := c.Left(); int64(n) != a.count || int64(m) != a.left || d != a.drain {
		t.Fatalf("P16.1: %+v: behind %+v Left: %d, %d, %v, not %+v", ahead, s, n, m, d, *a)
	}
}

// behind: what both answer behind a row of steps.
func (a *again) behind(t *testing.T, c *credit.Credit) {
	t.Helper()
	a.do(t, c, step{call: taken})
	a.do(t, c, step{call: heardOf, count: uint32(a.count + 1)})
	a.do(t, c, step{call: dried})
	a.do(t, c, step{call: taken})
	a.do(t, c, step{call: toldOf, count: uint32(a.count - 1), amount: 3, drain: true})
	a.do(t, c, step{call: dried})
	a.do(t, c, step{call: granted, amount: 2})
	a.do(t, c, step{call: taken})
	a.do(t, c, step{call: dried})
}

// TestEachRow: behind each row of up to four steps, credits answer what the document says.
func TestEachRow(t *testing.T) {
	t.Parallel()
	steps := []step{
		{call: taken}, {call: dried},
		{call: granted, amount: 0, drain: true}, {call: granted, amount: 2}, {call: granted, amount: 1, drain: true}, {call: granted, amount: 1001, drain: true},
		{call: toldOf, count: 0, amount: 2}, {call: toldOf, count: highest, amount: 3, drain: true}, {call: toldOf, count: 1, amount: 1 << 31, drain: true}, {call: toldOf, count: 1, amount: 1<<31 - 3},
		{call: heardOf, count: highest}, {call: heardOf, count: 0}, {call: heardOf, count: 1}, {call: heardOf, count: 2},
	}
	rows := [][]step{nil}
	for from := 0; len(rows[from]) < 4; from++ {
		for _, s := range steps {
			rows = append(rows, append(append([]step{}, rows[from]...), s))
		}
	}
	for _, count := range []uint32{highest - 1, highest, 0, 1} {
		for _, row := range rows {
			c, a := credit.New(count), &again{count: int64(count)}
			for _, s := range row {
				a.do(t, c, s)
			}
			a.behind(t, c)
		}
	}
}

// anyCount: one near to another one, or an edge, or any.
func anyCount(r *rand.Rand, near int64) uint32 {
	switch r.Intn(8) {
	case 0:
		return counts[r.Intn(len(counts))]
	case 1:
		return r.Uint32()
	case 2:
		return uint32(near + int64(r.Intn(2100)) - 1050)
	}
	return uint32(near + int64(r.Intn(12)) - 4)
}

// anyAmount: few often, an edge or any now and then; and so many that what is told ends near to half of all numbers, or to the most that may be left.
func anyAmount(r *rand.Rand, a *again, count uint32) uint32 {
	switch r.Intn(8) {
	case 0:
		return amounts[r.Intn(len(amounts))]
	case 1:
		return r.Uint32()
	case 2:
		return uint32(a.count - int64(count) + round/2 + int64(r.Intn(5)) - 2)
	case 3:
		return uint32(a.count - int64(count) + 1000 + int64(r.Intn(5)) - 2)
	}
	return uint32(r.Intn(9))
}

// anyHeard: a count near to the own one, or to all that is left, or any.
func anyHeard(r *rand.Rand, a *again) uint32 {
	switch r.Intn(3) {
	case 0:
		return uint32(a.count + a.left + int64(r.Intn(5)) - 2)
	case 1:
		return uint32(a.count + int64(r.Intn(5)) - 2)
	}
	return anyCount(r, a.count)
}

// anyStep of a credit.
func anyStep(r *rand.Rand, a *again) step {
	drain := r.Intn(2) == 0
	switch n := r.Intn(20); {
	case n < 7:
		return step{call: taken}
	case n < 10:
		return step{call: dried}
	case n < 13:
		return step{call: granted, amount: anyAmount(r, a, uint32(a.count)), drain: drain}
	case n < 16:
		return step{call: heardOf, count: anyHeard(r, a)}
	}
	count := anyCount(r, a.count)
	return step{call: toldOf, count: count, amount: anyAmount(r, a, count), drain: drain}
}

// TestAnyDoings: whatever is done in whatever order, a credit answers what the document says.
func TestAnyDoings(t *testing.T) {
	t.Parallel()
	r := rand.New(rand.NewSource(48))
	had := map[string]int{}
	for range 6000 {
		count := anyCount(r, 0)
		c, a := credit.New(count), &again{count: int64(count)}
		for range 60 {
			s, ahead := anyStep(r, a), *a
			a.do(t, c, s)
			had[fmt.Sprint(s.call, ahead.left > 0, ahead.drain)]++
			switch {
			case s.call == toldOf:
				had[fmt.Sprint("told ", a.left > 0, a.left == 1000)]++
			case s.call == heardOf:
				had[fmt.Sprint("heard ", a.count != ahead.count, a.left > 0, ahead.drain, a.drain)]++
			case a.count < ahead.count:
				had["round"]++
			}
		}
		a.behind(t, c)
	}
	names := []string{"told true true", "told true false", "told false false", "heard true true true true", "heard true false true false", "heard false false true false", "heard true false false false"}
	for call := toldOf; call <= dried; call++ {
		for i := range 4 {
			names = append(names, fmt.Sprint(call, i&1 == 1, i&2 == 2))
		}
	}
	for _, n := range names {
		if had[n] < 500 {
			t.Errorf("%q but %d times", n, had[n])
		}
	}
	if had["round"] < 100 {
		t.Errorf("counts went round but %d times", had["round"])
	}
}

// TestToldAtAll: what is left of all counts and credits near to the edges.
func TestToldAtAll(t *testing.T) {
	for _, own := range counts {
		for _, count := range counts {
			for _, amount := range append(append([]uint32{}, amounts...), counts...) {
				for _, drain := range drains {
					c, a := credit.New(own), &again{count: int64(own)}
					a.do(t, c, step{call: granted, amount: 4, drain: !drain})
					a.do(t, c, step{call: toldOf, count: count, amount: amount, drain: drain})
				}
			}
		}
	}
}

// TestHeardAtAll: all counts near to the own one and to what is left, and all edges, are heard.
func TestHeardAtAll(t *testing.T) {
	for _, own := range counts {
		for _, amount := range []uint32{0, 1, 2, 999, 1000} {
			heard := append([]uint32{}, counts...)
			for k := range uint32(8) {
				heard = append(heard, own+k-4, own+amount+k-4, own+1<<31+k-4, own+1<<31+amount+k-4)
			}
			for _, count := range heard {
				for _, drain := range drains {
					c, a := credit.New(own), &again{count: int64(own)}
					a.do(t, c, step{call: granted, amount: amount, drain: drain})
					a.do(t, c, step{call: heardOf, count: count})
				}
			}
		}
	}
}

// TestAskedChangesNothing: of two that do the same, the one that is also asked what is left answers all the same.
func TestAskedChangesNothing(t *testing.T) {
	r := rand.New(rand.NewSource(49))
	for range 1500 {
		count := anyCount(r, 0)
		c, d, a := credit.New(count), credit.New(count), &again{count: int64(count)}
		for range 20 {
			s := anyStep(r, a)
			b := *a
			for range r.Intn(4) {
				d.Left()
			}
			b.do(t, d, s)
			a.do(t, c, s)
		}
	}
}

// TestAnyBeside: several beside one another each answer as if they were alone.
func TestAnyBeside(t *testing.T) {
	r := rand.New(rand.NewSource(50))
	for range 400 {
		var cs []*credit.Credit
		var as []*again
		for range 2 + r.Intn(4) {
			count := anyCount(r, 0)
			cs, as = append(cs, credit.New(count)), append(as, &again{count: int64(count)})
		}
		for range 60 {
			i := r.Intn(len(cs))
			as[i].do(t, cs[i], anyStep(r, as[i]))
			for k, c := range cs {
				left(t, c, uint32(as[k].count), uint32(as[k].left), as[k].drain)
			}
		}
		for k := range cs {
			as[k].behind(t, cs[k])
		}
	}
}
