package table_test

import (
	"math"
	"math/rand"
	"slices"
	"testing"

	"bellwether/table"
)

// again is a table by the document's words: of each of its numbers, is it held?
type again []bool

// has: is a number one of its own, and held?
func (a again) has(n int) bool { return n >= 0 && n < len(a) && a[n] }

// hold: a number is held.
func (a again) hold(n int) bool {
	if n < 0 || n >= len(a) || a[n] {
		return false
	}
	a[n] = true
	return true
}

// free: a number is not held any more.
func (a again) free(n int) bool {
	if !a.has(n) {
		return false
	}
	a[n] = false
	return true
}

// take: the lowest that is not held is.
func (a again) take() (int, bool) {
	n := slices.Index(a, false)
	if n < 0 {
		return 0, false
	}
	a[n] = true
	return n, true
}

// all: those that are held.
func (a again) all() []int {
	var l []int
	for n, is := range a {
		if is {
			l = append(l, n)
		}
	}
	return l
}

// The calls that change something.
const (
	holdIt = iota
	freeIt
	takeOne
)

// step is one call, with its number.
type step struct {
	call, n int
}

// do: what a step answers.
func (a again) do(s step) (n int, is bool) {
	switch s.call {
	case holdIt:
		return 0, a.hold(s.n)
	case freeIt:
		return 0, a.free(s.n)
	}
	return a.take()
}

// done: what a table answers to a step.
func done(x *table.Table, s step) (n int, is bool) {
	switch s.call {
	case holdIt:
		return 0, x.Hold(s.n)
	case freeIt:
		return 0, x.Free(s.n)
	}
	return x.Take()
}

// does: a table answers to a step what the document says; that.
func does(t *testing.T, x *table.Table, a again, s step) (n int, is bool) {
	t.Helper()
	n, is = done(x, s)
	if want, wanted := a.do(s); n != want || is != wanted {
		t.Fatalf("P13.2: %+v of 0 to %d: %d, %v, not %d, %v", s, len(a)-1, n, is, want, wanted)
	}
	return n, is
}

// agrees: a table tells of itself what the document says; of which numbers it is asked is told by a list.
func agrees(t *testing.T, x *table.Table, a again, asked []int) {
	t.Helper()
	l := a.all()
	if x.Most() != len(a)-1 || x.Count() != len(l) || !slices.Equal(x.All(), l) {
		t.Fatalf("P13.3: Most %d, Count %d, All %.40v, not %d, %d, %.40v", x.Most(), x.Count(), x.All(), len(a)-1, len(l), l)
	}
	for _, n := range asked {
		if x.Has(n) != a.has(n) {
			t.Fatalf("P13.2: Has of %d of 0 to %d: not %v", n, len(a)-1, a.has(n))
		}
	}
}

// each: does something with each row of so many steps of a list.
func each(steps []step, many int, do func([]step)) {
	row := make([]step, many)
	var from func(int)
	from = func(i int) {
		if i == many {
			do(row)
			return
		}
		for _, s := range steps {
			row[i] = s
			from(i + 1)
		}
	}
	from(0)
}

// TestEachRow: each row of calls on a small table answers, call by call, what the document says.
func TestEachRow(t *testing.T) {
	for _, c := range []struct{ most, many int }{{0, 6}, {1, 5}, {2, 5}, {3, 4}} {
		steps := []step{{takeOne, 0}}
		var asked []int
		for n := -1; n <= c.most+1; n++ {
			steps = append(steps, step{holdIt, n}, step{freeIt, n})
			asked = append(asked, n)
		}
		each(steps, c.many, func(row []step) {
			x, a := fresh(t, c.most), make(again, c.most+1)
			for _, s := range row {
				does(t, x, a, s)
			}
			agrees(t, x, a, asked)
			for range c.most + 2 {
				does(t, x, a, step{call: takeOne})
			}
		})
	}
}

// anyNumber: one of a table's, the edges often, now and then one that is none.
func anyNumber(r *rand.Rand, most int) int {
	switch r.Intn(12) {
	case 0:
		l := outside(most)
		return l[r.Intn(len(l))]
	case 1:
		return []int{0, most, -1, most + 1, math.MinInt, math.MaxInt}[r.Intn(6)]
	}
	return r.Intn(most + 1)
}

// anyStep: a call of any kind, in such shares.
func anyStep(r *rand.Rand, most int, shares [3]int) step {
	call := takeOne
	if k := r.Intn(shares[0] + shares[1] + shares[2]); k < shares[0] {
		call = holdIt
	} else if k < shares[0]+shares[1] {
		call = freeIt
	}
	return step{call, anyNumber(r, most)}
}

// TestAnyDoings: in whatever order numbers are held, taken and freed, each call answers what the document says.
func TestAnyDoings(t *testing.T) {
	r := rand.New(rand.NewSource(31))
	seen := map[step]int{}
	for i := range 2000 {
		most := []int{0, 1, 3, 7, 15, 40, 100}[i%7]
		x, a := fresh(t, most), make(again, most+1)
		shares := [][3]int{{1, 1, 1}, {5, 2, 3}, {1, 4, 4}, {0, 1, 3}, {3, 1, 0}}[r.Intn(5)]
		for range 150 {
			s := anyStep(r, most, shares)
			_, is := does(t, x, a, s)
			kind := step{call: s.call}
			if is {
				kind.n = 1
			}
			seen[kind]++
			agrees(t, x, a, []int{s.n, anyNumber(r, most)})
		}
	}
	for _, call := range []int{holdIt, freeIt, takeOne} {
		for is := range 2 {
			if seen[step{call, is}] < 3000 {
				t.Errorf("only %d calls %d were answered with %d", seen[step{call, is}], call, is)
			}
		}
	}
}

// TestAnyDoingsOfTheGreatest: so it is with as many numbers as may be.
func TestAnyDoingsOfTheGreatest(t *testing.T) {
	r := rand.New(rand.NewSource(32))
	x, a := fresh(t, 65535), make(again, 65536)
	for _, n := range r.Perm(65536) {
		does(t, x, a, step{holdIt, n})
	}
	does(t, x, a, step{call: takeOne})
	agrees(t, x, a, []int{0, 65535, 65536})
	for round := range 6 {
		for range 500 {
			does(t, x, a, step{freeIt, r.Intn(65536)})
		}
		agrees(t, x, a, r.Perm(65536))
		for range 400 + 50*round {
			does(t, x, a, anyStep(r, 65535, [3]int{1, 1, 20}))
		}
		agrees(t, x, a, r.Perm(65536))
	}
}

// TestFalseChangesNothing: of two tables to which the same is done, the one that is also asked for what it can't do answers all the same.
func TestFalseChangesNothing(t *testing.T) {
	r := rand.New(rand.NewSource(33))
	for i := range 1500 {
		most := []int{0, 1, 2, 5, 20}[i%5]
		x, y, a := fresh(t, most), fresh(t, most), make(again, most+1)
		inVain := 0
		for range 80 {
			vain := anyStep(r, most, [3]int{3, 3, 1})
			if _, is := slices.Clone(a).do(vain); !is {
				does(t, y, a, vain)
				inVain++
			}
			s := anyStep(r, most, [3]int{2, 2, 3})
			n, is := does(t, x, a, s)
			if k, was := done(y, s); k != n || was != is {
				t.Fatalf("P13.2: %+v: %d, %v, and behind calls in vain %d, %v", s, n, is, k, was)
			}
			agrees(t, y, a, []int{s.n, vain.n})
		}
		if inVain == 0 {
			t.Errorf("P13.2: no call of 80 on a table of 0 to %d was in vain", most)
		}
	}
}

// TestNobodyElses: what Take gave is not given again till it is freed, and is no one's to hold.
func TestNobodyElses(t *testing.T) {
	r := rand.New(rand.NewSource(34))
	for range 300 {
		most := r.Intn(30)
		x := fresh(t, most)
		given := map[int]bool{}
		for range 200 {
			if r.Intn(3) == 0 {
				n := r.Intn(most + 1)
				if x.Free(n) != given[n] {
					t.Fatalf("P13.2: Free of %d, of which %v: not %v", n, given, given[n])
				}
				delete(given, n)
				continue
			}
			n, is := x.Take()
			switch {
			case is && (given[n] || n < 0 || n > most):
				t.Fatalf("P13.2: Take: %d, of 0 to %d, of which %v are given", n, most, given)
			case !is && len(given) <= most:
				t.Fatalf("P13.2: Take: none, and of 0 to %d just %v are given", most, given)
			case is:
				given[n] = true
			}
			for n := range given {
				if x.Hold(n) || !x.Has(n) {
					t.Fatalf("P13.2: %d was given, and is not held", n)
				}
			}
			if x.Count() != len(given) {
				t.Fatalf("P13.3: Count: %d, not %d", x.Count(), len(given))
			}
		}
	}
}

// TestAnyTwo: tables beside one another each answer as if they were alone.
func TestAnyTwo(t *testing.T) {
	r := rand.New(rand.NewSource(35))
	for range 200 {
		var xs []*table.Table
		var as []again
		for range 2 + r.Intn(4) {
			most := r.Intn(12)
			xs = append(xs, fresh(t, most))
			as = append(as, make(again, most+1))
		}
		for range 200 {
			i := r.Intn(len(xs))
			does(t, xs[i], as[i], anyStep(r, len(as[i])-1, [3]int{2, 2, 3}))
		}
		for i := range xs {
			agrees(t, xs[i], as[i], upTo(12))
		}
	}
}
