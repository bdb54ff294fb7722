package table_test

import (
	"math"
	"slices"
	"testing"

	"bellwether/api"
	"bellwether/table"
)

// Tables' greatest numbers: the least and the greatest that may be among them.
var mosts = []int{0, 1, 2, 3, 7, 8, 63, 64, 65, 255, 256, 1000, 65534, 65535}

// outside: numbers that a table of this greatest one does not have, those among them that a narrower number would tell as one of its own.
func outside(most int) []int {
	return []int{-1, -2, most + 1, most + 2, -most - 1, 65536, 65537, -65535, -65536, 1 << 17, math.MinInt32, math.MaxInt32, 1 << 32, 1<<32 + most, -1 << 32, math.MinInt, math.MinInt + 1, math.MinInt + most, math.MaxInt, math.MaxInt - most}
}

// fresh: a table none of whose numbers is held.
func fresh(t *testing.T, most int) *table.Table {
	t.Helper()
	x, e := table.New(most)
	if e != api.OK || x == nil {
		t.Fatalf("P13.1: New of %d: %v, %d", most, x, e)
	}
	return x
}

// holding: a table that holds these, in whatever order they are told.
func holding(t *testing.T, most int, l ...int) *table.Table {
	t.Helper()
	x := fresh(t, most)
	for _, n := range l {
		holds(t, x, n, true)
	}
	return x
}

// full: a table that holds all its numbers.
func full(t *testing.T, most int) *table.Table {
	t.Helper()
	return holding(t, most, upTo(most)...)
}

// upTo: the numbers from 0 to one, rising.
func upTo(n int) []int {
	l := make([]int, 0, n+1)
	for i := range n + 1 {
		l = append(l, i)
	}
	return l
}

// holds: Hold of a number answers this.
func holds(t *testing.T, x *table.Table, n int, want bool) {
	t.Helper()
	if x.Hold(n) != want {
		t.Fatalf("P13.2: Hold of %d of 0 to %d: not %v", n, x.Most(), want)
	}
}

// frees: Free of a number answers this.
func frees(t *testing.T, x *table.Table, n int, want bool) {
	t.Helper()
	if x.Free(n) != want {
		t.Fatalf("P13.2: Free of %d of 0 to %d: not %v", n, x.Most(), want)
	}
}

// has: Has of a number answers this.
func has(t *testing.T, x *table.Table, n int, want bool) {
	t.Helper()
	if x.Has(n) != want {
		t.Fatalf("P13.2: Has of %d of 0 to %d: not %v", n, x.Most(), want)
	}
}

// takes: Take gives these, one behind the other.
func takes(t *testing.T, x *table.Table, l ...int) {
	t.Helper()
	for i, want := range l {
		if n, is := x.Take(); n != want || !is {
			t.Fatalf("P13.2: Take, at %d, of 0 to %d: %d, %v, not %d, true", i, x.Most(), n, is, want)
		}
	}
}

// takesNone: Take has nothing to give, however often it is asked.
func takesNone(t *testing.T, x *table.Table) {
	t.Helper()
	for range 3 {
		if n, is := x.Take(); n != 0 || is {
			t.Fatalf("P13.2: Take, of 0 to %d, which are all held: %d, %v", x.Most(), n, is)
		}
	}
}

// holdsJust: a table of this greatest number holds just these (told rising), by each call that tells of it.
func holdsJust(t *testing.T, x *table.Table, most int, l ...int) {
	t.Helper()
	if x.Most() != most {
		t.Fatalf("P13.1: Most: %d, not %d", x.Most(), most)
	}
	if x.Count() != len(l) {
		t.Fatalf("P13.3: Count: %d, not %d (%.40v)", x.Count(), len(l), l)
	}
	if got := x.All(); !slices.Equal(got, l) {
		t.Fatalf("P13.3: All: %.40v, not %.40v", got, l)
	}
	is := make([]bool, most+1)
	for _, n := range l {
		is[n] = true
	}
	for n := range is {
		has(t, x, n, is[n])
	}
	for _, n := range outside(most) {
		if n < 0 || n > most {
			has(t, x, n, false)
		}
	}
}

// TestExamples: the chapter's own, answer for answer.
func TestExamples(t *testing.T) {
	x := fresh(t, 2)
	takes(t, x, 0)
	holds(t, x, 1, true)
	takes(t, x, 2)
	takesNone(t, x)
	frees(t, x, 1, true)
	frees(t, x, 1, false)
	takes(t, x, 1)
	if got := x.All(); !slices.Equal(got, []int{0, 1, 2}) {
		t.Errorf("P13.3: All: %v", got)
	}
}

// TestNew: numbers from 0 to one of 0 to 65535, none of which is held.
func TestNew(t *testing.T) {
	for _, most := range mosts {
		x := fresh(t, most)
		holdsJust(t, x, most)
		for _, n := range []int{0, most / 2, most} {
			frees(t, x, n, false)
		}
		holdsJust(t, x, most)
		takes(t, x, 0)
		holdsJust(t, x, most, 0)
	}
}

// TestNewWrong: no table of other numbers.
func TestNewWrong(t *testing.T) {
	for _, most := range []int{-1, -2, -3, -65535, -65536, 65536, 65537, 131071, math.MinInt32, math.MaxInt32, math.MaxUint32, 1 << 32, 1<<32 + 3, -1 << 32, math.MinInt, math.MinInt + 1, math.MinInt + 3, math.MaxInt - 1, math.MaxInt} {
		if x, e := table.New(most); e != api.ErrArg || x != nil {
			t.Errorf("P13.1: New of %d: %v, %d", most, x, e)
		}
	}
}

// TestOutside: what is none of its numbers is not held, can't be, and can't be freed, whatever is held.
func TestOutside(t *testing.T) {
	for _, most := range mosts {
		middle := []int{most / 2}
		for _, l := range [][]int{nil, middle, upTo(most)} {
			x := holding(t, most, l...)
			for _, n := range outside(most) {
				if n >= 0 && n <= most {
					continue
				}
				has(t, x, n, false)
				frees(t, x, n, false)
				holds(t, x, n, false)
				has(t, x, n, false)
				frees(t, x, n, false)
				holds(t, x, n, false)
			}
			holdsJust(t, x, most, l...)
		}
	}
}

// TestEdges: its least and its greatest number are its own.
func TestEdges(t *testing.T) {
	for _, most := range mosts {
		for _, n := range []int{0, most} {
			x := fresh(t, most)
			has(t, x, n, false)
			frees(t, x, n, false)
			holds(t, x, n, true)
			holdsJust(t, x, most, n)
			holds(t, x, n, false)
			holdsJust(t, x, most, n)
			frees(t, x, n, true)
			holdsJust(t, x, most)
			frees(t, x, n, false)
			holdsJust(t, x, most)
		}
	}
}

// TestHold: what is held already is not held once more, and is again behind its Free.
func TestHold(t *testing.T) {
	x := fresh(t, 7)
	var l []int
	for _, n := range []int{5, 0, 7, 3, 4, 1, 6, 2} {
		holds(t, x, n, true)
		l = append(l, n)
		slices.Sort(l)
		holdsJust(t, x, 7, l...)
		for _, k := range l {
			holds(t, x, k, false)
		}
		holdsJust(t, x, 7, l...)
	}
	takesNone(t, x)
	for _, n := range upTo(7) {
		for range 3 {
			frees(t, x, n, true)
			has(t, x, n, false)
			holds(t, x, n, true)
			holds(t, x, n, false)
			has(t, x, n, true)
		}
	}
	holdsJust(t, x, 7, upTo(7)...)
}

// TestHoldTaken: what Take gave is held as what was asked for, and the other way round.
func TestHoldTaken(t *testing.T) {
	x := fresh(t, 3)
	takes(t, x, 0)
	holds(t, x, 0, false)
	holds(t, x, 1, true)
	holds(t, x, 2, true)
	takes(t, x, 3)
	holds(t, x, 3, false)
	frees(t, x, 0, true)
	holds(t, x, 0, true)
	takesNone(t, x)
	frees(t, x, 2, true)
	takes(t, x, 2)
	holdsJust(t, x, 3, 0, 1, 2, 3)
}

// TestFree: what was never held, or not any more, can't be freed.
func TestFree(t *testing.T) {
	for _, most := range []int{0, 1, 7, 100, 65535} {
		x := fresh(t, most)
		for _, n := range []int{0, most / 2, most} {
			frees(t, x, n, false)
			holds(t, x, n, true)
			for _, k := range []int{n - 1, n + 1} {
				frees(t, x, k, false)
			}
			holdsJust(t, x, most, n)
			frees(t, x, n, true)
			frees(t, x, n, false)
			frees(t, x, n, false)
			holdsJust(t, x, most)
		}
		takes(t, x, 0)
		frees(t, x, 0, true)
		frees(t, x, 0, false)
		takes(t, x, 0)
		holdsJust(t, x, most, 0)
	}
}

// TestTakeRising: all numbers are given, the lowest first, and then none.
func TestTakeRising(t *testing.T) {
	for _, most := range mosts {
		x := fresh(t, most)
		for n := range most + 1 {
			has(t, x, n, false)
			takes(t, x, n)
			has(t, x, n, true)
			if x.Count() != n+1 {
				t.Fatalf("P13.3: Count: %d, not %d", x.Count(), n+1)
			}
		}
		takesNone(t, x)
		holdsJust(t, x, most, upTo(most)...)
	}
}

// TestTakeGaps: what is held is passed over, wherever it stands.
func TestTakeGaps(t *testing.T) {
	for _, c := range []struct {
		held, want []int
	}{
		{nil, []int{0, 1, 2, 3, 4, 5, 6, 7}},
		{[]int{0}, []int{1, 2, 3, 4, 5, 6, 7}},
		{[]int{1}, []int{0, 2, 3, 4, 5, 6, 7}},
		{[]int{7}, []int{0, 1, 2, 3, 4, 5, 6}},
		{[]int{0, 1, 2}, []int{3, 4, 5, 6, 7}},
		{[]int{2, 1, 0}, []int{3, 4, 5, 6, 7}},
		{[]int{0, 2, 4, 6}, []int{1, 3, 5, 7}},
		{[]int{7, 5, 3, 1}, []int{0, 2, 4, 6}},
		{[]int{3, 0, 6}, []int{1, 2, 4, 5, 7}},
		{[]int{1, 2, 3, 4, 5, 6, 7}, []int{0}},
		{[]int{0, 1, 2, 3, 4, 5, 6, 7}, nil},
	} {
		x := holding(t, 7, c.held...)
		l := slices.Sorted(slices.Values(c.held))
		for _, n := range c.want {
			takes(t, x, n)
			l = append(l, n)
			slices.Sort(l)
			holdsJust(t, x, 7, l...)
		}
		takesNone(t, x)
		holdsJust(t, x, 7, upTo(7)...)
	}
}

// TestTakeTheOnlyOne: where all but one are held, that one is given, wherever it stands, and whether the others were held or given.
func TestTakeTheOnlyOne(t *testing.T) {
	for _, most := range []int{0, 1, 2, 7, 100} {
		for n := range most + 1 {
			x := fresh(t, most)
			for k := most; k >= 0; k-- {
				if k != n {
					holds(t, x, k, true)
				}
			}
			takes(t, x, n)
			takesNone(t, x)

			x = full(t, most)
			takesNone(t, x)
			frees(t, x, n, true)
			takes(t, x, n)
			takesNone(t, x)
			holdsJust(t, x, most, upTo(most)...)
		}
	}
	for _, n := range []int{0, 1, 255, 256, 32767, 32768, 65534, 65535} {
		x := full(t, 65535)
		frees(t, x, n, true)
		has(t, x, n, false)
		takes(t, x, n)
		takesNone(t, x)
	}
}

// TestTakeAgain: what is freed is given again, the lowest first, in whatever order it was freed.
func TestTakeAgain(t *testing.T) {
	for _, l := range [][]int{{3}, {0, 7}, {7, 0}, {2, 3, 4}, {4, 3, 2}, {6, 1, 5, 0}, {0, 1, 2, 3, 4, 5, 6, 7}, {7, 6, 5, 4, 3, 2, 1, 0}, {4, 0, 7, 2, 6, 1, 5, 3}} {
		x := full(t, 7)
		for _, n := range l {
			frees(t, x, n, true)
		}
		takes(t, x, slices.Sorted(slices.Values(l))...)
		takesNone(t, x)
		holdsJust(t, x, 7, upTo(7)...)
	}
	x := fresh(t, 65535)
	takes(t, x, upTo(9)...)
	frees(t, x, 4, true)
	frees(t, x, 8, true)
	takes(t, x, 4)
	frees(t, x, 2, true)
	takes(t, x, 2, 8, 10, 11)
	frees(t, x, 11, true)
	frees(t, x, 0, true)
	frees(t, x, 10, true)
	holds(t, x, 10, true)
	takes(t, x, 0, 11, 12)
	for i := range 50 {
		frees(t, x, i%13, true)
		takes(t, x, i%13)
	}
	takes(t, x, 13)
	holdsJust(t, x, 65535, upTo(13)...)
}

// TestFreeBetween: a number that is freed, and then asked for by Hold, is not given.
func TestFreeBetween(t *testing.T) {
	x := fresh(t, 5)
	takes(t, x, 0, 1, 2, 3)
	frees(t, x, 1, true)
	frees(t, x, 2, true)
	holds(t, x, 1, true)
	takes(t, x, 2, 4)
	frees(t, x, 0, true)
	holds(t, x, 5, true)
	frees(t, x, 5, true)
	takes(t, x, 0, 5)
	takesNone(t, x)
}

// TestAllRising: whatever the order in which numbers were held, they are told rising, and so each time.
func TestAllRising(t *testing.T) {
	x := fresh(t, 65535)
	var l []int
	for i := range 3000 {
		n := i * 40503 % 65536
		holds(t, x, n, true)
		l = append(l, n)
	}
	slices.Sort(l)
	for range 20 {
		if got := x.All(); !slices.Equal(got, l) || x.Count() != 3000 {
			t.Fatalf("P13.3: All of %d: %.40v, not %.40v", x.Count(), got, l)
		}
	}
	for _, n := range []int{0, 65535, 10, 9, 100, 2} {
		x.Free(n)
		holds(t, x, n, true)
	}
	if got := x.All(); !slices.IsSorted(got) || len(got) != x.Count() {
		t.Errorf("P13.3: All of %d: %.40v", x.Count(), got)
	}
}

// TestAllIsNew: what a caller writes into what All told, or into the room behind it, changes nothing that is told later, there or elsewhere.
func TestAllIsNew(t *testing.T) {
	x := holding(t, 9, 1, 3, 4, 8)
	first, kept := x.All(), x.All()
	scribble := func(l []int) {
		l = l[:cap(l)]
		for i := range l {
			l[i] = 7
		}
	}
	scribble(first)
	holdsJust(t, x, 9, 1, 3, 4, 8)
	if !slices.Equal(kept, []int{1, 3, 4, 8}) {
		t.Errorf("P13.3: what All told became %v", kept)
	}
	scribble(x.All())
	takes(t, x, 0, 2, 5)
	frees(t, x, 3, true)
	if !slices.Equal(kept, []int{1, 3, 4, 8}) {
		t.Errorf("P13.3: what All told became %v", kept)
	}
	_ = append(kept[:2], 6, 7, 9)
	holdsJust(t, x, 9, 0, 1, 2, 4, 5, 8)
	scribble(fresh(t, 9).All())
	holdsJust(t, fresh(t, 9), 9)
}

// TestNoChange: what only asks changes nothing, however often it is asked.
func TestNoChange(t *testing.T) {
	x := holding(t, 6, 0, 1, 4)
	for range 5 {
		holdsJust(t, x, 6, 0, 1, 4)
	}
	takes(t, x, 2)
	for range 5 {
		holdsJust(t, x, 6, 0, 1, 2, 4)
	}
	takes(t, x, 3, 5, 6)
	takesNone(t, x)
	holdsJust(t, x, 6, upTo(6)...)
}

// TestTwo: one table knows nothing of another.
func TestTwo(t *testing.T) {
	a, b, c := fresh(t, 3), fresh(t, 3), fresh(t, 65535)
	takes(t, a, 0, 1)
	holds(t, b, 0, true)
	takes(t, c, 0, 1, 2, 3, 4)
	frees(t, b, 1, false)
	frees(t, a, 0, true)
	takes(t, b, 1, 2, 3)
	takesNone(t, b)
	holdsJust(t, a, 3, 1)
	holdsJust(t, b, 3, 0, 1, 2, 3)
	holdsJust(t, c, 65535, 0, 1, 2, 3, 4)
	frees(t, c, 0, true)
	frees(t, b, 3, true)
	takes(t, a, 0, 2, 3)
	takes(t, b, 3)
	takes(t, c, 0, 5)
	if _, e := table.New(-1); e != api.ErrArg {
		t.Errorf("P13.1: New of -1: %d", e)
	}
	holdsJust(t, fresh(t, 3), 3)
	holdsJust(t, a, 3, 0, 1, 2, 3)
}

// TestNil: of no table none is held, and none is its number.
func TestNil(t *testing.T) {
	var x *table.Table
	for range 2 {
		if n := x.Most(); n != -1 {
			t.Errorf("P13.1: Most: %d", n)
		}
		for _, n := range append(outside(3), 0, 1, 2, 3, 65535) {
			if x.Has(n) || x.Hold(n) || x.Has(n) || x.Free(n) {
				t.Errorf("P13.3: %d is a number of no table", n)
			}
		}
		if n, is := x.Take(); n != 0 || is {
			t.Errorf("P13.3: Take: %d, %v", n, is)
		}
		if x.Count() != 0 || len(x.All()) != 0 {
			t.Errorf("P13.3: Count: %d, All: %v", x.Count(), x.All())
		}
	}
}
