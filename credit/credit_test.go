package credit_test

import (
	"math"
	"testing"

	"bellwether/credit"
)

// The highest number of 32 bits.
const highest = math.MaxUint32

// Counts: the lowest and the highest, what is next to them and to the middle, and what is a whole credit ahead of where others end.
var counts = []uint32{0, 1, 2, 3, 999, 1000, 1001, 65535, 65536, 1<<31 - 1001, 1<<31 - 1, 1 << 31, 1<<31 + 1, 1<<32 - 1001, 1<<32 - 1000, 1<<32 - 999, highest - 2, highest - 1, highest}

// Credits: none, the most that may be left and what is next to it, and far more.
var amounts = []uint32{0, 1, 2, 3, 255, 256, 998, 999, 1000, 1001, 1002, 2000, 65535, 65536, 65536 + 4, 1<<31 - 1, 1 << 31, 1<<31 + 1, highest - 1, highest}

// Drain, not set and set.
var drains = []bool{false, true}

// mostOf: so many, but MaxCredit at most, by the document's words.
func mostOf(n uint32) uint32 {
	if n > 1000 {
		return 1000
	}
	return n
}

// left: Left tells these, and turns nothing.
func left(t *testing.T, c *credit.Credit, count, credit uint32, drain bool) {
	t.Helper()
	for range 2 {
		if n, m, d := c.Left(); n != count || m != credit || d != drain {
			t.Fatalf("P16.1: Left: %d, %d, %v, not %d, %d, %v", n, m, d, count, credit, drain)
		}
	}
}

// takes: so often Take answers yes, one less is left each time, count is one more, and drain is as it was.
func takes(t *testing.T, c *credit.Credit, times int) {
	t.Helper()
	for i := range times {
		n, m, d := c.Left()
		if !c.Take() {
			t.Fatalf("P16.2: Take, %d of %d: no", i, times)
		}
		left(t, c, n+1, m-1, d)
	}
}

// takesNone: Take answers no, and turns nothing.
func takesNone(t *testing.T, c *credit.Credit) {
	t.Helper()
	n, m, d := c.Left()
	for range 2 {
		if c.Take() {
			t.Fatalf("P16.2: Take, with %d left: yes", m)
		}
		left(t, c, n, m, d)
	}
}

// dries: Dry answers so many, and yes; then none is left, count is so many more, and drain is not set.
func dries(t *testing.T, c *credit.Credit, want uint32) {
	t.Helper()
	count, _, _ := c.Left()
	if n, is := c.Dry(); n != want || !is {
		t.Fatalf("P16.2: Dry: %d, %v, not %d, true", n, is, want)
	}
	left(t, c, count+want, 0, false)
	takesNone(t, c)
}

// driesNot: Dry answers no, and turns nothing.
func driesNot(t *testing.T, c *credit.Credit) {
	t.Helper()
	count, m, d := c.Left()
	for range 2 {
		if n, is := c.Dry(); n != 0 || is {
			t.Fatalf("P16.2: Dry, where drain is not set: %d, %v", n, is)
		}
		left(t, c, count, m, d)
	}
}

// grants: Grant answers the count, and so many are left then.
func grants(t *testing.T, c *credit.Credit, amount uint32, drain bool, count uint32) {
	t.Helper()
	if n := c.Grant(amount, drain); n != count {
		t.Fatalf("P16.3: Grant(%d, %v): %d, not %d", amount, drain, n, count)
	}
	left(t, c, count, mostOf(amount), drain)
}

// TestExamples: the chapter's own, answer for answer.
func TestExamples(t *testing.T) {
	c := credit.New(5)
	takesNone(t, c)
	c.Told(5, 2, false)
	takes(t, c, 2)
	takesNone(t, c)
	left(t, c, 7, 0, false)
	c.Told(5, 4, true)
	left(t, c, 7, 2, true)
	dries(t, c, 2)
	left(t, c, 9, 0, false)

	c = credit.New(5)
	grants(t, c, 4, true, 5)
	takes(t, c, 2)
	left(t, c, 7, 2, true)
	c.Heard(9)
	left(t, c, 9, 0, false)
}

// TestMost: it is the document's number.
func TestMost(t *testing.T) {
	if credit.MaxCredit != 1000 {
		t.Error(credit.MaxCredit)
	}
}

// TestNew: of that count, with none left, and drain not set.
func TestNew(t *testing.T) {
	for _, count := range counts {
		c := credit.New(count)
		left(t, c, count, 0, false)
		takesNone(t, c)
		driesNot(t, c)
		// The own count is no news, and none is beyond it by none.
		c.Heard(count)
		c.Heard(count + 1)
		left(t, c, count, 0, false)
		grants(t, c, 1, false, count)
		takes(t, c, 1)
		left(t, c, count+1, 0, false)
	}
}

// held: ones of that count that have so much left and that drain, led there by what either end does.
func held(t *testing.T, count, amount uint32, drain bool) []*credit.Credit {
	t.Helper()
	told, grant, taken, heard := credit.New(count), credit.New(count), credit.New(count-1), credit.New(count-1)
	told.Told(count, amount, drain)
	grant.Grant(amount, drain)
	all := []*credit.Credit{told, grant}
	if amount < 1000 {
		taken.Told(count-1, amount+1, drain)
		takes(t, taken, 1)
		all = append(all, taken)
	}
	if amount < 1000 && !(drain && amount == 0) {
		heard.Grant(amount+1, drain)
		heard.Heard(count)
		all = append(all, heard)
	}
	for _, c := range all {
		left(t, c, count, amount, drain)
	}
	return all
}

// Credits that may be left.
var fits = []uint32{0, 1, 2, 3, 256, 999, 1000}

// each: does something with each one that may be, made anew for each.
func each(t *testing.T, do func(c *credit.Credit, count, amount uint32, drain bool)) {
	t.Helper()
	for _, count := range counts {
		for _, amount := range fits {
			for _, drain := range drains {
				for _, c := range held(t, count, amount, drain) {
					do(c, count, amount, drain)
				}
			}
		}
	}
}

// TestTake: as many as are left, and no more, whether drain is set or not.
func TestTake(t *testing.T) {
	each(t, func(c *credit.Credit, count, amount uint32, drain bool) {
		takes(t, c, int(amount))
		takesNone(t, c)
		left(t, c, count+amount, 0, drain)
	})
}

// TestTakeRound: behind the highest count stands 0.
func TestTakeRound(t *testing.T) {
	for _, c := range held(t, highest-1, 4, false) {
		takes(t, c, 1)
		left(t, c, highest, 3, false)
		takes(t, c, 1)
		left(t, c, 0, 2, false)
		takes(t, c, 2)
		left(t, c, 2, 0, false)
		takesNone(t, c)
	}
}

// TestDry: all that is left goes, if drain is set; once.
func TestDry(t *testing.T) {
	each(t, func(c *credit.Credit, count, amount uint32, drain bool) {
		if drain {
			dries(t, c, amount)
			left(t, c, count+amount, 0, false)
		}
		driesNot(t, c)
	})
	each(t, func(c *credit.Credit, count, amount uint32, drain bool) {
		takes(t, c, int(amount/2))
		if drain {
			dries(t, c, amount-amount/2)
			left(t, c, count+amount, 0, false)
		}
		driesNot(t, c)
	})
}

// TestDryAgain: once more behind it, if that is asked for once more.
func TestDryAgain(t *testing.T) {
	for _, count := range counts {
		c := credit.New(count)
		c.Told(count, 3, true)
		dries(t, c, 3)
		driesNot(t, c)
		// The receiver has not seen it yet.
		c.Told(count, 3, true)
		left(t, c, count+3, 0, true)
		dries(t, c, 0)
		driesNot(t, c)
		c.Told(count, 5, false)
		driesNot(t, c)
		c.Told(count+3, 1000, true)
		dries(t, c, 1000)
		driesNot(t, c)
		left(t, c, count+1003, 0, false)
	}
}

// TestDryRound: behind the highest count stands 0.
func TestDryRound(t *testing.T) {
	for _, from := range []uint32{highest - 999, highest - 998, highest - 2, highest - 1, highest} {
		for _, amount := range []uint32{1, 2, 3, 1000} {
			for _, c := range held(t, from, amount, true) {
				dries(t, c, amount)
				left(t, c, uint32((uint64(from)+uint64(amount))%(1<<32)), 0, false)
			}
		}
	}
}

// told: one of that count, whatever it had, has so much left behind what a flow says, and that drain; and its count is as it was.
func told(t *testing.T, own, count, amount, want uint32) {
	t.Helper()
	for _, had := range []uint32{0, 1, 7, 1000} {
		for _, drained := range drains {
			for _, drain := range drains {
				for _, c := range held(t, own, had, drained) {
					c.Told(count, amount, drain)
					if _, n, _ := c.Left(); n != want {
						t.Fatalf("P16.2: of %d, Told(%d, %d): %d left, not %d", own, count, amount, n, want)
					}
					left(t, c, own, want, drain)
					if want > 0 {
						takes(t, c, 1)
						left(t, c, own+1, want-1, drain)
					} else {
						takesNone(t, c)
					}
				}
			}
		}
	}
}

// TestToldOwn: a flow that has seen all leaves what it says, MaxCredit at most; and none from half of all numbers on.
func TestToldOwn(t *testing.T) {
	for _, own := range counts {
		for _, amount := range amounts {
			want := mostOf(amount)
			if amount >= 1<<31 {
				want = 0
			}
			told(t, own, own, amount, want)
		}
		told(t, own, own, 0, 0)
		told(t, own, own, 1, 1)
		told(t, own, own, 1000, 1000)
		told(t, own, own, 1001, 1000)
		told(t, own, own, 1<<31-1, 1000)
		told(t, own, own, 1<<31, 0)
		told(t, own, own, highest, 0)
	}
}

// TestToldBehind: a flow that has not seen all that went leaves so much less, but not below none.
func TestToldBehind(t *testing.T) {
	for _, own := range counts {
		told(t, own, own-1, 0, 0)
		told(t, own, own-1, 1, 0)
		told(t, own, own-1, 2, 1)
		told(t, own, own-3, 1, 0)
		told(t, own, own-3, 2, 0)
		told(t, own, own-3, 3, 0)
		told(t, own, own-3, 4, 1)
		told(t, own, own-3, 1002, 999)
		told(t, own, own-3, 1003, 1000)
		told(t, own, own-3, 1004, 1000)
		told(t, own, own-3, 1<<31+2, 1000)
		told(t, own, own-3, 1<<31+3, 0)
		told(t, own, own-3, highest, 0)
		told(t, own, own-1000, 1000, 0)
		told(t, own, own-1000, 999, 0)
		told(t, own, own-1000, 1001, 1)
		told(t, own, own-1<<31, 1<<31-1, 0)
		told(t, own, own-1<<31, 1<<31, 0)
		told(t, own, own-1<<31, 1<<31+1, 1)
		told(t, own, own-1<<31, highest, 1000)
	}
}

// TestToldAhead: a count beyond the own one is not held against it, but what is left is none from half of all numbers on.
func TestToldAhead(t *testing.T) {
	for _, own := range counts {
		told(t, own, own+1, 0, 1)
		told(t, own, own+1, 1, 2)
		told(t, own, own+3, 996, 999)
		told(t, own, own+3, 997, 1000)
		told(t, own, own+3, 998, 1000)
		told(t, own, own+1000, 0, 1000)
		told(t, own, own+1001, 0, 1000)
		told(t, own, own+3, 1<<31-4, 1000)
		told(t, own, own+3, 1<<31-3, 0)
		told(t, own, own+3, 1<<31-2, 0)
		told(t, own, own+3, highest-2, 0)
		told(t, own, own+3, highest-1, 1)
		told(t, own, own+3, highest, 2)
		told(t, own, own+1<<31-1, 0, 1000)
		told(t, own, own+1<<31, 0, 0)
		told(t, own, own+1<<31+1, 0, 0)
		told(t, own, own+1<<30, 1<<30-1, 1000)
		told(t, own, own+1<<30, 1<<30, 0)
	}
}

// TestToldRound: the sum goes round.
func TestToldRound(t *testing.T) {
	told(t, highest, highest, 1, 1)
	told(t, highest, highest, 2, 2)
	told(t, highest, highest-1, 3, 2)
	told(t, highest-1, highest-1, 1000, 1000)
	told(t, 0, highest, 0, 0)
	told(t, 0, highest, 1, 0)
	told(t, 0, highest, 2, 1)
	told(t, 0, highest, 1001, 1000)
	told(t, 0, highest, 1002, 1000)
	told(t, 3, highest-1, 4, 0)
	told(t, 3, highest-1, 5, 0)
	told(t, 3, highest-1, 6, 1)
	told(t, highest, 1, 2, 4)
	told(t, highest, 1, 0, 2)
	told(t, highest-1, highest, 0, 1)
	told(t, 0, highest, highest, 0)
	told(t, highest, highest, highest, 0)
	told(t, 1<<31, 1<<31, 1<<31, 0)
	told(t, highest, 1<<31, 1<<31, 1)
	told(t, 4, 1<<31, 1<<31+5, 1)
}

// TestGrant: so many are left as are granted, MaxCredit at most, fewer than there were as well; the count is as it was.
func TestGrant(t *testing.T) {
	each(t, func(c *credit.Credit, count, amount uint32, drain bool) {
		for _, n := range amounts {
			for _, d := range drains {
				grants(t, c, n, d, count)
				grants(t, c, n, !d, count)
			}
		}
	})
	for n := range uint32(2100) {
		c := credit.New(6)
		grants(t, c, n, n%2 == 0, 6)
		takes(t, c, int(mostOf(n)))
		takesNone(t, c)
		grants(t, c, n, n%3 == 0, 6+mostOf(n))
	}
	c := credit.New(highest)
	grants(t, c, highest, false, highest)
	takes(t, c, 1)
	grants(t, c, 1, false, 0)
}

// TestHeard: a count that is beyond the own one by at most what is left is the own one then, and so much less is left; any other one is let go. Drain goes just where none is left then.
func TestHeard(t *testing.T) {
	each(t, func(_ *credit.Credit, count, amount uint32, drain bool) {
		for _, n := range []uint32{0, 1, 2, 3, amount / 2, amount - 1, amount, amount + 1, amount + 2, 999, 1000, 1001, 65536, 1<<31 - 1, 1 << 31, 1<<31 + 1, 1<<31 + amount, highest - 1, highest} {
			for _, c := range held(t, count, amount, drain) {
				c.Heard(count + n)
				if n > amount {
					left(t, c, count, amount, drain)
					continue
				}
				left(t, c, count+n, amount-n, drain && amount > n)
			}
		}
	})
}

// TestHeardDrain: what of it is heard one behind the other.
func TestHeardDrain(t *testing.T) {
	for _, count := range counts {
		c := credit.New(count)
		grants(t, c, 4, true, count)
		c.Heard(count)
		left(t, c, count, 4, true)
		c.Heard(count + 1)
		left(t, c, count+1, 3, true)
		c.Heard(count)
		left(t, c, count+1, 3, true)
		takes(t, c, 1)
		c.Heard(count + 5)
		left(t, c, count+2, 2, true)
		c.Heard(count + 4)
		left(t, c, count+4, 0, false)
		c.Heard(count + 4)
		left(t, c, count+4, 0, false)
		c.Heard(count + 5)
		left(t, c, count+4, 0, false)
		grants(t, c, 1, true, count+4)
		left(t, c, count+4, 1, true)

		// All came ahead of it, so that the own count is heard; till then drain is set.
		c = credit.New(count)
		grants(t, c, 2, true, count)
		takes(t, c, 2)
		left(t, c, count+2, 0, true)
		for _, n := range []uint32{1, 3, 4, 1 << 31, 1<<31 + 2, highest, 1000} {
			// From the own count on: by how many it is beyond it.
			c.Heard(count + 2 + n)
			left(t, c, count+2, 0, true)
		}
		c.Heard(count + 2)
		left(t, c, count+2, 0, false)

		// None was granted, but drained.
		c = credit.New(count)
		grants(t, c, 0, true, count)
		c.Heard(count)
		left(t, c, count, 0, false)

		// Where drain is not set it does not become so.
		c = credit.New(count)
		grants(t, c, 2, false, count)
		c.Heard(count + 1)
		left(t, c, count+1, 1, false)
		c.Heard(count + 2)
		left(t, c, count+2, 0, false)
	}
}

// TestHeardRound: behind the highest count stands 0.
func TestHeardRound(t *testing.T) {
	for _, c := range held(t, highest-1, 5, true) {
		c.Heard(highest)
		left(t, c, highest, 4, true)
		c.Heard(0)
		left(t, c, 0, 3, true)
		c.Heard(highest)
		left(t, c, 0, 3, true)
		c.Heard(4)
		left(t, c, 0, 3, true)
		c.Heard(3)
		left(t, c, 3, 0, false)
	}
}

// TestBeside: two beside one another, which know nothing of each other.
func TestBeside(t *testing.T) {
	a, b := credit.New(5), credit.New(5)
	a.Told(5, 2, true)
	left(t, b, 5, 0, false)
	takesNone(t, b)
	driesNot(t, b)
	grants(t, b, 9, false, 5)
	left(t, a, 5, 2, true)
	takes(t, a, 1)
	left(t, b, 5, 9, false)
	takes(t, b, 3)
	left(t, a, 6, 1, true)
	b.Heard(10)
	left(t, a, 6, 1, true)
	dries(t, a, 1)
	left(t, b, 10, 4, false)
	grants(t, b, 1, true, 10)
	left(t, a, 7, 0, false)
	driesNot(t, a)
	dries(t, b, 1)
}

// TestNil: of no credit nothing is told but no and noughts, whatever it is told.
func TestNil(t *testing.T) {
	var c *credit.Credit
	none := func() {
		t.Helper()
		left(t, c, 0, 0, false)
		takesNone(t, c)
		driesNot(t, c)
	}
	none()
	for _, count := range counts {
		for _, amount := range amounts {
			for _, drain := range drains {
				c.Told(count, amount, drain)
				none()
				c.Heard(count)
				none()
				if n := c.Grant(amount, drain); n != 0 {
					t.Fatalf("P16.3: no credit grants: %d", n)
				}
				none()
			}
		}
	}
	if c != nil {
		t.Error("P16.3: no credit became one")
	}
}
