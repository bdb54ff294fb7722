package credit_test

import (
	"math/rand"
	"testing"

	"bellwether/credit"
)

// parcel is one thing on its way: a delivery, or a flow.
type parcel struct {
	delivery      bool
	count, amount uint32
	drain         bool
}

// ends are a sender and a receiver, with what is on its way from each to the other one.
type ends struct {
	sender, receiver *credit.Credit
	down, up         []parcel // to the receiver, to the sender
	begin            uint32   // the count at which both began
	sent, dry        int64    // how many deliveries went, and how many were let go
	came             int64
	most             int64 // how many the receiver has granted, from the beginning on
}

// newEnds: a sender and a receiver of a count.
func newEnds(count uint32) *ends {
	return &ends{sender: credit.New(count), receiver: credit.New(count), begin: count}
}

// gone: how many of what was granted are gone at one of them, one way or the other.
func (e *ends) gone(c *credit.Credit) int64 {
	count, _, _ := c.Left()
	return int64(count - e.begin)
}

// send: a delivery goes, if one may.
func (e *ends) send() bool {
	if !e.sender.Take() {
		return false
	}
	e.sent++
	e.down = append(e.down, parcel{delivery: true})
	return true
}

// say: a flow of the sender's goes.
func (e *ends) say() {
	count, amount, _ := e.sender.Left()
	e.down = append(e.down, parcel{count: count, amount: amount})
}

// dries: what is left at the sender is let go, and said, if that is asked for.
func (e *ends) dries() bool {
	n, is := e.sender.Dry()
	if is {
		e.dry += int64(n)
		e.say()
	}
	return is
}

// grant: the receiver grants so many more than it has left.
func (e *ends) grant(more uint32, drain bool) {
	_, amount, _ := e.receiver.Left()
	count := e.receiver.Grant(amount+more, drain)
	n, amount, d := e.receiver.Left()
	e.most = max(e.most, int64(n-e.begin)+int64(amount))
	e.up = append(e.up, parcel{count: count, amount: amount, drain: d})
}

// comesDown: what is first on its way to the receiver comes.
func (e *ends) comesDown(t *testing.T) bool {
	t.Helper()
	if len(e.down) == 0 {
		return false
	}
	p := e.down[0]
	e.down = e.down[1:]
	switch {
	case !p.delivery:
		e.receiver.Heard(p.count)
	case e.receiver.Take():
		e.came++
	default:
		t.Fatalf("P16.4: the delivery %d finds the receiver without credit", e.came)
	}
	return true
}

// comesUp: what is first on its way to the sender comes.
func (e *ends) comesUp() bool {
	if len(e.up) == 0 {
		return false
	}
	p := e.up[0]
	e.up = e.up[1:]
	e.sender.Told(p.count, p.amount, p.drain)
	return true
}

// fits: the sender has taken no more than the receiver has granted, and may not; and the receiver has left what may still come.
func (e *ends) fits(t *testing.T) {
	t.Helper()
	_, may, _ := e.sender.Left()
	_, takes, _ := e.receiver.Left()
	if e.gone(e.sender) != e.sent+e.dry {
		t.Fatalf("P16.2: %d went, %d were let go, the count is %d on", e.sent, e.dry, e.gone(e.sender))
	}
	if all := e.sent + e.dry + int64(may); all > e.most {
		t.Fatalf("P16.4: granted were %d, the sender takes %d", e.most, all)
	}
	if n := e.gone(e.sender) + int64(may); n > e.gone(e.receiver)+int64(takes) {
		t.Fatalf("P16.4: the sender goes as far as %d, the receiver but %d and %d", n, e.gone(e.receiver), takes)
	}
}

// ended: all that is on its way comes; then both have the same count, and as much left.
func (e *ends) ended(t *testing.T) {
	t.Helper()
	for e.comesDown(t) || e.comesUp() {
		e.fits(t)
	}
	n, a, _ := e.sender.Left()
	if m, b, _ := e.receiver.Left(); n != m || a != b {
		t.Fatalf("P16.4: where all has come the sender has %d and %d left, the receiver %d and %d", n, a, m, b)
	}
	if e.sent != e.came {
		t.Fatalf("P16.4: sent %d, came %d", e.sent, e.came)
	}
}

// drained: the receiver asks for a drain, the sender does it, the receiver hears of it: both have none left, and the same count, and drain is not set.
func (e *ends) drained(t *testing.T, more uint32, sends int) {
	t.Helper()
	e.ended(t)
	e.grant(more, true)
	e.comesUp()
	for range sends {
		e.send()
	}
	if !e.dries() {
		t.Fatal("P16.4: the sender knows of no drain")
	}
	e.fits(t)
	e.ended(t)
	n, a, d := e.sender.Left()
	if m, b, is := e.receiver.Left(); n != m || a != 0 || b != 0 || d || is {
		t.Fatalf("P16.4: behind a drain the sender has %d, %d, %v, the receiver %d, %d, %v", n, a, d, m, b, is)
	}
}

// anyMore: none now and then, few often, seldom many.
func anyMore(r *rand.Rand) uint32 {
	switch r.Intn(12) {
	case 0, 1:
		return 0
	case 2:
		return amounts[r.Intn(13)] // none so great that the sum goes round
	}
	return uint32(r.Intn(6))
}

// turn: one of them does something; a way is how each of the things is weighed against the others.
func (e *ends) turn(t *testing.T, r *rand.Rand, weighs [6]int) {
	t.Helper()
	n, all := 0, 0
	for _, w := range weighs {
		all += w
	}
	for k := r.Intn(all); k >= weighs[n]; n++ {
		k -= weighs[n]
	}
	switch n {
	case 0:
		e.send()
	case 1:
		e.comesDown(t)
	case 2:
		e.comesUp()
	case 3:
		e.grant(anyMore(r), r.Intn(4) == 0)
	case 4:
		e.dries()
	case 5:
		e.say()
	}
	e.fits(t)
}

// TestTwo: flows and deliveries are on their way for any time, in both directions, in their order: none comes without credit.
func TestTwo(t *testing.T) {
	t.Parallel()
	r := rand.New(rand.NewSource(51))
	weighs := [][6]int{{8, 6, 4, 3, 1, 1}, {30, 3, 6, 3, 1, 1}, {10, 1, 5, 3, 1, 0}, {10, 10, 1, 3, 1, 1}, {6, 10, 10, 3, 6, 1}, {10, 1, 1, 1, 1, 1}, {10, 6, 4, 3, 0, 0}}
	var sent, dry int64
	full, moved := 0, 0
	for i := range 4000 {
		e := newEnds([]uint32{0, 1, 9, 1 << 31, 1<<31 - 5, highest, highest - 4, highest - 999, r.Uint32()}[r.Intn(9)])
		for range 100 + r.Intn(300) {
			e.turn(t, r, weighs[i%len(weighs)])
			count, amount, drain := e.sender.Left()
			if len(e.up) > 0 && len(e.down) > 0 {
				moved++
			}
			if m, b, _ := e.receiver.Left(); !drain && amount == 0 && b > 0 && count != m {
				full++
			}
		}
		e.ended(t)
		sent, dry = sent+e.sent, dry+e.dry
		e.drained(t, anyMore(r), r.Intn(4))
		e.drained(t, 0, 0)
		e.drained(t, 2000, r.Intn(1200))
	}
	if sent < 50000 || dry < 10000 || full < 10000 || moved < 50000 {
		t.Errorf("P16.4: %d sent, %d let go, %d times all that is granted on its way, %d times flows that meet deliveries: not enough", sent, dry, full, moved)
	}
}

// TestTwoEach: all rows of six of seven things that the two may do.
func TestTwoEach(t *testing.T) {
	t.Parallel()
	const rows = 7 * 7 * 7 * 7 * 7 * 7
	for _, begin := range []uint32{5, highest - 1} {
		for row := range rows {
			e := newEnds(begin)
			e.grant(2, row%2 == 0)
			e.comesUp()
			for k, n := row, 0; n < 6; k, n = k/7, n+1 {
				e.does(t, k%7)
				e.fits(t)
			}
			e.ended(t)
		}
	}
}

// does: one of seven things.
func (e *ends) does(t *testing.T, n int) {
	t.Helper()
	switch n {
	case 0:
		e.send()
	case 1:
		e.comesDown(t)
	case 2:
		e.comesUp()
	case 3:
		e.grant(1, false)
	case 4:
		e.grant(0, true)
	case 5:
		e.dries()
	case 6:
		for e.comesDown(t) || e.comesUp() {
			e.fits(t)
		}
	}
}

// TestTwoDrained: whatever was granted and sent ahead, behind a drain that was heard both have none left, and the same count.
func TestTwoDrained(t *testing.T) {
	for _, begin := range counts {
		for _, more := range []uint32{0, 1, 2, 3, 999, 1000, 1001} {
			for _, sends := range []int{0, 1, 2, 998, 999, 1000, 1001} {
				e := newEnds(begin)
				e.drained(t, more, sends)
				e.drained(t, 0, 0)
				e.drained(t, 2, 1)
				if want := int64(mostOf(more)) + 2; e.sent+e.dry != want {
					t.Fatalf("P16.4: granted %d, but sent %d, let go %d", want, e.sent, e.dry)
				}
			}
		}
	}
}

// TestTwoMeet: a drain that the receiver asks for while deliveries are on their way, and a grant behind it while the sender's answer is.
func TestTwoMeet(t *testing.T) {
	for _, begin := range counts {
		e := newEnds(begin)
		e.grant(4, false)
		e.comesUp()
		e.send()
		e.grant(0, true)
		e.send()
		e.comesUp()
		left(t, e.sender, begin+2, 2, true)
		e.comesDown(t)
		left(t, e.receiver, begin+1, 3, true)
		e.dries()
		e.grant(2, false)
		left(t, e.receiver, begin+1, 5, false)
		e.comesDown(t)
		e.comesDown(t)
		left(t, e.receiver, begin+4, 2, false)
		e.comesUp()
		left(t, e.sender, begin+4, 2, false)
		e.ended(t)
		left(t, e.receiver, begin+4, 2, false)
	}
}

// TestTwoBeside: two links beside one another, each with both ends, fit each for itself.
func TestTwoBeside(t *testing.T) {
	r := rand.New(rand.NewSource(52))
	for range 300 {
		links := []*ends{newEnds(r.Uint32()), newEnds(r.Uint32())}
		for range 200 {
			links[r.Intn(2)].turn(t, r, [6]int{8, 6, 4, 3, 1, 1})
			links[0].fits(t)
			links[1].fits(t)
		}
		links[0].ended(t)
		links[1].fits(t)
		links[1].ended(t)
		links[0].drained(t, 3, 1)
		links[1].drained(t, 0, 0)
	}
}
