package serial_test

import (
	"math"
	"math/big"
	"slices"
	"testing"

	"bellwether/serial"
)

const (
	all  = 1 << 32
	half = 1 << 31
	last = math.MaxUint32
)

// someNumbers: those at the edges of each number of bits, at both ends and around the half, and a few between.
func someNumbers() []uint32 {
	l := []uint32{0, 1, 2, 3, 5, 0x01020304, 0x3fffffff, 0xdeadbeef, last - 2, last - 1, last}
	for bits := 7; bits < 32; bits++ {
		x := uint32(1) << bits
		l = append(l, x-1, x, x+1, -x, ^x)
	}
	return l
}

// someSteps: as many steps as an edge, both ways, and rounds of them.
func someSteps() []int {
	l := []int{0, 1, 2, 3, 255, 256, half - 1, half, half + 1, last - 1, last, all, all + 1, all + 5, 3*all - 7, all*half - 1, all * half / 2,
		math.MaxInt, math.MaxInt - 1, math.MinInt, math.MinInt + 1, math.MaxInt - last, math.MinInt + last}
	for _, n := range l[:len(l)-6] {
		l = append(l, -n)
	}
	return l
}

// stepsApart follows the document's words: how far one must go on, in numbers that do not go round.
func stepsApart(from, to uint32) int64 {
	if to >= from {
		return int64(to) - int64(from)
	}
	return all - int64(from) + int64(to)
}

func TestLess(t *testing.T) {
	for _, c := range []struct {
		a, b uint32
		want bool
	}{
		{last, 0, true},
		{0, last, false},
		{0, half - 1, true},
		{half - 1, 0, false},
		{0, half, false},
		{half, 0, false},
		{0, half + 1, false},
		{half + 1, 0, true},
		{0, 1, true},
		{1, 0, false},
		{0, 0, false},
		{last, last, false},
		{half, half, false},
		{last, half - 2, true},
		{last, half - 1, false},
		{half - 1, last, false},
		{half, last, true},
		{0xfffffff0, 16, true},
		{16, 0xfffffff0, false},
		{7, 7 + half, false},
		{7 + half, 7, false},
		{7, 6 + half, true},
	} {
		if serial.Less(c.a, c.b) != c.want {
			t.Errorf("P3.1: Less(%d, %d): %v", c.a, c.b, !c.want)
		}
	}
}

func TestLessByItsSteps(t *testing.T) {
	for _, a := range someNumbers() {
		for _, b := range someNumbers() {
			n := stepsApart(a, b)
			want := n >= 1 && n < half
			if serial.Less(a, b) != want {
				t.Errorf("P3.1: Less(%d, %d), %d steps apart: %v", a, b, n, !want)
			}
			if one := serial.Less(a, b) != serial.Less(b, a); one != (n != 0 && n != half) {
				t.Errorf("P3.1: of %d and %d, %d steps apart, just one is less: %v", a, b, n, one)
			}
		}
	}
}

// TestLessIsAnOrder: of numbers that stand less than half of all apart, wherever the first one stands.
func TestLessIsAnOrder(t *testing.T) {
	apart := []int{0, 1, 2, 3, 1 << 8, 1 << 16, 1<<30 - 1, 1 << 30, 1<<30 + 1, half - 2, half - 1}
	for _, from := range someNumbers() {
		var l []uint32
		for _, n := range apart {
			l = append(l, serial.Add(from, n))
		}
		for i, a := range l {
			for j, b := range l {
				if serial.Less(a, b) != (i < j) {
					t.Errorf("P3.1: from %d on: Less(%d, %d): %v", from, a, b, i >= j)
				}
			}
		}
		mixed := append(slices.Clone(l[5:]), l[:5]...)
		slices.SortFunc(mixed, func(a, b uint32) int {
			switch {
			case serial.Less(a, b):
				return -1
			case serial.Less(b, a):
				return 1
			}
			return 0
		})
		if !slices.Equal(mixed, l) {
			t.Errorf("P3.1: from %d on, ordered by Less: %d", from, mixed)
		}
	}
}

func TestAdd(t *testing.T) {
	for _, c := range []struct {
		a    uint32
		n    int
		want uint32
	}{
		{1, -3, last - 1},
		{0, all + 5, 5},
		{0, 0, 0},
		{7, 0, 7},
		{0, 1, 1},
		{last, 1, 0},
		{last, 2, 1},
		{0, -1, last},
		{5, -5, 0},
		{5, -6, last},
		{0, half, half},
		{0, -half, half},
		{half, half, 0},
		{half, -half, 0},
		{9, all, 9},
		{9, -all, 9},
		{9, 3*all + 1, 10},
		{9, -3*all - 1, 8},
		{0, last, last},
		{0, -last, 1},
		{0, math.MaxInt, last},
		{1, math.MaxInt, 0},
		{0, math.MinInt, 0},
		{3, math.MinInt, 3},
		{3, math.MinInt + 1, 4},
	} {
		if x := serial.Add(c.a, c.n); x != c.want {
			t.Errorf("P3.2: Add(%d, %d): %d, not %d", c.a, c.n, x, c.want)
		}
	}
}

func TestAddOneByOne(t *testing.T) {
	for _, a := range someNumbers() {
		on, back := a, a
		for n := range 300 {
			if x := serial.Add(a, n); x != on {
				t.Fatalf("P3.2: Add(%d, %d): %d, not %d", a, n, x, on)
			}
			if x := serial.Add(a, -n); x != back {
				t.Fatalf("P3.2: Add(%d, %d): %d, not %d", a, -n, x, back)
			}
			on, back = next(on), ahead(back)
		}
	}
}

// next: the number behind one.
func next(x uint32) uint32 {
	if x == last {
		return 0
	}
	return x + 1
}

// ahead: the number ahead of one.
func ahead(x uint32) uint32 {
	if x == 0 {
		return last
	}
	return x - 1
}

func TestAddOfAnySteps(t *testing.T) {
	for _, a := range someNumbers() {
		for _, n := range someSteps() {
			sum := new(big.Int).Add(big.NewInt(int64(a)), big.NewInt(int64(n)))
			want := uint32(sum.Mod(sum, big.NewInt(all)).Uint64())
			if x := serial.Add(a, n); x != want {
				t.Errorf("P3.2: Add(%d, %d): %d, not %d", a, n, x, want)
			}
			if n == math.MinInt {
				continue
			}
			if x := serial.Add(serial.Add(a, n), -n); x != a {
				t.Errorf("P3.2: %d and %d on, and back: %d", a, n, x)
			}
		}
	}
}

func TestSpan(t *testing.T) {
	for _, c := range []struct {
		from, to uint32
		want     int
		is       bool
	}{
		{last, 1, 3, true},
		{5, 5, 1, true},
		{1, 0, 0, false},
		{0, 0, 1, true},
		{last, last, 1, true},
		{0, 1, 2, true},
		{last, 0, 2, true},
		{0, last, 0, false},
		{0, half - 2, half - 1, true},
		{0, half - 1, half, true},
		{0, half, 0, false},
		{0, half + 1, 0, false},
		{half, 0, 0, false},
		{half, last, half, true},
		{half + 1, 0, half, true},
		{last, half - 2, half, true},
		{last, half - 1, 0, false},
		{10, 20, 11, true},
		{20, 10, 0, false},
	} {
		if n, is := serial.Span(c.from, c.to); n != c.want || is != c.is {
			t.Errorf("P3.3: Span(%d, %d): %d, %v, not %d, %v", c.from, c.to, n, is, c.want, c.is)
		}
	}
}

func TestSpanByItsSteps(t *testing.T) {
	for _, from := range someNumbers() {
		for _, to := range someNumbers() {
			want, is := int(stepsApart(from, to))+1, true
			if want > half {
				want, is = 0, false
			}
			if n, has := serial.Span(from, to); n != want || has != is {
				t.Errorf("P3.3: Span(%d, %d): %d, %v, not %d, %v", from, to, n, has, want, is)
			}
		}
	}
}

// TestSpanCounts: the numbers are gone through one by one.
func TestSpanCounts(t *testing.T) {
	for _, from := range []uint32{0, 1, 100, half - 100, half, last - 100, last - 1, last} {
		to := from
		for n := 1; n <= 300; n++ {
			if m, is := serial.Span(from, to); m != n || !is {
				t.Fatalf("P3.3: Span(%d, %d): %d, %v, not %d", from, to, m, is, n)
			}
			to = next(to)
		}
	}
}

func TestIn(t *testing.T) {
	for _, c := range []struct {
		x, from uint32
		n       int
		want    bool
	}{
		{0, last, 2, true},
		{1, last, 2, false},
		{last, last, 2, true},
		{last - 1, last, 2, false},
		{5, 5, 1, true},
		{6, 5, 1, false},
		{4, 5, 1, false},
		{5, 5, 0, false},
		{5, 5, -1, false},
		{5, 5, -half, false},
		{5, 5, -all, false},
		{5, 5, -all + 1, false},
		{5, 5, math.MinInt, false},
		{5, 5, math.MinInt + 1, false},
		{half - 1, 0, half, true},
		{half, 0, half, false},
		{half, 0, half + 1, true},
		{half + 1, 0, half + 1, false},
		{last - 1, 0, last, true},
		{last, 0, last, false},
		{last, 0, all, true},
		{6, 7, last, false},
		{6, 7, all, true},
		{6, 7, all + 1, true},
		{6, 7, 2 * all, true},
		{6, 7, math.MaxInt, true},
		{7, 7, all, true},
		{0, 0, all, true},
		{half, 0, 3 * all, true},
	} {
		if serial.In(c.x, c.from, c.n) != c.want {
			t.Errorf("P3.4: In(%d, %d, %d): %v", c.x, c.from, c.n, !c.want)
		}
	}
}

func TestInByItsSteps(t *testing.T) {
	for _, from := range someNumbers() {
		for _, n := range someSteps() {
			for _, x := range append(someNumbers(), serial.Add(from, n), serial.Add(from, n-1), ahead(from)) {
				want := n >= 1 && stepsApart(from, x) <= int64(n-1)
				if serial.In(x, from, n) != want {
					t.Errorf("P3.4: In(%d, %d, %d): %v", x, from, n, !want)
				}
			}
		}
	}
}

// TestInOneByOne: the n numbers are gone through one by one, and no other one near them is among them.
func TestInOneByOne(t *testing.T) {
	for _, from := range []uint32{0, 3, half - 5, half, last - 5, last} {
		for n := range 12 {
			var among []uint32
			for x, i := from, 0; i < n; x, i = next(x), i+1 {
				among = append(among, x)
			}
			x := serial.Add(from, -20)
			for range 50 {
				if want := slices.Contains(among, x); serial.In(x, from, n) != want {
					t.Errorf("P3.4: In(%d, %d, %d): %v", x, from, n, !want)
				}
				x = next(x)
			}
		}
	}
}

// TestSpanIsIn: the last number of a span stands among so many, and not among one fewer.
func TestSpanIsIn(t *testing.T) {
	for _, from := range someNumbers() {
		for _, to := range someNumbers() {
			n, is := serial.Span(from, to)
			if is != (from == to || serial.Less(from, to)) {
				t.Errorf("P3.3: Span(%d, %d): %v", from, to, is)
			}
			if is && (!serial.In(to, from, n) || serial.In(to, from, n-1) || serial.Add(from, n-1) != to) {
				t.Errorf("P3.4: %d is not the last one of %d from %d on", to, n, from)
			}
		}
	}
}

// TestMovedTogether: if each number is some steps on, nothing else is answered.
func TestMovedTogether(t *testing.T) {
	for _, by := range []int{1, -1, half - 1, half, -half, last, all, all + 7, math.MaxInt, math.MinInt} {
		for _, a := range someNumbers() {
			for _, b := range someNumbers() {
				c, d := serial.Add(a, by), serial.Add(b, by)
				n, is := serial.Span(a, b)
				m, has := serial.Span(c, d)
				if serial.Less(a, b) != serial.Less(c, d) || n != m || is != has || serial.In(a, b, half) != serial.In(c, d, half) {
					t.Errorf("P3.1, P3.3, P3.4: %d and %d, and %d on: %d and %d", a, b, by, c, d)
				}
			}
		}
	}
}
