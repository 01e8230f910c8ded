package tests

import (
	"math"
	"math/big"
	"testing"

	"loop.example/g00115/impl"
)

// Promise 4: sums are the same from both sides; a finite number less itself is 0; a sum of whole numbers that are small enough is just.

const (
	one           = 0x3ff0000000000000
	twoTo970      = 0x7c90000000000000
	minusZero     = signOfNumber
	minusInfinite = signOfNumber + impl.Infinite
)

func otherSign(x uint64) uint64 { return x ^ signOfNumber }

// checkSum holds Add in both orders and with both signs turned, and Sub, against one sum of two numbers that are not 0.
func checkSum(t *testing.T, a uint64, b uint64, want uint64) {
	t.Helper()
	turned := otherSign(want)
	if want == 0 {
		turned = want
	}
	for _, c := range []struct {
		how       string
		got, want uint64
	}{
		{"a + b", impl.Add(a, b), want},
		{"b + a", impl.Add(b, a), want},
		{"a - (b with the other sign)", impl.Sub(a, otherSign(b)), want},
		{"b - (a with the other sign)", impl.Sub(b, otherSign(a)), want},
		{"both with the other sign", impl.Add(otherSign(a), otherSign(b)), turned},
		{"a with the other sign, less b", impl.Sub(otherSign(a), b), turned},
	} {
		if c.got != c.want {
			t.Fatalf("a %#x, b %#x: %s = %#x, want %#x", a, b, c.how, c.got, c.want)
		}
	}
}

func TestNegateTurnsTheSign(t *testing.T) {
	for _, c := range []struct{ x, want uint64 }{
		{0, minusZero}, {minusZero, 0}, {1, signOfNumber + 1}, {signOfNumber + 1, 1}, {impl.FromInt(1), impl.FromInt(-1)}, {impl.FromInt(-7), impl.FromInt(7)},
		{greatestFinite, signOfNumber + greatestFinite}, {signOfNumber + greatestFinite, greatestFinite}, {impl.Infinite, minusInfinite}, {minusInfinite, impl.Infinite},
	} {
		if got := impl.Negate(c.x); got != c.want {
			t.Errorf("Negate(%#x) = %#x, want %#x", c.x, got, c.want)
		}
	}
	for _, x := range append(finiteAtEdges(), bothInfinite()...) {
		p, q := impl.PartsOfNumber(x), impl.PartsOfNumber(impl.Negate(x))
		if q.Below == p.Below || q.Kind != p.Kind || q.Mant != p.Mant || q.Exp != p.Exp {
			t.Fatalf("the parts of %#x are %+v, negated %+v", x, p, q)
		}
		if got := impl.Negate(impl.Negate(x)); got != x {
			t.Fatalf("%#x, negated twice, is %#x", x, got)
		}
	}
}

func TestNegateOfNaNIsNaN(t *testing.T) {
	for _, none := range numbersThatAreNone() {
		if got := impl.Negate(none); got != impl.NaN {
			t.Fatalf("Negate(%#x) = %#x", none, got)
		}
	}
}

func TestSumsOfNumbersThatAreKnown(t *testing.T) {
	for _, c := range []struct{ a, b, want uint64 }{
		{impl.FromInt(1), impl.FromInt(2), impl.FromInt(3)},
		{impl.FromInt(2), impl.FromInt(-5), impl.FromInt(-3)},
		{impl.FromInt(1000000000), impl.FromInt(-1), impl.FromInt(999999999)},
		// 0.1 and 0.2, 0.1 and 0.7, 1.5 and 2.25, 0.3 less 0.1.
		{0x3fb999999999999a, 0x3fc999999999999a, 0x3fd3333333333334},
		{0x3fb999999999999a, 0x3fe6666666666666, 0x3fe9999999999999},
		{0x3ff8000000000000, 0x4002000000000000, 0x400e000000000000},
		{0x3fd3333333333333, 0xbfb999999999999a, 0x3fc9999999999999},
	} {
		checkSum(t, c.a, c.b, c.want)
	}
}

func TestSumsOfZeros(t *testing.T) {
	for _, c := range []struct{ a, b, sum, difference uint64 }{
		{0, 0, 0, 0}, {0, minusZero, 0, 0}, {minusZero, 0, 0, minusZero}, {minusZero, minusZero, minusZero, 0},
	} {
		if got := impl.Add(c.a, c.b); got != c.sum {
			t.Errorf("Add(%#x, %#x) = %#x, want %#x", c.a, c.b, got, c.sum)
		}
		if got := impl.Sub(c.a, c.b); got != c.difference {
			t.Errorf("Sub(%#x, %#x) = %#x, want %#x", c.a, c.b, got, c.difference)
		}
	}
	for _, x := range append(finiteAtEdges(), bothInfinite()...) {
		if x == 0 || x == minusZero {
			continue
		}
		for _, zero := range []uint64{0, minusZero} {
			if impl.Add(x, zero) != x || impl.Add(zero, x) != x || impl.Sub(x, zero) != x || impl.Sub(zero, x) != otherSign(x) {
				t.Fatalf("%#x with the zero %#x: %#x, %#x, %#x, %#x", x, zero, impl.Add(x, zero), impl.Add(zero, x), impl.Sub(x, zero), impl.Sub(zero, x))
			}
		}
	}
}

func TestFiniteNumberLessItselfIsZero(t *testing.T) {
	for _, x := range append(finiteAtEdges(), numbersBySteps(20000)...) {
		if x%signOfNumber >= impl.Infinite {
			continue
		}
		if got := impl.Sub(x, x); got != 0 {
			t.Fatalf("%#x less itself is %#x", x, got)
		}
		if x != minusZero && impl.Add(x, otherSign(x)) != 0 || impl.Add(impl.Negate(x), x) != 0 {
			t.Fatalf("%#x and its negated one are %#x", x, impl.Add(x, otherSign(x)))
		}
	}
}

// Of whole numbers that are told just, the sum is what is nearest to the whole sum: just that, up to 2^53.
func TestSumsOfWholeNumbers(t *testing.T) {
	all := wholeNumbersToldJust()
	for _, n := range all {
		a := impl.FromInt(n)
		for _, m := range all {
			b := impl.FromInt(m)
			sum, difference := impl.Add(a, b), impl.Sub(a, b)
			if sum != impl.FromInt(n+m) {
				t.Fatalf("%d and %d are %#x, not %#x", n, m, sum, impl.FromInt(n+m))
			}
			if difference != impl.FromInt(n-m) {
				t.Fatalf("%d less %d is %#x, not %#x", n, m, difference, impl.FromInt(n-m))
			}
			if n+m >= -justWhole && n+m <= justWhole && (impl.Sub(sum, b) != a || impl.Sub(sum, a) != b) {
				t.Fatalf("the sum of %d and %d, less one of them, is not the other", n, m)
			}
		}
	}
}

func TestSumsAreTheSameFromBothSides(t *testing.T) {
	all := numbersOfEachKind()
	for i, a := range all {
		for _, b := range all[i:] {
			if impl.Add(a, b) != impl.Add(b, a) {
				t.Fatalf("%#x and %#x: %#x, from the other side %#x", a, b, impl.Add(a, b), impl.Add(b, a))
			}
			if impl.Sub(a, b) != impl.Add(a, impl.Negate(b)) {
				t.Fatalf("%#x less %#x is %#x", a, b, impl.Sub(a, b))
			}
			d, e := impl.Sub(a, b), impl.Sub(b, a)
			if d != e && d != impl.Negate(e) {
				t.Fatalf("%#x less %#x is %#x, from the other side %#x", a, b, d, e)
			}
		}
	}
}

// wholeUnits: a finite number in units of the least one above 0, with its sign.
func wholeUnits(x uint64) *big.Int {
	n := leastUnits(x % signOfNumber)
	if x >= signOfNumber {
		n.Neg(n)
	}
	return n
}

// checkNearest holds the sum against its neighbours: twice what is summed lies between twice the middles to both sides.
func checkNearest(t *testing.T, a uint64, b uint64) {
	t.Helper()
	got := impl.Add(a, b)
	exact := new(big.Int).Add(wholeUnits(a), wholeUnits(b))
	if exact.Sign() == 0 {
		want := uint64(0)
		if a == minusZero && b == minusZero {
			want = minusZero
		}
		if got != want {
			t.Fatalf("Add(%#x, %#x) = %#x, want %#x", a, b, got, want)
		}
		return
	}
	size := got % signOfNumber
	if size == 0 || size > impl.Infinite || (got >= signOfNumber) != (exact.Sign() < 0) {
		t.Fatalf("Add(%#x, %#x) = %#x", a, b, got)
	}
	twice := exact.Lsh(exact.Abs(exact), 1)
	under := new(big.Int).Add(leastUnits(size-1), leastUnits(size))
	odd := size%2 == 1
	if c := twice.Cmp(under); c < 0 || c == 0 && odd {
		t.Fatalf("Add(%#x, %#x) = %#x: the one below is nearer, or as near and even", a, b, got)
	}
	if size == impl.Infinite {
		return
	}
	over := new(big.Int).Add(leastUnits(size), leastUnits(size+1))
	if c := twice.Cmp(over); c > 0 || c == 0 && odd {
		t.Fatalf("Add(%#x, %#x) = %#x: the one above is nearer, or as near and even", a, b, got)
	}
}

func TestSumIsNearest(t *testing.T) {
	all := finiteAtEdges()
	for _, a := range all {
		for _, b := range all {
			checkNearest(t, a, b)
		}
	}
}

// numbersBySteps goes through the numbers by a rule, all sorts of bits among them.
func numbersBySteps(count int) []uint64 {
	out := make([]uint64, count)
	x := uint64(88172645463325252)
	for i := range out {
		x ^= x << 13
		x ^= x >> 7
		x ^= x << 17
		out[i] = x
	}
	return out
}

// Each number is summed with one whose e is near its own, so that seldom all bits of the lesser one are lost.
func TestSumsOfNumbersNearEachOther(t *testing.T) {
	xs := numbersBySteps(120000)
	for i := 0; i+1 < len(xs); i++ {
		a, b := xs[i], xs[i+1]
		e := int(a/fValues%2048) + int(b/fValues%2048)%121 - 60
		b = b/signOfNumber*signOfNumber + uint64(min(max(e, 0), 2046))*fValues + b%fValues
		if a%signOfNumber >= impl.Infinite {
			continue
		}
		checkNearest(t, a, b)
		want := math.Float64bits(math.Float64frombits(a) + math.Float64frombits(b))
		if got := impl.Add(a, b); got != want {
			t.Fatalf("Add(%#x, %#x) = %#x, want %#x", a, b, got, want)
		}
	}
}

// Every distance at which bits of the lesser one fall off, with what stands at the edges of a tie.
func TestSumsOfNumbersApart(t *testing.T) {
	fs := []uint64{0, 1, 2, 3, 1 << 40, fValues/2 - 1, fValues / 2, fValues/2 + 1, fValues - 3, fValues - 2, fValues - 1}
	for _, e := range []uint64{1100, 2046} {
		for apart := range uint64(1100) {
			if apart > 130 && apart%97 != 0 {
				continue
			}
			for _, f := range fs {
				for _, g := range fs {
					a, b := e*fValues+f, (e-apart)*fValues+g
					checkNearest(t, a, b)
					checkNearest(t, a, otherSign(b))
					checkNearest(t, otherSign(b), a)
				}
			}
		}
	}
}

func TestLesserOneIsLostOrTurnsTheTie(t *testing.T) {
	const (
		next   = one + 1
		half   = 970 * fValues // 2^-53, half of the step above 1
		fourth = 969 * fValues // 2^-54, half of the step below 1
	)
	for _, c := range []struct{ a, b, want uint64 }{
		{one, half, one}, {one, half - 1, one}, {one, half + 1, next}, {one, half + fValues/2, next}, {one, half + fValues, next},
		{next, half, one + 2}, {next, half - 1, next}, {next, half + 1, one + 2}, {one + 2, half, one + 2}, {one + 3, half, one + 4}, {one + fValues - 1, half, one + fValues},
		{one, otherSign(half), one - 1}, {one, otherSign(half + 1), one - 1}, {one, otherSign(half - 1), one - 1}, {one, otherSign(half + fValues/2), one - 2}, {one, otherSign(half + fValues/2 - 1), one - 1}, {one, otherSign(half + fValues/2 + 1), one - 2},
		{one, otherSign(fourth), one}, {one, otherSign(fourth - 1), one}, {one, otherSign(fourth + 1), one - 1},
		{next, otherSign(half), one}, {next, otherSign(half - 1), next}, {next, otherSign(half + 1), one}, {one + 2, otherSign(half), one + 2}, {one + 2, otherSign(half - 1), one + 2}, {one + 2, otherSign(half + 1), next}, {one + 3, otherSign(half), one + 2},
		{one, 1, one}, {one, signOfNumber + 1, one}, {one, leastWithE1, one}, {one, otherSign(leastWithE1), one}, {next, leastWithE1 - 1, next}, {next, otherSign(leastWithE1 - 1), next},
		{impl.FromInt(justWhole), impl.FromInt(1), impl.FromInt(justWhole)}, {impl.FromInt(justWhole), 0x3ff0000000000001, impl.FromInt(justWhole + 2)}, {impl.FromInt(justWhole + 2), impl.FromInt(1), impl.FromInt(justWhole + 4)}, {impl.FromInt(justWhole + 2), impl.FromInt(-1), impl.FromInt(justWhole)},
	} {
		checkSum(t, c.a, c.b, c.want)
	}
	for _, lesser := range []uint64{1, leastWithE1 - 1, leastWithE1, 50 * fValues} {
		for _, e := range []uint64{1023, 2000, 2046} {
			for _, f := range []uint64{0, 1, 2, fValues - 1} {
				checkSum(t, e*fValues+f, lesser, e*fValues+f)
				checkSum(t, e*fValues+f, otherSign(lesser), e*fValues+f)
			}
		}
	}
}

// Up to 2^53 times the least one the numbers stand a least one apart: as the bits are summed, so are the numbers.
func TestSumsOfTheLeastNumbers(t *testing.T) {
	sizes := []uint64{1, 2, 3, 4, 5, leastWithE1/2 - 1, leastWithE1 / 2, leastWithE1/2 + 1, leastWithE1 - 3, leastWithE1 - 2, leastWithE1 - 1, leastWithE1, leastWithE1 + 1, leastWithE1 + 2, leastWithE1 + leastWithE1/2, 2*leastWithE1 - 2, 2*leastWithE1 - 1, 2 * leastWithE1}
	for bit := range 53 {
		sizes = append(sizes, 1<<bit)
	}
	for _, a := range sizes {
		for _, b := range sizes {
			if a+b <= 2*leastWithE1 {
				checkSum(t, a, b, a+b)
			}
			switch {
			case a > b:
				checkSum(t, a, otherSign(b), a-b)
			case a < b:
				checkSum(t, a, otherSign(b), otherSign(b-a))
			default:
				checkSum(t, a, otherSign(b), 0)
			}
		}
	}
	// The step is twice the least one from 2 * leastWithE1 on.
	checkSum(t, 2*leastWithE1, 1, 2*leastWithE1)
	checkSum(t, 2*leastWithE1+1, 1, 2*leastWithE1+2)
	checkSum(t, 2*leastWithE1, 2, 2*leastWithE1+1)
	checkSum(t, 2*leastWithE1-1, 2, 2*leastWithE1)
	checkSum(t, 2*leastWithE1+1, signOfNumber+1, 2*leastWithE1)
}

func TestSumsAtTheGreatestNumber(t *testing.T) {
	const g = greatestFinite
	for _, c := range []struct{ a, b, want uint64 }{
		{g, 1, g}, {g, one, g}, {g, twoTo970 - 1, g}, {g, twoTo970, impl.Infinite}, {g, twoTo970 + 1, impl.Infinite}, {g, twoTo970 + fValues, impl.Infinite}, {g, g, impl.Infinite},
		{g - 1, twoTo970, g - 1}, {g - 1, twoTo970 + 1, g}, {g - 1, twoTo970 + fValues, g}, {g - 1, twoTo970 + fValues + fValues/2, impl.Infinite}, {g - 1, twoTo970 + fValues + fValues/2 - 1, g},
		{g, otherSign(twoTo970), g - 1}, {g, otherSign(twoTo970 - 1), g}, {g, otherSign(twoTo970 + 1), g - 1}, {g, otherSign(g), 0}, {g, otherSign(g - 1), twoTo970 + fValues},
		{2046 * fValues, 2046 * fValues, impl.Infinite}, {2046 * fValues, 2046*fValues - 1, impl.Infinite}, {2046 * fValues, 2046*fValues - 2, g}, {2046*fValues - 1, 2046*fValues - 1, g},
	} {
		checkSum(t, c.a, c.b, c.want)
	}
}

// A number less its neighbour is the step between them, just.
func TestDifferencesOfNeighbours(t *testing.T) {
	for _, size := range sizesAtEdges() {
		for away := uint64(1); away <= 5; away++ {
			greater := size + away
			if greater >= impl.Infinite {
				continue
			}
			units := new(big.Int).Sub(leastUnits(greater), leastUnits(size))
			want := sizeOfUnits(t, units)
			if got := impl.Sub(greater, size); got != want {
				t.Fatalf("%#x less %#x is %#x, not %#x", greater, size, got, want)
			}
			if got := impl.Sub(size, greater); got != otherSign(want) {
				t.Fatalf("%#x less %#x is %#x, not %#x", size, greater, got, otherSign(want))
			}
			if got := impl.Add(size, want); got != greater {
				t.Fatalf("%#x and %#x are %#x, not %#x", size, want, got, greater)
			}
		}
	}
}

// sizeOfUnits: the number that is just so many least ones; its highest 53 bits are all that it has.
func sizeOfUnits(t *testing.T, units *big.Int) uint64 {
	t.Helper()
	e := max(units.BitLen()-53, 0)
	mant := new(big.Int).Rsh(units, uint(e)).Uint64()
	size := uint64(e)*fValues + mant
	if leastUnits(size).Cmp(units) != 0 {
		t.Fatalf("no number is just %s least ones", units)
	}
	return size
}

func TestTiesGoToTheEvenOne(t *testing.T) {
	for e := uint64(55); e <= 2046; e += 7 {
		half := (e - 53) * fValues
		for _, f := range []uint64{2, 3, 4, 5, 1000, 1001, fValues - 4, fValues - 3, fValues - 2} {
			x := e*fValues + f
			up, down := x, x
			if f%2 == 1 {
				up, down = x+1, x-1
			}
			checkSum(t, x, half, up)
			checkSum(t, x, otherSign(half), down)
			checkSum(t, x, half+1, x+1)
			checkSum(t, x, half-1, x)
			checkSum(t, x, otherSign(half+1), x-1)
			checkSum(t, x, otherSign(half-1), x)
		}
	}
}

func TestSumWithNaNIsNaN(t *testing.T) {
	for _, none := range numbersThatAreNone() {
		for _, x := range numbersOfEachKind() {
			for _, got := range []uint64{impl.Add(none, x), impl.Add(x, none), impl.Sub(none, x), impl.Sub(x, none)} {
				if got != impl.NaN {
					t.Fatalf("with %#x and %#x: %#x", none, x, got)
				}
			}
		}
	}
}

func TestSumsWithWhatIsInfinite(t *testing.T) {
	for _, x := range bothInfinite() {
		other := otherSign(x)
		if impl.Add(x, x) != x || impl.Sub(x, other) != x {
			t.Errorf("%#x with a like sign: %#x, %#x", x, impl.Add(x, x), impl.Sub(x, other))
		}
		if impl.Add(x, other) != impl.NaN || impl.Sub(x, x) != impl.NaN {
			t.Errorf("%#x with an unlike sign: %#x, %#x", x, impl.Add(x, other), impl.Sub(x, x))
		}
		for _, y := range finiteAtEdges() {
			if impl.Add(x, y) != x || impl.Add(y, x) != x || impl.Sub(x, y) != x || impl.Sub(y, x) != other {
				t.Fatalf("%#x and the finite %#x: %#x, %#x, %#x, %#x", x, y, impl.Add(x, y), impl.Add(y, x), impl.Sub(x, y), impl.Sub(y, x))
			}
		}
	}
}
