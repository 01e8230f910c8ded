package tests

import (
	"math"
	"math/big"
	"testing"

	"loop.example/g00115/impl"
)

// Promise 5: products are the same from both sides; a quotient of a product of small whole numbers is just;
// a rest is no more than what it is of, and less than what is taken, without signs; a root's square is near.

const leastPlaces = 1074

// checkProduct holds Mul, of sizes that are not NaN, against one size, in both orders and with all signs.
func checkProduct(t *testing.T, a uint64, b uint64, want uint64) {
	t.Helper()
	for _, c := range []struct{ a, b, want uint64 }{
		{a, b, want}, {otherSign(a), b, otherSign(want)}, {a, otherSign(b), otherSign(want)}, {otherSign(a), otherSign(b), want},
	} {
		if got := impl.Mul(c.a, c.b); got != c.want {
			t.Fatalf("Mul(%#x, %#x) = %#x, want %#x", c.a, c.b, got, c.want)
		}
		if got := impl.Mul(c.b, c.a); got != c.want {
			t.Fatalf("Mul(%#x, %#x) = %#x, want %#x", c.b, c.a, got, c.want)
		}
	}
}

func checkQuotient(t *testing.T, a uint64, b uint64, want uint64) {
	t.Helper()
	for _, c := range []struct{ a, b, want uint64 }{
		{a, b, want}, {otherSign(a), b, otherSign(want)}, {a, otherSign(b), otherSign(want)}, {otherSign(a), otherSign(b), want},
	} {
		if got := impl.Div(c.a, c.b); got != c.want {
			t.Fatalf("Div(%#x, %#x) = %#x, want %#x", c.a, c.b, got, c.want)
		}
	}
}

func checkRest(t *testing.T, a uint64, b uint64, want uint64) {
	t.Helper()
	for _, c := range []struct{ a, b, want uint64 }{
		{a, b, want}, {a, otherSign(b), want}, {otherSign(a), b, otherSign(want)}, {otherSign(a), otherSign(b), otherSign(want)},
	} {
		if got := impl.Rem(c.a, c.b); got != c.want {
			t.Fatalf("Rem(%#x, %#x) = %#x, want %#x", c.a, c.b, got, c.want)
		}
	}
}

func wordsAtEdges() []uint64 {
	out := []uint64{0, 1, 2, 3, 10, 0x123456789abcdef, 0xfedcba9876543210, 0xffffffff00000000, 0xffffffff00000001, 0xfffffffeffffffff, math.MaxUint64, math.MaxUint64 - 1}
	for bit := range 64 {
		out = append(out, 1<<bit, 1<<bit-1, 1<<bit+1)
	}
	return out
}

func TestWideThatIsKnown(t *testing.T) {
	for _, c := range []struct{ a, b, upper, lower uint64 }{
		{0, 0, 0, 0}, {0, math.MaxUint64, 0, 0}, {1, math.MaxUint64, 0, math.MaxUint64}, {2, math.MaxUint64, 1, math.MaxUint64 - 1}, {7, 6, 0, 42},
		{1 << 32, 1 << 32, 1, 0}, {1<<32 - 1, 1<<32 + 1, 0, math.MaxUint64}, {1 << 63, 1 << 63, 1 << 62, 0}, {1 << 63, 2, 1, 0}, {1 << 63, 3, 1, 1 << 63},
		{math.MaxUint64, math.MaxUint64, math.MaxUint64 - 1, 1}, {math.MaxUint64, 1 << 32, 1<<32 - 1, 0xffffffff00000000}, {0xffffffff00000001, 0xffffffff, 0xfffffffe, 0x1ffffffff},
	} {
		for range 2 {
			if upper, lower := impl.Wide(c.a, c.b); upper != c.upper || lower != c.lower {
				t.Errorf("Wide(%#x, %#x) = %#x, %#x, want %#x, %#x", c.a, c.b, upper, lower, c.upper, c.lower)
			}
			c.a, c.b = c.b, c.a
		}
	}
}

func checkWide(t *testing.T, a uint64, b uint64) {
	t.Helper()
	upper, lower := impl.Wide(a, b)
	got := new(big.Int).SetUint64(upper)
	got.Add(got.Lsh(got, 64), new(big.Int).SetUint64(lower))
	want := new(big.Int).SetUint64(a)
	want.Mul(want, new(big.Int).SetUint64(b))
	if got.Cmp(want) != 0 {
		t.Fatalf("Wide(%#x, %#x) is %s, not %s", a, b, got, want)
	}
}

func TestWideIsTheWholeProduct(t *testing.T) {
	all := wordsAtEdges()
	for _, a := range all {
		for _, b := range all {
			checkWide(t, a, b)
		}
	}
	xs := numbersBySteps(50000)
	for i := 1; i < len(xs); i++ {
		checkWide(t, xs[i-1], xs[i])
		checkWide(t, xs[i-1]>>(i%64), xs[i])
	}
}

// As one adds up by bits: a, moved up, for each bit of b.
func TestWideIsTheSumOfMovedOnes(t *testing.T) {
	all := wordsAtEdges()
	for _, a := range all {
		for _, b := range all {
			upper, lower := uint64(0), uint64(0)
			for bit := 63; bit >= 0; bit-- {
				upper = upper<<1 + lower>>63
				lower <<= 1
				if b>>bit%2 == 1 {
					lower += a
					if lower < a {
						upper++
					}
				}
			}
			if gotUpper, gotLower := impl.Wide(a, b); gotUpper != upper || gotLower != lower {
				t.Fatalf("Wide(%#x, %#x) = %#x, %#x, want %#x, %#x", a, b, gotUpper, gotLower, upper, lower)
			}
		}
	}
}

func TestProductsThatAreKnown(t *testing.T) {
	for _, c := range []struct{ a, b, want uint64 }{
		{impl.FromInt(3), impl.FromInt(7), impl.FromInt(21)},
		{impl.FromInt(1000000000), impl.FromInt(1000000), impl.FromInt(1000000000000000)},
		// 0.1 and 3, 0.1 and 0.1, 1.5 and 2.5, the least step above 1 and itself.
		{0x3fb999999999999a, impl.FromInt(3), 0x3fd3333333333334},
		{0x3fb999999999999a, 0x3fb999999999999a, 0x3f847ae147ae147c},
		{0x3ff8000000000000, 0x4004000000000000, 0x400e000000000000},
		{one + 1, one + 1, one + 2},
		{one - 1, one - 1, one - 2}, {one - 1, one + 1, one}, {one + 1, one - 2, one}, {one + 1, one - 3, one - 1},
		{impl.FromInt(justWhole - 1), impl.FromInt(justWhole - 1), 0x468ffffffffffffe}, {impl.FromInt(justWhole - 1), impl.FromInt(justWhole + 2), 0x4690000000000000},
	} {
		checkProduct(t, c.a, c.b, c.want)
	}
}

func TestQuotientsThatAreKnown(t *testing.T) {
	for _, c := range []struct{ a, b, want uint64 }{
		{impl.FromInt(21), impl.FromInt(7), impl.FromInt(3)}, {impl.FromInt(1), impl.FromInt(2), 0x3fe0000000000000}, {impl.FromInt(1), impl.FromInt(3), 0x3fd5555555555555}, {impl.FromInt(2), impl.FromInt(3), 0x3fe5555555555555},
		{impl.FromInt(1), impl.FromInt(10), 0x3fb999999999999a}, {impl.FromInt(10), impl.FromInt(3), 0x400aaaaaaaaaaaab}, {0x3fd3333333333333, 0x3fb999999999999a, 0x4007ffffffffffff},
		{one, one + 1, one - 2}, {one, one - 1, one + 1}, {one + 1, one - 1, one + 2}, {one - 1, one + 1, one - 3}, {one, 2, impl.Infinite}, {2, 1, impl.FromInt(2)}, {1, 2, 0x3fe0000000000000}, {1, 3, 0x3fd5555555555555},
	} {
		checkQuotient(t, c.a, c.b, c.want)
	}
}

func TestRestsThatAreKnown(t *testing.T) {
	for _, c := range []struct{ a, b, want uint64 }{
		{impl.FromInt(7), impl.FromInt(3), impl.FromInt(1)}, {impl.FromInt(6), impl.FromInt(3), 0}, {impl.FromInt(3), impl.FromInt(7), impl.FromInt(3)}, {impl.FromInt(1), impl.FromInt(1), 0},
		// 5.5 and 2, 5.5 and 2.5, 1 and 0.1, 0.3 and 0.1, 2^53 and 3.
		{0x4016000000000000, impl.FromInt(2), 0x3ff8000000000000}, {0x4016000000000000, 0x4004000000000000, 0x3fe0000000000000}, {one, 0x3fb999999999999a, 0x3fb9999999999996}, {0x3fd3333333333333, 0x3fb999999999999a, 0x3fb9999999999998}, {impl.FromInt(justWhole), impl.FromInt(3), impl.FromInt(2)},
		// 2^1023 and 3, 5, 7, 10; the greatest one and 10; 2^1023 and 3 least ones.
		{2046 * fValues, impl.FromInt(3), impl.FromInt(2)}, {2046 * fValues, impl.FromInt(5), impl.FromInt(3)}, {2046 * fValues, impl.FromInt(7), impl.FromInt(1)}, {2046 * fValues, impl.FromInt(10), impl.FromInt(8)}, {greatestFinite, impl.FromInt(10), impl.FromInt(8)}, {2046 * fValues, 3, 2},
		{7, 4, 3}, {8, 4, 0}, {3, 7, 3}, {leastWithE1, 3, 1}, {leastWithE1, leastWithE1 - 1, 1}, {leastWithE1 - 1, leastWithE1, leastWithE1 - 1}, {2 * leastWithE1, 3, 2},
	} {
		checkRest(t, c.a, c.b, c.want)
	}
}

func TestRootsThatAreKnown(t *testing.T) {
	for _, c := range []struct{ x, want uint64 }{
		{impl.FromInt(1), impl.FromInt(1)}, {impl.FromInt(4), impl.FromInt(2)}, {impl.FromInt(2), 0x3ff6a09e667f3bcd}, {impl.FromInt(3), 0x3ffbb67ae8584caa}, {impl.FromInt(10), 0x40094c583ada5b53}, {0x3fd0000000000000, 0x3fe0000000000000}, {0x3fe0000000000000, 0x3fe6a09e667f3bcd}, {0x4002000000000000, 0x3ff8000000000000},
		{one + 1, one}, {one + 2, one + 1}, {one + 3, one + 1}, {one + 4, one + 2}, {one - 1, one - 1}, {one - 2, one - 1}, {one - 3, one - 2}, {one - 4, one - 2},
		{1, 0x1e60000000000000}, {2, 0x1e66a09e667f3bcd}, {4, 0x1e70000000000000}, {leastWithE1, 0x2000000000000000}, {leastWithE1 - 1, 0x1fffffffffffffff}, {2046 * fValues, 0x5fe6a09e667f3bcd}, {greatestFinite, 0x5fefffffffffffff},
	} {
		if got := impl.Sqrt(c.x); got != c.want {
			t.Errorf("Sqrt(%#x) = %#x, want %#x", c.x, got, c.want)
		}
	}
}

func sizeOfWhole(n int) uint64 { return impl.FromInt(max(n, -n)) }

func withSign(size uint64, below bool) uint64 {
	if below {
		return size + signOfNumber
	}
	return size
}

func smallWholeNumbers() []int {
	out := []int{1000, 4095, 4096, 46341, 65535, 65537, 1000003, 2147483647, 1<<31 - 19, 1<<31 + 11}
	for n := 0; n <= 130; n++ {
		out = append(out, n)
	}
	for bit := 8; bit <= 31; bit++ {
		out = append(out, 1<<bit-1, 1<<bit, 1<<bit+1, 3<<bit>>2)
	}
	for _, n := range out {
		out = append(out, -n)
	}
	return out
}

// FromInt is nearest to a product of two whole numbers below 2^31.5, just it up to 2^53.
func TestProductsAndQuotientsOfWholeNumbers(t *testing.T) {
	all := smallWholeNumbers()
	for _, n := range all {
		for _, m := range all {
			a, b, below := impl.FromInt(n), impl.FromInt(m), (n < 0) != (m < 0)
			product := impl.Mul(a, b)
			if want := withSign(sizeOfWhole(n*m), below); product != want {
				t.Fatalf("%d by %d is %#x, not %#x", n, m, product, want)
			}
			if m == 0 || n*m > justWhole || n*m < -justWhole {
				continue
			}
			if got := impl.Div(product, b); got != withSign(sizeOfWhole(n), n < 0) {
				t.Fatalf("%d by %d, divided by the second, is %#x", n, m, got)
			}
			if got := impl.Rem(product, b); got != withSign(0, below) {
				t.Fatalf("%d by %d leaves %#x of the second", n, m, got)
			}
		}
	}
}

func TestQuotientsAndRestsOfWholeNumbers(t *testing.T) {
	for _, n := range wholeNumbersToldJust() {
		for _, m := range smallWholeNumbers() {
			if m == 0 {
				continue
			}
			a, b := impl.FromInt(n), impl.FromInt(m)
			if got, want := impl.Rem(a, b), withSign(sizeOfWhole(n%m), n < 0); got != want {
				t.Fatalf("of %d by %d %#x is left, not %#x", n, m, got, want)
			}
			if got, want := impl.Rem(b, a), withSign(sizeOfWhole(m%max(n, -n, 1)), m < 0); n != 0 && got != want {
				t.Fatalf("of %d by %d %#x is left, not %#x", m, n, got, want)
			}
			if got, want := impl.Div(a, b), withSign(sizeOfWhole(n/m), (n < 0) != (m < 0)); n%m == 0 && got != want {
				t.Fatalf("%d by %d is %#x, not %#x", n, m, got, want)
			}
		}
	}
}

func TestProductsAreTheSameFromBothSides(t *testing.T) {
	all := numbersOfEachKind()
	for i, a := range all {
		for _, b := range all[i:] {
			if impl.Mul(a, b) != impl.Mul(b, a) {
				t.Fatalf("%#x by %#x is %#x, from the other side %#x", a, b, impl.Mul(a, b), impl.Mul(b, a))
			}
		}
	}
	xs := numbersBySteps(100000)
	for i := 1; i < len(xs); i++ {
		if a, b := xs[i-1], xs[i]; impl.Mul(a, b) != impl.Mul(b, a) {
			t.Fatalf("%#x by %#x is %#x, from the other side %#x", a, b, impl.Mul(a, b), impl.Mul(b, a))
		}
	}
}

func TestByOneAndByItself(t *testing.T) {
	for _, x := range append(finiteAtEdges(), numbersBySteps(20000)...) {
		size := x % signOfNumber
		if size >= impl.Infinite {
			continue
		}
		checkProduct(t, size, one, size)
		checkQuotient(t, size, one, size)
		if size == 0 {
			continue
		}
		checkQuotient(t, size, size, one)
		checkRest(t, size, size, 0)
		if size+1 < impl.Infinite {
			checkRest(t, size, size+1, size)
		}
		if size < 2046*fValues {
			checkQuotient(t, impl.Add(size, size), size, impl.FromInt(2))
			checkQuotient(t, impl.Add(size, size), impl.FromInt(2), size)
			checkProduct(t, size, impl.FromInt(2), impl.Add(size, size))
			checkRest(t, impl.Add(size, size), size, 0)
		}
	}
}

// checkBetween holds a size against its neighbours: twice the exact one (which is exact divided by parts, in least units) is between twice the middles to both sides.
func checkBetween(t *testing.T, what string, size uint64, exact *big.Int, parts *big.Int) {
	t.Helper()
	if size > impl.Infinite {
		t.Fatalf("%s is %#x", what, size)
	}
	twice := new(big.Int).Lsh(exact, 1)
	odd := size%2 == 1
	if size > 0 {
		under := leastUnits(size - 1)
		under.Mul(under.Add(under, leastUnits(size)), parts)
		if c := twice.Cmp(under); c < 0 || c == 0 && odd {
			t.Fatalf("%s is %#x: the one below is nearer, or as near and even", what, size)
		}
	}
	if size < impl.Infinite {
		over := leastUnits(size)
		over.Mul(over.Add(over, leastUnits(size+1)), parts)
		if c := twice.Cmp(over); c > 0 || c == 0 && odd {
			t.Fatalf("%s is %#x: the one above is nearer, or as near and even", what, size)
		}
	}
}

func checkNearestProduct(t *testing.T, a uint64, b uint64) {
	t.Helper()
	product := impl.Mul(a, b)
	exact := new(big.Int).Mul(leastUnits(a), leastUnits(b))
	checkBetween(t, "a product", product, exact, new(big.Int).Lsh(big.NewInt(1), leastPlaces))
}

func checkNearestQuotient(t *testing.T, a uint64, b uint64) {
	t.Helper()
	exact := leastUnits(a)
	checkBetween(t, "a quotient", impl.Div(a, b), exact.Lsh(exact, leastPlaces), leastUnits(b))
}

func checkRestIsJust(t *testing.T, a uint64, b uint64) {
	t.Helper()
	want := sizeOfUnits(t, new(big.Int).Rem(leastUnits(a), leastUnits(b)))
	if got := impl.Rem(a, b); got != want {
		t.Fatalf("Rem(%#x, %#x) = %#x, want %#x", a, b, got, want)
	}
}

func checkNearestRoot(t *testing.T, x uint64) {
	t.Helper()
	root := impl.Sqrt(x)
	if root == 0 || root >= impl.Infinite {
		t.Fatalf("Sqrt(%#x) = %#x", x, root)
	}
	// The square of twice the root, in least units, is between the squares of twice the middles; it is never one of them.
	square := leastUnits(x)
	square.Lsh(square, leastPlaces+2)
	under := leastUnits(root - 1)
	under.Add(under, leastUnits(root))
	over := leastUnits(root)
	over.Add(over, leastUnits(root+1))
	if square.Cmp(under.Mul(under, under)) <= 0 || square.Cmp(over.Mul(over, over)) >= 0 {
		t.Fatalf("Sqrt(%#x) = %#x: a neighbour is nearer", x, root)
	}
}

// edgesAboveZero: sizes at the edges and with one bit of f set, none of them 0.
func edgesAboveZero() []uint64 {
	var out []uint64
	for _, x := range finiteAtEdges() {
		if x != 0 && x < signOfNumber {
			out = append(out, x)
		}
	}
	return out
}

func TestProductsAndQuotientsAreNearest(t *testing.T) {
	all := edgesAboveZero()
	for i, a := range all {
		for k, b := range all {
			if k <= i {
				checkNearestProduct(t, a, b)
			}
			checkNearestQuotient(t, a, b)
		}
	}
}

func TestRestsAreJust(t *testing.T) {
	all := edgesAboveZero()
	for _, a := range all {
		for _, b := range all {
			checkRestIsJust(t, a, b)
		}
	}
}

func TestRootsAreNearest(t *testing.T) {
	for _, x := range edgesAboveZero() {
		checkNearestRoot(t, x)
	}
	for e := uint64(1); e <= 2046; e++ {
		for _, f := range []uint64{0, 1, 2, 3, fValues / 2, fValues - 3, fValues - 2, fValues - 1} {
			checkNearestRoot(t, e*fValues+f)
		}
	}
	for _, x := range numbersBySteps(30000) {
		if size := x % signOfNumber; size != 0 && size < impl.Infinite {
			checkNearestRoot(t, size)
			checkNearestRoot(t, size%leastWithE1+1)
		}
	}
}

// sameAsFloats holds all four against Go's own floats; there a NaN may have any f.
func sameAsFloats(t *testing.T, a uint64, b uint64) {
	t.Helper()
	x, y := math.Float64frombits(a), math.Float64frombits(b)
	for _, c := range []struct {
		what string
		got  uint64
		want float64
	}{
		{"Mul", impl.Mul(a, b), x * y}, {"Div", impl.Div(a, b), x / y}, {"Rem", impl.Rem(a, b), math.Mod(x, y)}, {"Sqrt", impl.Sqrt(a), math.Sqrt(x)},
	} {
		want := math.Float64bits(c.want)
		if math.IsNaN(c.want) {
			want = impl.NaN
		}
		if c.got != want {
			t.Fatalf("%s of %#x and %#x is %#x, not %#x", c.what, a, b, c.got, want)
		}
	}
}

func TestSameAsFloats(t *testing.T) {
	all := numbersOfEachKind()
	for _, a := range all {
		for i := 0; i < len(all); i += 3 {
			sameAsFloats(t, a, all[i])
			sameAsFloats(t, all[i], a)
		}
	}
	xs := numbersBySteps(60000)
	for i := 1; i < len(xs); i++ {
		sameAsFloats(t, xs[i-1], xs[i])
	}
}

// withE gives the number the e that is asked for, within those of finite numbers.
func withE(x uint64, e int) uint64 {
	return uint64(min(max(e, 0), 2046))*fValues + x%fValues
}

// Pairs of which the answers are spread evenly over all that is finite, with both ends passed.
func TestNumbersOfAllSortsAreNearest(t *testing.T) {
	xs := numbersBySteps(60000)
	for i := 1; i < len(xs); i++ {
		a := withE(xs[i-1], int(xs[i-1]/fValues%2047))
		e := int(a / fValues)
		answer := int(xs[i]/fValues)%2200 - 70
		if b := withE(xs[i], answer-e+1023); b != 0 {
			checkNearestProduct(t, a, b)
		}
		if b := withE(xs[i], e-answer+1023); b != 0 {
			checkNearestQuotient(t, a, b)
			checkRestIsJust(t, a, b)
		}
		if near := withE(xs[i], e-answer%90); near != 0 {
			checkRestIsJust(t, a, near)
		}
	}
}

// firstWith: the least size above 0 of which holds is true; it is false below that, and true above.
func firstWith(holds func(size uint64) bool) uint64 {
	least, beyond := uint64(1), uint64(impl.Infinite)
	for least < beyond {
		middle := least + (beyond-least)/2
		if holds(middle) {
			beyond = middle
		} else {
			least = middle + 1
		}
	}
	return least
}

// halvesOfLeast: so many halves of a least one, as a product of two sizes' units is told.
func halvesOfLeast(n *big.Int) *big.Int { return new(big.Int).Lsh(n, leastPlaces-1) }

// beyondGreatest: the greatest finite number and half a step, in halves of a least one.
func beyondGreatest() *big.Int {
	n := leastUnits(greatestFinite)
	return n.Add(n, leastUnits(impl.Infinite))
}

func TestProductsJustAtTheGreatestNumber(t *testing.T) {
	limit := halvesOfLeast(beyondGreatest())
	for _, a := range edgesAboveZero() {
		beyond := firstWith(func(b uint64) bool {
			return new(big.Int).Mul(leastUnits(a), leastUnits(b)).Cmp(limit) >= 0
		})
		if beyond == impl.Infinite {
			continue
		}
		checkProduct(t, a, beyond, impl.Infinite)
		if got := impl.Mul(a, beyond-1); got >= impl.Infinite {
			t.Fatalf("%#x by %#x is beyond all", a, beyond-1)
		}
		checkNearestProduct(t, a, beyond-1)
	}
	// 2^54 - 1 is 2^27 - 1 by 2^27 + 1: just half a step beyond the greatest one, at any e.
	for up := range 900 {
		a, b := impl.RoundTo(false, 1<<27-1, up+35, false), impl.RoundTo(false, 1<<27+1, 935-up, false)
		checkProduct(t, a, b, impl.Infinite)
		checkProduct(t, a-1, b, greatestFinite-1)
		checkProduct(t, a, b-1, greatestFinite-1)
		checkProduct(t, a+1, b, impl.Infinite)
	}
	checkProduct(t, greatestFinite, one, greatestFinite)
	checkProduct(t, greatestFinite, one+1, impl.Infinite)
	checkProduct(t, greatestFinite, one-1, greatestFinite-1)
	checkProduct(t, greatestFinite, greatestFinite, impl.Infinite)
	checkProduct(t, greatestFinite-1, one+1, impl.Infinite)
	checkProduct(t, greatestFinite-2, one+1, greatestFinite)
	checkProduct(t, 2046*fValues, impl.FromInt(2), impl.Infinite)
	checkProduct(t, 2045*fValues+fValues-1, impl.FromInt(2), greatestFinite)
}

func TestProductsJustAtHalfOfTheLeast(t *testing.T) {
	half := halvesOfLeast(big.NewInt(1))
	for _, a := range edgesAboveZero() {
		above := firstWith(func(b uint64) bool {
			return new(big.Int).Mul(leastUnits(a), leastUnits(b)).Cmp(half) > 0
		})
		if above == 1 || above == impl.Infinite {
			continue
		}
		checkProduct(t, a, above-1, 0)
		checkProduct(t, a, above, 1)
	}
	for e := uint64(1); e <= 1021; e += 4 {
		// 2^(e-1023) by 2^(-52-e): half of the least one, just.
		a, b := e*fValues, (971-e)*fValues
		if e >= 971 {
			a, b = e*fValues, uint64(1)<<(1022-e)
		}
		checkProduct(t, a, b, 0)
		checkProduct(t, a+1, b, 1)
		checkProduct(t, a-1, b, 0)
	}
	checkProduct(t, 1, 1, 0)
	checkProduct(t, leastWithE1, leastWithE1, 0)
	checkProduct(t, leastWithE1-1, one-1, leastWithE1-1)
	checkProduct(t, leastWithE1, one-1, leastWithE1)
	checkProduct(t, leastWithE1+1, one-1, leastWithE1+1-1)
	checkProduct(t, leastWithE1+2, one-1, leastWithE1+2-1)
}

func TestQuotientsJustAtTheGreatestNumber(t *testing.T) {
	limit := beyondGreatest()
	for _, b := range edgesAboveZero() {
		by := new(big.Int).Mul(limit, leastUnits(b))
		beyond := firstWith(func(a uint64) bool {
			n := leastUnits(a)
			return n.Lsh(n, leastPlaces+1).Cmp(by) >= 0
		})
		if beyond >= impl.Infinite {
			continue
		}
		checkQuotient(t, beyond, b, impl.Infinite)
		if got := impl.Div(beyond-1, b); got >= impl.Infinite {
			t.Fatalf("%#x by %#x is beyond all", beyond-1, b)
		}
		checkNearestQuotient(t, beyond-1, b)
	}
	checkQuotient(t, greatestFinite, one, greatestFinite)
	checkQuotient(t, greatestFinite, one-1, impl.Infinite)
	checkQuotient(t, greatestFinite-1, one-1, greatestFinite)
	checkQuotient(t, greatestFinite, one+1, greatestFinite-2)
	checkQuotient(t, greatestFinite, 1, impl.Infinite)
	checkQuotient(t, one, 1, impl.Infinite)
	checkQuotient(t, 973*fValues-1, 1, greatestFinite)
	checkQuotient(t, 973*fValues, 1, impl.Infinite)
	checkQuotient(t, one, leastWithE1/4, impl.Infinite)
	checkQuotient(t, one, leastWithE1/4+1, greatestFinite-7)
}

func TestQuotientsJustAtHalfOfTheLeast(t *testing.T) {
	for _, b := range edgesAboveZero() {
		half := leastUnits(b)
		above := firstWith(func(a uint64) bool {
			n := leastUnits(a)
			return n.Lsh(n, leastPlaces+1).Cmp(half) > 0
		})
		if above > 1 {
			checkQuotient(t, above-1, b, 0)
			checkQuotient(t, above, b, 1)
		}
	}
	for _, c := range []struct{ a, b, want uint64 }{
		{1, impl.FromInt(2), 0}, {1, 0x3fffffffffffffff, 1}, {1, 0x4000000000000001, 0}, {3, impl.FromInt(2), 2}, {5, impl.FromInt(2), 2}, {7, impl.FromInt(2), 4}, {3, impl.FromInt(4), 1}, {6, impl.FromInt(4), 2}, {2, impl.FromInt(4), 0}, {1, impl.FromInt(3), 0}, {2, impl.FromInt(3), 1},
		{1, greatestFinite, 0}, {leastWithE1, greatestFinite, 0}, {leastWithE1, impl.FromInt(2), leastWithE1 / 2}, {leastWithE1 + 1, impl.FromInt(2), leastWithE1 / 2}, {leastWithE1 + 3, impl.FromInt(2), leastWithE1/2 + 2}, {leastWithE1 - 1, one + 1, leastWithE1 - 2}, {leastWithE1 - 1, one - 1, leastWithE1 - 1}, {leastWithE1, one + 1, leastWithE1 - 1}, {leastWithE1, one - 1, leastWithE1 + 1}, {one, 2046 * fValues, leastWithE1 / 2}, {one, greatestFinite, leastWithE1 / 4},
	} {
		checkQuotient(t, c.a, c.b, c.want)
	}
}

// A product of odd numbers that has 54 bits is as near to one number as to the next.
func TestTiesOfProductsGoToTheEvenOne(t *testing.T) {
	ties := 0
	for n := 1<<27 - 401; n <= 1<<27+401; n += 2 {
		for m := 1<<26 + 1; m <= 1<<26+61; m += 2 {
			if n*m < justWhole || n*m >= 2*justWhole {
				continue
			}
			ties++
			up := n*m%4 == 3
			want := impl.FromInt(n*m - 1)
			if up {
				want = impl.FromInt(n*m + 1)
			}
			if want%2 != 0 {
				t.Fatalf("%d and %d are no tie", n, m)
			}
			checkProduct(t, impl.FromInt(n), impl.FromInt(m), want)
		}
	}
	if ties < 1000 {
		t.Fatalf("only %d ties", ties)
	}
}

// Halves, fourths and so on of the least numbers: by a product and by a quotient.
func TestTiesOfTheLeastNumbersGoToTheEvenOne(t *testing.T) {
	for size := uint64(1); size < 400; size++ {
		for _, add := range []uint64{0, leastWithE1/2 - 200, leastWithE1 - 200, 2*leastWithE1 - 400} {
			x := size + add
			for bit := uint64(1); bit <= 6; bit++ {
				want := x >> bit
				rest, half := x%(1<<bit), uint64(1)<<(bit-1)
				if rest > half || rest == half && want%2 == 1 {
					want++
				}
				checkProduct(t, x, one-bit*fValues, want)
				checkQuotient(t, x, one+bit*fValues, want)
			}
		}
	}
}

func TestProductsQuotientsAndRestsOfZeros(t *testing.T) {
	checkProduct(t, 0, 0, 0)
	for _, x := range edgesAboveZero() {
		checkProduct(t, x, 0, 0)
		checkQuotient(t, 0, x, 0)
		checkQuotient(t, x, 0, impl.Infinite)
		checkRest(t, 0, x, 0)
	}
	for _, a := range []uint64{0, minusZero} {
		for _, b := range []uint64{0, minusZero} {
			if got := impl.Div(a, b); got != impl.NaN {
				t.Errorf("Div(%#x, %#x) = %#x", a, b, got)
			}
		}
	}
	for _, x := range numbersOfEachKind() {
		if got, other := impl.Rem(x, 0), impl.Rem(x, minusZero); got != impl.NaN || other != impl.NaN {
			t.Fatalf("Rem of %#x and zeros: %#x, %#x", x, got, other)
		}
	}
}

func TestProductsQuotientsAndRestsOfWhatIsInfinite(t *testing.T) {
	checkProduct(t, impl.Infinite, impl.Infinite, impl.Infinite)
	checkQuotient(t, impl.Infinite, 0, impl.Infinite)
	checkQuotient(t, 0, impl.Infinite, 0)
	checkRest(t, 0, impl.Infinite, 0)
	for _, x := range edgesAboveZero() {
		checkProduct(t, impl.Infinite, x, impl.Infinite)
		checkQuotient(t, impl.Infinite, x, impl.Infinite)
		checkQuotient(t, x, impl.Infinite, 0)
		checkRest(t, x, impl.Infinite, x)
	}
	for _, a := range bothInfinite() {
		for _, zero := range []uint64{0, minusZero} {
			if impl.Mul(a, zero) != impl.NaN || impl.Mul(zero, a) != impl.NaN {
				t.Errorf("%#x by the zero %#x: %#x, %#x", a, zero, impl.Mul(a, zero), impl.Mul(zero, a))
			}
		}
		for _, b := range bothInfinite() {
			if got := impl.Div(a, b); got != impl.NaN {
				t.Errorf("Div(%#x, %#x) = %#x", a, b, got)
			}
		}
		for _, b := range numbersOfEachKind() {
			if got := impl.Rem(a, b); got != impl.NaN {
				t.Fatalf("Rem(%#x, %#x) = %#x", a, b, got)
			}
		}
	}
}

func TestProductsQuotientsAndRestsWithNaNAreNaN(t *testing.T) {
	for _, none := range numbersThatAreNone() {
		for _, x := range numbersOfEachKind() {
			for _, got := range []uint64{impl.Mul(none, x), impl.Mul(x, none), impl.Div(none, x), impl.Div(x, none), impl.Rem(none, x), impl.Rem(x, none)} {
				if got != impl.NaN {
					t.Fatalf("with %#x and %#x: %#x", none, x, got)
				}
			}
		}
		if got := impl.Sqrt(none); got != impl.NaN {
			t.Fatalf("Sqrt(%#x) = %#x", none, got)
		}
	}
}

func TestRestIsNoMoreThanBoth(t *testing.T) {
	check := func(a uint64, b uint64) {
		size, by := a%signOfNumber, b%signOfNumber
		if size >= impl.Infinite || by == 0 || by > impl.Infinite {
			return
		}
		rest := impl.Rem(a, b)
		if left := rest % signOfNumber; left > size || left >= by {
			t.Fatalf("Rem(%#x, %#x) = %#x", a, b, rest)
		}
		if rest/signOfNumber != a/signOfNumber {
			t.Fatalf("Rem(%#x, %#x) = %#x has not the sign of the first", a, b, rest)
		}
		if again := impl.Rem(rest, b); again != rest {
			t.Fatalf("the rest %#x of %#x and %#x leaves another rest, %#x", rest, a, b, again)
		}
	}
	all := numbersOfEachKind()
	for _, a := range all {
		for _, b := range all {
			check(a, b)
		}
	}
	xs := numbersBySteps(100000)
	for i := 1; i < len(xs); i++ {
		check(xs[i-1], xs[i])
	}
}

// The two are every distance of e apart, which is how often the rest is doubled.
func TestRestsOfNumbersApart(t *testing.T) {
	for apart := range uint64(2046) {
		for _, f := range []uint64{0, 1, 0x5555555555555, fValues - 1} {
			for _, g := range []uint64{0, 1, 0xabcdef1234567, fValues - 1} {
				checkRestIsJust(t, 2046*fValues+f, (2046-apart)*fValues+g)
			}
		}
		checkRestIsJust(t, (2046-apart)*fValues+apart, 0x123456789)
		checkRestIsJust(t, 2046*fValues+apart, apart+1)
	}
}

func TestRootsOfSquares(t *testing.T) {
	ns := []int{94906265, 94906264, 1 << 26, 1<<26 - 1, 1<<26 + 1, 67108859, 1000000, 9999999}
	for n := range 3000 {
		ns = append(ns, n, 94906265-n*31)
	}
	for _, n := range ns {
		if got := impl.Sqrt(impl.FromInt(n * n)); got != impl.FromInt(n) {
			t.Fatalf("the root of %d by itself is %#x", n, got)
		}
		// The same with every even and odd e that fits.
		for exp := -537; exp <= 480; exp += 29 {
			if n == 0 {
				continue
			}
			x, root := impl.RoundTo(false, uint64(n*n), 2*exp, false), impl.RoundTo(false, uint64(n), exp, false)
			if x < impl.Infinite && impl.Sqrt(x) != root {
				t.Fatalf("the root of %d by itself, times 2^%d, is %#x, not %#x", n, 2*exp, impl.Sqrt(x), root)
			}
		}
	}
	for exp := -537; exp <= 511; exp++ {
		x, root := impl.RoundTo(false, 1, 2*exp, false), impl.RoundTo(false, 1, exp, false)
		if got := impl.Sqrt(x); got != root {
			t.Fatalf("the root of 2^%d is %#x", 2*exp, got)
		}
	}
}

// A root is off by half a step at most, and so its square by no more than two steps.
func TestSquareOfARootIsNear(t *testing.T) {
	xs := append(edgesAboveZero(), numbersBySteps(100000)...)
	for _, x := range xs {
		size := x % signOfNumber
		if size == 0 || size >= impl.Infinite {
			continue
		}
		root := impl.Sqrt(size)
		square := impl.Mul(root, root)
		if square > size+2 || square+2 < size {
			t.Fatalf("the root of %#x is %#x, its square %#x", size, root, square)
		}
		if size > 1022*fValues && size < 1024*fValues {
			continue
		}
		if (root < size) != (size > one) {
			t.Fatalf("the root of %#x is %#x", size, root)
		}
	}
}

func TestRootsAscend(t *testing.T) {
	last := uint64(0)
	for _, size := range sizesAtEdges() {
		root := impl.Sqrt(size)
		if root < last {
			t.Fatalf("the root of %#x, %#x, is less than that of a lesser one", size, root)
		}
		last = root
	}
}

func TestRootsThatAreThemselvesOrNone(t *testing.T) {
	for _, x := range []uint64{0, minusZero, impl.Infinite} {
		if got := impl.Sqrt(x); got != x {
			t.Errorf("Sqrt(%#x) = %#x", x, got)
		}
	}
	for _, x := range append(edgesAboveZero(), impl.Infinite) {
		if got := impl.Sqrt(otherSign(x)); got != impl.NaN {
			t.Fatalf("Sqrt(%#x) = %#x", otherSign(x), got)
		}
	}
}
