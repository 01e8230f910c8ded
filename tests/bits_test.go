package tests

import (
	"math"
	"math/big"
	"testing"

	"loop.example/g00115/impl"
)

// Promise 3: a number's parts make it again; whole numbers up to 2^53 are told just; Less and Equal order all numbers but NaN.

const (
	signOfNumber   = 0x8000000000000000
	leastWithE1    = 0x0010000000000000
	greatestFinite = 0x7fefffffffffffff
	fValues        = 0x10000000000000
	justWhole      = 9007199254740992
)

// sizesAtEdges: numbers that are not below 0, finite, ascending.
func sizesAtEdges() []uint64 {
	fs := []uint64{0, 1, 2, 3, fValues/2 - 1, fValues / 2, fValues/2 + 1, fValues - 2, fValues - 1}
	es := []uint64{0, 1, 2, 3, 51, 52, 53, 970, 971, 1021, 1022, 1023, 1024, 1025, 1053, 1054, 1055, 1056, 1074, 1075, 1076, 1077, 1105, 1106, 1107, 1108, 2044, 2045, 2046}
	var out []uint64
	for _, e := range es {
		for _, f := range fs {
			out = append(out, e*fValues+f)
		}
	}
	return out
}

// finiteAtEdges: numbers of both signs, both zeros among them.
func finiteAtEdges() []uint64 {
	var out []uint64
	for _, size := range sizesAtEdges() {
		out = append(out, size, size+signOfNumber)
	}
	for bit := range 52 {
		out = append(out, 1<<bit, signOfNumber+1<<bit, leastWithE1+1<<bit, 1023*fValues+1<<bit)
	}
	return out
}

func numbersThatAreNone() []uint64 {
	var out []uint64
	for _, sign := range []uint64{0, signOfNumber} {
		for _, f := range []uint64{1, 2, 3, fValues/2 - 1, fValues / 2, fValues/2 + 1, fValues - 2, fValues - 1} {
			out = append(out, sign+impl.Infinite+f)
		}
		for bit := range 52 {
			out = append(out, sign+impl.Infinite+1<<bit)
		}
	}
	return out
}

func bothInfinite() []uint64 { return []uint64{impl.Infinite, signOfNumber + impl.Infinite} }

func numbersOfEachKind() []uint64 {
	return append(append(finiteAtEdges(), numbersThatAreNone()...), bothInfinite()...)
}

func TestConstantsOfNumbers(t *testing.T) {
	if impl.NaN != 9221120237041090560 || impl.Infinite != 9218868437227405312 {
		t.Error("a number that is named is not the document's")
	}
	if impl.KindNaN != 1 || impl.KindInfinite != 2 || impl.KindZero != 3 || impl.KindFinite != 4 {
		t.Error("a kind is not the document's")
	}
}

func TestPartsThatAreKnown(t *testing.T) {
	for _, c := range []struct {
		x    uint64
		want impl.Parts
	}{
		{0, impl.Parts{Kind: impl.KindZero}},
		{signOfNumber, impl.Parts{Kind: impl.KindZero, Below: true}},
		{1, impl.Parts{Kind: impl.KindFinite, Mant: 1, Exp: -1074}},
		{signOfNumber + 1, impl.Parts{Kind: impl.KindFinite, Below: true, Mant: 1, Exp: -1074}},
		{leastWithE1 - 1, impl.Parts{Kind: impl.KindFinite, Mant: 4503599627370495, Exp: -1074}},
		{leastWithE1, impl.Parts{Kind: impl.KindFinite, Mant: 4503599627370496, Exp: -1074}},
		{2 * leastWithE1, impl.Parts{Kind: impl.KindFinite, Mant: 4503599627370496, Exp: -1073}},
		{0x3ff0000000000000, impl.Parts{Kind: impl.KindFinite, Mant: 4503599627370496, Exp: -52}},
		{0xc008000000000000, impl.Parts{Kind: impl.KindFinite, Below: true, Mant: 6755399441055744, Exp: -51}},
		{greatestFinite, impl.Parts{Kind: impl.KindFinite, Mant: 9007199254740991, Exp: 971}},
		{signOfNumber + greatestFinite, impl.Parts{Kind: impl.KindFinite, Below: true, Mant: 9007199254740991, Exp: 971}},
		{impl.Infinite, impl.Parts{Kind: impl.KindInfinite}},
		{signOfNumber + impl.Infinite, impl.Parts{Kind: impl.KindInfinite, Below: true}},
		{impl.NaN, impl.Parts{Kind: impl.KindNaN}},
		{signOfNumber + impl.NaN, impl.Parts{Kind: impl.KindNaN}},
		{impl.Infinite + 1, impl.Parts{Kind: impl.KindNaN}},
		{0xffffffffffffffff, impl.Parts{Kind: impl.KindNaN}},
	} {
		if got := impl.PartsOfNumber(c.x); got != c.want {
			t.Errorf("PartsOfNumber(%#x) = %+v, want %+v", c.x, got, c.want)
		}
	}
}

// partsByRule takes the chapter's words for the bits, with quotients and rests.
func partsByRule(x uint64) impl.Parts {
	below, e, f := x/signOfNumber == 1, x/fValues%2048, x%fValues
	switch {
	case e == 2047 && f != 0:
		return impl.Parts{Kind: impl.KindNaN}
	case e == 2047:
		return impl.Parts{Kind: impl.KindInfinite, Below: below}
	case e == 0 && f == 0:
		return impl.Parts{Kind: impl.KindZero, Below: below}
	case e == 0:
		return impl.Parts{Kind: impl.KindFinite, Below: below, Mant: f, Exp: -1074}
	}
	return impl.Parts{Kind: impl.KindFinite, Below: below, Mant: fValues + f, Exp: int(e) - 1075}
}

func TestPartsAreByTheBits(t *testing.T) {
	for _, x := range numbersOfEachKind() {
		got := impl.PartsOfNumber(x)
		if want := partsByRule(x); got != want {
			t.Fatalf("PartsOfNumber(%#x) = %+v, want %+v", x, got, want)
		}
		if got.Kind != impl.KindFinite {
			continue
		}
		value := math.Ldexp(float64(got.Mant), got.Exp)
		if got.Below {
			value = -value
		}
		if math.Float64bits(value) != x || got.Mant >= justWhole {
			t.Fatalf("the parts of %#x, %+v, are those of %#x", x, got, math.Float64bits(value))
		}
	}
	for e := range uint64(2048) {
		for _, x := range []uint64{e * fValues, e*fValues + 5, signOfNumber + e*fValues + fValues - 1} {
			if got, want := impl.PartsOfNumber(x), partsByRule(x); got != want {
				t.Fatalf("PartsOfNumber(%#x) = %+v, want %+v", x, got, want)
			}
		}
	}
}

func TestPartsMakeTheNumberAgain(t *testing.T) {
	for _, x := range finiteAtEdges() {
		p := impl.PartsOfNumber(x)
		for left := 0; left <= 11; left++ {
			if got := impl.RoundTo(p.Below, p.Mant<<left, p.Exp-left, false); got != x {
				t.Fatalf("the parts of %#x, the mant doubled %d times, make %#x", x, left, got)
			}
		}
		for p.Mant != 0 && p.Mant%2 == 0 {
			p.Mant, p.Exp = p.Mant/2, p.Exp+1
			if got := impl.RoundTo(p.Below, p.Mant, p.Exp, false); got != x {
				t.Fatalf("%+v make %#x, not %#x", p, got, x)
			}
		}
	}
}

// A little more than a number is still nearest to it, and so is a little less.
func TestNearTheNumberIsTheNumber(t *testing.T) {
	for _, x := range finiteAtEdges() {
		p := impl.PartsOfNumber(x)
		if p.Kind != impl.KindFinite || p.Mant < 1<<52 {
			continue
		}
		mant, exp := p.Mant<<11, p.Exp-11
		for _, near := range []uint64{mant + 1, mant + 1023} {
			if got := impl.RoundTo(p.Below, near, exp, true); got != x {
				t.Fatalf("a little more than %#x is %#x", x, got)
			}
		}
		// Where the mant is the least with its e, the numbers below stand twice as near to each other.
		less := uint64(1023)
		if p.Mant == 1<<52 {
			less = 511
		}
		if got := impl.RoundTo(p.Below, mant-less, exp, true); got != x {
			t.Fatalf("a little less than %#x is %#x", x, got)
		}
	}
}

func TestRoundToThatIsKnown(t *testing.T) {
	for _, c := range []struct {
		mant uint64
		exp  int
		more bool
		want uint64
	}{
		{0, 0, false, 0}, {0, 0, true, 0}, {0, 5000, false, 0}, {0, 5000, true, 0}, {0, -5000, true, 0}, {0, math.MaxInt, true, 0},
		{1, 0, false, 0x3ff0000000000000}, {3, -2, false, 0x3fe8000000000000}, {1, -1074, false, 1}, {1, -1075, false, 0},
		{3, -1075, false, 2}, {5, -1075, false, 2}, {7, -1075, false, 4}, {3, -1076, false, 1}, {1, -1076, false, 0},
		{1 << 63, -1138, false, 0}, {1<<63 + 1, -1138, false, 1}, {1 << 63, -1138, true, 1}, {1<<63 - 1, -1138, true, 0}, {math.MaxUint64, -1138, true, 1},
		{1 << 63, -1139, true, 0}, {math.MaxUint64, -1139, true, 0}, {1 << 63, -1137, false, 1}, {3 << 62, -1137, false, 2}, {3<<62 - 1, -1137, true, 1},
		{1 << 56, -1131, false, 0}, {1 << 56, -1131, true, 1}, {1<<56 - 1, -1131, true, 0}, {1 << 55, -1130, true, 0},
		{leastWithE1 - 1, -1074, false, leastWithE1 - 1}, {leastWithE1, -1074, false, leastWithE1}, {2*leastWithE1 - 1, -1075, false, leastWithE1}, {2*leastWithE1 - 3, -1075, false, leastWithE1 - 2},
		{justWhole - 1, 971, false, greatestFinite}, {justWhole, 971, false, impl.Infinite}, {1, 1023, false, 0x7fe0000000000000}, {1, 1024, false, impl.Infinite},
		{2*justWhole - 1, 970, false, impl.Infinite}, {4*justWhole - 3, 969, false, greatestFinite}, {1<<64 - 1<<10, 960, false, impl.Infinite}, {1<<64 - 1<<10 - 1, 960, true, greatestFinite},
		{justWhole + 1, 0, false, 0x4340000000000000}, {justWhole + 3, 0, false, 0x4340000000000002}, {2*justWhole + 2, 0, false, 0x4350000000000000}, {2*justWhole + 6, 0, false, 0x4350000000000002},
		{1<<56 + 8, 0, false, 0x4370000000000000}, {1<<56 + 8, 0, true, 0x4370000000000001}, {1<<56 + 7, 0, true, 0x4370000000000000}, {1<<56 - 4, 0, false, 0x4370000000000000}, {1<<56 - 12, 0, false, 0x436ffffffffffffe}, {1<<56 - 12, 0, true, 0x436ffffffffffffe},
		{math.MaxUint64, 0, false, 0x43f0000000000000}, {math.MaxUint64, 0, true, 0x43f0000000000000},
		{1, 5000, false, impl.Infinite}, {1, 5001, false, impl.Infinite}, {1, math.MaxInt, false, impl.Infinite},
		{math.MaxUint64, -5000, true, 0}, {math.MaxUint64, -5001, true, 0}, {math.MaxUint64, math.MinInt, true, 0}, {1, math.MinInt, false, 0},
	} {
		if got := impl.RoundTo(false, c.mant, c.exp, c.more); got != c.want {
			t.Errorf("RoundTo(%d, %d, %v) = %#x, want %#x", c.mant, c.exp, c.more, got, c.want)
		}
		if got := impl.RoundTo(true, c.mant, c.exp, c.more); got != c.want+signOfNumber {
			t.Errorf("RoundTo(%d, %d, %v), below 0, = %#x, want %#x", c.mant, c.exp, c.more, got, c.want+signOfNumber)
		}
	}
}

// finePlaces: numbers are held against each other as whole numbers, in units of 2^-finePlaces.
const finePlaces = 5010

// leastUnits: what a size stands for, in units of the least number above 0; Infinite counts as the next one, one step beyond the greatest.
func leastUnits(size uint64) *big.Int {
	e, f := size/fValues, size%fValues
	if e == 0 {
		e = 1
	} else {
		f += fValues
	}
	n := new(big.Int).SetUint64(f)
	return n.Lsh(n, uint(e-1))
}

func fineOfSize(size uint64) *big.Int {
	n := leastUnits(size)
	return n.Lsh(n, finePlaces-1074)
}

// roundByRule looks for the nearest size among all; above is how many of 1024 parts of 2^exp more stands for.
func roundByRule(mant uint64, exp int, above uint64) uint64 {
	exp = min(max(exp, -5000), 5000)
	fine := new(big.Int).SetUint64(mant)
	if mant >= 1<<56 {
		fine.Lsh(fine, 10)
		fine.Add(fine, new(big.Int).SetUint64(above))
		exp -= 10
	}
	fine.Lsh(fine, uint(exp+finePlaces))
	least, beyond := uint64(0), uint64(impl.Infinite)
	if fine.Cmp(fineOfSize(beyond)) >= 0 {
		return beyond
	}
	for least+1 < beyond {
		middle := least + (beyond-least)/2
		if fineOfSize(middle).Cmp(fine) <= 0 {
			least = middle
		} else {
			beyond = middle
		}
	}
	under := new(big.Int).Sub(fine, fineOfSize(least))
	over := new(big.Int).Sub(fineOfSize(beyond), fine)
	if c := under.Cmp(over); c < 0 || c == 0 && least%2 == 0 {
		return least
	}
	return beyond
}

func mantsAtEdges() []uint64 {
	out := []uint64{0, 1, 2, 3, 5, 7, math.MaxUint64, math.MaxUint64 - 1023, math.MaxUint64 - 1024, math.MaxUint64 - 2047}
	for _, bit := range []int{52, 53, 54, 55, 56, 57, 60, 63} {
		step := uint64(1)
		if bit > 52 {
			step = 1 << (bit - 52)
		}
		for _, f := range []uint64{0, 1, 2, fValues - 2, fValues - 1} {
			mant := 1<<bit + f*step
			out = append(out, mant-1, mant, mant+1, mant+step/2-1, mant+step/2, mant+step/2+1)
		}
	}
	return out
}

func expsAtEdges() []int {
	out := []int{math.MinInt, -5001, -5000, -4999, -1200, -600, -1, 0, 1, 600, 1200, 4999, 5000, 5001, math.MaxInt}
	for exp := -1140; exp <= -1070; exp += 3 {
		out = append(out, exp)
	}
	for _, exp := range []int{-1139, -1138, -1137, -1132, -1131, -1130, -1129, -1128, -1127, -1126, -1086, -1085, -1075, -1074} {
		out = append(out, exp)
	}
	for exp := 958; exp <= 974; exp++ {
		out = append(out, exp)
	}
	return append(out, 1022, 1023, 1024)
}

func TestRoundToIsNearest(t *testing.T) {
	for _, mant := range mantsAtEdges() {
		for _, exp := range expsAtEdges() {
			want := roundByRule(mant, exp, 0)
			if got := impl.RoundTo(false, mant, exp, false); got != want {
				t.Fatalf("RoundTo(%#x, %d) = %#x, want %#x", mant, exp, got, want)
			}
			if got := impl.RoundTo(true, mant, exp, false); got != want+signOfNumber {
				t.Fatalf("RoundTo(%#x, %d), below 0, = %#x, want %#x", mant, exp, got, want+signOfNumber)
			}
			want = roundByRule(mant, exp, 1)
			if other := roundByRule(mant, exp, 1023); other != want {
				t.Fatalf("the nearest to more than %#x, %d hangs on how much more", mant, exp)
			}
			if got := impl.RoundTo(false, mant, exp, true); got != want {
				t.Fatalf("RoundTo(%#x, %d) with more = %#x, want %#x", mant, exp, got, want)
			}
			if got := impl.RoundTo(true, mant, exp, true); got != want+signOfNumber {
				t.Fatalf("RoundTo(%#x, %d) with more, below 0, = %#x, want %#x", mant, exp, got, want+signOfNumber)
			}
		}
	}
}

// Below 2^56 more counts for nothing, even where a tie hangs on it.
func TestMoreOfSmallMantsCountsForNothing(t *testing.T) {
	for bit := range 56 {
		for _, mant := range []uint64{1 << bit, 1<<bit + 1, 3 << bit >> 1, 2<<bit - 1} {
			for exp := -1140; exp <= 1030; exp++ {
				if impl.RoundTo(false, mant, exp, true) != impl.RoundTo(false, mant, exp, false) {
					t.Fatalf("RoundTo(%#x, %d) hangs on more", mant, exp)
				}
			}
		}
	}
}

func TestFromIntIsNearest(t *testing.T) {
	ns := []int{0, 1, 2, 3, 10, 1000000000, justWhole, math.MaxInt, math.MaxInt - 511, math.MaxInt - 512, math.MaxInt - 1023, math.MaxInt - 1024, math.MaxInt - 1536}
	for bit := range 63 {
		for off := -9; off <= 9; off++ {
			ns = append(ns, 1<<bit+off, 3<<bit>>1+off)
		}
	}
	for _, n := range ns {
		for _, n := range []int{n, -n, -n - 1} {
			got := impl.FromInt(n)
			if want := math.Float64bits(float64(n)); got != want {
				t.Fatalf("FromInt(%d) = %#x, want %#x", n, got, want)
			}
		}
	}
	for _, c := range []struct {
		n    int
		want uint64
	}{
		{0, 0}, {1, 0x3ff0000000000000}, {-1, 0xbff0000000000000}, {math.MinInt, 0xc3e0000000000000}, {math.MaxInt, 0x43e0000000000000}, {math.MinInt + 512, 0xc3e0000000000000}, {math.MinInt + 513, 0xc3dfffffffffffff},
		{justWhole - 1, 0x433fffffffffffff}, {justWhole, 0x4340000000000000}, {justWhole + 1, 0x4340000000000000}, {justWhole + 2, 0x4340000000000001}, {justWhole + 3, 0x4340000000000002}, {-justWhole - 1, 0xc340000000000000}, {-justWhole - 3, 0xc340000000000002},
	} {
		if got := impl.FromInt(c.n); got != c.want {
			t.Errorf("FromInt(%d) = %#x, want %#x", c.n, got, c.want)
		}
	}
}

func wholeNumbersToldJust() []int {
	out := []int{justWhole}
	for n := -300; n <= 300; n++ {
		out = append(out, n)
	}
	for bit := 8; bit <= 53; bit++ {
		for back := 1; back <= 4; back++ {
			out = append(out, 1<<bit-back, back-1<<bit, 3<<(bit-2)-back, 5<<(bit-3)+back, -5<<(bit-3)-back)
		}
	}
	return append(out, -justWhole)
}

func TestWholeNumbersAreToldJust(t *testing.T) {
	for _, n := range wholeNumbersToldJust() {
		p := impl.PartsOfNumber(impl.FromInt(n))
		if n == 0 {
			if p != (impl.Parts{Kind: impl.KindZero}) {
				t.Errorf("the parts of FromInt(0) are %+v", p)
			}
			continue
		}
		whole := new(big.Int).SetUint64(p.Mant)
		if p.Exp < 0 {
			whole.Rsh(whole, uint(-p.Exp))
		} else {
			whole.Lsh(whole, uint(p.Exp))
		}
		if p.Below {
			whole.Neg(whole)
		}
		if p.Kind != impl.KindFinite || whole.Int64() != int64(n) {
			t.Fatalf("FromInt(%d) stands for %s", n, whole)
		}
		back := impl.ToInt32(impl.FromInt(n))
		if want := int(int32(n)); back != want {
			t.Fatalf("ToInt32(FromInt(%d)) = %d, want %d", n, back, want)
		}
	}
	for _, n := range wholeNumbersToldJust() {
		if n < justWhole && impl.FromInt(n) == impl.FromInt(n+1) {
			t.Fatalf("FromInt is the same of %d and one more", n)
		}
	}
}

// wholeModulo: the whole part of x towards 0, modulo 2^32, as the chapter tells it.
func wholeModulo(x uint64) int {
	p := partsByRule(x)
	whole := new(big.Int).SetUint64(p.Mant)
	if p.Exp < 0 {
		whole.Quo(whole, new(big.Int).Lsh(big.NewInt(1), uint(-p.Exp)))
	} else {
		whole.Lsh(whole, uint(p.Exp))
	}
	if p.Below {
		whole.Neg(whole)
	}
	rest := int(whole.Mod(whole, big.NewInt(4294967296)).Int64())
	if rest >= 2147483648 {
		rest -= 4294967296
	}
	return rest
}

func TestToInt32ThatIsKnown(t *testing.T) {
	for _, c := range []struct {
		x    float64
		want int
	}{
		{0, 0}, {1, 1}, {-1, -1}, {0.5, 0}, {-0.5, 0}, {0.9999999999999999, 0}, {-0.9999999999999999, 0}, {1.5, 1}, {-1.5, -1}, {-2.9, -2}, {1e-320, 0}, {-1e-320, 0},
		{2147483647, 2147483647}, {2147483647.5, 2147483647}, {2147483648, -2147483648}, {2147483649, -2147483647}, {-2147483647.5, -2147483647}, {-2147483648, -2147483648}, {-2147483648.5, -2147483648}, {-2147483649, 2147483647}, {-2147483649.75, 2147483647},
		{4294967295, -1}, {4294967295.5, -1}, {4294967296, 0}, {4294967296.5, 0}, {4294967297, 1}, {-4294967295, 1}, {-4294967295.5, 1}, {-4294967296, 0}, {-4294967297.25, -1}, {6442450943, 2147483647}, {6442450944, -2147483648},
		{9007199254740991, -1}, {9007199254740992, 0}, {9007199254740994, 2}, {-9007199254740994, -2}, {18446744073709551616, 0}, {36893488147419111424, 8192}, {math.Ldexp(9007199254740991, 31), -2147483648}, {math.Ldexp(9007199254740991, 30), -1073741824}, {math.Ldexp(9007199254740991, 32), 0}, {math.Ldexp(9007199254740991, 33), 0}, {math.MaxFloat64, 0}, {-math.MaxFloat64, 0},
		{math.Inf(1), 0}, {math.Inf(-1), 0}, {math.NaN(), 0}, {math.Copysign(0, -1), 0},
	} {
		if got := impl.ToInt32(math.Float64bits(c.x)); got != c.want {
			t.Errorf("ToInt32 of %v = %d, want %d", c.x, got, c.want)
		}
	}
}

func TestToInt32IsTheWholePart(t *testing.T) {
	xs := finiteAtEdges()
	for e := uint64(1015); e <= 1150; e++ {
		for _, f := range []uint64{0, 1, 0x8000000000001, 0xfffffffffffff, 0xfffff80000000, 0xabcdef9876543} {
			xs = append(xs, e*fValues+f, signOfNumber+e*fValues+f)
		}
	}
	for _, x := range xs {
		if got, want := impl.ToInt32(x), wholeModulo(x); got != want {
			t.Fatalf("ToInt32(%#x) = %d, want %d", x, got, want)
		}
	}
	for _, x := range append(numbersThatAreNone(), bothInfinite()...) {
		if got := impl.ToInt32(x); got != 0 {
			t.Fatalf("ToInt32(%#x) = %d", x, got)
		}
	}
}

func TestTruthy(t *testing.T) {
	for _, x := range finiteAtEdges() {
		if want := x != 0 && x != signOfNumber; impl.Truthy(x) != want {
			t.Fatalf("Truthy(%#x) is %v", x, !want)
		}
	}
	for _, x := range bothInfinite() {
		if !impl.Truthy(x) {
			t.Errorf("Truthy(%#x) is false", x)
		}
	}
	for _, x := range numbersThatAreNone() {
		if impl.Truthy(x) {
			t.Fatalf("Truthy(%#x) is true", x)
		}
	}
}

// numbersInOrder: ascending, with both zeros beside each other in the middle.
func numbersInOrder() []uint64 {
	up := append(sizesAtEdges(), impl.Infinite)
	var out []uint64
	for i := len(up) - 1; i >= 0; i-- {
		out = append(out, signOfNumber+up[i])
	}
	return append(out, up...)
}

func TestLessAndEqualAreTheOrder(t *testing.T) {
	all := numbersInOrder()
	zero := len(all) / 2
	place := func(i int) int {
		if i < zero {
			return i + 1
		}
		return i
	}
	for i, a := range all {
		for k, b := range all {
			if got, want := impl.Less(a, b), place(i) < place(k); got != want {
				t.Fatalf("Less(%#x, %#x) = %v", a, b, got)
			}
			if got, want := impl.Equal(a, b), place(i) == place(k); got != want {
				t.Fatalf("Equal(%#x, %#x) = %v", a, b, got)
			}
		}
	}
}

func TestNaNIsInNoOrder(t *testing.T) {
	others := append(append(numbersThatAreNone(), bothInfinite()...), 0, signOfNumber, 1, signOfNumber+1, impl.FromInt(1), impl.FromInt(-1), greatestFinite, signOfNumber+greatestFinite)
	for _, none := range numbersThatAreNone() {
		for _, x := range others {
			if impl.Less(none, x) || impl.Less(x, none) || impl.Equal(none, x) || impl.Equal(x, none) {
				t.Fatalf("%#x and %#x are in an order", none, x)
			}
		}
	}
}
