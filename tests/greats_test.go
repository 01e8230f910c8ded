package tests

import (
	"math"
	"math/big"
	"strings"
	"testing"

	"loop.example/g00115/impl"
)

// Promise 6: great numbers: sums, differences and products fit one another; Exact is just what the number is.

func nines(count int) string { return strings.Repeat("9", count) }

func noughts(count int) string { return strings.Repeat("0", count) }

// tenTo is 1 and so many noughts.
func tenTo(count int) string { return "1" + noughts(count) }

// figuresBySteps: count figures without an order that would show, the first and the last one no nought.
func figuresBySteps(count int, seed uint64) string {
	out := make([]byte, count)
	for i := range out {
		seed ^= seed << 13
		seed ^= seed >> 7
		seed ^= seed << 17
		out[i] = byte('0' + seed%10)
	}
	out[0], out[count-1] = byte('1'+seed%9), '7'
	return string(out)
}

// greatAtEdges: right numbers, ascending in the number of their figures.
func greatAtEdges() []string {
	out := []string{"0", "1", "2", "3", "4", "5", "6", "7", "8", "9"}
	for _, size := range []int{2, 3, 4, 7, 8, 9, 10, 11, 16, 17, 18, 19, 20, 26, 27, 28, 36, 37, 63, 64, 65, 100, 399, 400, 401, 790, 791, 792, 793, 798, 799, 800} {
		out = append(out, tenTo(size-1), nines(size), nines(size-1)+"8", "5"+noughts(size-1), figuresBySteps(size, uint64(size)*7919))
		if size > 2 {
			out = append(out, "1"+noughts(size-2)+"1", "9"+noughts(size-2)+"9", "1"+nines(size-2)+"0", figuresBySteps(size/2, 88172645463325252)+noughts(size-size/2))
		}
	}
	return out
}

func great(t *testing.T, figures string) *big.Int {
	t.Helper()
	n, ok := new(big.Int).SetString(figures, 10)
	if !ok {
		t.Fatalf("%q are no figures", figures)
	}
	return n
}

// checkGreat holds what came against a whole number: its figures and true, when they are right, else nothing and false.
func checkGreat(t *testing.T, what string, got string, ok bool, want *big.Int) {
	t.Helper()
	figures := want.String()
	right := want.Sign() >= 0 && len(figures) <= impl.MaxFigures
	if !right {
		figures = ""
	}
	if got != figures || ok != right {
		t.Fatalf("%s = %q, %t, want %q, %t", what, got, ok, figures, right)
	}
}

func checkPair(t *testing.T, a string, b string) {
	t.Helper()
	x, y := great(t, a), great(t, b)
	sum, ok := impl.GreatAdd(a, b)
	checkGreat(t, "GreatAdd("+a+", "+b+")", sum, ok, new(big.Int).Add(x, y))
	difference, ok := impl.GreatSub(a, b)
	checkGreat(t, "GreatSub("+a+", "+b+")", difference, ok, new(big.Int).Sub(x, y))
	product, ok := impl.GreatMul(a, b)
	checkGreat(t, "GreatMul("+a+", "+b+")", product, ok, new(big.Int).Mul(x, y))
	if got, want := impl.GreatLess(a, b), x.Cmp(y) < 0; got != want {
		t.Fatalf("GreatLess(%s, %s) = %t", a, b, got)
	}
}

func TestMaxFigures(t *testing.T) {
	if impl.MaxFigures != 800 {
		t.Error("MaxFigures", impl.MaxFigures)
	}
}

func TestFiguresThatAreRight(t *testing.T) {
	for _, n := range greatAtEdges() {
		if !impl.FiguresOk(n) {
			t.Errorf("FiguresOk(%q) is false", n)
		}
	}
	for _, n := range []string{"10", "101", "1001", "90", "9000000009", nines(800), tenTo(799)} {
		if !impl.FiguresOk(n) {
			t.Errorf("FiguresOk(%q) is false", n)
		}
	}
}

// notRight: texts that are no great numbers.
func notRight() []string {
	out := []string{"", " ", "-", "+", ".", "00", "01", "000", "0000000000", "09", "010", "-1", "+1", "-0", "1.0", "1e3", "1_000", "0x1f", " 1", "1 ", "1\n", "1\x00", "\x001", "ten", "a", "1a", "a1", "٣", "1٣", "１", "½", "\xff", "1\xff", "1\xb0"}
	out = append(out, nines(801), tenTo(800), noughts(800), noughts(801), "0"+nines(799), "0"+nines(800), nines(802), nines(1600), nines(5000), nines(799)+"a", nines(799)+"/", nines(799)+":", ":"+nines(799), "/"+nines(799))
	for size := 1; size <= 20; size++ {
		out = append(out, "0"+nines(size), "0"+tenTo(size))
	}
	return out
}

func TestFiguresThatAreNotRight(t *testing.T) {
	for _, n := range notRight() {
		if impl.FiguresOk(n) {
			t.Errorf("FiguresOk(%q) is true", n)
		}
	}
}

func TestFiguresOverBytes(t *testing.T) {
	for _, n := range textsOver(allBytes(), 2) {
		want := n != "" && strings.Trim(n, "0123456789") == "" && (len(n) == 1 || n[0] != '0')
		if got := impl.FiguresOk(n); got != want {
			t.Fatalf("FiguresOk(%q) = %t", n, got)
		}
	}
}

// An odd byte at each place of texts of several lengths is found.
func TestFiguresWithAnOddByte(t *testing.T) {
	for _, size := range []int{1, 2, 3, 8, 9, 10, 17, 18, 19, 27, 100, 799, 800} {
		for at := range size {
			for _, odd := range []byte{0, ' ', '+', '-', '.', '/', ':', 'a', 'e', 'o', 127, 128, '0' + 128, 255} {
				n := []byte(nines(size))
				n[at] = odd
				if impl.FiguresOk(string(n)) {
					t.Fatalf("%d figures with the byte %d at %d are right", size, odd, at)
				}
			}
		}
	}
}

// checkRefused: on either side of every function, beside a right number and beside itself.
func checkRefused(t *testing.T, wrong string) {
	t.Helper()
	for _, right := range []string{"0", "1", "9", tenTo(9), nines(800), wrong} {
		for _, c := range [][2]string{{wrong, right}, {right, wrong}} {
			for name, f := range map[string]func(string, string) (string, bool){"GreatAdd": impl.GreatAdd, "GreatSub": impl.GreatSub, "GreatMul": impl.GreatMul} {
				if got, ok := f(c[0], c[1]); got != "" || ok {
					t.Fatalf("%s(%q, %q) = %q, %t", name, c[0], c[1], got, ok)
				}
			}
			if impl.GreatLess(c[0], c[1]) {
				t.Fatalf("GreatLess(%q, %q) is true", c[0], c[1])
			}
		}
	}
}

func TestGreatOfWhatIsNotRight(t *testing.T) {
	for _, wrong := range notRight() {
		checkRefused(t, wrong)
	}
	for size := 1; size <= 30; size++ {
		for at := range size {
			for _, odd := range []byte{0, '-', '/', ':', '0' + 128, 255} {
				n := []byte(nines(size))
				n[at] = odd
				checkRefused(t, string(n))
			}
		}
	}
	for b := range 256 {
		if b < '0' || b > '9' {
			checkRefused(t, string([]byte{byte(b)}))
		}
	}
}

func TestGreatThatIsKnown(t *testing.T) {
	for _, c := range []struct{ a, b, sum, difference, product string }{
		{"0", "0", "0", "0", "0"}, {"1", "0", "1", "1", "0"}, {"1", "1", "2", "0", "1"}, {"9", "1", "10", "8", "9"}, {"10", "1", "11", "9", "10"}, {"12", "12", "24", "0", "144"},
		{"100", "1", "101", "99", "100"}, {"999999999", "1", "1000000000", "999999998", "999999999"}, {"1000000000", "1", "1000000001", "999999999", "1000000000"},
		{"1000000000", "999999999", "1999999999", "1", "999999999000000000"}, {"1000000001", "1000000001", "2000000002", "0", "1000000002000000001"},
		{"999999999999999999", "999999999999999999", "1999999999999999998", "0", "999999999999999998000000000000000001"},
		{"1000000000000000000", "1", "1000000000000000001", "999999999999999999", "1000000000000000000"},
		{"1000000000000000000000000000", "999999999999999999", "1000000000999999999999999999", "999999999000000000000000001", "999999999999999999000000000000000000000000000"},
		{"123456789012345678901234567890", "987654321", "123456789012345678902222222211", "123456789012345678900246913569", "121932631124828532112482853211126352690"},
	} {
		for _, d := range []struct {
			name      string
			f         func(string, string) (string, bool)
			bothSides bool
			want      string
		}{{"GreatAdd", impl.GreatAdd, true, c.sum}, {"GreatSub", impl.GreatSub, false, c.difference}, {"GreatMul", impl.GreatMul, true, c.product}} {
			if got, ok := d.f(c.a, c.b); got != d.want || !ok {
				t.Errorf("%s(%s, %s) = %q, %t, want %q", d.name, c.a, c.b, got, ok, d.want)
			}
			if got, ok := d.f(c.b, c.a); d.bothSides && (got != d.want || !ok) {
				t.Errorf("%s(%s, %s) = %q, %t, want %q", d.name, c.b, c.a, got, ok, d.want)
			}
		}
	}
}

func TestGreatAtEdges(t *testing.T) {
	all := greatAtEdges()
	for _, a := range all {
		for _, b := range all {
			checkPair(t, a, b)
		}
	}
}

func TestSmallGreatNumbers(t *testing.T) {
	for a := range 130 {
		for b := range 130 {
			checkPair(t, impl.Decimal(a), impl.Decimal(b))
		}
	}
}

func TestGreatBySteps(t *testing.T) {
	for i := 1; i <= 400; i++ {
		a, b := figuresBySteps(i, uint64(i)*2654435761), figuresBySteps(801-i, uint64(i)*40503+1)
		checkPair(t, a, b)
		checkPair(t, b, a)
		checkPair(t, b, b)
		checkPair(t, a, figuresBySteps(i, uint64(i)*69069+5))
	}
}

// What is added is taken off again, and what is taken off is added again.
func TestSumsAndDifferencesFit(t *testing.T) {
	all := greatAtEdges()
	for _, a := range all {
		for _, b := range all {
			if sum, ok := impl.GreatAdd(a, b); ok {
				if back, ok := impl.GreatSub(sum, b); back != a || !ok {
					t.Fatalf("%s and %s: the sum less the second is %q, %t", a, b, back, ok)
				}
				if back, ok := impl.GreatSub(sum, a); back != b || !ok {
					t.Fatalf("%s and %s: the sum less the first is %q, %t", a, b, back, ok)
				}
			}
			difference, ok := impl.GreatSub(a, b)
			if ok == impl.GreatLess(a, b) {
				t.Fatalf("GreatSub(%s, %s) = %q, %t", a, b, difference, ok)
			}
			if back, right := impl.GreatAdd(difference, b); ok && (back != a || !right) {
				t.Fatalf("%s less %s, and that again, is %q, %t", a, b, back, right)
			}
		}
	}
}

// A product by a number is as many sums, and a product by a sum is the sum of the products.
func TestProductsAreSums(t *testing.T) {
	for _, a := range greatAtEdges() {
		sum, ok := "0", true
		for times := 0; times <= 40 && ok; times++ {
			if product, right := impl.GreatMul(a, impl.Decimal(times)); product != sum || !right {
				t.Fatalf("%s times %d = %q, %t, want %q", a, times, product, right, sum)
			}
			if product, right := impl.GreatMul(impl.Decimal(times), a); product != sum || !right {
				t.Fatalf("%d times %s = %q, %t, want %q", times, a, product, right, sum)
			}
			sum, ok = impl.GreatAdd(sum, a)
		}
	}
	for i := 1; i <= 390; i++ {
		a, b, c := figuresBySteps(i, uint64(i)+17), figuresBySteps(i+3, uint64(i)*31+2), figuresBySteps(400-i, uint64(i)*1009+3)
		sum, _ := impl.GreatAdd(a, b)
		all, ok := impl.GreatMul(sum, c)
		first, _ := impl.GreatMul(a, c)
		second, _ := impl.GreatMul(b, c)
		if both, right := impl.GreatAdd(first, second); all != both || !ok || !right {
			t.Fatalf("(%s + %s) times %s = %q, %t; by parts %q, %t", a, b, c, all, ok, both, right)
		}
	}
}

func TestOrderOfGreatNumbers(t *testing.T) {
	all := greatAtEdges()
	for _, a := range all {
		if impl.GreatLess(a, a) {
			t.Errorf("%s is less than itself", a)
		}
		if next, ok := impl.GreatAdd(a, "1"); ok && (!impl.GreatLess(a, next) || impl.GreatLess(next, a)) {
			t.Errorf("%s and the next", a)
		}
		for _, b := range all {
			less, greater := impl.GreatLess(a, b), impl.GreatLess(b, a)
			if less && greater || less == greater && a != b {
				t.Errorf("%s and %s: %t, %t", a, b, less, greater)
			}
		}
	}
	for _, c := range [][2]string{{"9", "10"}, {"2", "10"}, {"99", "100"}, {"0", "1"}, {nines(799), tenTo(799)}, {"1" + nines(8), "2" + noughts(8)}, {nines(799) + "8", nines(800)}} {
		if !impl.GreatLess(c[0], c[1]) || impl.GreatLess(c[1], c[0]) {
			t.Errorf("%s and %s", c[0], c[1])
		}
	}
}

func checkAnswer(t *testing.T, what string, got string, ok bool, want string) {
	t.Helper()
	if got != want || ok != (want != "") {
		t.Errorf("%s: %q, %t, want %q", what, got, ok, want)
	}
}

// What is the same as an argument is still new memory.
func TestGreatAnswersAreNew(t *testing.T) {
	for _, a := range []string{"7", nines(9), nines(10), nines(800)} {
		for _, f := range []struct {
			name string
			of   func(string, string) (string, bool)
			with string
		}{{"GreatAdd", impl.GreatAdd, "0"}, {"GreatSub", impl.GreatSub, "0"}, {"GreatMul", impl.GreatMul, "1"}} {
			if got, ok := f.of(a, f.with); got != a || !ok || within(got, a) {
				t.Errorf("%s(%s, %s) = %q, %t", f.name, a, f.with, got, ok)
			}
		}
	}
}

func TestSumsAtTheLimit(t *testing.T) {
	half := "5" + noughts(799)
	for _, c := range []struct{ a, b, want string }{
		{nines(800), "0", nines(800)}, {nines(800), "1", ""}, {nines(799) + "8", "1", nines(800)}, {nines(799), "1", tenTo(799)}, {nines(799), nines(799), "1" + nines(798) + "8"},
		{half, "4" + nines(799), nines(800)}, {half, half, ""}, {tenTo(799), "8" + nines(799), nines(800)}, {tenTo(799), "9" + noughts(799), ""}, {nines(800), nines(800), ""},
	} {
		got, ok := impl.GreatAdd(c.a, c.b)
		checkAnswer(t, "sum", got, ok, c.want)
		got, ok = impl.GreatAdd(c.b, c.a)
		checkAnswer(t, "sum from the other side", got, ok, c.want)
	}
}

func TestProductsAtTheLimit(t *testing.T) {
	for _, c := range []struct{ a, b, want string }{
		{tenTo(799), "1", tenTo(799)}, {tenTo(799), "9", "9" + noughts(799)}, {tenTo(799), "10", ""}, {tenTo(798), "10", tenTo(799)}, {tenTo(798), "99", "99" + noughts(798)}, {tenTo(798), "100", ""},
		{tenTo(400), tenTo(399), tenTo(799)}, {tenTo(400), tenTo(400), ""}, {nines(800), "1", nines(800)}, {nines(800), "2", ""}, {nines(800), "0", "0"}, {tenTo(799), "0", "0"}, {nines(800), nines(800), ""},
		{nines(400), nines(400), nines(399) + "8" + noughts(399) + "1"}, {nines(400), nines(401), ""}, {nines(401), nines(401), ""}, {nines(399), nines(401), nines(398) + "899" + noughts(398) + "1"},
		{strings.Repeat("3", 800), "3", nines(800)}, {strings.Repeat("3", 799) + "4", "3", ""}, {"5" + noughts(799), "2", ""}, {"4" + nines(799), "2", nines(799) + "8"},
	} {
		got, ok := impl.GreatMul(c.a, c.b)
		checkAnswer(t, "product", got, ok, c.want)
		got, ok = impl.GreatMul(c.b, c.a)
		checkAnswer(t, "product from the other side", got, ok, c.want)
	}
}

func TestCarriesAndBorrowsThroughAllFigures(t *testing.T) {
	for size := 1; size < impl.MaxFigures; size++ {
		got, ok := impl.GreatAdd(nines(size), "1")
		checkAnswer(t, "carry", got, ok, tenTo(size))
		got, ok = impl.GreatSub(tenTo(size), "1")
		checkAnswer(t, "borrow", got, ok, nines(size))
		got, ok = impl.GreatSub(tenTo(size), nines(size))
		checkAnswer(t, "all but one", got, ok, "1")
		got, ok = impl.GreatSub(nines(size), tenTo(size))
		checkAnswer(t, "lesser less greater", got, ok, "")
		got, ok = impl.GreatMul(nines(size), "1")
		checkAnswer(t, "once", got, ok, nines(size))
	}
}

func TestDifferencesAtEdges(t *testing.T) {
	for _, a := range greatAtEdges() {
		got, ok := impl.GreatSub(a, a)
		checkAnswer(t, "less itself", got, ok, "0")
		got, ok = impl.GreatSub(a, "0")
		checkAnswer(t, "less 0", got, ok, a)
		if a == nines(impl.MaxFigures) {
			continue
		}
		next, _ := impl.GreatAdd(a, "1")
		got, ok = impl.GreatSub(next, a)
		checkAnswer(t, "the next less it", got, ok, "1")
		got, ok = impl.GreatSub(a, next)
		checkAnswer(t, "it less the next", got, ok, "")
	}
	for _, size := range []int{2, 9, 10, 18, 19, 100, 799, 800} {
		begin := figuresBySteps(size-1, uint64(size))
		for last := range 10 {
			for other := range 10 {
				got, ok := impl.GreatSub(begin+impl.Decimal(last), begin+impl.Decimal(other))
				want := ""
				if last >= other {
					want = impl.Decimal(last - other)
				}
				checkAnswer(t, "last figures", got, ok, want)
			}
		}
	}
}

func TestPowers(t *testing.T) {
	for base := 2; base <= 10; base++ {
		want := big.NewInt(1)
		power, ok := "1", true
		for n := 0; n <= 1100; n++ {
			got, right := impl.GreatPower(base, n)
			checkGreat(t, "GreatPower("+impl.Decimal(base)+", "+impl.Decimal(n)+")", got, right, want)
			// It goes on by one product.
			if got != power || right != ok {
				t.Fatalf("GreatPower(%d, %d) = %q, %t; by one product %q, %t", base, n, got, right, power, ok)
			}
			want.Mul(want, big.NewInt(int64(base)))
			power, ok = impl.GreatMul(power, impl.Decimal(base))
		}
	}
}

func TestPowersThatAreKnown(t *testing.T) {
	for _, c := range []struct {
		base, n int
		want    string
	}{
		{2, 0, "1"}, {10, 0, "1"}, {7, 0, "1"}, {2, 1, "2"}, {3, 1, "3"}, {9, 1, "9"}, {10, 1, "10"}, {2, 10, "1024"}, {2, 64, "18446744073709551616"}, {3, 4, "81"}, {5, 12, "244140625"}, {5, 13, "1220703125"}, {9, 3, "729"},
		{10, 9, "1000000000"}, {10, 799, tenTo(799)}, {10, 800, ""}, {10, 801, ""}, {10, 1100, ""}, {9, 1100, ""}, {8, 1100, ""}, {6, 1100, ""},
	} {
		got, ok := impl.GreatPower(c.base, c.n)
		checkAnswer(t, "GreatPower("+impl.Decimal(c.base)+", "+impl.Decimal(c.n)+")", got, ok, c.want)
	}
}

func TestPowersAtTheLimit(t *testing.T) {
	// For each base the greatest n whose power still has no more than MaxFigures figures.
	greatest := map[int]int{2: 1100, 3: 1100, 4: 1100, 5: 1100, 6: 1028, 7: 946, 8: 885, 9: 838, 10: 799}
	for base, n := range greatest {
		got, ok := impl.GreatPower(base, n)
		if !ok || n < 1100 && len(got) != impl.MaxFigures {
			t.Errorf("GreatPower(%d, %d): %d figures, %t", base, n, len(got), ok)
		}
		for next := n + 1; next <= 1105; next++ {
			got, ok := impl.GreatPower(base, next)
			checkAnswer(t, "GreatPower("+impl.Decimal(base)+", "+impl.Decimal(next)+")", got, ok, "")
		}
	}
}

func TestPowersBeyondTheBounds(t *testing.T) {
	for _, base := range []int{math.MinInt, math.MinInt + 1, -1000, -10, -3, -2, -1, 0, 1, 11, 12, 16, 20, 100, math.MaxInt - 1, math.MaxInt} {
		for _, n := range []int{math.MinInt, -1, 0, 1, 2, 3, 10, 1099, 1100, 1101, math.MaxInt} {
			got, ok := impl.GreatPower(base, n)
			checkAnswer(t, "base "+impl.Decimal(base), got, ok, "")
		}
	}
	for base := 2; base <= 10; base++ {
		for _, n := range []int{math.MinInt, math.MinInt + 1, -1100, -10, -2, -1, 1101, 1102, 2200, 1 << 32, math.MaxInt - 1, math.MaxInt} {
			got, ok := impl.GreatPower(base, n)
			checkAnswer(t, "power "+impl.Decimal(n), got, ok, "")
		}
	}
}

func TestExactThatIsKnown(t *testing.T) {
	for _, c := range []struct {
		x       uint64
		figures string
		exp     int
	}{
		{one, "1", 0}, {0x4000000000000000, "2", 0}, {0x3fe0000000000000, "5", -1}, {0x3fd0000000000000, "25", -2}, {0x3ff8000000000000, "15", -1}, {0x4008000000000000, "3", 0}, {0x4024000000000000, "1", 1},
		{0x4059000000000000, "1", 2}, {0x405ec00000000000, "123", 0}, {0x4093480000000000, "1234", 0}, {0x40f86a0000000000, "1", 5}, {0x4415af1d78b58c40, "1", 20}, {0x4480f0cf064dd592, "1", 22},
		{0x3fb999999999999a, "1000000000000000055511151231257827021181583404541015625", -55}, {0x433fffffffffffff, "9007199254740991", 0}, {0x4340000000000000, "9007199254740992", 0}, {0x4340000000000001, "9007199254740994", 0}, {0x4376345785d8a000, "1", 17},
	} {
		for _, x := range []uint64{c.x, otherSign(c.x)} {
			if figures, exp := impl.Exact(x); figures != c.figures || exp != c.exp {
				t.Errorf("Exact(%#x) = %q, %d, want %q, %d", x, figures, exp, c.figures, c.exp)
			}
		}
	}
}

func TestExactOfTheLeastAndTheGreatest(t *testing.T) {
	figures, exp := impl.Exact(1)
	if len(figures) != 751 || exp != -1074 || !strings.HasPrefix(figures, "49406564584124654") || !strings.HasSuffix(figures, "5625") {
		t.Errorf("least: %q, %d", figures, exp)
	}
	if power, _ := impl.GreatPower(5, 1074); figures != power {
		t.Errorf("least: %q", figures)
	}
	figures, exp = impl.Exact(greatestFinite)
	if len(figures) != 309 || exp != 0 || !strings.HasPrefix(figures, "17976931348623157") || !strings.HasSuffix(figures, "8368") {
		t.Errorf("greatest: %q, %d", figures, exp)
	}
	figures, exp = impl.Exact(leastWithE1 - 1)
	if len(figures) != 767 || exp != -1074 || !strings.HasPrefix(figures, "2225073858507200889") {
		t.Errorf("greatest with e of 0: %q, %d", figures, exp)
	}
	figures, exp = impl.Exact(leastWithE1)
	if exp != -1022 || !strings.HasPrefix(figures, "22250738585072013830") {
		t.Errorf("least with e of 1: %q, %d", figures, exp)
	}
}

// checkExact holds Exact against the number in units of 2^-1074, which is a whole number.
func checkExact(t *testing.T, size uint64) {
	t.Helper()
	figures, exp := impl.Exact(size)
	if !impl.FiguresOk(figures) || figures[len(figures)-1] == '0' {
		t.Fatalf("Exact(%#x) = %q, %d", size, figures, exp)
	}
	// The number, as many times as makes both sides whole: times 2^1074 times 10^1074.
	ten := new(big.Int).Exp(big.NewInt(10), big.NewInt(int64(exp+leastPlaces)), nil)
	got := new(big.Int).Lsh(new(big.Int).Mul(great(t, figures), ten), leastPlaces)
	want := new(big.Int).Mul(leastUnits(size), new(big.Int).Exp(big.NewInt(10), big.NewInt(leastPlaces), nil))
	if got.Cmp(want) != 0 {
		t.Fatalf("Exact(%#x) = %q, %d", size, figures, exp)
	}
	if below, otherExp := impl.Exact(otherSign(size)); below != figures || otherExp != exp {
		t.Fatalf("Exact(%#x) = %q, %d, and below 0 %q, %d", size, figures, exp, below, otherExp)
	}
}

func TestExactIsJust(t *testing.T) {
	for _, size := range edgesAboveZero() {
		checkExact(t, size)
	}
	for bit := range 52 {
		checkExact(t, 1<<bit)
		checkExact(t, leastWithE1+1<<bit)
		checkExact(t, one+1<<bit)
	}
	for e := range uint64(2047) {
		checkExact(t, max(e*fValues, 1))
		checkExact(t, e*fValues+fValues-1)
		checkExact(t, e*fValues+(e*0x9e3779b97f4a7c15)%(fValues-1)+1)
	}
	for _, x := range numbersBySteps(1500) {
		if size := x &^ signOfNumber; size != 0 && size < impl.Infinite {
			checkExact(t, size)
		}
	}
}

// Figures and exponent of whole numbers are those of Decimal, its noughts at the end counted.
func TestExactOfWholeNumbers(t *testing.T) {
	var all []int
	for n := 1; n <= 3000; n++ {
		all = append(all, n)
	}
	for ten := 10; ten <= 1000000000000000; ten *= 10 {
		all = append(all, ten, ten-1, ten+1, 7*ten, 25*ten/10, 8*ten, 5*ten)
	}
	for bit := range 53 {
		all = append(all, 1<<bit, 1<<bit+1)
	}
	for _, n := range all {
		want := strings.TrimRight(impl.Decimal(n), "0")
		for _, x := range []uint64{impl.FromInt(n), impl.FromInt(-n)} {
			if figures, exp := impl.Exact(x); figures != want || exp != len(impl.Decimal(n))-len(want) {
				t.Fatalf("Exact of %d = %q, %d", n, figures, exp)
			}
		}
	}
}

// Powers of 2 have the figures of powers of 2 or of 5; of 10 those up to 10^22 are just 1.
func TestExactOfPowers(t *testing.T) {
	for n := 0; n <= 1023; n++ {
		want, _ := impl.GreatPower(2, n)
		if figures, exp := impl.Exact(impl.RoundTo(false, 1, n, false)); figures != want || exp != 0 {
			t.Fatalf("Exact of 2^%d = %q, %d", n, figures, exp)
		}
	}
	for n := 1; n <= leastPlaces; n++ {
		want, _ := impl.GreatPower(5, n)
		if figures, exp := impl.Exact(impl.RoundTo(false, 1, -n, false)); figures != want || exp != -n {
			t.Fatalf("Exact of 2^-%d = %q, %d", n, figures, exp)
		}
	}
	ten := uint64(one)
	for n := 0; n <= 22; n++ {
		if figures, exp := impl.Exact(ten); figures != "1" || exp != n {
			t.Fatalf("Exact of 10^%d = %q, %d", n, figures, exp)
		}
		ten = impl.Mul(ten, impl.FromInt(10))
	}
}

func TestExactOfAllOthers(t *testing.T) {
	others := append(numbersThatAreNone(), bothInfinite()...)
	others = append(others, 0, minusZero, impl.NaN, math.MaxUint64, minusInfinite)
	for _, x := range others {
		if figures, exp := impl.Exact(x); figures != "" || exp != 0 {
			t.Errorf("Exact(%#x) = %q, %d", x, figures, exp)
		}
	}
}
