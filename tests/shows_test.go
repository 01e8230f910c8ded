package tests

import (
	"math"
	"math/big"
	"regexp"
	"strconv"
	"strings"
	"testing"

	"loop.example/g00115/impl"
)

// Promise 7: what is shown of a finite number that is not below 0 reads back as it, and no fewer figures do;
// Nearest of its exact figures, where these are at most 60 and their exponent is in its bounds, is it.

const (
	tieOf1e23   = 0x44b52d02c7e14af6
	twoTo50     = 0x4310000000000000
	mostFigures = 60
)

func bigTenTo(n int) *big.Int { return new(big.Int).Exp(big.NewInt(10), big.NewInt(int64(n)), nil) }

// checkNearestFigures holds Nearest against the neighbours of what it answers, and against Go's own reading.
func checkNearestFigures(t *testing.T, figures string, exp int) {
	t.Helper()
	got := impl.Nearest(figures, exp)
	exact := new(big.Int).Mul(great(t, figures), bigTenTo(max(exp, 0)))
	what := figures + "e" + strconv.Itoa(exp)
	checkBetween(t, what, got, exact.Lsh(exact, leastPlaces), bigTenTo(max(-exp, 0)))
	if want, _ := strconv.ParseFloat(what, 64); math.Float64bits(want) != got {
		t.Fatalf("%s is %#x, want %#x", what, got, math.Float64bits(want))
	}
}

func TestNearestThatIsKnown(t *testing.T) {
	for _, c := range []struct {
		figures string
		exp     int
		want    uint64
	}{
		{"0", 0, 0}, {"0", 500, 0}, {"0", -500, 0}, {"1", 0, one}, {"10", 0, 0x4024000000000000}, {"1", 1, 0x4024000000000000}, {"10", -1, one}, {"1", -1, 0x3fb999999999999a}, {"5", -1, 0x3fe0000000000000},
		{"3", -1, 0x3fd3333333333333}, {"2", -1, 0x3fc999999999999a}, {"1500", -3, 0x3ff8000000000000}, {"123", -2, 0x3ff3ae147ae147ae}, {"255", 0, 0x406fe00000000000},
		{"9007199254740992", 0, 0x4340000000000000}, {"9007199254740993", 0, 0x4340000000000000}, {"9007199254740994", 0, 0x4340000000000001}, {"9007199254740995", 0, 0x4340000000000002}, {"9007199254740997", 0, 0x4340000000000002},
		{"90071992547409930", -1, 0x4340000000000000}, {"90071992547409931", -1, 0x4340000000000001}, {"90071992547409949", -1, 0x4340000000000001}, {"90071992547409950", -1, 0x4340000000000002}, {"90071992547409951", -1, 0x4340000000000002},
		{"9007199254740993" + noughts(43) + "1", -44, 0x4340000000000001}, {"9007199254740992" + nines(44), -44, 0x4340000000000000}, {"9007199254740993" + noughts(44), -44, 0x4340000000000000},
		{"1", 22, 0x4480f0cf064dd592}, {"1", 23, tieOf1e23}, {"1" + noughts(23), 0, tieOf1e23}, {"1" + noughts(58) + "1", -36, tieOf1e23 + 1}, {nines(60), -37, tieOf1e23},
		{"1", 21, 0x444b1ae4d6e2ef50}, {"1", -6, 0x3eb0c6f7a0b5ed8d}, {"1", -7, 0x3e7ad7f29abcaf48}, {"1", 308, 0x7fe1ccf385ebc8a0}, {"1", 309, impl.Infinite}, {"1", 500, impl.Infinite},
		{"5", -324, 1}, {"3", -324, 1}, {"2", -324, 0}, {"49406564584124654", -340, 1}, {"24703282292062327", -340, 0}, {"24703282292062328", -340, 1}, {"1", -500, 0}, {nines(60), -500, 0}, {"7", -324, 1}, {"8", -324, 2}, {"1", -323, 2},
		{"22250738585072014", -324, leastWithE1}, {"22250738585072011", -324, leastWithE1 - 1}, {"22250738585072009", -324, leastWithE1 - 1}, {"2225073858507201", -323, leastWithE1 - 1},
		{"17976931348623157", 292, greatestFinite}, {"17976931348623158", 292, greatestFinite}, {"17976931348623159", 292, impl.Infinite}, {"17976931348623158079", 289, greatestFinite}, {"17976931348623158080", 289, impl.Infinite}, {"2", 308, impl.Infinite},
	} {
		if got := impl.Nearest(c.figures, c.exp); got != c.want {
			t.Errorf("Nearest(%q, %d) = %#x, want %#x", c.figures, c.exp, got, c.want)
		}
		checkNearestFigures(t, c.figures, c.exp)
	}
}

func TestNearestOfAllSizes(t *testing.T) {
	for size := 1; size <= mostFigures; size++ {
		for i, figures := range []string{figuresBySteps(size, uint64(size)*7919), tenTo(size - 1), nines(size), "5" + noughts(size-1), "1" + strings.Repeat("2", size-1), "4" + nines(size-1)} {
			for exp := -500 + (size+i)%5; exp <= 500; exp += 5 {
				checkNearestFigures(t, figures, exp)
			}
		}
	}
}

// Where numbers are finite and not 0, and at both ends of that, each exponent counts.
func TestNearestOfEachExponent(t *testing.T) {
	for exp := -500; exp <= 500; exp++ {
		for last := range 10 {
			checkNearestFigures(t, strconv.Itoa(last), exp)
			checkNearestFigures(t, "8"+figuresBySteps(16, uint64(exp+501)*31)+strconv.Itoa(last), exp)
		}
		for _, figures := range []string{figuresBySteps(40, uint64(exp+777)), figuresBySteps(mostFigures, uint64(exp+999)), nines(mostFigures)} {
			checkNearestFigures(t, figures, exp)
		}
	}
}

// Noughts at the end count as an exponent does.
func TestNearestWithNoughtsAtTheEnd(t *testing.T) {
	for size := 1; size <= 20; size++ {
		figures := figuresBySteps(size, uint64(size)*104729)
		for _, exp := range []int{-340, -300, -61, -60, -30, -1, 0, 1, 22, 23, 60, 280, 300} {
			want := impl.Nearest(figures, exp)
			for behind := 1; size+behind <= mostFigures; behind++ {
				if got := impl.Nearest(figures+noughts(behind), exp-behind); got != want {
					t.Fatalf("%s with %d noughts, and %d, is %#x, want %#x", figures, behind, exp, got, want)
				}
			}
		}
	}
}

// middle: what lies just between a size and the next one, as figures without a nought at the end and an exponent.
func middle(size uint64) (string, int) {
	// Twice the middle, in least units; 2^-1075 is 5^1075 times 10^-1075.
	twice := leastUnits(size)
	twice.Add(twice, leastUnits(size+1))
	five := new(big.Int).Exp(big.NewInt(5), big.NewInt(leastPlaces+1), nil)
	all := twice.Mul(twice, five).String()
	figures := strings.TrimRight(all, "0")
	return figures, len(all) - len(figures) - leastPlaces - 1
}

// nextFigures: the figures that are more by so many in their last place, and no more of them.
func nextFigures(t *testing.T, figures string, more int64) string {
	t.Helper()
	n := great(t, figures)
	return n.Add(n, big.NewInt(more)).String()
}

// checkMiddle: what lies just between goes to the even one, and what is a little less or more to the one below or above.
func checkMiddle(t *testing.T, size uint64) (just bool) {
	t.Helper()
	figures, exp := middle(size)
	if just = len(figures) <= mostFigures; !just {
		exp += len(figures) - mostFigures
		under := figures[:mostFigures]
		checkTold(t, under, exp, size)
		checkTold(t, nextFigures(t, under, 1), exp, size+1)
		return just
	}
	even := size + size%2
	checkTold(t, figures, exp, even)
	exp -= mostFigures - len(figures)
	figures += noughts(mostFigures - len(figures))
	checkTold(t, figures, exp, even)
	checkTold(t, nextFigures(t, figures, -1), exp, size)
	checkTold(t, nextFigures(t, figures, 1), exp, size+1)
	return just
}

func checkTold(t *testing.T, figures string, exp int, want uint64) {
	t.Helper()
	if got := impl.Nearest(figures, exp); got != want {
		t.Fatalf("Nearest(%q, %d) = %#x, want %#x", figures, exp, got, want)
	}
}

func TestNearestJustBetweenTwoNumbers(t *testing.T) {
	checkMiddle(t, 0)
	just := [2]int{}
	for _, size := range edgesAboveZero() {
		checkMiddle(t, size)
	}
	for e := uint64(0); e < 2047; e++ {
		for _, f := range []uint64{0, 1, 2, fValues/2 - 1, fValues / 2, fValues - 2, fValues - 1, e * 0x9e3779b97f4a7c15 % fValues} {
			if checkMiddle(t, e*fValues+f) {
				just[f%2]++
			}
		}
	}
	if just[0] < 500 || just[1] < 500 {
		t.Errorf("only %d even and %d odd ones were just between", just[0], just[1])
	}
}

// Beyond 10^60 a middle has few figures only when it has many fives.
func TestNearestJustBetweenWithNoughts(t *testing.T) {
	found := 0
	five := uint64(1)
	for fives := 0; fives <= 23; fives++ {
		for times := uint64(1); times < 5000; times += 2 {
			n := five * times
			if n < 1<<53 || n >= 1<<54 {
				continue
			}
			// n is odd and has 54 bits: times 2^up it lies between two numbers.
			for up := -3 + int(times%7); up <= 300; up += 7 {
				below := math.Float64bits(math.Ldexp(float64(n-1), up))
				if checkMiddle(t, below) {
					found++
				}
			}
		}
		five *= 5
	}
	if found < 400 {
		t.Errorf("only %d were just between", found)
	}
	if got := impl.Nearest("1", 23); got != tieOf1e23 {
		t.Errorf("10^23 is %#x", got)
	}
}

func TestNearestAtTheBoundsOfFigures(t *testing.T) {
	for _, c := range []struct {
		figures string
		exp     int
	}{{nines(61), 0}, {tenTo(60), 0}, {tenTo(60), -60}, {figuresBySteps(61, 5), -61}, {"1" + noughts(60), -500}, {nines(62), -62}, {nines(100), -100}, {nines(800), -400}, {nines(801), -400}, {nines(61), 500}, {nines(5000), 0}} {
		if got := impl.Nearest(c.figures, c.exp); got != 0 {
			t.Errorf("Nearest of %d figures and %d is %#x", len(c.figures), c.exp, got)
		}
	}
	for _, figures := range []string{nines(60), tenTo(59), figuresBySteps(60, 5)} {
		if got := impl.Nearest(figures, -60); got == 0 || got > one {
			t.Errorf("Nearest(%q, -60) = %#x", figures, got)
		}
	}
}

func TestNearestAtTheBoundsOfExponents(t *testing.T) {
	for _, figures := range []string{"1", "9", "10", "17976931348623159", nines(30), nines(60), tenTo(59)} {
		for _, exp := range []int{501, 502, 1000, 5000, math.MaxInt32, math.MaxInt, math.MaxInt - 1, -501, -502, -1000, -5000, math.MinInt32, math.MinInt, math.MinInt + 1} {
			if got := impl.Nearest(figures, exp); got != 0 {
				t.Errorf("Nearest(%q, %d) = %#x", figures, exp, got)
			}
		}
		for exp := 309; exp <= 500; exp++ {
			if got := impl.Nearest(figures, exp); got != impl.Infinite {
				t.Errorf("Nearest(%q, %d) = %#x", figures, exp, got)
			}
		}
		for exp := -500; exp <= -385; exp++ {
			if got := impl.Nearest(figures, exp); got != 0 {
				t.Errorf("Nearest(%q, %d) = %#x", figures, exp, got)
			}
		}
	}
	for exp := -600; exp <= 600; exp++ {
		if got := impl.Nearest("0", exp); got != 0 {
			t.Errorf("Nearest(0, %d) = %#x", exp, got)
		}
	}
}

func TestNearestOfWhatIsNotRight(t *testing.T) {
	for _, wrong := range notRight() {
		for _, exp := range []int{0, 1, -1, 20, -20, 500, -500, 501, -501, math.MaxInt, math.MinInt} {
			if got := impl.Nearest(wrong, exp); got != 0 {
				t.Fatalf("Nearest(%q, %d) = %#x", wrong, exp, got)
			}
		}
	}
	for _, size := range []int{1, 2, 9, 10, 17, 30, 59, 60} {
		for at := range size {
			for odd := range 256 {
				if odd >= '0' && odd <= '9' {
					continue
				}
				n := []byte(nines(size))
				n[at] = byte(odd)
				if got := impl.Nearest(string(n), 0); got != 0 {
					t.Fatalf("Nearest(%q, 0) = %#x", n, got)
				}
			}
		}
		if got := impl.Nearest("0"+nines(size-1)+"1", 0); got != 0 {
			t.Fatalf("a nought ahead of %d figures: %#x", size, got)
		}
	}
}

// exactIsNearest: whether the exact figures are so few that Nearest takes them; it has to tell the number then.
func exactIsNearest(t *testing.T, size uint64) bool {
	t.Helper()
	figures, exp := impl.Exact(size)
	if len(figures) > mostFigures || exp < -500 || exp > 500 {
		return false
	}
	if got := impl.Nearest(figures, exp); got != size {
		t.Fatalf("Nearest(%q, %d) = %#x, want %#x", figures, exp, got, size)
	}
	return true
}

func TestNearestOfExactFigures(t *testing.T) {
	taken := 0
	for e := range uint64(2047) {
		for _, f := range []uint64{0, 1, fValues - 1, fValues / 2, e * 0x9e3779b97f4a7c15 % fValues, 1 << (e % 52)} {
			if size := e*fValues + f; size > 0 && exactIsNearest(t, size) {
				taken++
			}
		}
	}
	for n := 1; n <= 3000; n++ {
		for _, by := range []int{1, 3, 64, 1000, 1 << 30} {
			if !exactIsNearest(t, impl.Div(impl.FromInt(n), impl.RoundTo(false, 1, n%60, false))) || !exactIsNearest(t, impl.FromInt(n*by)) {
				t.Fatalf("%d has many figures", n)
			}
		}
	}
	if taken < 1000 {
		t.Errorf("only %d had few figures", taken)
	}
}

// shortestByRule tries figures below and above the exact ones, one more of them each time, and looks whether they lie
// between the middles to both sides, of which the number has both when its f is even.
func shortestByRule(size uint64) (string, int) {
	five := new(big.Int).Exp(big.NewInt(5), big.NewInt(leastPlaces), nil)
	// Whole numbers of 10^-1074: the exact one, and twice the middles.
	exact := leastUnits(size)
	least := new(big.Int).Add(exact, leastUnits(size-1))
	greatest := new(big.Int).Add(exact, leastUnits(size+1))
	exact.Mul(exact, five)
	least.Mul(least, five)
	greatest.Mul(greatest, five)
	if size%2 == 1 {
		least.Add(least, big.NewInt(1))
		greatest.Sub(greatest, big.NewInt(1))
	}
	all := exact.String()
	for count := 1; ; count++ {
		unit := bigTenTo(len(all) - count)
		times, rest := new(big.Int).QuoRem(exact, unit, new(big.Int))
		var told []*big.Int
		for more := range int64(2) {
			n := new(big.Int).Add(times, big.NewInt(more))
			twice := new(big.Int).Mul(n, unit)
			twice.Lsh(twice, 1)
			if twice.Cmp(least) >= 0 && twice.Cmp(greatest) <= 0 {
				told = append(told, n)
			}
		}
		if len(told) == 2 {
			half := new(big.Int).Lsh(rest, 1).Cmp(unit)
			if half > 0 || half == 0 && times.Bit(0) == 1 {
				told = told[1:]
			}
		}
		if len(told) > 0 {
			n := told[0].String()
			figures := strings.TrimRight(n, "0")
			return figures, len(all) - count - leastPlaces + len(n) - len(figures)
		}
	}
}

func checkShortest(t *testing.T, size uint64) int {
	t.Helper()
	figures, exp := shortestByRule(size)
	for _, x := range []uint64{size, otherSign(size)} {
		if got, gotExp := impl.Shortest(x); got != figures || gotExp != exp {
			t.Fatalf("Shortest(%#x) = %q, %d, want %q, %d", x, got, gotExp, figures, exp)
		}
	}
	return len(figures)
}

func TestShortestThatIsKnown(t *testing.T) {
	for _, c := range []struct {
		x       uint64
		figures string
		exp     int
	}{
		{one, "1", 0}, {impl.FromInt(10), "1", 1}, {impl.FromInt(1500), "15", 2}, {impl.FromInt(123), "123", 0}, {0x3fb999999999999a, "1", -1}, {0x3fd3333333333333, "3", -1}, {0x3fd3333333333334, "30000000000000004", -17}, {0x3fe0000000000000, "5", -1},
		{0x3fd5555555555555, "3333333333333333", -16}, {0x3fe5555555555555, "6666666666666666", -16}, {0x400921fb54442d18, "3141592653589793", -15}, {one + 1, "10000000000000002", -16}, {one - 1, "9999999999999999", -16},
		{1, "5", -324}, {2, "1", -323}, {3, "15", -324}, {4, "2", -323}, {5, "25", -324}, {leastWithE1 - 1, "2225073858507201", -323}, {leastWithE1, "22250738585072014", -324}, {leastWithE1 + 1, "2225073858507202", -323},
		{greatestFinite, "17976931348623157", 292}, {greatestFinite - 1, "17976931348623155", 292}, {tieOf1e23, "1", 23}, {tieOf1e23 + 1, "10000000000000001", 7}, {tieOf1e23 - 1, "9999999999999997", 7}, {0x444b1ae4d6e2ef50, "1", 21},
		{0x4340000000000000, "9007199254740992", 0}, {0x433fffffffffffff, "9007199254740991", 0}, {0x4340000000000001, "9007199254740994", 0},
		// 2^-44, whose nearest 16 figures are those of the one below.
		{0x3d30000000000000, "5684341886080802", -29}, {0x3d2fffffffffffff, "5684341886080801", -29},
		// As near on both sides: 2^50 and a quarter, three of them, and so on.
		{twoTo50 + 1, "11258999068426242", -1}, {twoTo50 + 3, "11258999068426248", -1}, {twoTo50 + 2, "11258999068426245", -1}, {twoTo50 + 5, "11258999068426252", -1}, {twoTo50 + 7, "11258999068426258", -1},
	} {
		if figures, exp := impl.Shortest(c.x); figures != c.figures || exp != c.exp {
			t.Errorf("Shortest(%#x) = %q, %d, want %q, %d", c.x, figures, exp, c.figures, c.exp)
		}
		checkShortest(t, c.x)
	}
}

func TestShortestIsByTheRule(t *testing.T) {
	for _, size := range edgesAboveZero() {
		checkShortest(t, size)
	}
	for size := uint64(1); size <= 1000; size++ {
		checkShortest(t, size)
		checkShortest(t, leastWithE1-500+size)
		checkShortest(t, greatestFinite-size)
	}
	for e := uint64(1); e < 2047; e++ {
		for _, size := range []uint64{e * fValues, e*fValues + 1, e*fValues - 1, e*fValues + e*0x9e3779b97f4a7c15%fValues} {
			checkShortest(t, size)
		}
	}
	for bit := range 52 {
		checkShortest(t, 1<<bit)
		checkShortest(t, 1<<bit+1)
	}
}

func TestShortestOfAllCounts(t *testing.T) {
	seen := [18]int{}
	for _, x := range numbersBySteps(6000) {
		if size := x &^ signOfNumber; size < impl.Infinite {
			seen[checkShortest(t, size)]++
		}
	}
	// 15 figures or fewer always come back, where numbers have all their bits.
	for count := 1; count <= 15; count++ {
		for exp := -307; exp <= 308-count; exp += 3 {
			figures := figuresBySteps(count, uint64(exp+1000)*uint64(count))
			size := impl.Nearest(figures, exp)
			if got, gotExp := impl.Shortest(size); got != figures || gotExp != exp {
				t.Fatalf("Shortest(%#x) = %q, %d, want %q, %d", size, got, gotExp, figures, exp)
			}
			seen[checkShortest(t, size)]++
		}
	}
	for count := 1; count <= 17; count++ {
		if seen[count] < 50 {
			t.Errorf("%d figures were seen only %d times", count, seen[count])
		}
	}
}

func TestShortestOfPowersOfTen(t *testing.T) {
	for n := -323; n <= 308; n++ {
		size := impl.Nearest("1", n)
		if figures, exp := impl.Shortest(size); figures != "1" || exp != n {
			t.Errorf("Shortest of 10^%d = %q, %d", n, figures, exp)
		}
		checkShortest(t, size)
		checkShortest(t, size+1)
		checkShortest(t, max(size-1, 1))
	}
}

// Of two candidates as near the one whose last figure is even: that is where numbers go by quarters.
func TestShortestOfTies(t *testing.T) {
	for n := uint64(1); n < 4000; n += 2 {
		for _, size := range []uint64{twoTo50 + n, twoTo50 + fValues - n, twoTo50 + n*0x9e3779b97f4a7c15%fValues | 1} {
			if checkShortest(t, size) != 17 {
				t.Fatalf("%#x has few figures", size)
			}
			exact, _ := impl.Exact(size)
			figures, exp := impl.Shortest(size)
			if !strings.HasSuffix(exact, "25") && !strings.HasSuffix(exact, "75") || len(exact) != 18 || (figures[16]-'0')%2 == 1 || exp != -1 {
				t.Fatalf("Shortest(%#x) = %q, %d; it is %s", size, figures, exp, exact)
			}
		}
	}
}

func TestShortestOfAllOthers(t *testing.T) {
	others := append(numbersThatAreNone(), bothInfinite()...)
	for _, x := range append(others, 0, minusZero, impl.NaN, math.MaxUint64, minusInfinite) {
		if figures, exp := impl.Shortest(x); figures != "" || exp != 0 {
			t.Errorf("Shortest(%#x) = %q, %d", x, figures, exp)
		}
	}
}

// checkNoFewer: Nearest of what Shortest answers is the number, and with one figure less neither the figures below
// nor those above it are.
func checkNoFewer(t *testing.T, size uint64) {
	t.Helper()
	figures, exp := impl.Shortest(size)
	if !impl.FiguresOk(figures) || figures[len(figures)-1] == '0' || impl.Nearest(figures, exp) != size {
		t.Fatalf("Shortest(%#x) = %q, %d, which is %#x", size, figures, exp, impl.Nearest(figures, exp))
	}
	exact, exactExp := impl.Exact(size)
	for less := 1; less < len(figures); less++ {
		count := len(figures) - less
		under := exact[:count]
		for _, fewer := range []string{under, nextFigures(t, under, 1)} {
			if impl.Nearest(fewer, exactExp+len(exact)-count) == size {
				t.Fatalf("Shortest(%#x) = %q, %d, but %q are enough", size, figures, exp, fewer)
			}
		}
	}
}

// checkReadsBack: what is shown reads back.
func checkReadsBack(t *testing.T, size uint64) {
	t.Helper()
	shown := impl.ShowNumber(size)
	if got, ok := impl.ReadNumber(shown); got != size || !ok {
		t.Fatalf("ShowNumber(%#x) = %q, which reads as %#x, %t", size, shown, got, ok)
	}
}

func TestShownReadsBackAndNoFewerDo(t *testing.T) {
	all := edgesAboveZero()
	for e := uint64(1); e < 2047; e++ {
		all = append(all, e*fValues, e*fValues+1, e*fValues-1, e*fValues+e*0x9e3779b97f4a7c15%fValues)
	}
	for n := 1; n <= 2000; n++ {
		all = append(all, uint64(n), impl.FromInt(n), impl.Div(impl.FromInt(n), impl.FromInt(1000)), impl.Div(one, impl.FromInt(n)))
	}
	for _, x := range numbersBySteps(10000) {
		if size := x &^ signOfNumber; size != 0 && size < impl.Infinite {
			all = append(all, size)
		}
	}
	for _, size := range all {
		checkNoFewer(t, size)
		checkReadsBack(t, size)
	}
	checkReadsBack(t, 0)
}

// shownByFloats lays a number out by Go's own figures.
func shownByFloats(x uint64) string {
	f := math.Float64frombits(x)
	switch {
	case math.IsNaN(f):
		return "NaN"
	case math.IsInf(f, 0):
		return strings.TrimPrefix(strconv.FormatFloat(f, 'f', -1, 64), "+") + "inity"
	case f == 0:
		return "0"
	case math.Abs(f) >= 1e-6 && math.Abs(f) < 1e21:
		return strconv.FormatFloat(f, 'f', -1, 64)
	}
	// Go shows two figures of an exponent at least.
	return regexp.MustCompile(`e([+-])0`).ReplaceAllString(strconv.FormatFloat(f, 'e', -1, 64), "e$1")
}

func TestShowsThatAreKnown(t *testing.T) {
	for _, c := range []struct {
		x    float64
		want string
	}{
		{1, "1"}, {12, "12"}, {1500, "1500"}, {0.1, "0.1"}, {1.5, "1.5"}, {123.456, "123.456"}, {1.0 / 3, "0.3333333333333333"}, {100, "100"}, {10.25, "10.25"}, {1e15 + 0.5, "1000000000000000.5"},
		{1e20, "100000000000000000000"}, {123456789012345680000, "123456789012345680000"}, {999999999999999900000, "999999999999999900000"}, {1e21, "1e+21"}, {1.5e21, "1.5e+21"}, {1.2345678901234568e+21, "1.2345678901234568e+21"}, {5e20, "500000000000000000000"}, {1e22, "1e+22"}, {1.5e20, "150000000000000000000"},
		{9007199254740992, "9007199254740992"}, {12345678901234567, "12345678901234568"}, {1234567890123456, "1234567890123456"}, {123456789012345.6, "123456789012345.6"},
		{0.5, "0.5"}, {0.25, "0.25"}, {0.99, "0.99"}, {0.05, "0.05"}, {0.0125, "0.0125"}, {0.001, "0.001"}, {0.00001, "0.00001"}, {0.000015, "0.000015"}, {0.000001, "0.000001"}, {0.0000015, "0.0000015"}, {0.000001234567890123456, "0.000001234567890123456"}, {9.99999999999999e-7, "9.99999999999999e-7"},
		{1e-7, "1e-7"}, {1.5e-7, "1.5e-7"}, {1e-9, "1e-9"}, {1e-10, "1e-10"}, {2.5e-10, "2.5e-10"}, {1e-99, "1e-99"}, {1e-100, "1e-100"}, {1.25e-100, "1.25e-100"}, {1e99, "1e+99"}, {1e100, "1e+100"}, {1.25e100, "1.25e+100"}, {1e23, "1e+23"}, {1e308, "1e+308"},
		{5e-324, "5e-324"}, {1.5e-323, "1.5e-323"}, {math.MaxFloat64, "1.7976931348623157e+308"}, {2.2250738585072014e-308, "2.2250738585072014e-308"}, {2.225073858507201e-308, "2.225073858507201e-308"}, {math.Inf(1), "Infinity"},
		{1125899906842624.25, "1125899906842624.2"}, {1125899906842624.75, "1125899906842624.8"},
	} {
		x := math.Float64bits(c.x)
		if got := impl.ShowNumber(x); got != c.want {
			t.Errorf("ShowNumber(%#x) = %q, want %q", x, got, c.want)
		}
		if got := impl.ShowNumber(otherSign(x)); got != "-"+c.want {
			t.Errorf("ShowNumber(%#x) = %q, want %q", otherSign(x), got, "-"+c.want)
		}
	}
}

func TestShowsOfZerosAndNaN(t *testing.T) {
	for _, x := range []uint64{0, minusZero} {
		if got := impl.ShowNumber(x); got != "0" {
			t.Errorf("ShowNumber(%#x) = %q", x, got)
		}
	}
	for _, x := range append(numbersThatAreNone(), impl.NaN, otherSign(impl.NaN), math.MaxUint64) {
		if got := impl.ShowNumber(x); got != "NaN" {
			t.Errorf("ShowNumber(%#x) = %q", x, got)
		}
	}
	if got, below := impl.ShowNumber(impl.Infinite), impl.ShowNumber(minusInfinite); got != "Infinity" || below != "-Infinity" {
		t.Errorf("what is infinite is shown as %q and %q", got, below)
	}
}

func TestShowsAreAsByFloats(t *testing.T) {
	all := append(numbersOfEachKind(), numbersBySteps(10000)...)
	for exp := -30; exp <= 30; exp++ {
		for count := 1; count <= 17; count++ {
			size := impl.Nearest(figuresBySteps(count, uint64(exp+99)*uint64(count)), exp)
			all = append(all, size, otherSign(size), impl.Nearest(tenTo(count), exp), impl.Nearest(nines(count), exp))
		}
	}
	for _, x := range all {
		if got, want := impl.ShowNumber(x), shownByFloats(x); got != want {
			t.Fatalf("ShowNumber(%#x) = %q, want %q", x, got, want)
		}
	}
}

// shownByRule takes the chapter's words for k figures and n.
func shownByRule(figures string, n int) string {
	k := len(figures)
	if k <= n && n <= 21 {
		return figures + noughts(n-k)
	}
	if 0 < n && n <= 21 {
		return figures[:n] + "." + figures[n:]
	}
	if -6 < n && n <= 0 {
		return "0." + noughts(-n) + figures
	}
	dot, sign, size := "", "+", n-1
	if k > 1 {
		dot = "."
	}
	if size < 0 {
		sign, size = "-", -size
	}
	return figures[:1] + dot + figures[1:] + "e" + sign + strconv.Itoa(size)
}

func TestShowsOfEachLayout(t *testing.T) {
	for k := 1; k <= 15; k++ {
		figures := figuresBySteps(k, uint64(k)*15485863)
		for n := -300; n <= 308; n++ {
			x := impl.Nearest(figures, n-k)
			want := shownByRule(figures, n)
			if got, below := impl.ShowNumber(x), impl.ShowNumber(otherSign(x)); got != want || below != "-"+want {
				t.Fatalf("%s of %d: %q and %q, want %q", figures, n, got, below, want)
			}
		}
	}
}

// numberForm is the chapter's words for a text that ReadNumber takes.
var numberForm = regexp.MustCompile(`\A([0-9]{1,30})(?:\.([0-9]{1,30}))?(?:e([+-]?[0-9]{1,3}))?\z`)

// readByRule: what figures and an exponent the text tells, and the number, by Go's own reading.
func readByRule(text string) (uint64, bool) {
	parts := numberForm.FindStringSubmatch(text)
	if parts == nil {
		return 0, false
	}
	exp, _ := strconv.Atoi(parts[3])
	exp -= len(parts[2])
	// Nearest has no more than these exponents.
	if exp < -500 || exp > 500 {
		return 0, true
	}
	x, _ := strconv.ParseFloat(parts[1]+parts[2]+"e"+strconv.Itoa(exp), 64)
	return math.Float64bits(x), true
}

func checkRead(t *testing.T, text string) bool {
	t.Helper()
	want, wantOk := readByRule(text)
	if got, ok := impl.ReadNumber(text); got != want || ok != wantOk {
		t.Fatalf("ReadNumber(%q) = %#x, %t, want %#x, %t", text, got, ok, want, wantOk)
	}
	return wantOk
}

func TestReadsThatAreKnown(t *testing.T) {
	for _, c := range []struct {
		text string
		want uint64
	}{
		{"0", 0}, {"1", one}, {"01", one}, {"0.1", 0x3fb999999999999a}, {"00.1", 0x3fb999999999999a}, {"0.10", 0x3fb999999999999a}, {"1e-1", 0x3fb999999999999a}, {"0.01e1", 0x3fb999999999999a}, {"10.0e-2", 0x3fb999999999999a},
		{"1e0", one}, {"1e+0", one}, {"1e-0", one}, {"1e000", one}, {"1e00", one}, {"1.0", one}, {"1.0e0", one}, {"10e-1", one}, {"10e-01", one}, {"10e-001", one}, {"0.1e1", one}, {"0.1e+1", one}, {"0.1e+001", one}, {"00000.10000e+01", one},
		{noughts(29) + "1", one}, {noughts(30), 0}, {noughts(30) + "." + noughts(30), 0}, {"0e999", 0}, {"0.0e-999", 0}, {"0e-999", 0}, {noughts(29) + "1." + noughts(30), one}, {"0." + noughts(29) + "1e30", one}, {"1" + noughts(29) + "e-29", one}, {"1" + noughts(29) + "." + noughts(30) + "e-29", one},
		{nines(30), 0x46293e5939a08cea}, {nines(30) + "." + nines(30), 0x46293e5939a08cea}, {"0." + nines(30), one}, {"0." + strings.Repeat("3", 30), 0x3fd5555555555555},
		{"9007199254740993", 0x4340000000000000}, {"9007199254740993.0", 0x4340000000000000}, {"9007199254740993." + noughts(29) + "1", 0x4340000000000001}, {"9007199254740992." + nines(30), 0x4340000000000000},
		{"5e-324", 1}, {"2e-324", 0}, {"1.7976931348623157e308", greatestFinite}, {"1.7976931348623157e+308", greatestFinite}, {"17976931348623157e292", greatestFinite}, {"1.7976931348623159e308", impl.Infinite}, {"1e309", impl.Infinite}, {"1e-400", 0},
		{"1e500", impl.Infinite}, {"1e-500", 0}, {"1.5e500", impl.Infinite}, {"1.5e501", impl.Infinite}, {"0." + noughts(29) + "1e530", impl.Infinite}, {"0." + noughts(29) + "1e338", impl.Nearest("1", 308)},
		// Beyond the exponents that Nearest has, it is 0.
		{"1e501", 0}, {"1e+501", 0}, {"1e999", 0}, {"1.5e502", 0}, {"1e-501", 0}, {"1e-999", 0}, {"1.5e-500", 0}, {nines(30) + "e501", 0}, {"0." + noughts(29) + "1e531", 0},
	} {
		if got, ok := impl.ReadNumber(c.text); got != c.want || !ok {
			t.Errorf("ReadNumber(%q) = %#x, %t, want %#x", c.text, got, ok, c.want)
		}
		checkRead(t, c.text)
	}
}

func TestReadsThatAreNone(t *testing.T) {
	for _, text := range []string{
		"", " ", ".", "e", "+", "-", "1.", ".1", ".", "..", "1..2", "1.2.3", "1.e1", ".e1", "e1", "e+1", ".5e1", "1e", "1e+", "1e-", "1.5e", "1.5e+", "1e1234", "1e0001", "1e+0000", "1e-1000", "1e1.5", "1e1e1", "1ee1", "1e++1", "1e+-1", "1e-+1", "1e 1", "1e1 ", "1e1+", "1e1.",
		"+1", "-1", "-0", "+0", "--1", "1+", "1-", "1-1", "1+1", "1.+5", "1.-5", "-1.5e1", " 1", "1 ", "1 .5", "1. 5", "1 e5", "\t1", "1\n", "1\x00", "\x001", "1\r\n", "1E5", "1,5", "1_000", "0x10", "0b1", "1f", "1.5f", "NaN", "nan", "Infinity", "-Infinity", "inf", "Inf", "1'000", "٣", "1٣", "１", "½", "\xff", "1\xff", "1.\xff", "1e\xff", "1.5\xb0",
		nines(31), "0" + nines(30), noughts(31), noughts(30) + "1", "1." + nines(31), "1." + noughts(31), "0." + noughts(30) + "1", nines(31) + ".5", nines(31) + "e1", nines(30) + "." + nines(31), nines(31) + "." + nines(30), "1." + nines(31) + "e1", nines(100), nines(1000), "1." + nines(1000), "1e" + nines(4), "1e" + nines(40), "1e-" + nines(1000),
	} {
		if got, ok := impl.ReadNumber(text); got != 0 || ok {
			t.Errorf("ReadNumber(%q) = %#x, %t", text, got, ok)
		}
		checkRead(t, text)
	}
	for _, text := range notRight() {
		checkRead(t, text)
	}
}

func TestReadsOfAllShortTexts(t *testing.T) {
	taken := 0
	for _, text := range textsOver("05.e+- ", 6) {
		if checkRead(t, text) {
			taken++
		}
	}
	for _, text := range textsOver(allBytes(), 2) {
		checkRead(t, text)
	}
	if taken < 500 {
		t.Errorf("only %d texts were numbers", taken)
	}
}

// An odd byte at each place, put in and put in the place of another, spoils a text or makes another number of it.
func TestReadsWithAnOddByte(t *testing.T) {
	for _, text := range []string{"1", "12", "1.5", "12.34", "1e5", "1e+5", "1.25e-12", "12.5e123", nines(30), nines(30) + "." + nines(30) + "e-100", "0." + noughts(29) + "1e+030"} {
		for at := range len(text) + 1 {
			for odd := range 256 {
				put := string([]byte{byte(odd)})
				checkRead(t, text[:at]+put+text[at:])
				if at < len(text) {
					checkRead(t, text[:at]+put+text[at+1:])
				}
			}
			if at < len(text) {
				checkRead(t, text[:at]+text[at+1:])
			}
		}
	}
}

// All counts of figures on both sides, up to and beyond what may stand there, with exponents of all forms.
func TestReadsOfAllCounts(t *testing.T) {
	exps := []string{"", "e0", "e7", "e+7", "e-7", "e07", "e+23", "e-23", "e123", "e+300", "e-300", "e-345", "e499", "e500", "e501", "e-470", "e-471", "e-500", "e-501", "e530", "e531", "e999", "e-999", "e1000", "e", "e+"}
	for ahead := 0; ahead <= 32; ahead++ {
		for behind := 0; behind <= 32; behind++ {
			for i, exp := range exps {
				whole := figuresOrNone(ahead, i%3 == 0, uint64(ahead*37+behind*11+i))
				part := figuresOrNone(behind, i%2 == 0, uint64(ahead*7+behind*13+i))
				checkRead(t, whole+"."+part+exp)
				if behind == 0 {
					checkRead(t, whole+exp)
				}
			}
		}
	}
}

func figuresOrNone(count int, noughtsAhead bool, seed uint64) string {
	switch {
	case count == 0:
		return ""
	case noughtsAhead:
		return noughts(count/2) + figuresBySteps(count-count/2, seed+1)
	}
	return figuresBySteps(count, seed+1)
}

// What is shown of a number below 0 is no number to read: a sign is a mark of its own.
func TestShownBelowZeroIsNotRead(t *testing.T) {
	for _, size := range edgesAboveZero() {
		if got, ok := impl.ReadNumber(impl.ShowNumber(otherSign(size))); got != 0 || ok {
			t.Fatalf("%q reads as %#x", impl.ShowNumber(otherSign(size)), got)
		}
	}
}
