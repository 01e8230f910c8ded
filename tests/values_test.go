package tests

import (
	"math"
	"slices"
	"strings"
	"testing"

	"loop.example/g00115/impl"
)

// Promise 17: values are the same as themselves (but NaN); what is done to two of them is one of them or a text.

var noneValue = impl.Value{}

func truthOf(is bool) impl.Value { return truthByRule(is).value }

func numOf(num uint64) impl.Value { return impl.Value{Kind: impl.ValueNumber, Num: num} }

func numberOf(x float64) impl.Value { return numOf(math.Float64bits(x)) }

func textOf(text string) impl.Value { return impl.Value{Kind: impl.ValueText, Text: text} }

func funValue(ref int) impl.Value { return impl.Value{Kind: impl.ValueFun, Ref: ref} }

// patternsOfNaN: the one that is named, its other sign, and others beside the numbers that are infinite.
func patternsOfNaN() []uint64 {
	return []uint64{impl.NaN, impl.NaN + 1, otherSign(impl.NaN), impl.Infinite + 1, minusInfinite + 1, math.MaxUint64}
}

func numsForValues() []uint64 {
	out := append(patternsOfNaN(), bothInfinite()...)
	for _, x := range []float64{0, 1, 2, 3, 7, 0.5, 0.1, 0.3, 200, 1e21, 1 << 53, 5e-324, math.MaxFloat64} {
		out = append(out, math.Float64bits(x), otherSign(math.Float64bits(x)))
	}
	return out
}

func textsForValues() []string {
	return []string{
		"", "a", "b", "ab", "aa", "aab", "B", " ", "0", "1", "10", "9", "NaN", "none", "true", "false", "fun", "type", "long", "\x00", "\x00a", "a\x00", "\x7f", "\x80", "\xff", "a\x7f", "a\x80", "a\xff", "\xc3\xa4", "\"", "\n",
		strings.Repeat("a", 100), strings.Repeat("a", 101), strings.Repeat("\xff", 199), strings.Repeat("b", 200), strings.Repeat("\x00", 200), allBytes()[56:],
	}
}

func rightValues() []impl.Value {
	out := []impl.Value{noneValue, truthOf(false), truthOf(true), funValue(0), funValue(1), funValue(2), funValue(math.MaxInt)}
	for _, num := range numsForValues() {
		out = append(out, numOf(num))
	}
	for _, text := range textsForValues() {
		out = append(out, textOf(text))
	}
	return out
}

func kindsThatAreNone() []int {
	return []int{-1, 5, -2, 6, 7, 100, 256, 257, 258, 259, 260, 1 << 32, 1<<32 + 2, math.MinInt, math.MaxInt}
}

func wrongValues() []impl.Value {
	out := []impl.Value{
		{Kind: 1, Num: 2}, {Kind: 1, Num: 3}, {Kind: 1, Num: math.MaxUint64}, {Kind: 1, Num: 1 << 63}, {Kind: 4, Ref: -1}, {Kind: 4, Ref: math.MinInt},
		textOf(strings.Repeat("a", 201)), textOf(allBytes()), textOf(strings.Repeat("b", 5000)),
	}
	for kind := range 5 {
		for _, v := range []impl.Value{{Num: 1}, {Num: 1 << 63}, {Num: math.MaxUint64}, {Text: "a"}, {Text: "\x00"}, {Ref: 1}, {Ref: -1}, {Num: 1, Text: "a"}, {Text: "a", Ref: 1}, {Num: 1, Ref: 1}, {Num: 1, Text: "a", Ref: 1}} {
			if v.Kind = kind; !valueOkByRule(v) {
				out = append(out, v)
			}
		}
	}
	for _, kind := range kindsThatAreNone() {
		out = append(out, impl.Value{Kind: kind}, impl.Value{Kind: kind, Num: 1}, impl.Value{Kind: kind, Text: "a"}, impl.Value{Kind: kind, Ref: 3})
	}
	return out
}

func someValues() []impl.Value { return append(rightValues(), wrongValues()...) }

func opsOfTrees() []int {
	return []int{impl.OpAdd, impl.OpSub, impl.OpMul, impl.OpDiv, impl.OpRem, impl.OpLess, impl.OpMost, impl.OpGreater, impl.OpLeast, impl.OpSame, impl.OpOther}
}

func opsThatAreNone() []int {
	return []int{0, -1, 12, 13, -10, -11, 20, 100, 256, 257, 262, 266, 1<<32 + 1, 1<<32 + 10, math.MinInt, math.MaxInt}
}

// checkValue holds what is asked of one value against what is wanted, and that against the rule.
func checkValue(t *testing.T, v impl.Value, ok bool, isTrue bool, shown string) {
	t.Helper()
	if got := impl.ValueOk(v); got != ok || got != valueOkByRule(v) {
		t.Errorf("ValueOk(%+v) = %v, want %v", v, got, ok)
	}
	if got := impl.IsTrue(v); got != isTrue || got != trueByRule(v) {
		t.Errorf("IsTrue(%+v) = %v, want %v", v, got, isTrue)
	}
	if got := impl.ShowValue(v); got != shown || got != shownValueByRule(v) {
		t.Errorf("ShowValue(%+v) = %q, want %q", v, got, shown)
	}
}

func checkValueByRule(t *testing.T, v impl.Value) {
	t.Helper()
	checkValue(t, v, valueOkByRule(v), trueByRule(v), shownValueByRule(v))
}

// checkSameValue holds SameValue from both sides, and OpSame and OpOther, against what is wanted, and that against the rule.
func checkSameValue(t *testing.T, a impl.Value, b impl.Value, want bool) {
	t.Helper()
	for range 2 {
		if got := impl.SameValue(a, b); got != want || got != sameByRule(a, b) {
			t.Fatalf("SameValue(%+v, %+v) = %v, want %v", a, b, got, want)
		}
		checkBinary(t, impl.OpSame, a, b, truthOf(want), "")
		checkBinary(t, impl.OpOther, a, b, truthOf(!want), "")
		a, b = b, a
	}
}

func checkBinary(t *testing.T, op int, a impl.Value, b impl.Value, want impl.Value, text string) {
	t.Helper()
	value, thrown := impl.DoBinary(op, a, b)
	if got := (doneToValues{value, thrown}); got != (doneToValues{want, text}) || got != binaryByRule(op, a, b) {
		t.Fatalf("DoBinary(%d, %+v, %+v) = %+v, %q, want %+v, %q", op, a, b, value, thrown, want, text)
	}
}

func checkBinaryByRule(t *testing.T, op int, a impl.Value, b impl.Value) {
	t.Helper()
	done := binaryByRule(op, a, b)
	checkBinary(t, op, a, b, done.value, done.text)
}

func checkMinus(t *testing.T, v impl.Value, want impl.Value, text string) {
	t.Helper()
	value, thrown := impl.DoMinus(v)
	if got := (doneToValues{value, thrown}); got != (doneToValues{want, text}) || got != minusByRule(v) {
		t.Fatalf("DoMinus(%+v) = %+v, %q, want %+v, %q", v, value, thrown, want, text)
	}
}

func TestConstantsOfValues(t *testing.T) {
	if impl.ValueNone != 0 || impl.ValueBool != 1 || impl.ValueNumber != 2 || impl.ValueText != 3 || impl.ValueFun != 4 {
		t.Error("a Kind is not the document's")
	}
	if impl.MaxLong != 200 {
		t.Error("the limit of texts is not the document's")
	}
}

func TestValuesThatAreKnown(t *testing.T) {
	for _, c := range []struct {
		v      impl.Value
		isTrue bool
		shown  string
	}{
		{noneValue, false, "none"}, {impl.Value{Kind: impl.ValueBool}, false, "false"}, {impl.Value{Kind: impl.ValueBool, Num: 1}, true, "true"},
		{numOf(impl.FromInt(2)), true, "2"}, {numOf(impl.FromInt(-2)), true, "-2"}, {numberOf(0.1), true, "0.1"}, {numberOf(1e21), true, "1e+21"}, {numberOf(-1.5e-7), true, "-1.5e-7"}, {numOf(1), true, "5e-324"},
		{textOf("a"), true, "a"}, {textOf("two words"), true, "two words"}, {textOf(""), false, ""}, {funValue(0), true, "fun"}, {funValue(7), true, "fun"}, {funValue(math.MaxInt), true, "fun"},
	} {
		checkValue(t, c.v, true, c.isTrue, c.shown)
	}
}

func TestValuesOfKindsThatAreNone(t *testing.T) {
	for _, kind := range kindsThatAreNone() {
		for _, v := range []impl.Value{{}, {Num: 1}, {Text: "a"}, {Ref: 2}, {Num: impl.NaN}} {
			v.Kind = kind
			checkValue(t, v, false, true, "")
		}
	}
}

// What a Kind has not is not looked at but by ValueOk and by SameValue.
func TestFieldsThatMustBeZero(t *testing.T) {
	for _, c := range []struct {
		right impl.Value
		wrong []impl.Value
	}{
		{noneValue, []impl.Value{{Num: 1}, {Num: 1 << 63}, {Num: impl.NaN}, {Text: "a"}, {Text: "\x00"}, {Ref: 1}, {Ref: -1}, {Ref: math.MinInt}}},
		{truthOf(false), []impl.Value{{Kind: 1, Text: "a"}, {Kind: 1, Ref: 1}, {Kind: 1, Ref: -1}, {Kind: 1, Text: "\x00", Ref: 1}}},
		{truthOf(true), []impl.Value{{Kind: 1, Num: 1, Text: "a"}, {Kind: 1, Num: 1, Ref: 1}, {Kind: 1, Num: 1, Ref: -1}}},
		{numOf(one), []impl.Value{{Kind: 2, Num: one, Text: "a"}, {Kind: 2, Num: one, Ref: 1}, {Kind: 2, Num: one, Ref: -1}}},
		{numOf(0), []impl.Value{{Kind: 2, Text: "a"}, {Kind: 2, Ref: 1}, {Kind: 2, Ref: -1}}},
		{textOf("a"), []impl.Value{{Kind: 3, Num: 1, Text: "a"}, {Kind: 3, Num: 1 << 63, Text: "a"}, {Kind: 3, Text: "a", Ref: 1}, {Kind: 3, Text: "a", Ref: -1}}},
		{textOf(""), []impl.Value{{Kind: 3, Num: 1}, {Kind: 3, Num: one}, {Kind: 3, Ref: 1}, {Kind: 3, Ref: -1}}},
		{funValue(3), []impl.Value{{Kind: 4, Num: 1, Ref: 3}, {Kind: 4, Num: 1 << 63, Ref: 3}, {Kind: 4, Text: "a", Ref: 3}, {Kind: 4, Text: "\x00", Ref: 3}}},
	} {
		checkValue(t, c.right, true, trueByRule(c.right), shownValueByRule(c.right))
		for _, wrong := range c.wrong {
			checkValue(t, wrong, false, impl.IsTrue(c.right), impl.ShowValue(c.right))
		}
	}
}

func TestTextsOfValues(t *testing.T) {
	for size := range 300 {
		for _, text := range []string{strings.Repeat("a", size), strings.Repeat("\x00", size), strings.Repeat("\xff", size), strings.Repeat(allBytes(), 2)[:size]} {
			checkValue(t, textOf(text), size <= 200, size > 0, text)
		}
	}
	// Bytes count, not what they tell: a hundred of these are 200 bytes, and one more is too much.
	checkValue(t, textOf(strings.Repeat("\u00e4", 100)), true, true, strings.Repeat("\u00e4", 100))
	checkValue(t, textOf(strings.Repeat("\u00e4", 101)), false, true, strings.Repeat("\u00e4", 101))
	long := strings.Repeat("x", 100000)
	checkValue(t, textOf(long), false, true, long)
	for _, text := range textsOver("\x00 0a\"\n\x80\xff", 3) {
		checkValue(t, textOf(text), true, text != "", text)
	}
	for _, text := range []string{"0", "false", "none", " ", "NaN", "-0", "\x00"} {
		checkValue(t, textOf(text), true, true, text)
	}
}

func TestRefsOfFunctions(t *testing.T) {
	for _, ref := range []int{0, 1, 2, 3, 11, 12, 13, 200, 201, 399, 400, 401, 1 << 31, 1 << 32, math.MaxInt - 1, math.MaxInt} {
		checkValue(t, funValue(ref), true, true, "fun")
		checkValue(t, funValue(-ref-1), false, true, "fun")
	}
}

func TestNumsOfTruths(t *testing.T) {
	checkValue(t, impl.Value{Kind: impl.ValueBool, Num: 0}, true, false, "false")
	checkValue(t, impl.Value{Kind: impl.ValueBool, Num: 1}, true, true, "true")
	for _, num := range append(numbersOfEachKind(), 2, 3, 4, 255, 256, 257, 1<<32, 1<<32+1, 1<<63+1) {
		if num > 1 {
			checkValue(t, impl.Value{Kind: impl.ValueBool, Num: num}, false, true, "true")
		}
	}
}

func TestNumbersOfValues(t *testing.T) {
	for _, c := range []struct {
		nums   []uint64
		isTrue bool
		shown  string
	}{
		{[]uint64{0, minusZero}, false, "0"}, {append(numbersThatAreNone(), patternsOfNaN()...), false, "NaN"},
		{[]uint64{impl.Infinite}, true, "Infinity"}, {[]uint64{minusInfinite}, true, "-Infinity"},
		{[]uint64{1}, true, "5e-324"}, {[]uint64{minusZero + 1}, true, "-5e-324"}, {[]uint64{greatestFinite}, true, "1.7976931348623157e+308"},
	} {
		for _, num := range c.nums {
			checkValue(t, numOf(num), true, c.isTrue, c.shown)
		}
	}
	for _, num := range append(numbersOfEachKind(), numbersBySteps(3000)...) {
		checkValueByRule(t, numOf(num))
	}
}

func TestValuesAreTheSameAsThemselves(t *testing.T) {
	for _, v := range someValues() {
		checkSameValue(t, v, v, !(v.Kind == impl.ValueNumber && v.Num&^signOfNumber > impl.Infinite))
		// The text of another one is the same, where it stands in other memory, too.
		other := v
		other.Text = strings.Clone(v.Text)
		checkSameValue(t, v, other, sameByRule(v, v))
	}
	for _, num := range append(numbersOfEachKind(), numbersBySteps(3000)...) {
		checkSameValue(t, numOf(num), numOf(num), !math.IsNaN(math.Float64frombits(num)))
	}
}

func TestValuesOfUnlikeKindsAreNotTheSame(t *testing.T) {
	fields := []impl.Value{{}, {Num: 1}, {Num: one}, {Num: minusZero}, {Num: impl.NaN}, {Text: "a"}, {Ref: 1}, {Num: 1, Text: "a", Ref: 1}}
	for a := -1; a < 6; a++ {
		for b := -1; b < 6; b++ {
			if a == b {
				continue
			}
			for _, x := range fields {
				for _, y := range fields {
					x.Kind, y.Kind = a, b
					checkSameValue(t, x, y, false)
				}
			}
		}
	}
	// What is shown alike, or is as true, is not the same for that.
	for _, c := range [][2]impl.Value{
		{noneValue, truthOf(false)}, {noneValue, textOf("")}, {noneValue, numOf(0)}, {noneValue, textOf("none")}, {truthOf(true), textOf("true")}, {truthOf(true), numOf(one)}, {truthOf(false), numOf(0)}, {truthOf(false), textOf("false")},
		{numOf(one), textOf("1")}, {numOf(0), textOf("")}, {numOf(impl.NaN), textOf("NaN")}, {funValue(0), textOf("fun")}, {funValue(1), numOf(one)}, {funValue(1), truthOf(true)}, {funValue(0), noneValue},
	} {
		checkSameValue(t, c[0], c[1], false)
	}
}

func TestSameValuesThatAreKnown(t *testing.T) {
	for _, c := range []struct {
		a, b impl.Value
		same bool
	}{
		{noneValue, noneValue, true}, {truthOf(true), truthOf(true), true}, {truthOf(false), truthOf(false), true}, {truthOf(true), truthOf(false), false},
		{numOf(0), numOf(minusZero), true}, {numOf(minusZero), numOf(minusZero), true}, {numOf(one), numOf(one), true}, {numOf(one), numOf(one + 1), false}, {numOf(one), numOf(otherSign(one)), false}, {numOf(0), numOf(1), false}, {numOf(minusZero), numOf(minusZero + 1), false},
		{numOf(impl.Infinite), numOf(impl.Infinite), true}, {numOf(impl.Infinite), numOf(minusInfinite), false}, {numOf(impl.Infinite), numOf(greatestFinite), false}, {numberOf(0.1), numberOf(0.2), false}, {numberOf(3), numOf(impl.FromInt(3)), true},
		{textOf(""), textOf(""), true}, {textOf("a"), textOf("a"), true}, {textOf("a"), textOf("A"), false}, {textOf("a"), textOf("ab"), false}, {textOf("a"), textOf(""), false}, {textOf("a"), textOf("a\x00"), false}, {textOf("\x80"), textOf("\x81"), false}, {textOf("\xff"), textOf("\x7f"), false},
		{textOf(strings.Repeat("a", 199) + "b"), textOf(strings.Repeat("a", 199) + "b"), true}, {textOf(strings.Repeat("a", 199) + "b"), textOf(strings.Repeat("a", 199) + "c"), false},
		{funValue(0), funValue(0), true}, {funValue(1), funValue(1), true}, {funValue(0), funValue(1), false}, {funValue(1), funValue(1 << 32), false}, {funValue(0), funValue(1 << 32), false}, {funValue(1), funValue(-1), false},
	} {
		checkSameValue(t, c.a, c.b, c.same)
	}
}

// Two truths, functions or whatever else that is no number are the same with the same Num, Text and Ref alone; of numbers
// nothing but the number counts.
func TestSameValuesByTheirFields(t *testing.T) {
	fields := []impl.Value{{}, {Num: 1}, {Num: 2}, {Num: minusZero}, {Num: impl.NaN}, {Text: "a"}, {Text: "\x00"}, {Ref: 1}, {Ref: -1}, {Num: 1, Text: "a"}, {Num: 1, Ref: 1}, {Text: "a", Ref: 1}, {Num: 1, Text: "a", Ref: 1}}
	for kind := -1; kind < 6; kind++ {
		for i, a := range fields {
			for j, b := range fields {
				a.Kind, b.Kind = kind, kind
				same := i == j
				if kind == impl.ValueNumber {
					same = a.Num != impl.NaN && a.Num%(1<<63) == b.Num%(1<<63)
				}
				checkSameValue(t, a, b, same)
			}
		}
	}
}

func TestNaNIsTheSameAsNothing(t *testing.T) {
	for _, num := range append(numbersThatAreNone(), patternsOfNaN()...) {
		for _, other := range append(someValues(), numOf(num)) {
			checkSameValue(t, numOf(num), other, false)
		}
	}
}

func TestOpsOfNumbersThatAreKnown(t *testing.T) {
	ops := []int{impl.OpAdd, impl.OpSub, impl.OpMul, impl.OpDiv, impl.OpRem}
	for _, c := range []struct {
		a, b float64
		want [5]float64
	}{
		{7, 2, [5]float64{9, 5, 14, 3.5, 1}}, {2, 7, [5]float64{9, -5, 14, 2.0 / 7, 2}}, {-7, 2, [5]float64{-5, -9, -14, -3.5, -1}}, {7, -2, [5]float64{5, 9, -14, -3.5, 1}},
		{0.1, 0.2, [5]float64{0.30000000000000004, -0.1, 0.020000000000000004, 0.5, 0.1}}, {1e308, 10, [5]float64{1e308, 1e308, math.Inf(1), 1e307, math.Mod(1e308, 10)}}, {0, 5, [5]float64{5, -5, 0, 0, 0}},
	} {
		for i, op := range ops {
			checkBinary(t, op, numberOf(c.a), numberOf(c.b), numberOf(c.want[i]), "")
		}
	}
	for _, c := range []struct {
		a, b float64
		less bool
		same bool
	}{{1, 2, true, false}, {2, 1, false, false}, {2, 2, false, true}, {-1, 1, true, false}, {-2, -1, true, false}, {-1, -2, false, false}, {9, 10, true, false}, {0.1, 0.2, true, false}, {5e-324, 0, false, false}} {
		checkOrder(t, numberOf(c.a), numberOf(c.b), c.less, c.same)
	}
}

// checkOrder holds the four that compare against how two stand to each other, from both sides.
func checkOrder(t *testing.T, a impl.Value, b impl.Value, less bool, same bool) {
	t.Helper()
	greater := !less && !same
	for range 2 {
		checkBinary(t, impl.OpLess, a, b, truthOf(less), "")
		checkBinary(t, impl.OpMost, a, b, truthOf(less || same), "")
		checkBinary(t, impl.OpGreater, a, b, truthOf(greater), "")
		checkBinary(t, impl.OpLeast, a, b, truthOf(greater || same), "")
		checkSameValue(t, a, b, same)
		a, b, less, greater = b, a, greater, less
	}
}

func TestOrderOfZerosAndWhatIsInfinite(t *testing.T) {
	zeros := []uint64{0, minusZero}
	for _, a := range zeros {
		for _, b := range zeros {
			checkOrder(t, numOf(a), numOf(b), false, true)
		}
		checkOrder(t, numOf(a), numOf(1), true, false)
		checkOrder(t, numOf(a), numOf(minusZero+1), false, false)
		checkOrder(t, numOf(a), numOf(impl.Infinite), true, false)
		checkOrder(t, numOf(minusInfinite), numOf(a), true, false)
	}
	checkOrder(t, numOf(impl.Infinite), numOf(impl.Infinite), false, true)
	checkOrder(t, numOf(minusInfinite), numOf(minusInfinite), false, true)
	checkOrder(t, numOf(minusInfinite), numOf(impl.Infinite), true, false)
	checkOrder(t, numOf(greatestFinite), numOf(impl.Infinite), true, false)
	checkOrder(t, numOf(minusInfinite), numOf(otherSign(greatestFinite)), true, false)
}

func TestOrderIsAsTheNumbersStand(t *testing.T) {
	all := numbersInOrder()
	for i, a := range all {
		for j := 0; j < len(all); j += 7 {
			checkOrder(t, numOf(a), numOf(all[j]), i < j && !impl.Equal(a, all[j]), impl.Equal(a, all[j]))
		}
	}
}

func TestNaNIsInNoOrderOfValues(t *testing.T) {
	others := append(numsForValues(), numbersThatAreNone()...)
	for _, num := range append(numbersThatAreNone(), patternsOfNaN()...) {
		for _, other := range others {
			for _, op := range []int{impl.OpLess, impl.OpMost, impl.OpGreater, impl.OpLeast, impl.OpSame} {
				checkBinary(t, op, numOf(num), numOf(other), truthOf(false), "")
				checkBinary(t, op, numOf(other), numOf(num), truthOf(false), "")
			}
			checkBinary(t, impl.OpOther, numOf(num), numOf(other), truthOf(true), "")
			checkBinary(t, impl.OpOther, numOf(other), numOf(num), truthOf(true), "")
		}
	}
}

// What is worked out with a NaN is just NaN, whatever its pattern was.
func TestNaNGoesOnAsNaN(t *testing.T) {
	for _, num := range patternsOfNaN() {
		for _, other := range numsForValues() {
			for _, op := range []int{impl.OpAdd, impl.OpSub, impl.OpMul, impl.OpDiv, impl.OpRem} {
				checkBinary(t, op, numOf(num), numOf(other), numOf(impl.NaN), "")
				checkBinary(t, op, numOf(other), numOf(num), numOf(impl.NaN), "")
			}
		}
	}
}

func TestQuotientsAndRestsOfValuesByZero(t *testing.T) {
	for _, c := range []struct{ a, b, quotient, rest uint64 }{
		{one, 0, impl.Infinite, impl.NaN}, {one, minusZero, minusInfinite, impl.NaN}, {otherSign(one), 0, minusInfinite, impl.NaN}, {otherSign(one), minusZero, impl.Infinite, impl.NaN},
		{0, 0, impl.NaN, impl.NaN}, {0, minusZero, impl.NaN, impl.NaN}, {minusZero, 0, impl.NaN, impl.NaN}, {minusZero, minusZero, impl.NaN, impl.NaN}, {impl.NaN, 0, impl.NaN, impl.NaN},
		{impl.Infinite, 0, impl.Infinite, impl.NaN}, {minusInfinite, 0, minusInfinite, impl.NaN}, {1, 0, impl.Infinite, impl.NaN}, {greatestFinite, 0, impl.Infinite, impl.NaN},
		{0, one, 0, 0}, {minusZero, one, minusZero, minusZero}, {one, impl.Infinite, 0, one}, {otherSign(one), impl.Infinite, minusZero, otherSign(one)},
	} {
		checkBinary(t, impl.OpDiv, numOf(c.a), numOf(c.b), numOf(c.quotient), "")
		checkBinary(t, impl.OpRem, numOf(c.a), numOf(c.b), numOf(c.rest), "")
	}
}

func TestOpsOfNumbersAreAsOfFloats(t *testing.T) {
	all := numbersOfEachKind()
	for i, a := range all {
		for j := i % 11; j < len(all); j += 11 {
			for _, op := range opsOfTrees() {
				checkBinaryByRule(t, op, numOf(a), numOf(all[j]))
			}
		}
	}
	xs := numbersBySteps(4000)
	for i := 1; i < len(xs); i++ {
		for _, op := range opsOfTrees() {
			checkBinaryByRule(t, op, numOf(xs[i-1]), numOf(xs[i]))
			checkBinaryByRule(t, op, numOf(xs[i-1]), numOf(xs[i-1]+uint64(i%5)))
		}
	}
}

func TestOpsOfTextsThatAreKnown(t *testing.T) {
	for _, c := range []struct {
		a, b, both string
		less, same bool
	}{
		{"a", "b", "ab", true, false}, {"b", "a", "ba", false, false}, {"a", "a", "aa", false, true}, {"", "", "", false, true}, {"", "a", "a", true, false}, {"a", "", "a", false, false}, {"a", "ab", "aab", true, false}, {"ab", "a", "aba", false, false},
		{"B", "a", "Ba", true, false}, {"10", "9", "109", true, false}, {"ab", "b", "abb", true, false}, {"\x00", "", "\x00", false, false}, {"a", "a\x00", "aa\x00", true, false}, {"\x7f", "\x80", "\x7f\x80", true, false}, {"\x80", "z", "\x80z", false, false}, {"\xff", "\x00", "\xff\x00", false, false},
		{"a\xff", "b", "a\xffb", true, false}, {"\xc3\xa4", "z", "\xc3\xa4z", false, false}, {"none", "true", "nonetrue", true, false}, {"\xc3", "\xa4", "\xc3\xa4", false, false}, {"\xff", "\xff\x00", "\xff\xff\x00", true, false}, {"long", "type", "longtype", true, false},
	} {
		checkBinary(t, impl.OpAdd, textOf(c.a), textOf(c.b), textOf(c.both), "")
		checkOrder(t, textOf(c.a), textOf(c.b), c.less, c.same)
	}
}

func TestTextsOneBehindTheOther(t *testing.T) {
	bytes := strings.Repeat(allBytes(), 2)
	for first := range 230 {
		for _, whole := range []int{first, first + 1, 198, 199, 200, 201, 202, 256, 400} {
			if whole < first {
				continue
			}
			a, b := bytes[:first], bytes[first:whole]
			if whole > impl.MaxLong {
				checkBinary(t, impl.OpAdd, textOf(a), textOf(b), noneValue, "long")
				continue
			}
			checkBinary(t, impl.OpAdd, textOf(a), textOf(b), textOf(bytes[:whole]), "")
		}
	}
	// Bytes count: a hundred of these are just as long as a text may be.
	two := func(size int) impl.Value { return textOf(strings.Repeat("\u00e4", size)) }
	checkBinary(t, impl.OpAdd, two(50), two(50), two(100), "")
	checkBinary(t, impl.OpAdd, two(50), two(51), noneValue, "long")
	checkBinary(t, impl.OpAdd, two(100), textOf("a"), noneValue, "long")
	checkBinary(t, impl.OpAdd, textOf("a"), two(100), noneValue, "long")
	checkBinary(t, impl.OpAdd, textOf(strings.Repeat("a", 5000)), textOf(""), noneValue, "long")
}

func TestOrderOfTexts(t *testing.T) {
	all := textsOver("\x00a\x7f\x80\xff", 3)
	slices.Sort(all)
	for i, a := range all {
		for j, b := range all {
			checkOrder(t, textOf(a), textOf(b), i < j, i == j)
		}
	}
	// Long ones that are unlike in one byte alone, or of which one is a beginning.
	long := strings.Repeat("m", 200)
	for place := range 200 {
		for _, c := range []struct {
			put  string
			less bool
		}{{"l", true}, {"n", false}, {"\x00", true}, {"\x80", false}, {"\xff", false}} {
			checkOrder(t, textOf(long[:place]+c.put+long[place+1:]), textOf(long), c.less, false)
		}
		checkOrder(t, textOf(long[:place]), textOf(long), true, false)
	}
}

func TestOpsThatTextsHaveNot(t *testing.T) {
	for _, a := range textsForValues() {
		for _, b := range textsForValues() {
			for _, op := range []int{impl.OpSub, impl.OpMul, impl.OpDiv, impl.OpRem} {
				checkBinary(t, op, textOf(a), textOf(b), noneValue, "type")
			}
		}
	}
}

func TestOpsOfWhatIsNeitherTwoNumbersNorTwoTexts(t *testing.T) {
	values := someValues()
	for _, a := range values {
		for _, b := range values {
			if a.Kind == b.Kind && (a.Kind == impl.ValueNumber || a.Kind == impl.ValueText) {
				continue
			}
			for _, op := range opsOfTrees()[:9] {
				checkBinary(t, op, a, b, noneValue, "type")
			}
		}
	}
	for _, c := range [][2]impl.Value{
		{numOf(one), textOf("1")}, {numOf(one), truthOf(true)}, {numOf(0), noneValue}, {numOf(one), funValue(1)}, {textOf("a"), truthOf(true)}, {textOf(""), noneValue}, {textOf("fun"), funValue(0)},
		{truthOf(true), truthOf(true)}, {noneValue, noneValue}, {funValue(0), funValue(0)}, {truthOf(true), noneValue}, {funValue(1), noneValue}, {funValue(1), truthOf(true)}, {numOf(impl.NaN), textOf("NaN")},
		{textOf(strings.Repeat("a", 200)), numOf(one)}, {textOf(strings.Repeat("a", 300)), noneValue},
	} {
		for _, op := range opsOfTrees()[:9] {
			checkBinary(t, op, c[0], c[1], noneValue, "type")
			checkBinary(t, op, c[1], c[0], noneValue, "type")
		}
	}
}

func TestOpsThatAreNone(t *testing.T) {
	values := someValues()
	for i, a := range values {
		for _, b := range []impl.Value{a, values[(i+1)%len(values)], numOf(one), textOf("a"), truthOf(true), noneValue, funValue(0)} {
			for _, op := range opsThatAreNone() {
				checkBinary(t, op, a, b, noneValue, "type")
				checkBinary(t, op, b, a, noneValue, "type")
			}
		}
	}
}

// Fields that a Kind has not count for nothing in what is done, and what is done has none of them.
func TestOpsOfValuesWithOddFields(t *testing.T) {
	oddNumber := impl.Value{Kind: impl.ValueNumber, Num: one, Text: "a", Ref: 7}
	oddText := impl.Value{Kind: impl.ValueText, Num: one, Text: "a", Ref: 7}
	checkBinary(t, impl.OpAdd, oddNumber, oddNumber, numberOf(2), "")
	checkBinary(t, impl.OpAdd, oddText, oddText, textOf("aa"), "")
	checkBinary(t, impl.OpAdd, oddNumber, oddText, noneValue, "type")
	checkOrder(t, oddNumber, numOf(one), false, true)
	checkBinary(t, impl.OpMost, oddText, textOf("a"), truthOf(true), "")
	checkBinary(t, impl.OpLess, oddText, textOf("b"), truthOf(true), "")
	checkMinus(t, oddNumber, numberOf(-1), "")
	checkMinus(t, oddText, noneValue, "type")
}

func TestMinus(t *testing.T) {
	for _, c := range [][2]float64{{1, -1}, {2, -2}, {0.1, -0.1}, {math.MaxFloat64, -math.MaxFloat64}, {5e-324, -5e-324}, {math.Inf(1), math.Inf(-1)}, {0, math.Copysign(0, -1)}} {
		checkMinus(t, numberOf(c[0]), numberOf(c[1]), "")
		checkMinus(t, numberOf(c[1]), numberOf(c[0]), "")
	}
	for _, num := range append(numbersThatAreNone(), patternsOfNaN()...) {
		checkMinus(t, numOf(num), numOf(impl.NaN), "")
	}
	for _, num := range append(numbersOfEachKind(), numbersBySteps(3000)...) {
		done := minusByRule(numOf(num))
		checkMinus(t, numOf(num), done.value, "")
	}
	for _, v := range someValues() {
		if v.Kind != impl.ValueNumber {
			checkMinus(t, v, noneValue, "type")
		}
	}
}

// What is done to two right values is a right value, with no text; or none, and one of the two texts.
func TestWhatIsDoneIsAValueOrAText(t *testing.T) {
	thrown := map[string]int{}
	values := rightValues()
	for _, a := range values {
		for _, b := range values {
			for _, op := range append(opsOfTrees(), opsThatAreNone()...) {
				value, text := impl.DoBinary(op, a, b)
				if !impl.ValueOk(value) || text != "" && value != (impl.Value{}) {
					t.Fatalf("DoBinary(%d, %+v, %+v) = %+v, %q", op, a, b, value, text)
				}
				checkBinaryByRule(t, op, a, b)
				thrown[text]++
			}
		}
		value, text := impl.DoMinus(a)
		if !impl.ValueOk(value) || text != "" && value != (impl.Value{}) {
			t.Fatalf("DoMinus(%+v) = %+v, %q", a, value, text)
		}
		thrown[text]++
	}
	if len(thrown) != 3 || thrown[""] == 0 || thrown["type"] == 0 || thrown["long"] == 0 {
		t.Errorf("what is thrown: %v", thrown)
	}
}

func TestWrongValuesByTheRule(t *testing.T) {
	for _, v := range someValues() {
		checkValueByRule(t, v)
	}
	for _, a := range wrongValues() {
		if impl.ValueOk(a) {
			t.Errorf("ValueOk(%+v)", a)
		}
		for _, b := range someValues() {
			checkSameValue(t, a, b, sameByRule(a, b))
			for _, op := range opsOfTrees() {
				checkBinaryByRule(t, op, a, b)
				checkBinaryByRule(t, op, b, a)
			}
		}
	}
}

// value: mostly a right one; one time out of `rare` a field, or the Kind, is another one's.
func (d *dice) value(rare int) impl.Value {
	values := rightValues()
	v, other := values[d.below(len(values))], values[d.below(len(values))]
	if d.below(rare) > 0 {
		return v
	}
	switch d.below(4) {
	case 0:
		v.Kind = d.near(0, 4, 3)
	case 1:
		v.Num = other.Num
	case 2:
		v.Text += other.Text
	case 3:
		v.Ref = d.near(0, 3, 3)
	}
	return v
}

func TestValuesBySteps(t *testing.T) {
	d := dice{state: 17}
	right := 0
	for range 20000 {
		a, b := d.value(3), d.value(3)
		checkValueByRule(t, a)
		checkSameValue(t, a, b, sameByRule(a, b))
		checkBinaryByRule(t, d.near(1, 11, 20), a, b)
		done := minusByRule(a)
		checkMinus(t, a, done.value, done.text)
		if impl.ValueOk(a) {
			right++
		}
	}
	if right < 12000 || right > 18000 {
		t.Errorf("%d values are right", right)
	}
}

func TestAnswersOfValuesAreNewMemory(t *testing.T) {
	for _, text := range textsForValues() {
		whole := strings.Clone(text + "!")
		v := textOf(whole[:len(text)])
		if within(impl.ShowValue(v), whole) {
			t.Errorf("ShowValue(%q) is in the memory of what was handed in", text)
		}
		for _, other := range []string{"", "b"} {
			for _, pair := range [][2]impl.Value{{v, textOf(other)}, {textOf(other), v}} {
				if value, _ := impl.DoBinary(impl.OpAdd, pair[0], pair[1]); within(value.Text, whole) {
					t.Errorf("%q and %q are joined in the memory of what was handed in", pair[0].Text, pair[1].Text)
				}
			}
		}
		twice, _ := impl.DoBinary(impl.OpAdd, v, v)
		if within(twice.Text, whole) {
			t.Errorf("%q twice is in the memory of what was handed in", text)
		}
	}
}
