package tests

import (
	"fmt"
	"math"
	"slices"

	"strconv"
	"strings"
	"testing"

	"loop.example/g00115/impl"
)

// Promise 19: a program that is compiled does on the machine what walking it does, step for step, whatever fuel.
// Promise 20: what the verifier lets in never ends with EndBad, whoever made it.

// machineFrom: an image of Funcs that are told. Its constants 0 to 3 are these numbers; behind them stand none, true, false,
// two texts, the empty one, NaN and what is infinite.
func machineFrom(t *testing.T, funcs ...string) impl.Image {
	t.Helper()
	x := imageFrom(t, funcs...)
	x.Consts = nil
	for n := range 4 {
		x.Consts = append(x.Consts, impl.Const{Kind: impl.ConstNumber, Num: impl.FromInt(n)})
	}
	x.Consts = append(x.Consts, impl.Const{Kind: impl.ConstNone}, impl.Const{Kind: impl.ConstTrue}, impl.Const{Kind: impl.ConstFalse})
	for _, text := range []string{"a", "bc", ""} {
		x.Consts = append(x.Consts, impl.Const{Kind: impl.ConstText, Text: text})
	}
	for _, num := range []uint64{impl.NaN, impl.Infinite} {
		x.Consts = append(x.Consts, impl.Const{Kind: impl.ConstNumber, Num: num})
	}
	return x
}

// checkRun holds Run of a right image against the rule, and against promise 20.
func checkRun(t *testing.T, x impl.Image, fuel int) impl.Outcome {
	t.Helper()
	got, ok := impl.Run(x, fuel)
	want, _ := ranByRule(x, fuel)
	if !ok || !sameOutcomes(got, want) || !impl.SameOutcome(got, want) {
		t.Fatalf("with %d of fuel: %s, %v,\nwant %s, true, of\n%s", fuel, toldOfOutcome(got), ok, toldOfOutcome(want), toldOfCode(x))
	}
	if got.End == impl.EndBad && impl.Verify(x) == -1 {
		t.Fatalf("with %d of fuel %s, though Verify lets in\n%s", fuel, toldOfOutcome(got), toldOfCode(x))
	}
	return got
}

// checkRunOfEachFuel: a run with every fuel from 0 to what the image takes, and one more.
func checkRunOfEachFuel(t *testing.T, x impl.Image) {
	t.Helper()
	most := checkRun(t, x, impl.MaxFuel)
	before := checkRun(t, x, 0)
	for fuel := 1; fuel <= min(impl.MaxFuel-most.Fuel+1, impl.MaxFuel); fuel++ {
		next := checkRun(t, x, fuel)
		if !goesOnAs(before, next) {
			t.Fatalf("with %d of fuel %s, with one more %s of\n%s", fuel-1, toldOfOutcome(before), toldOfOutcome(next), toldOfCode(x))
		}
		before = next
	}
}

// checkImageRuns: what an image does with this fuel.
func checkImageRuns(t *testing.T, x impl.Image, fuel int, want string) {
	t.Helper()
	if got, ok := impl.Run(x, fuel); !ok || toldOfOutcome(got) != want {
		t.Errorf("with %d of fuel: %s, %v,\nwant %s, true, of\n%s", fuel, toldOfOutcome(got), ok, want, toldOfCode(x))
	}
	checkRun(t, x, fuel)
}

// checkCodeRuns: what Funcs that are told do with this fuel, of which the verifier says what it says.
func checkCodeRuns(t *testing.T, fuel int, want string, funcs ...string) {
	t.Helper()
	x := machineFrom(t, funcs...)
	checkImageRuns(t, x, fuel, want)
	checkRunOfEachFuel(t, x)
	if strings.HasPrefix(want, "bad") == (impl.Verify(x) == -1) {
		t.Errorf("Verify is %d of\n%s", impl.Verify(x), toldOfCode(x))
	}
}

// checkCodeShows: what a first Func does, to whose code a return is added, and that it takes no fuel.
func checkCodeShows(t *testing.T, want string, code string, others ...string) {
	t.Helper()
	for _, fuel := range []int{0, impl.MaxFuel} {
		checkCodeRuns(t, fuel, want+" +"+strconv.Itoa(fuel), append([]string{"0/4: " + code + ", return"}, others...)...)
	}
}

func TestMovesOfTheMachine(t *testing.T) {
	for at, shown := range []string{"0", "1", "2", "3", "none", "true", "false", "a", "bc", "", "NaN", "Infinity"} {
		word := strconv.Itoa(at)
		checkCodeShows(t, "done "+shown, "const "+word)
		checkCodeShows(t, "done "+shown+"|"+shown, "const "+word+", print")
		checkCodeShows(t, "done "+shown, "const "+word+", put 3, const 1, get 3")
		checkCodeShows(t, "done "+shown, "const "+word+", newcell 3, const 1, getcell 3")
		checkCodeShows(t, "done "+shown, "const 1, newcell 3, const "+word+", putcell 3, const 1, getcell 3")
		checkCodeRuns(t, 1, "done "+shown+" +0", "0/2: const "+word+", newcell 0, fun 1, put 1, call 1 0, return", "0/0 [r0]: const 1, getcap 0, return")
		checkCodeRuns(t, 1, "done "+shown+" +0", "0/2: const 1, newcell 0, fun 1, put 1, call 1 0, getcell 0, return", "0/0 [r0]: const "+word+", putcap 0, const 1, return")
		checkCodeRuns(t, 0, "thrown "+shown+" +0", "0/0: const "+word+", throw")
	}
	// What is put somewhere is in the accumulator still, and nowhere else.
	checkCodeShows(t, "done 2|2|1|3", "const 1, put 0, const 2, put 1, put 2, print, get 0, print, const 3, put 2, get 2, print, get 1")
	checkCodeShows(t, "done 2|2|2|1", "const 1, newcell 0, const 2, newcell 1, print, getcell 1, print, getcell 0, print, getcell 1")
	checkCodeShows(t, "done 3|3|3|2", "const 1, newcell 0, const 2, newcell 1, const 3, putcell 0, print, getcell 0, print, getcell 1, print, getcell 0")
	// A register is what was put there last.
	checkCodeShows(t, "done 1|2", "const 1, newcell 0, const 2, put 0, get 0, print, const 1")
	checkCodeShows(t, "done 3", "const 1, put 0, const 3, newcell 0, const 2, getcell 0")
	checkCodeShows(t, "done 2", "const 1, put 0, const 2, put 0, const 3, get 0")
	// A value that was taken out of a cell stays what it is.
	checkCodeShows(t, "done 1|2", "const 1, newcell 0, getcell 0, put 1, const 2, putcell 0, getcell 0, print, get 1")
}

func TestOpsOfTheMachine(t *testing.T) {
	values := []string{"0", "1", "2", "3", "none", "true", "false", `"a"`, `"bc"`, `""`, "(0/0)", "(1/0)"}
	marks := []string{"+", "-", "*", "/", "%", "<", "<=", ">", ">=", "==", "!="}
	for a, left := range values {
		first := strconv.Itoa(a)
		for b, right := range values {
			for op, mark := range marks {
				walked, code := impl.WalkSource("return "+left+mark+right+";", 0)
				want := strings.TrimSuffix(toldOfOutcome(walked), " +0")
				if code != 0 {
					t.Fatal(left, mark, right)
				}
				if walked.End == impl.EndDone {
					checkCodeShows(t, want, fmt.Sprintf("const %d, put 3, const %d, binary %d 3", a, b, op+1))
				} else {
					checkCodeRuns(t, 0, want+" +0", fmt.Sprintf("0/4: const %d, put 3, const %d, binary %d 3, print, return", a, b, op+1))
				}
			}
		}
		isTrue := strings.Contains(" 1 2 3 5 7 8 11 ", " "+first+" ")
		checkCodeShows(t, "done "+strconv.FormatBool(!isTrue), "const "+first+", not")
		checkCodeShows(t, "done "+strconv.FormatBool(isTrue), "const "+first+", not, not")
		behind := map[bool]string{true: "1", false: "1|1"}
		checkCodeShows(t, "done "+behind[isTrue], "const "+first+", if 4, const 1, print, const 1")
		checkCodeShows(t, "done "+behind[!isTrue], "const "+first+", ifnot 4, const 1, print, const 1")
	}
	for a, shown := range []string{"0", "-1", "-2", "-3"} {
		checkCodeShows(t, "done "+shown, fmt.Sprintf("const %d, minus", a))
	}
	checkCodeShows(t, "done NaN", "const 10, minus")
	checkCodeShows(t, "done -Infinity", "const 11, minus")
	for _, a := range []string{"4", "5", "6", "7", "8", "9"} {
		checkCodeRuns(t, 0, "thrown type +0", "0/0: const "+a+", minus, print, return")
	}
	// The register stands ahead, and is as it was; the accumulator is what is done.
	checkCodeShows(t, "done abc|abc|abc|a", "const 7, put 0, const 8, binary 1 0, print, put 1, get 1, print, get 0, print, get 1")
	checkCodeShows(t, "done -1|2|-2", "const 2, put 0, const 3, binary 2 0, put 1, get 0, print, minus, print, get 1")
}

// Just MaxLong bytes, and one more.
func TestLongTextsOfTheMachine(t *testing.T) {
	forty := strings.Repeat("t", 40)
	for _, row := range [][2]string{{"", "done %"}, {", put 1, const 9, binary 1 1", "done %"}, {", put 1, const 9, put 0, get 1, binary 1 0", "done %"}, {", put 1, const 8, binary 1 1", "thrown long"}, {", put 1, const 8, put 0, get 1, binary 1 0", "thrown long"}, {", put 1, binary 1 1", "thrown long"}} {
		x := machineFrom(t, "0/2: const 7, put 0, binary 1 0, put 1, binary 1 1, put 1, get 0, binary 1 1"+row[0]+", return")
		x.Consts[7].Text, x.Consts[8].Text = forty, "b"
		checkImageRuns(t, x, 1, strings.ReplaceAll(row[1], "%", strings.Repeat(forty, 5))+" +1")
	}
}

// An op that is none is no fault of the code: DoBinary tells what it does.
func TestOpsThatAreNoneInTheMachine(t *testing.T) {
	for _, op := range []int{0, 12, 13, 299, 300} {
		x := machineFrom(t, fmt.Sprintf("0/1: const 1, put 0, const 2, binary %d 0, return", op))
		checkImageRuns(t, x, 7, "thrown type +7")
		x = machineFrom(t, fmt.Sprintf("0/1 {3-4>5}: const 1, put 0, const 2, binary %d 0, return, print, return", op))
		checkImageRuns(t, x, 7, "done type|type +7")
		checkImageRuns(t, machineFrom(t, fmt.Sprintf("0/1: const 2, binary %d 0, return", op)), 7, "bad  +7")
	}
}

// A jump to its own place, and to one ahead of it, takes fuel; one to a place behind it does not.
func TestJumpsThatTakeFuel(t *testing.T) {
	for _, fuel := range []int{0, 1, 2, 7, 400} {
		left := " +" + strconv.Itoa(fuel)
		for _, jump := range []string{"jump", "const 1, if", "const 0, ifnot"} {
			own := strings.Count(jump, ",")
			at := strconv.Itoa(own)
			checkCodeRuns(t, fuel, "fuel  +0", "0/0: "+jump+" "+at+", return")
			checkCodeRuns(t, fuel, "fuel  +0", "0/0: const 1, "+jump+" 0, return")
			checkCodeRuns(t, fuel, "fuel  +0", "0/0: const 1, "+jump+" "+strconv.Itoa(own+1)+", return")
			// To the place behind it, and further.
			checkCodeRuns(t, fuel, "done 1|2|1"+left, "0/0: const 2, print, "+jump+" "+strconv.Itoa(own+3)+", const 1, print, return")
			checkCodeRuns(t, fuel, "done 3|2"+left, "0/0: const 2, print, "+jump+" "+strconv.Itoa(own+5)+", const 1, print, const 3, return")
		}
		// A jump that is not made takes none, wherever it would lead.
		for _, to := range []int{0, 1, 2, 3} {
			checkCodeRuns(t, fuel, "done 0|0"+left, fmt.Sprintf("0/0: const 0, if %d, print, return", to))
			checkCodeRuns(t, fuel, "done 1|1"+left, fmt.Sprintf("0/0: const 1, ifnot %d, print, return", to))
		}
	}
	// Three times around.
	loop := "0/1: const 3, put 0, print, const 1, minus, binary 1 0, put 0, "
	for fuel, want := range []string{"fuel |3 +0", "fuel |3|2 +0", "done 0|3|2|1 +0", "done 0|3|2|1 +1"} {
		checkCodeRuns(t, fuel, want, loop+"if 2, return")
		checkCodeRuns(t, fuel, want, strings.Replace(loop, "print", "get 0, print", 1)+"not, ifnot 2, get 0, return")
		checkCodeRuns(t, fuel, want, loop+"ifnot 10, get 0, jump 2, return")
	}
	// What stands ahead is done again from that very place on.
	checkCodeRuns(t, 1, "fuel |1|2|2 +0", "0/0: const 1, print, const 2, print, jump 2")
	checkCodeRuns(t, 1, "fuel |1|2|1|2 +0", "0/0: const 1, print, const 2, print, jump 0")
	checkCodeRuns(t, 1, "fuel |1|2|2 +0", "0/0: const 1, print, const 2, print, jump 3")
	// Forward over one that leads back.
	checkCodeRuns(t, 0, "done 1 +0", "0/0: const 1, jump 3, jump 0, return")
	checkCodeRuns(t, 1, "done 2|1 +0", "0/0: jump 3, const 2, return, const 1, print, jump 1")
	checkCodeRuns(t, 0, "fuel |1 +0", "0/0: jump 3, const 2, return, const 1, print, jump 1")
}

// As many jumps as there is fuel, and one more.
func TestMostFuelOfTheMachine(t *testing.T) {
	x := machineFrom(t, "0/1: const 0, put 0, const 1, minus, binary 1 0, put 0, if 2, return")
	for _, row := range [][3]string{{"1", "0", "done 0 +0"}, {"2", "0", "fuel  +0"}, {"2", "1", "done 0 +0"}, {"400", "400", "done 0 +1"}, {"401", "400", "done 0 +0"}, {"402", "400", "fuel  +0"}, {"400", "398", "fuel  +0"}, {"400", "399", "done 0 +0"}} {
		count, _ := strconv.Atoi(row[0])
		fuel, _ := strconv.Atoi(row[1])
		x.Consts[0].Num = impl.FromInt(count)
		checkImageRuns(t, x, fuel, row[2])
	}
	checkRunOfEachFuel(t, x)
}

// thrower: code that throws at place 3, what it throws, how much fuel that takes, and the Funcs that it calls.
type thrower struct {
	code, shown string
	takes       int
	others      []string
}

func throwers() []thrower {
	return []thrower{
		{"const 3, put 0, const 7, throw", "a", 0, nil},
		{"const 3, put 0, const 4, throw", "none", 0, nil},
		{"const 3, put 0, const 7, binary 2 0", "type", 0, nil},
		{"const 3, put 0, const 7, minus", "type", 0, nil},
		{"const 3, put 0, get 0, call 0 0", "call", 0, nil},
		{"fun 1, put 0, const 3, call 0 0", "bc", 1, []string{"0/0: const 8, throw"}},
		{"fun 1, put 0, const 3, call 0 0", "type", 1, []string{"0/0 {0-1>2 2-9>2}: const 8, minus, return"}},
		{"fun 1, put 0, const 3, call 0 0", "2", 2, []string{"0/1: fun 2, put 0, call 0 0, return", "0/0: const 2, jump 3, const 8, jump 5, const 9, throw"}},
	}
}

// What is thrown goes to the first Handler that has its place; within From .. To - 1 the first and the last place count.
func TestPlacesOfHandlers(t *testing.T) {
	behind := map[int]string{4: "done 1", 5: "done %", 6: "done 2|%", 7: "done 2", 8: "done %"}
	for _, one := range throwers() {
		for from := range 6 {
			for to := range 7 {
				for target := range 9 {
					x := machineFrom(t, append([]string{fmt.Sprintf("0/1 {%d-%d>%d}: %s, const 1, return, print, const 2, return", from, to, target, one.code)}, one.others...)...)
					for _, left := range []int{0, 1} {
						want := "thrown % +" + strconv.Itoa(left)
						switch caught := from <= 3 && 3 < to; {
						case caught && target > 3:
							want = behind[target] + " +" + strconv.Itoa(left)
						case caught:
							// Whatever fuel there is, it is thrown again and again.
							want = "fuel  +0"
						}
						checkImageRuns(t, x, one.takes+left, strings.ReplaceAll(want, "%", one.shown))
					}
				}
			}
		}
	}
}

func TestFirstHandlerOfSeveral(t *testing.T) {
	for _, row := range [][2]string{
		{"3-4>6 3-4>4", "done 2|%"}, {"3-4>4 3-4>6", "done 1"}, {"0-9>6 3-4>4", "done 2|%"}, {"3-4>4 0-9>6", "done 1"}, {"0-4>6 3-9>4", "done 2|%"}, {"3-9>4 0-4>6", "done 1"},
		{"0-3>6 3-4>4", "done 1"}, {"4-9>6 0-4>4", "done 1"}, {"3-3>6 3-4>4", "done 1"}, {"4-3>6 3-4>4", "done 1"}, {"9-0>6 0-9>4", "done 1"}, {"0-3>6 4-9>4", "thrown %"}, {"0-3>6 4-9>4 3-3>8 2-4>5", "done %"}, {"0-300>300 3-4>4", "bad "},
	} {
		for _, one := range throwers() {
			x := machineFrom(t, append([]string{"0/1 {" + row[0] + "}: " + one.code + ", const 1, return, print, const 2, return"}, one.others...)...)
			for left := range 3 {
				checkImageRuns(t, x, one.takes+left, strings.ReplaceAll(row[1], "%", one.shown)+" +"+strconv.Itoa(left))
			}
		}
	}
	// The last of as many as there may be.
	most := strings.Repeat("0-3>4 ", 39)
	checkCodeRuns(t, 0, "done 2|a +0", "0/1 {"+most+"3-4>6}: const 3, put 0, const 7, throw, const 1, return, print, const 2, return")
}

// A Target at the place of what throws, or ahead of it, takes fuel; one behind it does not.
func TestTargetsThatTakeFuel(t *testing.T) {
	ahead := "0/0 {5-6>1}: const 4, ifnot 4, print, return, const 7, throw"
	own := "0/1 {3-4>3}: const 7, put 0, const 4, binary 1 0, return"
	for fuel, want := range []string{"fuel  +0", "done a|a +0", "done a|a +1"} {
		checkCodeRuns(t, fuel, want, ahead)
		checkCodeRuns(t, fuel, strings.ReplaceAll(want, "a|a", "atype"), own)
		checkCodeRuns(t, fuel, "done type +"+strconv.Itoa(fuel), strings.Replace(own, "3-4>3", "3-4>4", 1))
		checkCodeRuns(t, fuel, "fuel  +0", "0/0 {1-2>1}: const 7, minus, return")
		checkCodeRuns(t, fuel, "fuel  +0", "0/0 {1-2>0}: const 7, minus, return")
		checkCodeRuns(t, fuel, "fuel  +0", "0/0 {1-2>1}: const 7, throw")
	}
	checkCodeRuns(t, 400, "done atype +399", own)
	// A call that throws the first time alone: the call takes fuel, and the Target, when it is that call, or ahead of it.
	once := "0/0 [r0]: getcap 0, if 5, const 5, putcap 0, throw, const 8, return"
	for fuel, want := range []string{"fuel  +0", "fuel  +0", "fuel  +0", "done bc +0", "done bc +1"} {
		for _, target := range []string{"4", "2"} {
			checkCodeRuns(t, fuel, want, "0/2 {4-5>"+target+"}: const 6, newcell 0, fun 1, put 1, call 1 0, return", once)
		}
	}
	for fuel, want := range []string{"fuel  +0", "done true +0", "done true +1"} {
		checkCodeRuns(t, fuel, want, "0/2 {4-5>5}: const 6, newcell 0, fun 1, put 1, call 1 0, return", once)
	}
	// It is the place of the call that counts, not that in which it is thrown within it.
	late := "0/0: const 1, put 0, const 1, const 1, const 1, const 1, const 7, throw"
	checkCodeRuns(t, 1, "done a|a +0", "0/1 {2-3>3}: fun 1, put 0, call 0 0, print, return", strings.Replace(late, "0/0", "0/1", 1))
	checkCodeRuns(t, 1, "fuel  +0", "0/1 {9-10>9}: fun 1, put 0, jump 3, jump 4, jump 5, jump 6, jump 7, jump 8, jump 9, call 0 0, return", "0/0: const 7, throw")
}

func TestHandlersOfSeveralFrames(t *testing.T) {
	main := "0/1 {2-3>4}: fun 1, put 0, call 0 0, return, print, const 2, return"
	// The frame that throws is asked first; what it catches is not thrown any more.
	checkCodeRuns(t, 1, "done bc +0", main, "0/0 {1-2>2}: const 7, throw, const 8, return")
	checkCodeRuns(t, 1, "done a|a +0", main, "0/0 {1-2>2}: const 7, throw, print, return")
	// What is thrown where something was caught is thrown anew.
	checkCodeRuns(t, 1, "done 2|bc +0", main, "0/0 {1-2>2}: const 7, throw, const 8, throw")
	checkCodeRuns(t, 1, "done 2|type +0", main, "0/0 {0-2>2}: const 7, minus, minus, return")
	checkCodeRuns(t, 1, "done type|type +0", main, "0/0 {0-2>2 2-3>3}: const 7, minus, minus, print, return")
	// Frames without a Handler are left, however many, and as many may be entered again.
	deeper := "1/3: get 0, ifnot 10, const 1, minus, binary 1 0, put 2, fun 1, put 1, call 1 1, return, const 8, throw"
	checkCodeRuns(t, 3, "done 2|bc +0", "0/2 {4-5>6}: fun 1, put 0, const 2, put 1, call 0 1, return, print, const 2, return", deeper)
	x := machineFrom(t, "0/3 {6-7>7}: fun 1, put 0, const 1, put 2, const 3, put 1, call 0 1, print, get 2, ifnot 13, const 0, put 2, jump 6, return", deeper)
	checkImageRuns(t, x, 20, "done 0|bc|bc +11")
	x.Consts[3].Num = impl.FromInt(11)
	checkImageRuns(t, x, 25, "done 0|bc|bc +0")
	x.Consts[3].Num = impl.FromInt(12)
	checkImageRuns(t, x, 25, "deep  +12")
	// A return goes through no Handler.
	checkCodeRuns(t, 1, "done a +0", "0/1 {0-9>4}: fun 1, put 0, call 0 0, return, print, return", "0/0 {0-9>2}: const 7, return, print, return")
	checkCodeRuns(t, 0, "done a +0", "0/1 {0-9>2}: const 7, return, print, return")
	// Neither does an end without fuel, one of the log, one that is too deep, or one that is bad.
	checkCodeRuns(t, 0, "fuel  +0", main, "0/0: const 1, return")
	checkCodeRuns(t, 1, "fuel  +0", "0/1 {0-9>4}: fun 1, put 0, call 0 0, return, print, return", "0/0 {0-9>3}: const 1, jump 1, return, print, return")
	checkCodeRuns(t, 400, "deep  +387", "0/1 {0-9>4}: fun 1, put 0, call 0 0, return, print, return", "0/1 {0-9>4}: fun 1, put 0, call 0 0, return, print, return")
	checkCodeRuns(t, 400, "fuel "+logOf("true", 200)+" +400", "0/0 {0-300>202}: const 5, "+strings.Repeat("print, ", 201)+"return")
	checkCodeRuns(t, 400, "bad  +400", "0/0 {0-9>2}: get 0, return, print, return")
}

// What is no function, no fuel, too many calls: the first of these that is so counts.
func TestCallsOfTheMachine(t *testing.T) {
	for at := range 12 {
		for _, fuel := range []int{0, 1, 400} {
			for b := range 3 {
				checkCodeRuns(t, fuel, "thrown call +"+strconv.Itoa(fuel), fmt.Sprintf("0/3: const 1, put 1, put 2, const %d, put 0, call 0 %d, print, return", at, b))
			}
		}
	}
	// All that is handed in is taken ahead of asking what is called.
	checkImageRuns(t, machineFrom(t, "0/1: const 1, put 0, call 0 1, return"), 0, "bad  +0")
	checkImageRuns(t, machineFrom(t, "0/2: const 1, put 0, newcell 1, call 0 1, return"), 0, "bad  +0")
	main := "0/3: fun 1, put 0, const 1, put 1, const 2, put 2, call 0 2, print, get 1, print, get 0, return"
	for fuel, want := range []string{"fuel  +0", "done fun|bc|1 +0", "done fun|bc|1 +1"} {
		// The call's value is in the accumulator; the registers are as they were, whatever the function does with its own.
		checkCodeRuns(t, fuel, want, main, "0/0: const 8, return")
		checkCodeRuns(t, fuel, want, main, "2/3: const 8, put 0, put 1, put 2, return")
		checkCodeRuns(t, fuel, want, main, "2/3: const 8, newcell 0, newcell 1, newcell 2, return")
	}
	// It goes on behind the call, also behind one in the last place of a loop.
	checkCodeRuns(t, 5, "fuel |1|2|1|2|1|2 +0", "0/1: fun 1, put 0, const 1, print, call 0 0, jump 2", "0/0: const 2, print, return")
	checkCodeRuns(t, 1, "done 3|1|2 +0", "0/1: fun 1, put 0, const 1, print, call 0 0, print, const 3, return", "0/0: const 2, jump 3, const 1, return")
	// A call of what was handed in, or is the value of a call.
	checkCodeRuns(t, 2, "done a +0", "0/2: fun 2, put 0, fun 1, put 1, call 0 1, return", "0/0: const 7, return", "1/1: call 0 0, return")
	checkCodeRuns(t, 2, "done a +0", "0/1: fun 2, put 0, call 0 0, put 0, call 0 0, return", "0/0: const 7, return", "0/0: fun 1, return")
}

func TestMostCallsOfTheMachine(t *testing.T) {
	forever := []string{"0/1: fun 1, put 0, call 0 0, return", "0/1: const 1, print, fun 1, put 0, call 0 0, return"}
	for fuel, want := range map[int]string{0: "fuel  +0", 1: "fuel |1 +0", 11: "fuel " + logOf("1", 11) + " +0", 12: "fuel " + logOf("1", 12) + " +0", 13: "deep " + logOf("1", 12) + " +0", 14: "deep " + logOf("1", 12) + " +1", 400: "deep " + logOf("1", 12) + " +387"} {
		checkCodeRuns(t, fuel, want, forever...)
	}
	// So many calls within one another, and then as many again.
	down := "1/3: get 0, ifnot 10, const 1, minus, binary 1 0, put 2, fun 1, put 1, call 1 1, return, const 8, return"
	for count, want := range map[int]string{11: "done bc|bc +376", 12: "deep  +387", 0: "done bc|bc +398"} {
		x := machineFrom(t, "0/2: fun 1, put 0, const 3, put 1, call 0 1, print, call 0 1, return", down)
		x.Consts[3].Num = impl.FromInt(count)
		checkImageRuns(t, x, 400, want)
		checkRunOfEachFuel(t, x)
	}
	// What is no function is thrown in the innermost one still, and without fuel it ends by that.
	down = strings.Replace(down, "const 8, return", "const 8, put 1, call 1 0, return", 1)
	for fuel, want := range map[int]string{12: "thrown call +0", 13: "thrown call +1", 11: "fuel  +0"} {
		x := machineFrom(t, "0/2: fun 1, put 0, const 3, put 1, call 0 1, return", down)
		x.Consts[3].Num = impl.FromInt(11)
		checkImageRuns(t, x, fuel, want)
	}
}

func TestFewerAndMoreHandedInToFuncs(t *testing.T) {
	prints := "get 0, print, get 1, print, get 2, print, return"
	for b, want := range []string{"none|none|none", "1|none|none", "1|2|none", "1|2|3", "1|2|3", "1|2|3"} {
		main := fmt.Sprintf("0/6: fun 1, put 0, const 1, put 1, const 2, put 2, const 3, put 3, put 4, put 5, call 0 %d, const 4, return", b)
		checkCodeRuns(t, 1, "done none|"+want+" +0", main, "3/3: "+prints)
		checkCodeRuns(t, 1, "done none|"+want+" +0", main, "3/4: "+prints)
	}
	// Behind Params there is nothing, however many are handed in; ahead of any instruction the accumulator has nothing.
	main := "0/3: fun 1, put 0, const 1, put 1, const 2, put 2, call 0 2, return"
	for _, f := range []string{"1/2: get 1", "0/2: get 0", "1/1: return", "2/2: print", "1/1: binary 1 0", "2/3: put 2", "2/3: newcell 2", "1/1: getcell 0", "2/2: throw", "2/2: not", "2/2: minus", "2/2: if 0", "2/2: ifnot 0", "2/2: if 1", "2/2: ifnot 1"} {
		checkCodeRuns(t, 1, "bad  +0", main, f+", const 1, print, return")
	}
	checkCodeRuns(t, 1, "bad  +0", "0/2: const 1, newcell 0, fun 1, put 1, call 1 0, return", "0/0 [r0]: putcap 0, const 1, print, return")
	// As many as registers hold.
	x := machineFrom(t, "0/40: fun 1, put 0, const 1"+puts(1, 39)+", call 0 39, return", "4/4: get 0, put 1, get 3, binary 1 1, return")
	checkImageRuns(t, x, 1, "done 2 +0")
}

// puts: into all registers from the first to the last one.
func puts(first int, last int) string {
	var out strings.Builder
	for register := first; register <= last; register++ {
		fmt.Fprintf(&out, ", put %d", register)
	}
	return out.String()
}

func TestCellsThatAreShared(t *testing.T) {
	// Two functions hold one cell: what one of them puts there the other one, and the frame around them, find.
	main := "0/4: const 1, newcell 0, fun 1, put 1, fun 2, put 2, const 3, put 3, call 2 0, print, call 1 2, print, call 2 0, print, getcell 0, return"
	set := "1/2 [r0]: get 0, putcap 0, return"
	checkCodeRuns(t, 3, "done fun|1|fun|fun +0", strings.Replace(main, "call 1 2", "call 1 1", 1), set, "0/0 [r0]: getcap 0, return")
	set = "2/2 [r0]: get 1, putcap 0, return"
	checkCodeRuns(t, 3, "done 3|1|3|3 +0", main, set, "0/0 [r0]: getcap 0, return")
	checkCodeRuns(t, 3, "done 2|1|3|2 +0", strings.Replace(main, "print, call 2 0, print, getcell", "print, const 2, putcell 0, call 2 0, print, getcell", 1), set, "0/0 [r0]: getcap 0, return")
	// Of two cells each function holds its own, in the order of its Caps.
	two := "0/4: const 1, newcell 0, const 2, newcell 1, fun 1, put 2, call 2 0, getcell 0, print, getcell 1, return"
	checkCodeRuns(t, 1, "done 2|1|2|3 +0", two, "0/0 [r0 r1]: getcap 0, print, getcap 1, print, const 3, putcap 0, return")
	checkCodeRuns(t, 1, "done 3|2|1|1 +0", two, "0/0 [r1 r0]: getcap 0, print, getcap 1, print, const 3, putcap 0, return")
	checkCodeRuns(t, 1, "done 2|1|1|3 +0", two, "0/0 [r0 r0]: getcap 0, print, getcap 1, print, const 3, putcap 1, return")
	// Functions within functions, which hold what is held.
	outer := "0/2 [r1 r0]: fun 2, put 0, call 0 0, return"
	checkCodeRuns(t, 2, "done 3|1|2|3 +0", two, outer, "0/0 [c1 c0]: getcap 0, print, getcap 1, print, const 3, putcap 1, putcap 0, return")
	checkCodeRuns(t, 2, "done 2|1|1|3 +0", two, outer, "0/0 [c1 c1]: getcap 0, print, getcap 1, print, const 3, putcap 1, return")
	checkCodeRuns(t, 2, "done 2|2|a|1 +0", two, "0/2 [r1 r0]: const 7, newcell 1, fun 2, put 0, call 0 0, return", "0/0 [c0 r1]: getcap 0, print, getcap 1, print, const 3, putcap 1, return")
	// The cell outlives the frame that made it, and each call makes another one.
	counter := "0/0 [r0]: getcap 0, return"
	checkCodeRuns(t, 5, "done 3|1|2|1 +0", "0/2: fun 1, put 0, call 0 0, put 1, call 1 0, print, call 1 0, print, call 0 0, put 0, call 0 0, print, const 3, return", "0/1: const 0, newcell 0, fun 2, return", "0/1 [r0]: getcap 0, put 0, const 1, binary 1 0, putcap 0, return")
	// What is handed in holds what it held, though the register of its cell has another value by then.
	checkCodeRuns(t, 2, "done bc +0", "0/3: const 8, newcell 0, fun 2, put 1, fun 1, put 0, call 0 1, return", "1/1: call 0 0, return", counter)
}

// A cell that is made in a register again is another one: who holds the first holds that still.
func TestCellsThatAreMadeAgain(t *testing.T) {
	count := "0/1 [r0]: getcap 0, put 0, const 1, binary 1 0, putcap 0, return"
	main := "0/4: const 4, put 1, put 3, const 1, newcell 0, get 1, put 2, fun 1, put 1, get 3, if 14, const 5, put 3, jump 3, call 1 0, print, call 1 0, print, call 2 0, print, getcell 0, return"
	for fuel, want := range []string{"fuel  +0", "fuel  +0", "fuel |2 +0", "fuel |2|3 +0", "done 3|2|3|2 +0", "done 3|2|3|2 +1"} {
		checkCodeRuns(t, fuel, want, main, count)
	}
	straight := "0/3: const 1, newcell 0, fun 1, put 1, const 7, newcell 0, call 1 0, print, getcell 0, return"
	checkCodeRuns(t, 1, "done a|2 +0", straight, count)
	checkCodeRuns(t, 1, "done a|a +0", strings.Replace(straight, "const 7, newcell 0", "const 7, putcell 0", 1), "0/0 [r0]: getcap 0, return")
	// A value that is put over it is not the function's.
	checkCodeRuns(t, 1, "done a|2 +0", strings.Replace(strings.Replace(straight, "const 7, newcell 0", "const 7, put 0", 1), "getcell", "get", 1), count)
}

// Each function that is made is the same as itself alone.
func TestRefsOfTheMachine(t *testing.T) {
	others := []string{"0/0: const 1, return", "0/0: const 2, return", "0/0: fun 1, return", "1/1: get 0, return"}
	checkCodeShows(t, "done fun|true|false|false", "fun 1, put 0, binary 10 0, print, fun 1, put 1, binary 10 0, print, get 0, binary 10 1, print, get 1", others...)
	for _, row := range [][3]string{
		{"fun 1, put 0, get 0", "true", "0"}, {"fun 1, put 0, fun 1", "false", "0"}, {"fun 1, put 0, fun 2", "false", "0"}, {"fun 2, put 0, fun 1", "false", "0"}, {"fun 1, put 0, newcell 1, getcell 1", "true", "0"}, {"fun 1, put 0, fun 2, put 1, get 0", "true", "0"},
		{"fun 3, put 1, call 1 0, put 0, call 1 0", "false", "2"}, {"fun 3, put 1, call 1 0, put 0, get 0", "true", "1"}, {"fun 4, put 1, fun 1, put 0, put 2, call 1 1", "true", "1"}, {"fun 4, put 1, put 0, put 2, call 1 1", "true", "1"}, {"fun 4, put 1, fun 4, put 0, put 2, call 0 0", "false", "1"},
		{"fun 1, put 0, const 1", "false", "0"}, {"const 0, put 0, fun 1", "false", "0"}, {"const 4, put 0, fun 1", "false", "0"}, {"const 5, put 0, fun 1", "false", "0"},
	} {
		fuel, _ := strconv.Atoi(row[2])
		other := map[string]string{"true": "false", "false": "true"}[row[1]]
		checkCodeRuns(t, fuel, "done "+row[1]+" +0", append([]string{"0/3: " + row[0] + ", binary 10 0, return"}, others...)...)
		checkCodeRuns(t, fuel, "done "+other+" +0", append([]string{"0/3: " + row[0] + ", binary 11 0, return"}, others...)...)
	}
	// Which Func it is of is told by its Ref still, when others were made behind it.
	checkCodeRuns(t, 4, "done 1|2|1|2 +0", append([]string{"0/2: fun 2, put 0, fun 1, put 1, call 0 0, print, call 1 0, print, fun 3, call 0 0, print, call 1 0, return"}, others...)...)
	// As many as there is fuel for: all but the first are others.
	x := machineFrom(t, append([]string{"0/3: const 3, put 0, fun 1, put 1, fun 1, binary 10 1, if 13, const 1, minus, binary 1 0, put 0, if 4, get 1, return, const 7, throw"}, others...)...)
	x.Consts[3].Num = impl.FromInt(401)
	checkImageRuns(t, x, 400, "done fun +0")
}

func TestReturnsOfTheMachine(t *testing.T) {
	// In the program's own frame it is the end, in others that of the call.
	checkCodeRuns(t, 3, "done 1|2 +3", "0/0: const 2, print, const 1, return, const 3, print, return")
	checkCodeRuns(t, 3, "done 1|2 +2", "0/1: fun 1, put 0, call 0 0, print, const 1, return", "0/0: const 2, return, const 3, print, return")
	checkCodeRuns(t, 3, "done 3|2|1 +1", "0/1: fun 1, put 0, call 0 0, print, const 3, return", "0/1: fun 2, put 0, call 0 0, print, const 1, return", "0/0: const 2, return")
	checkCodeRuns(t, 0, "done fun +0", "0/0: fun 1, return", "0/0: const 2, return")
	// Of Func 0 a function may be made, too, by code that the verifier refuses.
	x := machineFrom(t, "0/1: const 1, print, fun 0, put 0, call 0 0, return")
	checkImageRuns(t, x, 400, "deep "+logOf("1", 13)+" +387")
	x = machineFrom(t, "0/2 {4-5>6}: fun 1, put 0, const 7, print, call 0 0, return, const 8, return", "0/1: fun 0, put 0, call 0 0, print, throw")
	checkImageRuns(t, x, 3, "fuel |a|a +0")
	x = machineFrom(t, "0/1: fun 1, put 0, call 0 0, return", "0/1: fun 0, return")
	checkImageRuns(t, x, 1, "done fun +0")
}

func TestMostTextsOfTheMachine(t *testing.T) {
	for count, want := range map[int]string{199: "done true" + logOf("true", 199), 200: "done true" + logOf("true", 200), 201: "fuel " + logOf("true", 200), 202: "fuel " + logOf("true", 200)} {
		checkCodeRuns(t, 3, want+" +3", "0/0: const 5, "+strings.Repeat("print, ", count)+"return")
		checkCodeRuns(t, 3, strings.ReplaceAll(want, "true", "")+" +3", "0/0: const 9, "+strings.Repeat("print, ", count)+"return")
	}
	// The log is one of all frames.
	prints := strings.Repeat("print, ", 100)
	checkCodeRuns(t, 1, "done 2"+logOf("1", 100)+logOf("2", 100)+" +0", "0/1: fun 1, put 0, const 1, "+prints+"call 0 0, return", "0/0: const 2, "+prints+"return")
	checkCodeRuns(t, 1, "fuel "+logOf("1", 100)+logOf("2", 100)+" +0", "0/1: fun 1, put 0, const 1, "+prints+"call 0 0, return", "0/0: const 2, "+prints+"print, return")
	checkCodeRuns(t, 1, "fuel "+logOf("1", 100)+logOf("2", 100)+" +0", "0/1: fun 1, put 0, const 1, "+prints+"call 0 0, print, return", "0/0: const 2, "+prints+"return")
	// Of loops, until it is full.
	checkCodeRuns(t, 400, "fuel "+logOf("1", 200)+" +200", "0/0: const 1, print, jump 1")
	checkCodeRuns(t, 199, "fuel "+logOf("1", 200)+" +0", "0/0: const 1, print, jump 1")
	checkCodeRuns(t, 198, "fuel "+logOf("1", 199)+" +0", "0/0: const 1, print, jump 1")
}

func TestMostBytesOfTheMachine(t *testing.T) {
	forty := strings.Repeat("t", 40)
	full := logOf(forty, 99)
	for _, row := range [][2]string{
		{"", "done " + forty + full}, {"print, ", "done " + forty + full + "|" + forty}, {"print, print, ", "fuel " + full + "|" + forty}, {"print, const 9, print, print, ", "done " + full + "|" + forty + "||"}, {"print, const 9, print, const 1, print, ", "fuel " + full + "|" + forty + "|"},
		{"const 7, print, const 1, print, ", "done 1" + full + "|" + forty[1:] + "|1"}, {"const 7, print, const 1, print, print, ", "fuel " + full + "|" + forty[1:] + "|1"}, {"const 7, print, const 8, print, const 1, print, ", "fuel " + full + "|" + forty[1:]},
	} {
		x := machineFrom(t, "0/0: const 2, "+strings.Repeat("print, ", 99)+row[0]+"return")
		x.Consts[2] = impl.Const{Kind: impl.ConstText, Text: forty}
		x.Consts[7].Text = forty[1:]
		for _, fuel := range []int{0, 1, 400} {
			checkImageRuns(t, x, fuel, row[1]+" +"+strconv.Itoa(fuel))
		}
	}
}

// Each thing that an instruction may want, and what comes of code that lacks it: it ends there, whatever fuel there is.
func TestWhatIsNotThere(t *testing.T) {
	others := []string{"0/0: const 1, return", "0/0 [r0]: const 1, return", "0/0 [c0]: const 1, return", "0/0 [r1 r0]: const 1, return", "0/0 [r4]: const 1, return"}
	for _, code := range []string{
		// A register without a value, or with a cell where a value is wanted.
		"get 0", "const 1, get 0", "const 1, put 1, get 0", "const 1, newcell 0, get 0", "const 1, put 0, newcell 0, get 0", "const 1, binary 1 0", "const 1, newcell 0, binary 1 0", "const 1, put 0, newcell 0, binary 10 0",
		"call 0 0", "const 1, newcell 0, call 0 0", "const 1, put 0, call 0 1", "const 1, put 0, newcell 1, call 0 1", "const 1, put 0, put 1, call 0 2", "const 1, put 0, put 2, call 0 2", "const 1, put 1, call 0 1", "const 1, newcell 0, put 1, call 0 1",
		// A register without a cell, or with a value where a cell is wanted.
		"getcell 0", "const 1, getcell 0", "const 1, put 0, getcell 0", "const 1, newcell 0, put 0, getcell 0", "const 1, newcell 1, getcell 0", "putcell 0", "const 1, putcell 0", "const 1, put 0, putcell 0", "const 1, newcell 1, putcell 0",
		"fun 2", "const 1, put 0, fun 2", "const 1, newcell 1, fun 2", "const 1, newcell 0, put 0, fun 2", "fun 3", "const 1, newcell 0, fun 3", "fun 4", "const 1, newcell 0, fun 4", "const 1, newcell 1, fun 4", "const 1, newcell 0, put 1, fun 4", "const 1, newcell 0, newcell 1, newcell 2, newcell 3, fun 5",
		// An accumulator without a value.
		"put 0", "newcell 0", "not", "minus", "if 1", "if 0", "ifnot 1", "ifnot 0", "return", "throw", "print",
		// Numbers at their bounds, and far beyond.
		"const 12", "const 300", "get 4", "get 300", "const 1, put 4", "const 1, put 300", "const 1, newcell 4", "const 1, newcell 300", "getcell 4", "getcell 300", "const 1, putcell 4", "const 1, putcell 300", "getcap 0", "getcap 300", "const 1, putcap 0", "const 1, putcap 300",
		"const 1, binary 1 4", "const 1, binary 1 300", "fun 6", "fun 300", "call 4 0", "call 300 300", "const 1, put 3, call 3 1", "const 1, put 0, put 1, put 2, put 3, call 0 4", "const 1, put 0, put 1, put 2, put 3, call 0 300",
	} {
		// Were it done, something would be printed behind it.
		funcs := append([]string{"0/4: " + code + ", const 1, print, return"}, others...)
		x := machineFrom(t, funcs...)
		for _, fuel := range []int{0, 1, 400} {
			checkImageRuns(t, x, fuel, "bad  +"+strconv.Itoa(fuel))
		}
		if impl.Verify(x) != 0 {
			t.Errorf("Verify is %d of %q", impl.Verify(x), code)
		}
		// It ends all, whatever was done ahead, and wherever it is.
		ahead := strings.Count(code, ",")
		x = machineFrom(t, append([]string{fmt.Sprintf("0/4 {0-%d>%d}: %s, const 1, print, return", ahead+1, ahead+1, code)}, others...)...)
		checkImageRuns(t, x, 3, "bad  +3")
		x = machineFrom(t, append([]string{"0/1 {0-300>5}: const 7, print, fun 6, put 0, call 0 0, return"}, append(others, funcs[0])...)...)
		if !strings.Contains(code, "fun 6") {
			checkImageRuns(t, x, 3, "bad |a +2")
		}
	}
}

// The same numbers just below their bounds.
func TestWhatIsStillThere(t *testing.T) {
	others := []string{"0/0: const 1, return", "0/0 [r0]: const 1, return", "0/0 [r3]: const 1, return"}
	checkCodeShows(t, "done Infinity", "const 11", others...)
	checkCodeShows(t, "done 1", "const 1, put 3, const 2, get 3", others...)
	checkCodeShows(t, "done 1", "const 1, newcell 3, const 2, getcell 3", others...)
	checkCodeShows(t, "done 3", "const 2, newcell 3, const 3, putcell 3, const 2, getcell 3", others...)
	checkCodeShows(t, "done 3", "const 1, put 3, const 2, binary 1 3", others...)
	checkCodeShows(t, "done fun", "const 1, newcell 3, fun 3", others...)
	checkCodeRuns(t, 1, "done 1 +0", append([]string{"0/4: fun 1, put 3, call 3 0, return"}, others...)...)
	checkCodeRuns(t, 1, "done 1 +0", append([]string{"0/4: fun 1, put 0, put 1, put 2, put 3, call 0 3, return"}, others...)...)
	checkCodeRuns(t, 1, "done 2 +0", "0/2: const 1, newcell 0, const 2, newcell 1, fun 1, put 0, call 0 0, return", "0/0 [r0 r1]: getcap 1, return")
	checkCodeRuns(t, 1, "bad  +0", "0/2: const 1, newcell 0, const 2, newcell 1, fun 1, put 0, call 0 0, return", "0/0 [r0 r1]: getcap 2, return")
	checkCodeRuns(t, 1, "done 2 +0", "0/2: const 1, newcell 0, const 2, newcell 1, fun 1, put 0, call 0 0, return", "0/0 [r0 r1]: const 2, putcap 1, return")
	checkCodeRuns(t, 1, "bad  +0", "0/2: const 1, newcell 0, const 2, newcell 1, fun 1, put 0, call 0 0, return", "0/0 [r0 r1]: const 2, putcap 2, return")
	checkCodeRuns(t, 1, "bad  +0", "0/2: const 1, newcell 0, const 2, newcell 1, fun 1, put 0, call 0 0, return", "0/0 [r0 r1]: putcap 1, return")
	checkCodeRuns(t, 1, "done fun +0", "0/2: const 1, newcell 0, const 2, newcell 1, fun 1, put 0, call 0 0, return", "0/0 [r0 r1]: fun 2, return", "0/0 [c1]: const 1, return")
	checkCodeRuns(t, 1, "bad  +0", "0/2: const 1, newcell 0, const 2, newcell 1, fun 1, put 0, call 0 0, return", "0/0 [r0 r1]: fun 2, return", "0/0 [c2]: const 1, return")
	checkCodeRuns(t, 1, "bad  +0", "0/2: const 1, newcell 0, const 2, newcell 1, fun 1, put 0, call 0 0, return", "0/0 [r0 r1]: fun 2, return", "0/0 [r0]: const 1, return")
	// As much of everything as there may be.
	x := machineFrom(t, "0/40: const 39, newcell 39"+strings.ReplaceAll(puts(0, 38), "put", "newcell")+", fun 15, put 38, call 38 0, return")
	x.Consts = append(constsOfSize(39), impl.Const{Kind: impl.ConstText, Text: "last"})
	for range 14 {
		x.Funcs = append(x.Funcs, funcOf(t, "0/0: const 1, return"))
	}
	last := funcOf(t, "0/0: getcap 19, return")
	for at := range 20 {
		last.Caps = append(last.Caps, impl.Cap{Reg: true, Index: 39 - at%2})
	}
	x.Funcs = append(x.Funcs, last)
	checkImageRuns(t, x, 1, "done last +0")
	x.Funcs[15].Code[0].A = 20
	checkImageRuns(t, x, 1, "bad  +0")
}

// A place beyond the code: by a jump, by a Target, and behind the last instruction.
func TestPlacesBeyondTheCodeOfTheMachine(t *testing.T) {
	for _, fuel := range []int{0, 1, 400} {
		left := " +" + strconv.Itoa(fuel)
		for _, to := range []string{"3", "4", "299", "300"} {
			checkCodeRuns(t, fuel, "bad "+left, "0/0: const 1, jump "+to+", return")
			checkCodeRuns(t, fuel, "bad "+left, "0/0: const 1, if "+to+", return")
			checkCodeRuns(t, fuel, "bad "+left, "0/0: const 0, ifnot "+to+", return")
			checkCodeRuns(t, fuel, "bad |1"+left, "0/0 {2-3>"+to+"}: const 1, print, throw")
			checkCodeRuns(t, fuel, "bad "+left, "0/0 {2-3>"+to+"}: const 7, jump 2, minus")
			// Where none of it is gone to, it is not wanted, though the verifier refuses it.
			checkImageRuns(t, machineFrom(t, "0/0: const 0, if "+to+", return"), fuel, "done 0"+left)
			checkImageRuns(t, machineFrom(t, "0/0: const 1, ifnot "+to+", return"), fuel, "done 1"+left)
			checkImageRuns(t, machineFrom(t, "0/0 {0-3>"+to+"}: const 1, print, return"), fuel, "done 1|1"+left)
		}
		for _, last := range []string{"const 1", "const 1, print", "const 1, put 0", "const 1, newcell 0", "const 0, if 0", "const 1, ifnot 0", "const 1, not", "const 1, minus", "const 1, jump 2, const 1, get 0", "fun 1", "const 2, print, const 1, newcell 0, getcell 0", "const 1, newcell 0, putcell 0"} {
			printed := map[bool]string{true: "|1"}[last == "const 1, print"] + map[bool]string{true: "|2"}[strings.Contains(last, "const 2")]
			checkCodeRuns(t, fuel, "bad "+printed+left, "0/1: "+last, "0/0: const 1, return")
		}
	}
	// Behind a call that is the last instruction: what it does is done ahead.
	checkCodeRuns(t, 3, "bad |2 +2", "0/1: fun 1, put 0, call 0 0", "0/0: const 2, print, return")
	checkCodeRuns(t, 3, "thrown 2|2 +2", "0/1: fun 1, put 0, call 0 0, return", "0/0: const 2, print, throw")
	checkImageRuns(t, machineFrom(t, "0/1: fun 1, put 0, call 0 0", "0/0: const 2, print, throw"), 3, "thrown 2|2 +2")
	checkImageRuns(t, machineFrom(t, "0/1: fun 1, put 0, call 0 0", "0/0: const 2, print, jump 1"), 3, "fuel |2|2|2 +0")
	checkCodeRuns(t, 3, "bad |2 +2", "0/1: fun 1, put 0, call 0 0, return", "0/0: const 2, print")
	// The last place itself, of as many as there may be.
	long := "const 1, jump 299" + strings.Repeat(", const 2", 297)
	checkCodeRuns(t, 0, "done 1 +0", "0/0: "+long+", return")
	checkCodeRuns(t, 0, "bad  +0", "0/0: "+long+", const 1")
	checkCodeRuns(t, 0, "bad  +0", "0/0: "+strings.Replace(long, "jump 299", "jump 300", 1)+", return")
	checkCodeRuns(t, 0, "done a|a +0", "0/0 {1-2>298}: const 7, throw"+strings.Repeat(", const 2", 296)+", print, return")
}

func checkNoRun(t *testing.T, x impl.Image, fuel int) {
	t.Helper()
	if got, ok := impl.Run(x, fuel); ok || !sameOutcomes(got, impl.Outcome{}) {
		t.Fatalf("with %d of fuel: %+v, %v of\n%s", fuel, got, ok, toldOfImage(x))
	}
}

func TestImagesThatAreNotRun(t *testing.T) {
	fuels := append(refusedFuels(), 0, 1, impl.MaxFuel)
	sound := machineFrom(t, "0/2: const 1, newcell 0, fun 1, put 1, call 1 0, return", "0/1 [r0] {0-1>0}: getcap 0, return")
	for _, x := range []impl.Image{{}, {Consts: sound.Consts}, {Funcs: []impl.Func{{}}}, {Funcs: []impl.Func{{Params: 1, Regs: 1, Code: sound.Funcs[1].Code}}}, {Funcs: sound.Funcs[1:]}} {
		for _, fuel := range fuels {
			checkNoRun(t, x, fuel)
		}
	}
	for _, x := range []impl.Image{sound, smallImage(), severalFuncs(), compiled(t, knownTree())} {
		for at, spoil := range spoilersOf(x) {
			checkNoRun(t, changedImage(x, spoil), fuels[at%len(fuels)])
			checkNoRun(t, changedImage(x, spoil), impl.MaxFuel)
		}
		for _, k := range knobsOf(x) {
			for _, n := range []int{k.least - 1, k.most + 1, -1, math.MinInt, math.MaxInt} {
				checkNoRun(t, changedImage(x, func(x *impl.Image) { k.set(x, n) }), 5)
			}
		}
	}
	// A kind of instruction that is none, and a number below 0, also where it is not reached.
	for _, change := range []func(x *impl.Image){
		func(x *impl.Image) { x.Funcs[0].Code[0].Op = 0 }, func(x *impl.Image) { x.Funcs[0].Code[0].Op = 20 }, func(x *impl.Image) { x.Funcs[0].Code[0].Op = -1 }, func(x *impl.Image) { x.Funcs[1].Code[1].Op = 20 },
		func(x *impl.Image) { x.Funcs[0].Code[0].A = -1 }, func(x *impl.Image) { x.Funcs[0].Code[0].B = -1 }, func(x *impl.Image) { x.Funcs[0].Code = append(x.Funcs[0].Code, impl.Ins{Op: 20}) }, func(x *impl.Image) { x.Funcs[1].Caps[0].Index = -1 },
		func(x *impl.Image) { x.Funcs[1].Handlers[0].Target = 301 }, func(x *impl.Image) { x.Consts[9].Num = 1 }, func(x *impl.Image) { x.Funcs[0].Caps = x.Funcs[1].Caps },
	} {
		for _, fuel := range fuels {
			checkNoRun(t, changedImage(sound, change), fuel)
		}
	}
}

func TestFuelsThatTheMachineRefuses(t *testing.T) {
	for _, x := range []impl.Image{smallImage(), severalFuncs(), greatestImage(), machineFrom(t, "0/0: const 1, print, return"), machineFrom(t, "0/0: jump 0"), compiled(t, knownTree())} {
		for _, fuel := range refusedFuels() {
			checkNoRun(t, x, fuel)
		}
		for _, fuel := range []int{0, 1, impl.MaxFuel - 1, impl.MaxFuel} {
			checkRun(t, x, fuel)
		}
	}
}

func checkNoRunOfText(t *testing.T, text string, fuel int, want int) {
	t.Helper()
	if got, code := impl.RunText(text, fuel); code != want || !sameOutcomes(got, impl.Outcome{}) {
		t.Fatalf("with %d of fuel: %+v, %d, want nothing, %d, of %q", fuel, got, code, want, text)
	}
}

// Of a text that is no image's, an image that is not sound and a fuel that is not so the first counts.
func TestCodesOfTexts(t *testing.T) {
	fuels := append(refusedFuels(), 0, 1, impl.MaxFuel)
	sound := machineFrom(t, "0/2 {4-5>5}: const 1, newcell 0, fun 1, put 1, call 1 0, return", "0/1 [r0]: getcap 0, print, throw")
	text := imageTextOf(t, sound)
	wrong := []string{"", "a", text + "a", text[1:], text[:len(text)-1], "SC1", text + text, strings.Repeat("a", impl.MaxText+1)}
	for at := range len(text) {
		turned := []byte(text)
		turned[at] ^= byte(1 << (at % 8))
		wrong = append(wrong, string(turned))
	}
	for _, inner := range []string{"", "SC1", "SC2\x00\x01\x00\x00\x00\x01\x11\x00\x00\x00", "SC1\x00\x01\x00\x00\x00\x01\x14\x00\x00\x00", "SC1\x00\x00"} {
		sealed, _ := impl.Sealed(inner)
		wrong = append(wrong, sealed, inner)
	}
	for _, one := range wrong {
		for _, fuel := range fuels {
			checkNoRunOfText(t, one, fuel, 1)
		}
	}
	// Such as are not sound, though some of them would end well.
	unsound := []impl.Image{
		smallImage(), machineFrom(t, "0/0: const 0, if 3, return"), machineFrom(t, "0/0: const 1, return", "0/0: return"), machineFrom(t, "0/1: const 1, if 3, get 0, return"), machineFrom(t, "0/0: fun 0, return"), machineFrom(t, "0/1: const 1, put 0, binary 12 0, return"), machineFrom(t, "0/0 {0-1>9}: const 1, return"),
	}
	for _, x := range unsound {
		for _, fuel := range fuels {
			checkNoRunOfText(t, imageTextOf(t, x), fuel, 2)
		}
		checkRun(t, x, 5)
	}
	for _, x := range []impl.Image{sound, machineFrom(t, "0/0: const 1, print, return"), machineFrom(t, "0/0: const 1, jump 0"), machineFrom(t, "0/0: const 7, throw"), compiled(t, knownTree())} {
		for _, fuel := range refusedFuels() {
			checkNoRunOfText(t, imageTextOf(t, x), fuel, 3)
		}
		for _, fuel := range []int{0, 1, impl.MaxFuel - 1, impl.MaxFuel} {
			want := checkRun(t, x, fuel)
			if got, code := impl.RunText(imageTextOf(t, x), fuel); code != 0 || !sameOutcomes(got, want) {
				t.Errorf("with %d of fuel: %s, %d, want %s", fuel, toldOfOutcome(got), code, toldOfOutcome(want))
			}
		}
	}
}

func checkNoRunOfSource(t *testing.T, source string, fuel int, want int) {
	t.Helper()
	if got, code := impl.RunSource(source, fuel); code != want || !sameOutcomes(got, impl.Outcome{}) {
		t.Errorf("%q with %d of fuel: %+v, %d, want nothing, %d", source, fuel, got, code, want)
	}
}

// sourcesOfTooMuch: programs that may be walked, but whose image would not be right.
func sourcesOfTooMuch() []string {
	var numbers, lets, funs strings.Builder
	for i := range 40 {
		fmt.Fprintf(&numbers, "%d;", i)
	}
	for i := range 30 {
		fmt.Fprintf(&lets, "let %s=1;", numbered(i))
	}
	lets.WriteString("if(0){1(1,1,1,1,1,1(1,1,1,1));}")
	for range 16 {
		funs.WriteString("(fun(){});")
	}
	return []string{numbers.String(), lets.String(), funs.String()}
}

// Of a fault of Parse, one of Compile and a fuel that is not so the first counts.
func TestCodesOfSourcesThatAreRun(t *testing.T) {
	fuels := append(refusedFuels(), 0, 1, impl.MaxFuel)
	for _, source := range []string{")", "print 1", "print ;", "let a=1;let a=2;}", "q", "q;)", "&", "print 1;\x00", strings.Repeat(" ", 601), strings.Repeat("1;", 101), "fun f(a,b,c,d,e){}", `"` + strings.Repeat("t", 41) + `";`, "1e400;", sourcesOfTooMuch()[0] + "}"} {
		for _, fuel := range fuels {
			checkNoRunOfSource(t, source, fuel, 1)
		}
	}
	for source := range programsWithFaults() {
		for _, fuel := range fuels {
			checkNoRunOfSource(t, source, fuel, 2)
		}
	}
	for _, source := range sourcesOfTooMuch() {
		for _, fuel := range fuels {
			checkNoRunOfSource(t, source, fuel, 2)
		}
		if got, code := impl.WalkSource(source, 0); code != 0 || toldOfOutcome(got) != "done none +0" {
			t.Errorf("%q is not walked: %s, %d", source, toldOfOutcome(got), code)
		}
	}
	for _, source := range []string{"", " ", "print 1;", "return 1;", "while(1){}", "1();", sourcesOfTooMuch()[0][2:], strings.Replace(sourcesOfTooMuch()[1], "(1,", "(", 1), sourcesOfTooMuch()[2][10:]} {
		for _, fuel := range refusedFuels() {
			checkNoRunOfSource(t, source, fuel, 3)
		}
		for _, fuel := range []int{0, 1, impl.MaxFuel - 1, impl.MaxFuel} {
			want, _ := walkByRule(parsedTree(t, source), fuel)
			if got, code := impl.RunSource(source, fuel); code != 0 || !sameOutcomes(got, want) {
				t.Errorf("%q with %d of fuel: %+v, %d, want %+v", source, fuel, got, code, want)
			}
		}
	}
}

func checkSameOutcome(t *testing.T, a impl.Outcome, b impl.Outcome, want bool) {
	t.Helper()
	if got, back := impl.SameOutcome(a, b), impl.SameOutcome(b, a); got != want || back != want {
		t.Errorf("SameOutcome is %v and %v of %+v and %+v", got, back, a, b)
	}
}

func TestSameOutcomes(t *testing.T) {
	whole := impl.Outcome{End: impl.EndDone, Shown: "a", Log: []string{"1", "", "a text"}, Fuel: 7}
	fields := []func(o *impl.Outcome){
		func(o *impl.Outcome) { o.End = impl.EndThrown }, func(o *impl.Outcome) { o.End = 0 }, func(o *impl.Outcome) { o.End += 1 << 32 }, func(o *impl.Outcome) { o.Shown = "" }, func(o *impl.Outcome) { o.Shown = "b" }, func(o *impl.Outcome) { o.Shown = "a " }, func(o *impl.Outcome) { o.Fuel = 6 }, func(o *impl.Outcome) { o.Fuel = 0 }, func(o *impl.Outcome) { o.Fuel = -7 },
		func(o *impl.Outcome) { o.Log = nil }, func(o *impl.Outcome) { o.Log = o.Log[:2] }, func(o *impl.Outcome) { o.Log = o.Log[1:] }, func(o *impl.Outcome) { o.Log = append(o.Log, "") }, func(o *impl.Outcome) { o.Log = append(o.Log, "a text") }, func(o *impl.Outcome) { o.Log[0] = "2" }, func(o *impl.Outcome) { o.Log[1] = "1" },
		func(o *impl.Outcome) { o.Log[2] = "a texts" }, func(o *impl.Outcome) { o.Log[2] = "" }, func(o *impl.Outcome) { o.Log[0], o.Log[1] = "", "1" }, func(o *impl.Outcome) { o.Log = []string{"1a text"} }, func(o *impl.Outcome) { o.Log = []string{"1", "a text", ""} }, func(o *impl.Outcome) { o.Log, o.Shown = []string{"1", "", "a text", "a"}, "" },
	}
	copied := func() impl.Outcome {
		o := whole
		o.Log = slices.Clone(whole.Log)
		return o
	}
	checkSameOutcome(t, whole, copied(), true)
	checkSameOutcome(t, impl.Outcome{}, impl.Outcome{Log: []string{}}, true)
	checkSameOutcome(t, impl.Outcome{}, impl.Outcome{Log: []string{""}}, false)
	for _, change := range fields {
		o := copied()
		change(&o)
		checkSameOutcome(t, whole, o, false)
		checkSameOutcome(t, o, o, true)
		other := copied()
		change(&other)
		checkSameOutcome(t, o, other, true)
	}
	// Long logs that differ in their last text alone, and such as are no outcomes of programs.
	long := impl.Outcome{Log: slices.Repeat([]string{"a text"}, 500)}
	other := impl.Outcome{Log: slices.Repeat([]string{"a text"}, 500)}
	checkSameOutcome(t, long, other, true)
	for _, at := range []int{0, 199, 200, 498, 499} {
		other.Log[at] = "a text "
		checkSameOutcome(t, long, other, false)
		other.Log[at] = "a text"
	}
	odd := impl.Outcome{End: math.MinInt, Shown: "\xff\x00", Log: []string{"\xfe"}, Fuel: math.MaxInt}
	checkSameOutcome(t, odd, impl.Outcome{End: math.MinInt, Shown: "\xff\x00", Log: []string{"\xfe"}, Fuel: math.MaxInt}, true)
	checkSameOutcome(t, odd, impl.Outcome{End: math.MinInt, Shown: "\xff\x00", Log: []string{"\xff"}, Fuel: math.MaxInt}, false)
}

// program: all that may be done to one program: its tree is walked; its image, the text of it and its source, where there
// are such, are run.
type program struct {
	tree         []impl.Node
	source, text string
	image        impl.Image
}

// programOfTree: false when there is no image, which is too great then.
func programOfTree(t *testing.T, tree []impl.Node) (program, bool) {
	t.Helper()
	x, fault, _ := impl.Compile(tree)
	if fault != 0 && fault != impl.FaultBig {
		t.Fatalf("there is the fault %d of\n%s", fault, toldWithAt(tree))
	}
	p := program{tree: tree, image: x}
	p.text, _ = impl.ImageText(x)
	source, printed := impl.Print(tree)
	if _, fault := impl.Parse(source); printed && fault == -1 {
		p.source = source
	}
	return p, fault == 0
}

// check holds what is run with this fuel beside what is walked.
func (p program) check(t *testing.T, fuel int) impl.Outcome {
	t.Helper()
	want, _ := impl.Walk(p.tree, fuel)
	got, ok := impl.Run(p.image, fuel)
	if !ok || !sameOutcomes(got, want) || !impl.SameOutcome(want, got) {
		t.Fatalf("with %d of fuel run %s, %v,\nwalked %s, of %q,\n%s", fuel, toldOfOutcome(got), ok, toldOfOutcome(want), p.source, toldOfCode(p.image))
	}
	if p.text != "" {
		if got, code := impl.RunText(p.text, fuel); code != 0 || !sameOutcomes(got, want) {
			t.Fatalf("with %d of fuel RunText is %s, %d,\nwalked %s, of %q", fuel, toldOfOutcome(got), code, toldOfOutcome(want), p.source)
		}
	}
	if p.source != "" {
		walked, _ := impl.WalkSource(p.source, fuel)
		if got, code := impl.RunSource(p.source, fuel); code != 0 || !sameOutcomes(got, want) || !sameOutcomes(walked, want) {
			t.Fatalf("with %d of fuel RunSource is %s, %d,\nWalkSource %s,\nwalked %s, of %q", fuel, toldOfOutcome(got), code, toldOfOutcome(walked), toldOfOutcome(want), p.source)
		}
	}
	return want
}

// checkRunsAsWalked: promise 19, with every fuel from 0 to what the program takes, and one more.
func checkRunsAsWalked(t *testing.T, tree []impl.Node) {
	t.Helper()
	p, ok := programOfTree(t, tree)
	if !ok {
		return
	}
	most := p.check(t, impl.MaxFuel)
	for fuel := range min(impl.MaxFuel-most.Fuel+2, impl.MaxFuel) {
		p.check(t, fuel)
	}
}

// checkRunsWithSome: promise 19, with the least fuels and the most; and how it ends with the most.
func checkRunsWithSome(t *testing.T, tree []impl.Node, least int) (impl.Outcome, bool) {
	t.Helper()
	p, ok := programOfTree(t, tree)
	if !ok {
		return impl.Outcome{}, false
	}
	for fuel := range least {
		p.check(t, fuel)
	}
	return p.check(t, impl.MaxFuel), true
}

// Each statement in each place for statements, each E in each place for E.
func TestRunsOfEachInEach(t *testing.T) {
	ends := map[int]int{}
	run := func(source string) {
		t.Helper()
		tree := withoutFaults(parsedTree(t, source))
		got, ok := checkRunsWithSome(t, tree, 6)
		if !ok {
			t.Fatalf("%q is too great", source)
		}
		ends[got.End]++
		// Those that never end by themselves are many.
		if got.End != impl.EndFuel || ends[got.End]%20 == 0 {
			checkRunsAsWalked(t, tree)
		}
	}
	for _, place := range placesForStatements() {
		for _, statement := range statementsOfChapter() {
			run(strings.ReplaceAll(place, "@", statement))
			run("let a = 1 ; let b = 0 ; let x = 3 ; " + strings.ReplaceAll(place, "@", statement))
			run("let a = 1 ; let b = 0 ; fun f ( ) { return a ; } " + strings.ReplaceAll(place, "@", statement))
		}
	}
	for _, place := range placesForE() {
		for _, e := range formsOfE() {
			run("let a = 1 ; let b = 2 ; let c = 0 ; let x = 3 ; fun f ( ) { } " + strings.ReplaceAll(place, "@", "( "+e+" )"))
			run("let a = fun ( ) { print 1 ; } ; let b = true ; let c = \"\" ; let x = none ; fun f ( ) { } " + strings.ReplaceAll(place, "@", "( "+e+" )"))
			run("fun f ( a , b , c , x ) { " + strings.ReplaceAll(place, "@", "( "+e+" )") + " return fun ( ) { a = b + c + x ; } ; } let a = f ; let b = f ; let c = f ; let x = f ; f ( 1 , 2 , 0 , 3 ) ;")
		}
	}
	for _, end := range []int{impl.EndDone, impl.EndThrown, impl.EndFuel} {
		if ends[end] < 100 {
			t.Errorf("but %d have the End %d", ends[end], end)
		}
	}
}

func TestRunsOfPrograms(t *testing.T) {
	checkRunsAsWalked(t, knownTree())
	for _, source := range append(rightPrograms(), programs()...) {
		if tree, fault := impl.Parse(source); fault == -1 {
			checkRunsAsWalked(t, withoutFaults(tree))
		}
	}
}

func TestRunsOfTreesThatRoam(t *testing.T) {
	ends, runs, texts, taken := map[int]int{}, 0, 0, 0
	for seed := range 3000 {
		tree := roamedTree(10+seed*7%140, seed+50000)
		if len(tree) > impl.MaxNodes {
			continue
		}
		got, ok := checkRunsWithSome(t, tree, 6)
		if !ok {
			continue
		}
		if runs%30 == 0 {
			checkRunsAsWalked(t, tree)
		}
		runs++
		ends[got.End]++
		texts += len(got.Log)
		taken += impl.MaxFuel - got.Fuel
	}
	if runs < 1500 || texts < 4*runs || taken < 10*runs {
		t.Errorf("%d runs show but %d texts and take but %d of fuel", runs, texts, taken)
	}
	for end := impl.EndDone; end <= impl.EndDeep; end++ {
		if ends[end] < 40 {
			t.Errorf("but %d have the End %d", ends[end], end)
		}
	}
}

// Trees of few names and many functions, and trees of all kinds, whose nodes stand in any order.
func TestRunsOfTreesThatAreSown(t *testing.T) {
	ends, big := map[int]int{}, 0
	run := func(tree []impl.Node) {
		t.Helper()
		got, ok := checkRunsWithSome(t, withoutFaults(tree), 4)
		if !ok {
			big++
			return
		}
		ends[got.End]++
	}
	for seed := range 800 {
		run(sownTree(6+seed*7%260, seed+19000))
	}
	for seed := range 100 {
		run(treeBySteps(20+seed*37%281, seed+17000))
	}
	for seed := range 500 {
		if tree, fault := impl.Parse(tight(programBySteps(2+seed%190, seed+41000))); fault == -1 {
			run(tree)
		}
	}
	if ends[impl.EndDone] < 200 || ends[impl.EndThrown] < 200 || big < 20 {
		t.Errorf("the Ends are %v, %d are too great", ends, big)
	}
}

// busyWords: what a busy Func is made of.
var busyWords = strings.Fields("const const get get get put put newcell getcell getcell putcell putcell getcap getcap getcap getcap putcap putcap putcap putcap binary binary binary binary binary not minus jump if ifnot if ifnot fun fun call call call call print print throw return return")

func (d *dice) among(numbers ...int) int { return numbers[d.below(len(numbers))] }

// busyIns: something to do for a Func whose registers 2 and 3 have cells all the time, the others values; it may make
// functions of these Funcs.
func (d *dice) busyIns(caps int, made []int) []impl.Ins {
	value, cell := d.among(0, 1, 4, 5), d.among(2, 3)
	i := insOf(busyWords[d.below(len(busyWords))])
	switch i.Op {
	case impl.InsConst:
		i.A = d.among(0, 1, 1, 1, 2, 2, 3, 3, 4, 7)
	case impl.InsGet:
		i.A = value
	case impl.InsPut:
		i.A = d.among(0, 1, 4)
	case impl.InsNewCell, impl.InsGetCell, impl.InsPutCell:
		i.A = cell
	case impl.InsBinary:
		i.A, i.B = d.among(1, 1, 1, 2, 2, 3, 6, 9, 10, 1+d.below(11)), d.among(0, 1, 4)
	case impl.InsCall:
		i.A, i.B = d.among(4, 5, 5, 5, 5, 5), 0
		if i.A == 4 {
			i.B = d.below(2)
		}
	case impl.InsGetCap, impl.InsPutCap:
		if caps == 0 {
			return nil
		}
		i.A = d.below(caps)
	case impl.InsFun:
		if len(made) == 0 {
			return nil
		}
		i.A = made[d.below(len(made))]
		return []impl.Ins{i, {Op: impl.InsPut, A: 5}, {Op: impl.InsCall, A: 5}}[:2+d.below(2)]
	}
	return []impl.Ins{i}
}

// busyFunc: code of about so much, whose jumps and Handlers lead anywhere behind its beginning.
func (d *dice) busyFunc(x impl.Image, f impl.Func, size int) impl.Func {
	var made []int
	for fun := 1; fun < len(x.Funcs); fun++ {
		if capsByRule(x, f, fun, stateOf("vvvccvv")) {
			made = append(made, fun)
		}
	}
	for _, told := range strings.Split("const 1, newcell 2, const 3, newcell 3, put 4, const 2, put 5"+puts(f.Params, 1), ", ") {
		f.Code = append(f.Code, insOf(told))
	}
	if len(made) > 0 {
		f.Code = append(f.Code, impl.Ins{Op: impl.InsFun, A: made[d.below(len(made))]}, insOf("put 5"))
	}
	ahead := len(f.Code)
	for len(f.Code) < ahead+size {
		f.Code = append(f.Code, d.busyIns(len(f.Caps), made)...)
	}
	f.Code = append(f.Code, insOf([]string{"return", "return", "return", "throw", "jump 0"}[d.below(5)]))
	for at := ahead; at < len(f.Code); at++ {
		if op := f.Code[at].Op; op == impl.InsJump || op == impl.InsIf || op == impl.InsIfNot {
			f.Code[at].A = d.among(ahead+d.below(len(f.Code)-ahead), min(at+1+d.below(6), len(f.Code)-1))
		}
	}
	for range d.below(4) {
		from := ahead + d.below(len(f.Code)-ahead)
		f.Handlers = append(f.Handlers, impl.Handler{From: from, To: from + d.among(1, 5, 40), Target: ahead + d.below(len(f.Code)-ahead)})
	}
	return f
}

// busyImage: an image that has much to do, most often sound.
func (d *dice) busyImage(t *testing.T) impl.Image {
	x := machineFrom(t, "0/6: return")
	x.Funcs[0].Code = nil
	for range 1 + d.below(4) {
		f := impl.Func{Params: d.below(3), Regs: 6}
		for range d.below(3) {
			f.Caps = append(f.Caps, []impl.Cap{{Reg: true, Index: 2}, {Reg: true, Index: 3}, {Reg: true, Index: 2}, {Index: d.below(2)}}[d.below(4)])
		}
		x.Funcs = append(x.Funcs, f)
	}
	for fun, f := range x.Funcs {
		x.Funcs[fun] = d.busyFunc(x, f, 6+d.below(30))
	}
	return x
}

// severalFuels: such as end a run early, and the most.
func severalFuels() []int { return []int{0, 1, 2, 3, 5, 9, 40, impl.MaxFuel} }

// soundness: how many images the verifier lets in, and what comes of these, and of the others.
type soundness struct {
	sound, other         int
	soundEnds, otherEnds map[int]int
	// words has, for each thing that may be done, in how many sound images it was.
	words map[string]int
}

// run: an image with several fuels. That none that is sound ends with EndBad is told by checkRun.
func (c *soundness) run(t *testing.T, x impl.Image) {
	t.Helper()
	sound := checkVerify(t, x) == -1
	for _, fuel := range severalFuels() {
		got := checkRun(t, x, fuel)
		if got.End < impl.EndDone || got.End > impl.EndBad {
			t.Fatalf("the End is %d of\n%s", got.End, toldOfCode(x))
		}
		if sound {
			c.soundEnds[got.End]++
		} else {
			c.otherEnds[got.End]++
		}
	}
	if !sound {
		c.other++
		return
	}
	c.sound++
	_, words := ranByRule(x, impl.MaxFuel)
	for word := range words {
		c.words[word]++
	}
}

func newSoundness() soundness {
	return soundness{soundEnds: map[int]int{}, otherEnds: map[int]int{}, words: map[string]int{}}
}

// check: whether enough was seen of images of both sorts, and of each word.
func (c *soundness) check(t *testing.T, images int, words int) {
	t.Helper()
	if c.sound < images || c.other < images || c.soundEnds[impl.EndBad] > 0 {
		t.Errorf("%d images are sound and end by %v, %d are not and end by %v", c.sound, c.soundEnds, c.other, c.otherEnds)
	}
	for _, word := range append(slices.Clone(wordsOfOps), "caught", "thrown", "back") {
		if c.words[word] < words {
			t.Errorf("%s is in %d sound images", word, c.words[word])
		}
	}
}

// Promise 20: images that have much to do, some of which have a part turned.
func TestRunsOfBusyImages(t *testing.T) {
	c := newSoundness()
	for seed := range 4000 {
		d := dice{state: uint64(seed)*2654435761 + 191}
		x := d.busyImage(t)
		if seed%3 == 0 {
			x = changedImage(x, d.turn)
		}
		if impl.ImageOk(x) {
			c.run(t, x)
		}
	}
	c.check(t, 500, 100)
	for end := impl.EndDone; end <= impl.EndDeep; end++ {
		if c.soundEnds[end] < 200 {
			t.Errorf("but %d have the End %d", c.soundEnds[end], end)
		}
	}
	if c.otherEnds[impl.EndBad] < 500 {
		t.Errorf("but %d are bad", c.otherEnds[impl.EndBad])
	}
}

// Images that are drawn at random, whatever they do; most of what lacks something is found by the verifier alone.
func TestRunsOfImagesBySteps(t *testing.T) {
	c := newSoundness()
	for seed := range 4000 {
		d := dice{state: uint64(seed)*2654435761 + 192}
		c.run(t, d.flowImage(4<<(seed%6)))
	}
	for seed := range 1500 {
		d := dice{state: uint64(seed)*2654435761 + 193}
		if x := d.image(1 << 20); impl.ImageOk(x) {
			c.run(t, x)
		}
	}
	c.check(t, 800, 0)
	if c.otherEnds[impl.EndBad] < 2000 || c.otherEnds[impl.EndDone] < 200 {
		t.Errorf("the Ends are %v", c.otherEnds)
	}
}

// What is compiled, and the same with one part turned.
func TestRunsOfCodeThatIsTurned(t *testing.T) {
	c := newSoundness()
	sources := append(rightPrograms(), programs()...)
	for seed := range 3000 {
		d := dice{state: uint64(seed)*2654435761 + 194}
		tree := roamedTree(10+seed*7%140, seed+70000)
		if source := sources[seed%len(sources)]; seed%3 == 0 {
			tree, _ = impl.Parse(source)
		}
		x, ok := compiledOrNone(tree)
		if !ok {
			continue
		}
		if seed%10 == 0 {
			c.run(t, x)
		}
		if y := changedImage(x, d.turn); impl.ImageOk(y) {
			c.run(t, y)
		}
	}
	c.check(t, 500, 20)
}

// What is answered is new memory, nothing is written into, and nothing is kept.
func TestRunChangesNothing(t *testing.T) {
	images := []impl.Image{
		machineFrom(t, "0/2 {4-5>5}: const 8, newcell 0, fun 1, put 1, call 1 0, print, return", "0/1 [r0] {1-2>2}: getcap 0, print, const 7, putcap 0, throw"),
		machineFrom(t, "0/0: const 7, print, print, return"), machineFrom(t, "0/0: const 8, throw"), machineFrom(t, "0/1: const 8, put 0, const 9, binary 1 0, print, return"), machineFrom(t, "0/0: const 1, print, jump 0"), machineFrom(t, "0/0: get 0, return"), smallImage(), severalFuncs(), {},
	}
	for _, x := range images {
		for _, fuel := range []int{0, 1, 7, impl.MaxFuel, -1} {
			given, told := roomyImage(x)
			before := told()
			first, ok := impl.Run(given, fuel)
			if told() != before {
				t.Fatalf("%s was written into", toldOfImage(x))
			}
			for _, text := range append(slices.Clone(first.Log), first.Shown) {
				for _, c := range given.Consts {
					if within(text, c.Text) {
						t.Errorf("the text %q shares memory with the image", text)
					}
				}
			}
			want := impl.Outcome{End: first.End, Shown: first.Shown, Log: slices.Clone(first.Log), Fuel: first.Fuel}
			for i := range first.Log {
				first.Log[i] = "written"
			}
			first.Log = append(first.Log, "spare")
			for _, other := range images {
				impl.Run(other, 50)
				if again, isOk := impl.Run(given, fuel); isOk != ok || !sameOutcomes(again, want) {
					t.Fatalf("%s, want %s, of %s", toldOfOutcome(again), toldOfOutcome(want), toldOfImage(x))
				}
			}
			if text, has := impl.ImageText(x); has && impl.Verify(x) == -1 {
				got, code := impl.RunText(text, fuel)
				if (code == 0) != ok || !sameOutcomes(got, want) {
					t.Errorf("of the text %s, %d, of the image %s", toldOfOutcome(got), code, toldOfOutcome(want))
				}
				for _, shown := range append(got.Log, got.Shown) {
					if within(shown, text) {
						t.Errorf("the text %q shares memory with the image's text", shown)
					}
				}
			}
		}
	}
	source := `let s="a text";print s;print s+"";return s;`
	got, _ := impl.RunSource(source, 0)
	for _, text := range append(got.Log, got.Shown) {
		if within(text, source) {
			t.Errorf("the text %q shares memory with the source", text)
		}
	}
}
