package tests

import (
	"fmt"
	"math"
	"slices"
	"strconv"
	"strings"
	"testing"

	"loop.example/g00115/impl"
)

// Promise 21: what is shown of code tells each instruction; what is reached is no more than there is.

// checkShowIns: what is shown is wanted, and by the rule.
func checkShowIns(t *testing.T, i impl.Ins, want string) {
	t.Helper()
	if got := impl.ShowIns(i); got != want || got != showInsByRule(i) {
		t.Errorf("ShowIns of %+v is %q, want %q", i, got, want)
	}
}

// checkLook holds all that is told of one Func against the rule.
func checkLook(t *testing.T, x impl.Image, fun int) {
	t.Helper()
	if got, want := impl.ShowFunc(x, fun), showFuncByRule(x, fun); got != want {
		t.Fatalf("ShowFunc of Func %d is %q, want %q, of %s", fun, got, want, toldOfImage(x))
	}
	if got, want := impl.Reached(x, fun), countByRule(x, fun); got != want {
		t.Fatalf("Reached of Func %d is %d, want %d, of %s", fun, got, want, toldOfImage(x))
	}
	if got, want := impl.JumpsOf(x, fun), jumpsByRule(x, fun); !slices.Equal(got, want) {
		t.Fatalf("JumpsOf of Func %d is %v, want %v, of %s", fun, got, want, toldOfImage(x))
	}
}

// checkShown: each line is of its instruction, which is read back from it, so that no two that differ in what is told of
// them have the same.
func checkShown(t *testing.T, code []impl.Ins, shown string) {
	t.Helper()
	lines := strings.SplitAfter(shown, "\n")
	if len(lines) != len(code)+1 || lines[len(code)] != "" {
		t.Fatalf("there are %d instructions, but %q", len(code), shown)
	}
	for at, i := range code {
		if lines[at] != impl.ShowIns(i)+"\n" {
			t.Fatalf("at %d ShowIns is %q, but there is %q", at, impl.ShowIns(i), lines[at])
		}
		back := insOf(lines[at])
		if i.Op != impl.InsBinary && i.Op != impl.InsCall {
			i.B = 0
		}
		if strings.Count(lines[at], " ") == 0 {
			i.A = 0
		}
		if back != i {
			t.Fatalf("%+v is shown as %q, which is read back as %+v", i, lines[at], back)
		}
	}
}

// lookedAt: what was seen of images that the verifier lets in.
type lookedAt struct {
	funcs, unreached, withoutJumps, beyond int
	ops                                    map[int]int
}

// check holds promise 21 of each Func of an image that is let in; of any other one all is held against the rule alone.
func (l *lookedAt) check(t *testing.T, x impl.Image) {
	t.Helper()
	for fun := -1; fun <= len(x.Funcs); fun++ {
		checkLook(t, x, fun)
	}
	if impl.Verify(x) != -1 {
		return
	}
	for fun, f := range x.Funcs {
		l.funcs++
		checkShown(t, f.Code, impl.ShowFunc(x, fun))
		_, reached, _ := impl.States(x, fun)
		told := len(slices.DeleteFunc(slices.Clone(reached), func(is bool) bool { return !is }))
		if count := impl.Reached(x, fun); count != told || count < 1 || count > len(f.Code) {
			t.Fatalf("Reached is %d, States tells %d, of\n%s", count, told, toldOfFunc(f))
		} else if count < len(f.Code) {
			l.unreached++
		}
		places := impl.JumpsOf(x, fun)
		if len(places) == 0 {
			l.withoutJumps++
		}
		for n, place := range places {
			// A place beyond the code is of jumps that are not reached.
			if isBeyond := place >= len(f.Code); place < 0 || place > impl.MaxCode || n > 0 && place <= places[n-1] || isBeyond && told == len(f.Code) {
				t.Fatalf("JumpsOf is %v of\n%s", places, toldOfFunc(f))
			} else if isBeyond {
				l.beyond++
			}
		}
		for _, i := range f.Code {
			l.ops[i.Op]++
		}
	}
}

// saw: whether there was enough of each.
func (l *lookedAt) saw(t *testing.T, least lookedAt, ops int) {
	t.Helper()
	if l.funcs < least.funcs || l.unreached < least.unreached || l.withoutJumps < least.withoutJumps || l.beyond < least.beyond {
		t.Errorf("there was %+v, want at least %+v", *l, least)
	}
	for op := impl.InsConst; op <= impl.InsPrint; op++ {
		if l.ops[op] < ops {
			t.Errorf("of %s there were but %d", wordsOfOps[op-1], l.ops[op])
		}
	}
}

func newLook() lookedAt { return lookedAt{ops: map[int]int{}} }

func TestShowInsOfEachOp(t *testing.T) {
	for op, shown := range map[int]string{
		impl.InsConst: "const @", impl.InsGet: "get @", impl.InsPut: "put @", impl.InsNewCell: "newcell @", impl.InsGetCell: "getcell @", impl.InsPutCell: "putcell @", impl.InsGetCap: "getcap @", impl.InsPutCap: "putcap @",
		impl.InsBinary: "binary @ #", impl.InsNot: "not", impl.InsMinus: "minus", impl.InsJump: "jump @", impl.InsIfNot: "ifnot @", impl.InsIf: "if @", impl.InsFun: "fun @", impl.InsCall: "call @ #",
		impl.InsReturn: "return", impl.InsThrow: "throw", impl.InsPrint: "print",
	} {
		for _, a := range []string{"0", "1", "7", "10", "42", "99", "100", "299", "300"} {
			for _, b := range []string{"0", "3", "9", "10", "25", "123", "300"} {
				i := impl.Ins{Op: op}
				fmt.Sscan(a, &i.A)
				fmt.Sscan(b, &i.B)
				checkShowIns(t, i, strings.NewReplacer("@", a, "#", b).Replace(shown))
			}
		}
	}
	checkShowIns(t, impl.Ins{Op: impl.InsConst, A: 12}, "const 12")
	checkShowIns(t, impl.Ins{Op: impl.InsBinary, A: 1, B: 20}, "binary 1 20")
	checkShowIns(t, impl.Ins{Op: impl.InsCall, A: 12, B: 3}, "call 12 3")
	checkShowIns(t, impl.Ins{Op: impl.InsReturn, A: 12, B: 3}, "return")
}

func TestShowInsOfOpsThatAreNone(t *testing.T) {
	ops := []int{math.MinInt, math.MinInt + 1, -1 << 32, -1<<32 + 5, 1 << 32, 1<<32 + 1, 1<<32 + 19, 1 << 16, 256, 257, 1<<62 + 3, math.MaxInt - 1, math.MaxInt}
	for op := -400; op <= 400; op++ {
		if op < 1 || op > 19 {
			ops = append(ops, op)
		}
	}
	for _, op := range ops {
		for _, n := range []int{0, 1, 300, 301, -1, math.MaxInt} {
			checkShowIns(t, impl.Ins{Op: op, A: n, B: 0}, "")
			checkShowIns(t, impl.Ins{Op: op, A: 0, B: n}, "")
		}
	}
}

// numbersShown: numbers of instructions, right ones and others, and their figures.
func numbersShown() map[int]string {
	return map[int]string{
		0: "0", 5: "5", 300: "300", 301: "301", 9999: "9999", 999999999: "999999999", 1000000000: "1000000000", 1000000001: "1000000001", 1 << 32: "4294967296", math.MaxInt: "9223372036854775807",
		-1: "-1", -10: "-10", -300: "-300", -1000000001: "-1000000001", math.MinInt + 1: "-9223372036854775807", math.MinInt: "-9223372036854775808",
	}
}

func TestShowInsOfNumbersBeyond(t *testing.T) {
	for a, figuresOfA := range numbersShown() {
		for b, figuresOfB := range numbersShown() {
			for op := impl.InsConst; op <= impl.InsPrint; op++ {
				shown := wordsOfOps[op-1]
				switch shown {
				case "not", "minus", "return", "throw", "print":
				case "binary", "call":
					shown += " " + figuresOfA + " " + figuresOfB
				default:
					shown += " " + figuresOfA
				}
				checkShowIns(t, impl.Ins{Op: op, A: a, B: b}, shown)
			}
		}
	}
}

// All instructions that there may be, with numbers of one figure and of several: those that are told apart are shown apart.
func TestShownTextsDiffer(t *testing.T) {
	of := map[string]impl.Ins{}
	for op := impl.InsConst; op <= impl.InsPrint; op++ {
		for a := -12; a <= 320; a++ {
			for _, b := range []int{-11, -1, 0, 1, 2, 3, 10, 11, 12, 21, 99, 111, 112, 121, 300, 301} {
				i := impl.Ins{Op: op, A: a, B: b}
				shown := impl.ShowIns(i)
				switch wordsOfOps[op-1] {
				case "not", "minus", "return", "throw", "print":
					i.A, i.B = 0, 0
				case "binary", "call":
				default:
					i.B = 0
				}
				if other, found := of[shown]; found && other != i {
					t.Fatalf("%+v and %+v are both shown as %q", i, other, shown)
				}
				of[shown] = i
			}
		}
	}
	if want := 333*(12+2*16) + 5; len(of) != want {
		t.Errorf("there are %d texts, want %d", len(of), want)
	}
}

// lookImage: Funcs of which each has something of its own to be looked at.
func lookImage(t *testing.T) impl.Image {
	t.Helper()
	return machineFrom(t,
		"0/3 {5-6>10}: const 0, newcell 2, fun 1, put 0, const 3, call 0 0, ifnot 2, print, jump 4, not, throw",
		"1/12 [r2]: getcap 0, binary 1 0, putcap 0, put 11, get 11, minus, return, jump 0, getcell 10",
		"0/0: const 10, return",
	)
}

func TestShowFuncOfSeveral(t *testing.T) {
	x := lookImage(t)
	for fun, want := range []string{
		"const 0\nnewcell 2\nfun 1\nput 0\nconst 3\ncall 0 0\nifnot 2\nprint\njump 4\nnot\nthrow\n",
		"getcap 0\nbinary 1 0\nputcap 0\nput 11\nget 11\nminus\nreturn\njump 0\ngetcell 10\n",
		"const 10\nreturn\n",
	} {
		if got := impl.ShowFunc(x, fun); got != want {
			t.Errorf("ShowFunc of %d is %q, want %q", fun, got, want)
		}
		checkLook(t, x, fun)
	}
	for fun, want := range []int{10, 7, 2} {
		if got := impl.Reached(x, fun); got != want {
			t.Errorf("Reached of %d is %d, want %d", fun, got, want)
		}
	}
	for fun, want := range [][]int{{2, 4}, {0}, nil} {
		if got := impl.JumpsOf(x, fun); !slices.Equal(got, want) {
			t.Errorf("JumpsOf of %d is %v, want %v", fun, got, want)
		}
	}
}

// A right image is shown whether or not the verifier lets it in.
func TestShowFuncOfOneInstruction(t *testing.T) {
	for op := impl.InsConst; op <= impl.InsPrint; op++ {
		x := smallImage()
		x.Funcs[0].Code = []impl.Ins{{Op: op, A: 300, B: 10}}
		want := impl.ShowIns(impl.Ins{Op: op, A: 300, B: 10}) + "\n"
		if got := impl.ShowFunc(x, 0); got != want {
			t.Errorf("ShowFunc is %q, want %q", got, want)
		}
		checkLook(t, x, 0)
	}
	if got := impl.ShowFunc(smallImage(), 0); got != "return\n" {
		t.Errorf("ShowFunc is %q", got)
	}
}

func TestShowFuncOfMostInstructions(t *testing.T) {
	x := greatestImage()
	for fun, f := range x.Funcs {
		shown := impl.ShowFunc(x, fun)
		checkShown(t, f.Code, shown)
		if strings.Count(shown, "\n") != 300 {
			t.Errorf("Func %d is shown in %d lines", fun, strings.Count(shown, "\n"))
		}
		checkLook(t, x, fun)
	}
}

// checkReached: how many of the instructions of the first of these Funcs are reached.
func checkReached(t *testing.T, want int, funcs ...string) {
	t.Helper()
	x := imageFrom(t, funcs...)
	if got := impl.Reached(x, 0); got != want {
		t.Errorf("Reached is %d, want %d, of\n%s", got, want, funcs[0])
	}
	for fun := range x.Funcs {
		checkLook(t, x, fun)
	}
}

func TestReachedOfKnownCode(t *testing.T) {
	checkReached(t, 2, "0/0: const 0, return")
	checkReached(t, 1, "0/0: jump 0")
	checkReached(t, 3, "0/0: const 0, print, return")
	// What nothing leads to.
	checkReached(t, 2, "0/0: const 0, return, return")
	checkReached(t, 2, "0/0: const 0, return, const 0, return, jump 0, jump 2")
	checkReached(t, 2, "0/0: const 0, throw, const 0, print, return")
	checkReached(t, 2, "0/0: const 0, return, get 40, fun 16, call 300 300, jump 300, binary 0 0")
	checkReached(t, 3, "0/0: jump 4, const 0, print, jump 1, const 0, return")
	// What is behind a jump, and reached by another one.
	checkReached(t, 3, "0/0: jump 2, const 0, const 0, return")
	checkReached(t, 4, "0/0: jump 2, return, const 0, jump 1")
	checkReached(t, 5, "0/0: const 0, jump 3, return, if 2, jump 0")
	checkReached(t, 4, "0/0: const 0, if 3, return, return")
	checkReached(t, 4, "0/0: const 0, ifnot 3, return, throw")
	checkReached(t, 3, "0/0: const 0, if 2, return, throw")
	checkReached(t, 3, "0/0: const 0, if 1, return, throw")
	// What throws, with a Handler over it and with none.
	checkReached(t, 2, "0/0: const 0, throw, print, return")
	checkReached(t, 4, "0/0 {1-2>2}: const 0, throw, print, return")
	checkReached(t, 3, "0/0 {1-2>3}: const 0, throw, print, return")
	checkReached(t, 4, "0/0 {0-1>2}: const 0, throw, print, return")
	checkReached(t, 2, "0/0 {2-3>2}: const 0, throw, print, return")
	checkReached(t, 2, "0/0 {1-1>2}: const 0, throw, print, return")
	checkReached(t, 2, "0/0 {2-1>2}: const 0, throw, print, return")
	checkReached(t, 4, "0/0 {1-2>2 2-3>4}: const 0, throw, throw, print, return, print")
	checkReached(t, 3, "0/0 {0-300>3}: const 0, jump 0, print, throw, return")
	checkReached(t, 2, "0/0 {0-300>1}: const 0, return, print, throw, return")
	checkReached(t, 2, "0/0 {2-4>3}: const 0, return, print, throw, return", "0/0: const 0, return")
	// What is called is of another Func.
	checkReached(t, 5, "0/1: fun 1, put 0, call 0 0, print, return, print", "0/0: const 0, return, return")
	checkReached(t, 2, "0/1: const 0, return", "0/0: const 0, return, return, return, return")
}

// Of a Func that may go astray there is -1; of another one of the same image it is told.
func TestReachedOfUnsoundFuncs(t *testing.T) {
	for _, unsound := range []string{
		"0/0: return", "0/0: const 0", "0/0: const 0, print", "0/0: jump 1", "0/0: jump 300", "0/0: const 0, if 2", "0/0: const 0, if 3, return", "0/0: const 2, return", "0/1: get 0, return", "0/0: fun 0, return", "0/0: fun 3, return",
		"0/0 {0-1>2}: const 0, return", "0/0: const 0, binary 1 0, return", "0/1: const 0, newcell 0, get 0, return", "0/0: const 0, return, return, const 0, jump 3, print",
	} {
		x := imageFrom(t, unsound, "0/0: const 0, return, print", "2/2: const 0, put 1, return")
		want := -1
		if strings.HasSuffix(unsound, "print") && strings.Contains(unsound, "return") {
			want = 2
		}
		if got := impl.Reached(x, 0); got != want {
			t.Errorf("Reached is %d, want %d, of %s", got, want, unsound)
		}
		if got, other := impl.Reached(x, 1), impl.Reached(x, 2); got != 2 || other != 3 {
			t.Errorf("beside %s Reached is %d and %d", unsound, got, other)
		}
		for fun := range x.Funcs {
			checkLook(t, x, fun)
		}
	}
}

// checkJumps: the places that the jumps of a Func lead to, wherever it stands.
func checkJumps(t *testing.T, fun string, want ...int) {
	t.Helper()
	other := "0/0: const 0, jump 1, jump 0, jump 3"
	for at, x := range []impl.Image{imageFrom(t, fun), imageFrom(t, other, fun), imageFrom(t, other, other, fun, other)} {
		if got := impl.JumpsOf(x, at); !slices.Equal(got, want) {
			t.Errorf("JumpsOf is %v, want %v, of %s", got, want, fun)
		}
		checkLook(t, x, at)
	}
}

func TestJumpsOfKnownCode(t *testing.T) {
	checkJumps(t, "0/0: const 0, return")
	checkJumps(t, "0/0: jump 0", 0)
	checkJumps(t, "0/0: const 0, jump 3, print, return", 3)
	checkJumps(t, "0/0: const 0, if 3, print, return", 3)
	checkJumps(t, "0/0: const 0, ifnot 3, print, return", 3)
	// Two to one place, of one sort and of several.
	checkJumps(t, "0/0: const 0, if 4, if 4, print, return", 4)
	checkJumps(t, "0/0: const 0, if 4, ifnot 4, jump 4, return", 4)
	checkJumps(t, "0/0: const 0, if 4, ifnot 3, if 4, ifnot 3, jump 4", 3, 4)
	// To its own place, to the first one, and to the last one.
	checkJumps(t, "0/0: const 0, if 1, return", 1)
	checkJumps(t, "0/0: const 0, jump 0", 0)
	checkJumps(t, "0/0: const 0, print, ifnot 0, return", 0)
	checkJumps(t, "0/0: const 0, print, jump 2", 2)
	checkJumps(t, "0/0: const 0, jump 4, if 0, jump 2, return", 0, 2, 4)
	// In another order than the places stand.
	checkJumps(t, "0/0: const 0, if 5, if 3, ifnot 4, jump 1, return", 1, 3, 4, 5)
	checkJumps(t, "0/0: const 0, if 11, ifnot 9, if 10, ifnot 2, if 11, if 2, print, print, print, print, return", 2, 9, 10, 11)
	checkJumps(t, "0/0: const 0, if 5, if 4, if 3, if 2, jump 1", 1, 2, 3, 4, 5)
	// In a part that is not reached.
	checkJumps(t, "0/0: const 0, return, jump 1", 1)
	checkJumps(t, "0/0: const 0, return, ifnot 3, if 0", 0, 3)
	checkJumps(t, "0/0: const 0, throw, jump 2, const 0, jump 0", 0, 2)
	// The places that Handlers and other instructions tell are none of jumps.
	checkJumps(t, "0/0 {0-1>2}: const 0, return, throw")
	checkJumps(t, "0/0 {0-4>3 1-2>2}: const 0, if 4, throw, print, return", 4)
	checkJumps(t, "0/2: const 1, get 1, put 1, fun 1, call 0 1, binary 1 1, return")
	checkJumps(t, "0/3: newcell 1, getcell 1, putcell 1, getcap 1, putcap 1, const 1, not, minus, throw, print, return")
}

// A place that a jump tells is told, whether or not the code goes as far as that, and whether or not the jump is reached.
func TestJumpsBeyondTheCode(t *testing.T) {
	for _, jump := range []string{"jump", "if", "ifnot"} {
		for _, beyond := range []int{4, 5, 299, 300} {
			to := jump + " " + strconv.Itoa(beyond)
			// Reached.
			checkJumps(t, "0/0: const 0, "+to+", print, return", beyond)
			checkJumps(t, "0/0: const 0, if 3, "+to+", return", 3, beyond)
			checkJumps(t, "0/0: const 0, "+to+", if 0, return", 0, beyond)
			checkJumps(t, "0/0: const 0, if "+strconv.Itoa(beyond)+", "+to+", return", beyond)
			checkJumps(t, "0/0: const 0, ifnot 300, "+to+", jump 1", slices.Compact([]int{1, beyond, 300})...)
			// Not reached.
			checkJumps(t, "0/0: const 0, return, "+to+", print", beyond)
			checkJumps(t, "0/0: const 0, return, "+to+", jump 3", 3, beyond)
			checkJumps(t, "0/0: const 0, return, ifnot 2, "+to, 2, beyond)
			checkJumps(t, "0/0: const 0, throw, "+to+", if "+strconv.Itoa(beyond), beyond)
			checkJumps(t, "0/0: const 0, return, "+to+", jump 300", slices.Compact([]int{beyond, 300})...)
			// A reached one within the code beside one beyond it that is not, and the other way round.
			checkJumps(t, "0/0: const 0, jump 1, "+to+", print", 1, beyond)
			checkJumps(t, "0/0: const 0, "+to+", return, jump 2", 2, beyond)
		}
		// Just behind the last instruction, which is the jump itself, too.
		checkJumps(t, "0/0: "+jump+" 1", 1)
		checkJumps(t, "0/0: "+jump+" 300", 300)
		checkJumps(t, "0/0: const 0, return, "+jump+" 3", 3)
	}
	checkJumps(t, "0/4: const 0, return, jump 9", 9)
	checkJumps(t, "0/4: jump 300, if 0, ifnot 2, jump 0", 0, 2, 300)
	checkJumps(t, "0/4: ifnot 7, if 7, get 3, jump 4", 4, 7)
	// What other instructions and Handlers tell beyond the code is no place of a jump.
	checkJumps(t, "0/0 {0-300>300 2-9>9}: const 300, get 5, call 7 8, fun 9, jump 6", 6)
}

// The greatest code has all places but one within it, and that one is told like others.
func TestJumpsOfTheGreatestCode(t *testing.T) {
	for _, c := range []struct{ to, want []int }{
		{[]int{299}, []int{299}}, {[]int{300}, []int{300}}, {[]int{300, 299, 298, 0}, []int{0, 298, 299, 300}}, {[]int{0, 300, 150, 0, 300, 150, 299}, []int{0, 150, 299, 300}},
	} {
		x := smallImage()
		x.Funcs[0].Code = slices.Repeat([]impl.Ins{insOf("not")}, 300)
		for at, place := range c.to {
			x.Funcs[0].Code[at*7].Op, x.Funcs[0].Code[at*7].A = impl.InsJump+at%3, place
		}
		if got := impl.JumpsOf(x, 0); !slices.Equal(got, c.want) {
			t.Errorf("JumpsOf is %v, want %v", got, c.want)
		}
		checkLook(t, x, 0)
	}
}

// As many jumps as there may be: to each place, backwards, and with others to the same places between.
func TestMostJumps(t *testing.T) {
	for size := 1; size <= 300; size += 13 {
		for _, step := range []int{1, 7, size - 1, 150} {
			x := smallImage()
			x.Funcs[0].Code = nil
			var want []int
			for at := range size {
				to := (size - 1 - at) * step % size
				x.Funcs[0].Code = append(x.Funcs[0].Code, impl.Ins{Op: impl.InsJump + at%3, A: to})
				if !slices.Contains(want, to) {
					want = append(want, to)
				}
			}
			slices.Sort(want)
			if got := impl.JumpsOf(x, 0); !slices.Equal(got, want) {
				t.Errorf("JumpsOf is %v, want %v", got, want)
			}
			checkLook(t, x, 0)
		}
	}
}

func checkNoLook(t *testing.T, x impl.Image, fun int) {
	t.Helper()
	if shown, reached, jumps := impl.ShowFunc(x, fun), impl.Reached(x, fun), impl.JumpsOf(x, fun); shown != "" || reached != -1 || len(jumps) != 0 {
		t.Fatalf("of Func %d there are %q, %d and %v, of %s", fun, shown, reached, jumps, toldOfImage(x))
	}
	checkLook(t, x, fun)
}

func TestFuncsThatAreNone(t *testing.T) {
	for _, x := range []impl.Image{lookImage(t), smallImage(), severalFuncs(), greatestImage(), compiled(t, knownTree())} {
		count := len(x.Funcs)
		for _, fun := range []int{-1, -2, -count, -16, count, count + 1, 2 * count, 17, 300, 256, 1 << 32, -1 << 32, math.MinInt, math.MaxInt} {
			checkNoLook(t, x, fun)
		}
		for fun := range x.Funcs {
			checkLook(t, x, fun)
			if impl.ShowFunc(x, fun) == "" {
				t.Errorf("Func %d is not shown", fun)
			}
		}
	}
}

func TestLooksAtImagesThatAreNotRight(t *testing.T) {
	for _, x := range []impl.Image{{}, {Consts: constsOfSize(3)}, {Funcs: []impl.Func{{}}}, {Funcs: severalFuncs().Funcs[1:]}, {Funcs: slices.Repeat(smallImage().Funcs, 17)}, {Funcs: smallImage().Funcs, Consts: constsOfSize(41)}} {
		for fun := -1; fun <= len(x.Funcs); fun++ {
			checkNoLook(t, x, fun)
		}
	}
	for _, x := range []impl.Image{lookImage(t), severalFuncs(), compiled(t, knownTree())} {
		for _, spoil := range spoilersOf(x) {
			y := changedImage(x, spoil)
			for fun := range y.Funcs {
				checkNoLook(t, y, fun)
			}
		}
		for _, k := range knobsOf(x) {
			for _, n := range []int{k.least - 1, k.most + 1, math.MinInt, math.MaxInt} {
				y := changedImage(x, func(x *impl.Image) { k.set(x, n) })
				for fun := range y.Funcs {
					checkNoLook(t, y, fun)
				}
			}
		}
	}
}

func checkPrefix(t *testing.T, a impl.Outcome, b impl.Outcome, want bool) {
	t.Helper()
	if got := impl.Prefix(a, b); got != want || got != prefixByRule(a, b) {
		t.Errorf("Prefix is %v, want %v, of %+v and %+v", got, want, a, b)
	}
}

func logged(texts ...string) impl.Outcome { return impl.Outcome{End: impl.EndDone, Log: texts} }

func TestPrefixesThatAreKnown(t *testing.T) {
	for _, c := range []struct {
		a, b       []string
		want, back bool
	}{
		// Equal ones, empty ones among them.
		{nil, nil, true, true}, {nil, []string{}, true, true}, {[]string{}, []string{}, true, true}, {[]string{""}, []string{""}, true, true}, {[]string{"a", "b"}, []string{"a", "b"}, true, true},
		{nil, []string{"a"}, true, false}, {nil, []string{""}, true, false}, {[]string{}, []string{"a", "b"}, true, false},
		// One is longer.
		{[]string{"a"}, []string{"a", "b"}, true, false}, {[]string{"a"}, []string{"a", "a"}, true, false}, {[]string{"a", "b"}, []string{"a", "b", ""}, true, false}, {[]string{""}, []string{"", ""}, true, false},
		{[]string{"b"}, []string{"a", "b"}, false, false}, {[]string{"a", "c"}, []string{"a", "b", "c"}, false, false}, {[]string{"a", "b"}, []string{"b", "a"}, false, false},
		// They differ in the last text alone, or in the first.
		{[]string{"a", "b", "c"}, []string{"a", "b", "d"}, false, false}, {[]string{"a", "b", "c"}, []string{"d", "b", "c"}, false, false}, {[]string{"a", "b", "c"}, []string{"a", "b", "d", "c"}, false, false}, {[]string{"a"}, []string{"b"}, false, false}, {[]string{"a"}, []string{"b", "a"}, false, false},
		// A text is a beginning of another one, or both are the same when they stand side by side.
		{[]string{"a"}, []string{"ab"}, false, false}, {[]string{""}, []string{"a"}, false, false}, {[]string{"a", "b"}, []string{"a", "bc"}, false, false}, {[]string{"a", "b"}, []string{"a", "bc", "d"}, false, false}, {[]string{"ab"}, []string{"a", "b"}, false, false}, {[]string{"a", ""}, []string{"a"}, false, true}, {[]string{"a", "", "b"}, []string{"a", "b"}, false, false},
		{[]string{"a\n"}, []string{"a"}, false, false}, {[]string{"a\nb"}, []string{"a", "b"}, false, false}, {[]string{"a|b"}, []string{"a", "b"}, false, false}, {[]string{"\xff"}, []string{"\xfe"}, false, false}, {[]string{"\x00"}, []string{""}, false, false}, {[]string{"A"}, []string{"a"}, false, false},
	} {
		checkPrefix(t, logged(c.a...), logged(c.b...), c.want)
		checkPrefix(t, logged(c.b...), logged(c.a...), c.back)
	}
}

// All but the Log counts for nothing.
func TestPrefixesOfOtherOutcomes(t *testing.T) {
	for _, a := range []impl.Outcome{{}, {End: impl.EndThrown, Shown: "x", Fuel: 9}, {End: -5, Shown: "a", Fuel: math.MinInt}, {End: math.MaxInt, Shown: "\xff", Fuel: math.MaxInt}} {
		for _, b := range []impl.Outcome{{}, {End: impl.EndFuel, Shown: "y", Fuel: 0}, {End: impl.EndDone, Shown: "ab", Fuel: 5000}, {End: math.MinInt, Shown: "", Fuel: -1}} {
			checkPrefix(t, a, b, true)
			a.Log, b.Log = []string{"1", "2"}, []string{"1", "2"}
			checkPrefix(t, a, b, true)
			checkPrefix(t, b, a, true)
			b.Log = []string{"1", "2", "3"}
			checkPrefix(t, a, b, true)
			checkPrefix(t, b, a, false)
			b.Log = []string{"1", "3"}
			checkPrefix(t, a, b, false)
			checkPrefix(t, b, a, false)
			a.Log = nil
		}
	}
}

// Long Logs, longer than those of programs, too, that differ in one text alone.
func TestLongPrefixes(t *testing.T) {
	for _, size := range []int{1, 2, 199, 200, 201, 1000} {
		long := slices.Repeat([]string{"a text"}, size)
		for _, count := range []int{0, 1, size / 2, size - 1, size} {
			checkPrefix(t, logged(long[:count]...), logged(long...), true)
			checkPrefix(t, logged(long...), logged(long[:count]...), count == size)
			for _, at := range []int{0, count / 2, count - 1, count, size - 1} {
				if at < 0 || at >= size {
					continue
				}
				other := slices.Clone(long)
				other[at] = "a text "
				checkPrefix(t, logged(long[:count]...), logged(other...), at >= count)
				checkPrefix(t, logged(other[:count]...), logged(long...), at >= count)
			}
		}
	}
}

// All Logs of up to three texts, of which some are beginnings of others.
func TestPrefixesOfAllShortLogs(t *testing.T) {
	logs := [][]string{nil}
	for at := 0; len(logs[at]) < 3; at++ {
		for _, text := range []string{"", "a", "ab", "\n"} {
			logs = append(logs, append(slices.Clone(logs[at]), text))
		}
	}
	for _, a := range logs {
		for _, b := range logs {
			count := 0
			for count < min(len(a), len(b)) && a[count] == b[count] {
				count++
			}
			checkPrefix(t, logged(a...), logged(b...), count == len(a))
		}
	}
}

// What a program logs with less fuel is a beginning of what it logs with more, which is promise 18.
func TestPrefixesOfRuns(t *testing.T) {
	longer := 0
	for _, source := range append(rightPrograms(), "let n=0;while(true){print n;n=n+1;}", "fun f(n){print n;f(n+1);}f(0);") {
		p, ok := programOfTree(t, withoutFaults(parsedTree(t, source)))
		if !ok {
			continue
		}
		before := p.check(t, 0)
		for _, fuel := range []int{1, 2, 3, 10, 100, impl.MaxFuel} {
			after, _ := impl.Run(p.image, fuel)
			checkPrefix(t, before, after, true)
			if len(after.Log) > len(before.Log) {
				longer++
				checkPrefix(t, after, before, false)
			}
			before = after
		}
	}
	if longer < 10 {
		t.Errorf("but %d Logs are longer than with less fuel", longer)
	}
}

// Promise 21: programs of each statement in each place for statements, and of each E in each place for E.
func TestLooksAtPrograms(t *testing.T) {
	l := newLook()
	look := func(tree []impl.Node) {
		t.Helper()
		if x, ok := compiledOrNone(tree); ok {
			l.check(t, x)
		}
	}
	for _, source := range append(rightPrograms(), programs()...) {
		if tree, fault := impl.Parse(source); fault == -1 {
			look(withoutFaults(tree))
		}
	}
	for _, place := range placesForStatements() {
		for _, statement := range statementsOfChapter() {
			look(withoutFaults(parsedTree(t, strings.ReplaceAll(place, "@", statement))))
		}
	}
	for _, place := range placesForE() {
		for _, e := range formsOfE() {
			look(withoutFaults(parsedTree(t, "let a = 1 ; let b = 2 ; let c = 0 ; let x = 3 ; fun f ( ) { } "+strings.ReplaceAll(place, "@", "( "+e+" )"))))
		}
	}
	for seed := range 300 {
		look(withoutFaults(sownTree(6+seed*7%260, seed+81000)))
		look(roamedTree(10+seed*7%140, seed+82000))
	}
	for seed := range 60 {
		look(treeBySteps(20+seed*37%281, seed+83000))
	}
	l.saw(t, lookedAt{funcs: 1000, unreached: 100, withoutJumps: 100}, 100)
}

// Promise 21: images that no program makes.
func TestLooksAtImagesBySteps(t *testing.T) {
	l := newLook()
	for seed := range 4000 {
		d := dice{state: uint64(seed)*2654435761 + 201}
		l.check(t, d.flowImage(4<<(seed%6)))
		if seed%4 == 0 {
			l.check(t, d.busyImage(t))
		}
		if x := d.image(50 << (seed % 8)); seed%2 == 0 {
			l.check(t, x)
		}
	}
	l.saw(t, lookedAt{funcs: 2000, unreached: 500, withoutJumps: 100}, 100)
}

// Promise 21: compiled ones with one part turned, and such as have code behind their end, to which nothing leads.
func TestLooksAtCodeThatIsTurned(t *testing.T) {
	l := newLook()
	sources := rightPrograms()
	for seed := range 3000 {
		d := dice{state: uint64(seed)*2654435761 + 202}
		tree := roamedTree(10+seed*7%140, seed+84000)
		if seed%3 == 0 {
			tree = withoutFaults(parsedTree(t, sources[seed%len(sources)]))
		}
		x, ok := compiledOrNone(tree)
		if !ok {
			continue
		}
		l.check(t, changedImage(x, d.turn))
		l.check(t, changedImage(x, func(x *impl.Image) {
			f := &x.Funcs[d.below(len(x.Funcs))]
			for range min(d.below(9), 300-len(f.Code)) {
				f.Code = append(f.Code, impl.Ins{Op: 1 + d.below(19), A: d.among(d.below(301), d.below(len(f.Code))), B: d.below(301)})
			}
		}))
	}
	l.saw(t, lookedAt{funcs: 2000, unreached: 500, withoutJumps: 100, beyond: 100}, 100)
}

// What is given stays as it was, what is answered is new memory, and nothing is kept.
func TestLooksChangeNothing(t *testing.T) {
	images := []impl.Image{
		lookImage(t), smallImage(), severalFuncs(), greatestImage(), {}, imageFrom(t, "0/0: return", "0/0: const 0, if 0, if 1, jump 0"),
		imageFrom(t, "0/0 {0-3>3}: const 0, if 3, if 1, jump 0, jump 300"), compiled(t, parsedTree(t, "let a=1;while(a){if(a&&1){a=a-1;}else{print a||2;}}fun f(){return a;}try{f(a);}catch e{throw e;}")),
	}
	for _, x := range images {
		given, told := roomyImage(x)
		before := told()
		for fun := -1; fun <= len(x.Funcs); fun++ {
			shown, reached, jumps := impl.ShowFunc(given, fun), impl.Reached(given, fun), impl.JumpsOf(given, fun)
			want := slices.Clone(jumps)
			for n := range jumps {
				jumps[n] = -7
			}
			_ = append(jumps, -9)
			if told() != before {
				t.Fatalf("%s was written into", toldOfImage(x))
			}
			for _, other := range images {
				impl.ShowFunc(other, 0)
				impl.Reached(other, 0)
				_ = append(impl.JumpsOf(other, 0), 5)
			}
			if impl.ShowFunc(given, fun) != shown || impl.Reached(given, fun) != reached || !slices.Equal(impl.JumpsOf(given, fun), want) {
				t.Fatalf("the second answer of Func %d is another one, of %s", fun, toldOfImage(x))
			}
			checkLook(t, given, fun)
		}
	}
	whole := []string{"a", "b", "spare", "room"}
	kept := slices.Clone(whole)
	for a := range whole {
		for b := range whole {
			checkPrefix(t, impl.Outcome{Log: whole[:a]}, impl.Outcome{Log: whole[:b]}, a <= b)
		}
	}
	if !slices.Equal(whole, kept) {
		t.Errorf("the Logs were written into: %q", whole)
	}
}
