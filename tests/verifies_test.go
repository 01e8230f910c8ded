package tests

import (
	"fmt"
	"math"
	"slices"
	"strconv"
	"strings"
	"testing"

	"loop.example/g00115/impl"
)

// Promise 16: states that are joined have no more than each; a state that has more goes wherever one that has less goes.

// stateOf: a state as it is told: the accumulator's sign, and those of the registers (- unset, v a value, c a cell; others
// are kinds that are none).
func stateOf(told string) impl.State {
	return stateByThings(len(told)-1, func(thing int) int { return strings.IndexByte("-vcde", told[thing+1]) })
}

func toldOfState(s impl.State) string {
	var out strings.Builder
	for _, kind := range append([]int{s.Acc}, s.Regs...) {
		if kind < 0 || kind > 4 {
			return fmt.Sprintf("%+v", s)
		}
		out.WriteByte("-vcde"[kind])
	}
	return out.String()
}

func sameStates(a impl.State, b impl.State) bool {
	return a.Acc == b.Acc && slices.Equal(a.Regs, b.Regs)
}

// hasMore: whether a state has all that another one has.
func hasMore(more impl.State, less impl.State) bool {
	if len(more.Regs) != len(less.Regs) {
		return false
	}
	for thing := -1; thing < len(less.Regs); thing++ {
		if kind := kindIn(less, thing); kind != impl.StateUnset && kindIn(more, thing) != kind {
			return false
		}
	}
	return true
}

// statesOfSize: all states of so many registers.
func statesOfSize(regs int) []impl.State {
	told := []string{""}
	for range regs + 1 {
		var longer []string
		for _, one := range told {
			longer = append(longer, one+"-", one+"v", one+"c")
		}
		told = longer
	}
	var states []impl.State
	for _, one := range told {
		states = append(states, stateOf(one))
	}
	return states
}

func insOf(told string) impl.Ins {
	words := append(strings.Fields(told), "0", "0")
	a, _ := strconv.Atoi(words[1])
	b, _ := strconv.Atoi(words[2])
	return impl.Ins{Op: slices.Index(wordsOfOps, words[0]) + 1, A: a, B: b}
}

// between: what stands between two signs, and all else.
func between(text string, from string, to string) (string, string) {
	ahead, rest, found := strings.Cut(text, from)
	if !found {
		return "", text
	}
	inner, behind, _ := strings.Cut(rest, to)
	return inner, ahead + behind
}

// funcOf: a Func as toldOfFunc tells it.
func funcOf(t *testing.T, text string) impl.Func {
	t.Helper()
	head, code, _ := strings.Cut(text, ": ")
	var f impl.Func
	caps, head := between(head, "[", "]")
	for _, one := range strings.Fields(caps) {
		index, _ := strconv.Atoi(one[1:])
		f.Caps = append(f.Caps, impl.Cap{Reg: one[0] == 'r', Index: index})
	}
	handlers, head := between(head, "{", "}")
	for _, one := range strings.Fields(handlers) {
		var h impl.Handler
		fmt.Sscanf(one, "%d-%d>%d", &h.From, &h.To, &h.Target)
		f.Handlers = append(f.Handlers, h)
	}
	fmt.Sscanf(head, "%d/%d", &f.Params, &f.Regs)
	for _, one := range strings.Split(code, ", ") {
		f.Code = append(f.Code, insOf(one))
	}
	if told := toldOfFunc(f); told != text {
		t.Fatalf("%q is taken for %q", text, told)
	}
	return f
}

// imageFrom: an image of two constants and of Funcs that are told.
func imageFrom(t *testing.T, funcs ...string) impl.Image {
	t.Helper()
	x := impl.Image{Consts: []impl.Const{{Kind: impl.ConstTrue}, {Kind: impl.ConstNone}}}
	for _, one := range funcs {
		x.Funcs = append(x.Funcs, funcOf(t, one))
	}
	if !imageByRule(x) {
		t.Fatalf("the image is not right: %s", toldOfCode(x))
	}
	return x
}

func checkStep(t *testing.T, x impl.Image, fun int, at int, s impl.State) (impl.State, bool) {
	t.Helper()
	got, ok := impl.StepState(x, fun, at, s)
	want, right := stepByRule(x, fun, at, s)
	if ok != right || !sameStates(got, want) {
		t.Fatalf("from %s at %d of Func %d StepState is %s, %v, want %s, %v, of\n%s", toldOfState(s), at, fun, toldOfState(got), ok, toldOfState(want), right, toldOfImage(x))
	}
	return got, ok
}

// refusesStep: false, and nothing.
func refusesStep(t *testing.T, why string, x impl.Image, fun int, at int, s impl.State) {
	t.Helper()
	if got, ok := impl.StepState(x, fun, at, s); ok || !sameStates(got, impl.State{}) {
		t.Fatalf("%s: from %s at %d of Func %d StepState is %s, %v", why, toldOfState(s), at, fun, toldOfState(got), ok)
	}
}

// toldOfStates: the state ahead of each instruction, x where it is not reached; noStates beside a false.
func toldOfStates(states []impl.State, reached []bool, ok bool) string {
	if len(states) != len(reached) || !ok && len(states) > 0 {
		return fmt.Sprint(states, reached, ok)
	}
	if !ok {
		return noStates
	}
	var out []string
	for at, s := range states {
		if reached[at] {
			out = append(out, toldOfState(s))
		} else if sameStates(s, impl.State{}) {
			out = append(out, "x")
		} else {
			out = append(out, "x"+toldOfState(s))
		}
	}
	return strings.Join(out, " ")
}

// checkStates holds States against the rule, and tells what they are.
func checkStates(t *testing.T, x impl.Image, fun int) string {
	t.Helper()
	got, want := toldOfStates(impl.States(x, fun)), toldOfStates(statesByRule(x, fun))
	if got != want {
		t.Fatalf("the states of Func %d are\n%s, want\n%s, of\n%s", fun, got, want, toldOfImage(x))
	}
	return got
}

const noStates = "no"

// checkVerify holds Verify against the rule, and against States.
func checkVerify(t *testing.T, x impl.Image) int {
	t.Helper()
	got := impl.Verify(x)
	if want := verifyByRule(x); got != want {
		t.Fatalf("Verify is %d, want %d, of\n%s", got, want, toldOfImage(x))
	}
	for fun := range x.Funcs {
		told := checkStates(t, x, fun)
		if (got == -2 || got == fun) && told != noStates || (got == -1 || fun < got) && told == noStates {
			t.Fatalf("Verify is %d, but of Func %d there is %s, of\n%s", got, fun, told, toldOfImage(x))
		}
	}
	return got
}

// checkFlow: the states of the first of these Funcs; where they are not false, all the others are sound, too.
func checkFlow(t *testing.T, want string, funcs ...string) {
	t.Helper()
	x := imageFrom(t, funcs...)
	if got := checkStates(t, x, 0); got != want {
		t.Errorf("the states are\n%s, want\n%s, of\n%s", got, want, funcs[0])
	}
	wantFun := -1
	if want == noStates {
		wantFun = 0
	}
	if got := checkVerify(t, x); got != wantFun {
		t.Errorf("Verify is %d, want %d, of\n%s", got, wantFun, toldOfCode(x))
	}
}

func checkNoFlow(t *testing.T, funcs ...string) {
	t.Helper()
	checkFlow(t, noStates, funcs...)
}

func TestConstantsOfStates(t *testing.T) {
	if got := []int{impl.StateUnset, impl.StateValue, impl.StateCell}; !slices.Equal(got, []int{0, 1, 2}) {
		t.Errorf("the constants are %v", got)
	}
}

func TestJoinsThatAreKnown(t *testing.T) {
	for _, c := range []struct{ a, b, want string }{
		{"-", "-", "-"}, {"v", "v", "v"}, {"c", "c", "c"}, {"-", "v", "-"}, {"-", "c", "-"}, {"v", "c", "-"},
		{"-vc-", "-vc-", "-vc-"}, {"vvvv", "vvvv", "vvvv"}, {"cccc", "cccc", "cccc"},
		{"vvcv", "-vcv", "-vcv"}, {"vvcv", "vvcc", "vvc-"}, {"vvcv", "v-cv", "v-cv"}, {"vvcv", "vvvv", "vv-v"}, {"v-vc", "vvc-", "v---"},
		{"v-vc-vc", "v---vvv", "v----v-"},
		// One has fewer registers.
		{"v", "vv", "v-"}, {"-", "vvvv", "----"}, {"vv", "vvvv", "vv--"}, {"vvc", "vvcvc", "vvc--"}, {"vvc", "v-vvc", "v----"}, {"v---", "vvcv-cv", "v------"}, {"vc", "-c-", "-c-"},
		// Kinds that are none are compared, too.
		{"dded", "dddd", "dd-d"}, {"vd", "vc", "v-"}, {"d", "d", "d"},
	} {
		a, b := stateOf(c.a), stateOf(c.b)
		for _, got := range []impl.State{impl.Join(a, b), impl.Join(b, a), joinByRule(a, b)} {
			if toldOfState(got) != c.want {
				t.Errorf("%s and %s are joined as %s, want %s", c.a, c.b, toldOfState(got), c.want)
			}
		}
	}
	if got := impl.Join(impl.State{}, impl.State{Regs: []int{}}); got.Acc != 0 || len(got.Regs) != 0 {
		t.Errorf("of nothing there is %+v", got)
	}
	if got := impl.Join(impl.State{Acc: math.MinInt, Regs: []int{math.MaxInt, -1}}, impl.State{Acc: math.MinInt, Regs: []int{math.MaxInt, 1}}); !sameStates(got, impl.State{Acc: math.MinInt, Regs: []int{math.MaxInt, 0}}) {
		t.Errorf("of kinds that are none there is %+v", got)
	}
}

// Each register by itself, in whatever place, of states as great as there may be, and greater.
func TestJoinsOfEachRegister(t *testing.T) {
	for _, size := range []int{1, 2, 39, 40, 41, 300} {
		for register := range size {
			for kind := range 3 {
				for other := range 3 {
					a := stateByThings(size, func(thing int) int { return (thing + 2) % 3 })
					b := stateByThings(size, func(thing int) int { return (thing + 2) % 3 })
					a.Regs[register], b.Regs[register] = kind, other
					want := stateByThings(size, func(thing int) int { return (thing + 2) % 3 })
					if want.Regs[register] = kind; kind != other {
						want.Regs[register] = 0
					}
					if got := impl.Join(a, b); !sameStates(got, want) {
						t.Fatalf("%s and %s are joined as %s", toldOfState(a), toldOfState(b), toldOfState(got))
					}
				}
			}
		}
	}
}

// The promise of Join, of all states of up to three registers: it is the greatest of those that have no more than each.
func TestJoinedStatesHaveNoMore(t *testing.T) {
	for size := range 4 {
		states := statesOfSize(size)
		for _, a := range states {
			if got := impl.Join(a, a); !sameStates(got, a) {
				t.Fatalf("%s joined with itself is %s", toldOfState(a), toldOfState(got))
			}
			for _, b := range states {
				got := impl.Join(a, b)
				if !hasMore(a, got) || !hasMore(b, got) || !sameStates(got, impl.Join(b, a)) || !sameStates(got, joinByRule(a, b)) {
					t.Fatalf("%s and %s are joined as %s", toldOfState(a), toldOfState(b), toldOfState(got))
				}
				if size > 2 {
					continue
				}
				for _, c := range states {
					if hasMore(a, c) && hasMore(b, c) && !hasMore(got, c) {
						t.Fatalf("%s and %s are joined as %s, but have %s both", toldOfState(a), toldOfState(b), toldOfState(got), toldOfState(c))
					}
					if left, right := impl.Join(got, c), impl.Join(a, impl.Join(b, c)); !sameStates(left, right) {
						t.Fatalf("%s, %s and %s are joined as %s or %s", toldOfState(a), toldOfState(b), toldOfState(c), toldOfState(left), toldOfState(right))
					}
				}
			}
		}
	}
}

func TestJoinsOfStatesOfAllSizes(t *testing.T) {
	var states []impl.State
	for size := range 4 {
		states = append(states, statesOfSize(size)...)
	}
	for _, a := range states {
		for _, b := range states {
			if got := impl.Join(a, b); !sameStates(got, joinByRule(a, b)) || !sameStates(got, impl.Join(b, a)) {
				t.Fatalf("%s and %s are joined as %s", toldOfState(a), toldOfState(b), toldOfState(got))
			}
		}
	}
}

// stepImage: an image whose Func 1 has this instruction, two more, three registers and two Caps; Func 2 wants a cell in register 0
// and the second Cap; Func 3 nothing; Func 4 what is beyond the registers, Func 5 what is beyond the Caps, Func 6 both of the last ones.
func stepImage(t *testing.T, told string) impl.Image {
	t.Helper()
	return imageFrom(t, "0/0: const 0, return", "1/3 [r0 c5]: "+told+", const 0, return",
		"0/0 [r0 c1]: const 0, return", "0/0: const 0, return", "0/0 [r3]: const 0, return", "0/0 [c2]: const 0, return", "0/0 [c0 r2 c1 r2]: const 0, return")
}

// What each Op wants, and leaves: an instruction, and states ahead of it with those behind it; of those that have none there is no.
func TestStepsThatAreKnown(t *testing.T) {
	for _, c := range []struct{ ins, steps string }{
		{"const 0", "---- v--- v-vc v-vc c--- v---"},
		{"const 1", "---- v--- vvvv vvvv"},
		{"const 2", "---- no vvvv no"},
		{"const 300", "vvvv no"},
		{"get 0", "-v-- vv-- vvcv vvcv ---- no -c-- no v-vv no vcvv no cv-- vv--"},
		{"get 2", "---v v--v ---c no ---- no -vv- no vvvc no"},
		{"get 3", "vvvv no ---- no"},
		{"get 300", "vvvv no"},
		{"put 0", "v--- vv-- vc-- vv-- vvcv vvcv ---- no c--- no -vvv no cvvv no"},
		{"put 2", "v--- v--v v--c v--v -ccc no cccc no"},
		{"put 3", "vvvv no v--- no"},
		{"put 300", "vvvv no"},
		{"newcell 0", "v--- vc-- vv-- vc-- vcvv vcvv ---- no c--- no -ccc no"},
		{"newcell 2", "v--- v--c vvvv vvvc -vvv no"},
		{"newcell 3", "vvvv no vccc no"},
		{"getcell 0", "-c-- vc-- cc-- vc-- vcv- vcv- ---- no -v-- no vv-- no v-cc no"},
		{"getcell 2", "---c v--c ---v no -cc- no"},
		{"getcell 3", "vccc no"},
		{"putcell 0", "vc-- vc-- vcvv vcvv -c-- no cc-- no vv-- no v--- no v-cc no"},
		{"putcell 2", "v--c v--c ---c no v--v no v--- no"},
		{"putcell 3", "vccc no"},
		{"getcap 0", "---- v--- c--- v--- vvc- vvc-"},
		{"getcap 1", "---- v--- -vcv vvcv"},
		{"getcap 2", "---- no vvvv no vccc no"},
		{"putcap 0", "v--- v--- vvcv vvcv ---- no c--- no -vvv no"},
		{"putcap 1", "v--- v--- ---- no"},
		{"putcap 2", "vvvv no"},
		{"binary 1 0", "vv-- vv-- vvcv vvcv -v-- no cv-- no v--- no vc-- no v-vv no"},
		{"binary 11 0", "vv-- vv-- -v-- no v--- no"},
		{"binary 11 2", "v--v v--v v--c no vvv- no"},
		{"binary 5 2", "v--v v--v"},
		{"binary 0 0", "vvvv no"},
		{"binary 12 0", "vvvv no"},
		{"binary 300 0", "vvvv no"},
		{"binary 1 3", "vvvv no"},
		{"binary 1 300", "vvvv no"},
		{"not", "v--- v--- vvc- vvc- ---- no c--- no -vvv no"},
		{"minus", "v--- v--- vvc- vvc- ---- no c--- no"},
		{"jump 0", "---- ---- cvc- cvc- vvvv vvvv"},
		{"jump 2", "---- ---- vvc- vvc-"},
		{"jump 3", "---- no vvvv no"},
		{"jump 300", "vvvv no"},
		{"ifnot 0", "v--- v--- vvc- vvc- ---- no c--- no"},
		{"ifnot 2", "v--- v--- -vvv no"},
		{"ifnot 3", "vvvv no"},
		{"if 0", "v--- v--- vvc- vvc- ---- no c--- no"},
		{"if 2", "v--- v--- -vvv no"},
		{"if 3", "vvvv no"},
		{"fun 0", "---- no vvvv no vccc no"},
		{"fun 1", "-c-- no vccc no"},
		{"fun 2", "-c-- vc-- cc-- vc-- vcvv vcvv -v-- no ---- no v-cc no vvcc no"},
		{"fun 3", "---- v--- cvc- vvc-"},
		{"fun 4", "vccc no vvvv no"},
		{"fun 5", "vccc no vvvv no"},
		{"fun 6", "---c v--c ---v no -cc- no vcc- no"},
		{"fun 7", "vccc no vvvv no"},
		{"fun 300", "vccc no"},
		{"call 0 0", "-v-- vv-- cv-- vv-- vvcc vvcc ---- no v--- no vc-- no v-vv no"},
		{"call 2 0", "---v v--v vvv- no v--c no"},
		{"call 0 1", "-vv- vvv- -v-- no --v- no -vc- no -cv- no v--v no"},
		{"call 0 2", "-vvv vvvv vvv- no vv-v no v-vv no vvvc no vvcv no vcvv no"},
		{"call 1 1", "--vv v-vv -v-v no -vv- no"},
		{"call 0 3", "vvvv no"},
		{"call 1 2", "vvvv no"},
		{"call 2 1", "vvvv no"},
		{"call 3 0", "vvvv no"},
		{"call 0 300", "vvvv no"},
		{"call 300 0", "vvvv no"},
		{"call 300 300", "vvvv no"},
		{"return", "v--- v--- vvcv vvcv ---- no c--- no -vvv no"},
		{"throw", "v--- v--- vvcv vvcv ---- no c--- no -vvv no"},
		{"print", "v--- v--- vvcv vvcv ---- no c--- no -vvv no"},
	} {
		x := stepImage(t, c.ins)
		steps := strings.Fields(c.steps)
		for i := 0; i < len(steps); i += 2 {
			got, ok := checkStep(t, x, 1, 0, stateOf(steps[i]))
			told := toldOfState(got)
			if !ok {
				told = "no"
				refusesStep(t, c.ins, x, 1, 0, stateOf(steps[i]))
			}
			if told != steps[i+1] {
				t.Errorf("behind %s there is %s of %s, want %s", c.ins, told, steps[i], steps[i+1])
			}
		}
	}
}

// Numbers that an Op does not use count for nothing.
func TestNumbersThatAreNotUsed(t *testing.T) {
	for _, word := range strings.Fields("const get put newcell getcell putcell getcap putcap not minus jump ifnot if fun return throw print") {
		i := insOf(word)
		i.B = 300
		if slices.Contains(strings.Fields("not minus return throw print"), word) {
			i.A = 300
		}
		if word == "fun" {
			i.A = 3
		}
		x := stepImage(t, "const 0")
		x.Funcs[1].Code[0] = i
		s := stateOf("vvvv")
		if strings.HasSuffix(word, "tcell") {
			s = stateOf("vccc")
		}
		if _, ok := checkStep(t, x, 1, 0, s); !ok {
			t.Errorf("%s with other numbers is refused", word)
		}
	}
}

// insOfEach: instructions of all Ops with all small numbers.
func insOfEach(most int) []impl.Ins {
	var all []impl.Ins
	for op := impl.InsConst; op <= impl.InsPrint; op++ {
		for a := range most + 1 {
			for b := range most + 1 {
				all = append(all, impl.Ins{Op: op, A: a, B: b})
			}
		}
	}
	return append(all, impl.Ins{Op: impl.InsBinary, A: impl.OpOther, B: 1}, impl.Ins{Op: impl.InsBinary, A: impl.OpOther + 1, B: 1}, impl.Ins{Op: impl.InsBinary, A: impl.OpOther - 1})
}

// The promise of StepState: a state that has more goes wherever one that has less goes, and has more there.
func TestMoreGoesWhereverLessGoes(t *testing.T) {
	states := statesOfSize(3)
	goes := 0
	for _, i := range insOfEach(4) {
		x := stepImage(t, "const 0")
		x.Funcs[1].Code[0] = i
		for _, less := range states {
			behind, ok := checkStep(t, x, 1, 0, less)
			if !ok {
				continue
			}
			for _, more := range states {
				if !hasMore(more, less) {
					continue
				}
				goes++
				if further, ok := impl.StepState(x, 1, 0, more); !ok || !hasMore(further, behind) {
					t.Fatalf("%s goes from %s to %s, but from %s to %s, %v", toldOfIns(i), toldOfState(less), toldOfState(behind), toldOfState(more), toldOfState(further), ok)
				}
			}
		}
	}
	if goes < 10000 {
		t.Errorf("there are but %d", goes)
	}
}

// What is joined steps to no more than each steps to.
func TestStepsOfWhatIsJoined(t *testing.T) {
	states := statesOfSize(3)
	for n, i := range insOfEach(3) {
		x := stepImage(t, "const 0")
		x.Funcs[1].Code[0] = i
		for k, a := range states {
			b := states[(k*7+n)%len(states)]
			behind, ok := impl.StepState(x, 1, 0, impl.Join(a, b))
			if !ok {
				continue
			}
			left, okLeft := impl.StepState(x, 1, 0, a)
			right, okRight := impl.StepState(x, 1, 0, b)
			if !okLeft || !okRight || !sameStates(impl.Join(left, right), behind) {
				t.Fatalf("%s goes from %s and %s to %s and %s, joined to %s", toldOfIns(i), toldOfState(a), toldOfState(b), toldOfState(left), toldOfState(right), toldOfState(behind))
			}
		}
	}
}

// placesThatAreNone: numbers below 0, and from a size on.
func placesThatAreNone(size int) []int {
	return []int{-1, -2, size, size + 1, -size, 300, -300, math.MinInt, math.MaxInt, math.MinInt32, math.MaxInt32, -1 << 32, 1 << 32}
}

func TestStepsOfPlacesThatAreNone(t *testing.T) {
	x := stepImage(t, "const 0")
	s := stateOf("vvvv")
	for _, at := range placesThatAreNone(3) {
		refusesStep(t, "a place that is none", x, 1, at, s)
		checkStep(t, x, 1, at, s)
	}
	for _, fun := range placesThatAreNone(7) {
		refusesStep(t, "a Func that is none", x, fun, 0, s)
		refusesStep(t, "a Func that is none", x, fun, 0, stateOf("v"))
		refusesStep(t, "a Func that is none", x, fun, fun, s)
		checkStep(t, x, fun, 0, s)
		if got := checkStates(t, x, fun); got != noStates {
			t.Errorf("of Func %d there is %s", fun, got)
		}
	}
	for fun, f := range x.Funcs {
		for at := range f.Code {
			checkStep(t, x, fun, at, stateByThings(f.Regs, func(int) int { return 1 }))
			checkStep(t, x, fun, at, stateByThings(f.Regs, func(int) int { return 2 }))
		}
		refusesStep(t, "the place behind the last one", x, fun, len(f.Code), stateByThings(f.Regs, func(int) int { return 1 }))
	}
}

// Whatever the instruction wants, a state has just as many registers as the Func.
func TestStepsOfStatesOfOtherSizes(t *testing.T) {
	for _, told := range []string{"const 0", "jump 0", "getcap 0", "fun 3", "get 0", "put 0", "call 0 0", "return", "not"} {
		x := stepImage(t, told)
		for size := range 50 {
			s := stateByThings(size, func(int) int { return 1 })
			if _, ok := checkStep(t, x, 1, 0, s); ok != (size == 3) {
				t.Errorf("%s of a state with %d registers is %v", told, size, ok)
			}
			if size != 3 {
				refusesStep(t, "another size", x, 1, 0, s)
			}
		}
		refusesStep(t, "no registers at all", x, 1, 0, impl.State{Acc: 1})
	}
	for _, regs := range []int{0, 1, 39, 40} {
		x := imageFrom(t, fmt.Sprintf("0/%d: const 0, return", regs))
		for size := range 43 {
			if _, ok := checkStep(t, x, 0, 0, stateByThings(size, func(int) int { return 0 })); ok != (size == regs) {
				t.Errorf("with %d registers a state of %d is %v", regs, size, ok)
			}
		}
	}
}

// The registers that stand behind a list, in its spare room, are none.
func TestStepsOfStatesWithSpareRoom(t *testing.T) {
	x := stepImage(t, "get 2")
	refusesStep(t, "a register in spare room", x, 1, 0, impl.State{Acc: 1, Regs: []int{1, 1, 1}[:2]})
	x = stepImage(t, "get 3")
	refusesStep(t, "a register in spare room", x, 1, 0, impl.State{Acc: 1, Regs: []int{1, 1, 1, 1}[:3]})
}

// A kind that is none is neither a value nor a cell, and stays as it was.
func TestStepsOfKindsThatAreNone(t *testing.T) {
	for _, kind := range []int{-1, 3, 4, 257, 258, 1 << 32, 1<<32 + 1, 1<<32 + 2, math.MinInt, math.MaxInt} {
		for _, told := range []string{"get 0", "getcell 0", "putcell 0", "binary 1 0", "call 0 0", "call 0 2", "fun 2"} {
			refusesStep(t, told, stepImage(t, told), 1, 0, impl.State{Acc: 1, Regs: []int{kind, 1, 1}})
		}
		for _, told := range []string{"put 0", "newcell 0", "putcap 0", "binary 1 0", "not", "minus", "ifnot 0", "if 0", "return", "throw", "print"} {
			refusesStep(t, told, stepImage(t, told), 1, 0, impl.State{Acc: kind, Regs: []int{1, 1, 1}})
		}
		for _, told := range []string{"const 0", "getcap 0", "fun 3", "jump 1"} {
			got, ok := impl.StepState(stepImage(t, told), 1, 0, impl.State{Acc: kind, Regs: []int{kind, 0, kind}})
			if want := map[bool]int{true: kind, false: 1}[told == "jump 1"]; !ok || !sameStates(got, impl.State{Acc: want, Regs: []int{kind, 0, kind}}) {
				t.Errorf("behind %s of the kind %d there is %+v, %v", told, kind, got, ok)
			}
		}
		got, ok := impl.StepState(stepImage(t, "put 1"), 1, 0, impl.State{Acc: 1, Regs: []int{kind, kind, kind}})
		if !ok || !sameStates(got, impl.State{Acc: 1, Regs: []int{kind, 1, kind}}) {
			t.Errorf("behind put of the kind %d there is %+v, %v", kind, got, ok)
		}
	}
}

// An image that is not right has nothing, wherever it is not: neither steps nor states.
func TestVerifyOfImagesThatAreNotRight(t *testing.T) {
	check := func(y impl.Image) {
		t.Helper()
		if got := checkVerify(t, y); got != -2 {
			t.Fatalf("Verify is %d of %s", got, toldOfImage(y))
		}
		for fun := -1; fun <= len(y.Funcs); fun++ {
			if got := checkStates(t, y, fun); got != noStates {
				t.Fatalf("of Func %d there is %s", fun, got)
			}
			regs := 0
			if isPlace(fun, len(y.Funcs)) {
				regs = max(y.Funcs[fun].Regs, 0)
			}
			for at := -1; at < 3; at++ {
				refusesStep(t, "an image that is not right", y, fun, at, stateByThings(regs, func(int) int { return 1 }))
			}
		}
	}
	sound := stepImage(t, "const 0")
	if got := checkVerify(t, sound); got != -1 {
		t.Fatalf("Verify is %d", got)
	}
	for _, x := range []impl.Image{smallImage(), sound, severalFuncs()} {
		for _, spoil := range spoilersOf(x) {
			check(changedImage(x, spoil))
		}
		for _, k := range knobsOf(x) {
			for _, n := range []int{k.least - 1, k.most + 1} {
				check(changedImage(x, func(x *impl.Image) { k.set(x, n) }))
			}
		}
	}
	check(impl.Image{})
	check(impl.Image{Consts: sound.Consts})
	check(impl.Image{Funcs: []impl.Func{{}}})
	check(changedImage(sound, func(x *impl.Image) { x.Funcs[0].Params, x.Funcs[0].Regs = 1, 1 }))
	check(changedImage(sound, func(x *impl.Image) { x.Funcs[0].Caps = capsOfSize(1) }))
	check(changedImage(sound, func(x *impl.Image) { x.Funcs = append(x.Funcs, slices.Repeat(x.Funcs[:1], 10)...) }))
	check(changedImage(sound, func(x *impl.Image) { x.Consts = append(x.Consts, impl.Const{}) }))
	check(changedImage(sound, func(x *impl.Image) { x.Consts = constsOfSize(41) }))
}

func TestStatesThatAreKnown(t *testing.T) {
	checkFlow(t, "- v", "0/0: const 0, return")
	checkFlow(t, "- v", "0/0: const 1, throw")
	checkFlow(t, "-", "0/0: jump 0")
	checkFlow(t, "- v", "0/0: const 0, jump 0")
	checkFlow(t, "- v v", "0/0: const 0, print, return")
	checkFlow(t, "--- v-- vv- vvc vvc vvc", "0/2: const 0, put 0, newcell 1, getcell 1, putcell 1, return")
	checkFlow(t, "-- v- vv vv vv vv vv", "0/1: const 0, put 0, const 1, binary 11 0, not, minus, return")
	checkFlow(t, "--- v-- vv- vvv vvv", "0/2: const 0, put 0, put 1, call 0 1, return")
	checkFlow(t, "-- v- vc vv vv", "0/1: const 0, newcell 0, put 0, get 0, return")
	checkFlow(t, "-- v- vc vc", "0/1: const 0, newcell 0, fun 1, return", "0/0 [r0]: getcap 0, putcap 0, return")
}

// A function begins with values in its Params, and nothing else.
func TestStatesOfParams(t *testing.T) {
	check := func(want string, told string) {
		t.Helper()
		x := imageFrom(t, "0/0: const 0, return", told)
		if got := checkStates(t, x, 1); got != want {
			t.Errorf("the states are\n%s, want\n%s, of\n%s", got, want, told)
		}
		if got := checkVerify(t, x); got != map[bool]int{true: 1, false: -1}[want == noStates] {
			t.Errorf("Verify is %d of\n%s", got, told)
		}
	}
	check("-vv-- vvv--", "2/4: get 1, return")
	check(noStates, "2/4: get 2, return")
	check("-vvvv vvvvv", "4/4: get 3, return")
	check(noStates, "4/5: get 4, return")
	check("----- v----", "0/4: const 0, return")
	check(noStates, "0/4: get 0, return")
	check("-v vv", "1/1: get 0, return")
	check(noStates, "1/1: getcell 0, return")
	check(noStates, "1/1: return")
	check("-vv vvv", "2/2: call 0 1, return")
	check(noStates, "2/3: call 0 2, return")
	for regs := range 41 {
		for params := range min(regs, 4) + 1 {
			registers := strings.Repeat("v", params) + strings.Repeat("-", regs-params)
			check("-"+registers+" v"+registers, fmt.Sprintf("%d/%d: const 0, return", params, regs))
		}
	}
}

// What is not reached has no state, whatever stands there.
func TestPlacesThatAreNotReached(t *testing.T) {
	checkFlow(t, "- v x x", "0/0: const 0, return, const 0, return")
	checkFlow(t, "- v x x", "0/0: const 0, throw, get 40, binary 300 300")
	checkFlow(t, "- v x x x", "0/0: const 0, jump 1, const 2, call 300 300, fun 0")
	checkFlow(t, "- x - v", "0/0: jump 2, print, const 0, return")
	checkFlow(t, "-- x x v- -- v- v-", "0/1: jump 4, get 0, put 9, return, const 0, if 3, jump 6")
	for _, i := range insOfEach(2) {
		x := imageFrom(t, "0/2: const 0, return, const 0")
		x.Funcs[0].Code[2] = i
		if got := checkStates(t, x, 0); got != "--- v-- x" || checkVerify(t, x) != -1 {
			t.Errorf("with %s behind there is %s", toldOfIns(i), got)
		}
	}
}

func TestPlacesToWhichSeveralCome(t *testing.T) {
	// Alike, and unlike in one register or both.
	checkFlow(t, "-- v- v- vv v- vv", "0/1: const 0, if 4, put 0, jump 5, put 0, return")
	checkFlow(t, "-- v- v- vv v- v-", "0/1: const 0, if 4, put 0, jump 5, newcell 0, return")
	checkFlow(t, "-- v- v- v-", "0/1: const 0, ifnot 3, put 0, return")
	checkFlow(t, "-- v- vv vv v-", "0/1: const 0, put 0, if 4, newcell 0, return")
	checkFlow(t, "--- v-- vv- vv- vvv vvv vvc v--", "0/2: const 0, put 0, if 7, put 1, if 7, newcell 1, newcell 0, return")
	checkFlow(t, "--- v-- vv- vv- vvv vvv vvc vv-", "0/2: const 0, put 0, if 7, put 1, if 7, newcell 1, put 0, return")
	// What was lost is had again behind what makes it anew.
	checkFlow(t, "-- v- vv vv v- vv vv", "0/1: const 0, put 0, if 4, newcell 0, put 0, get 0, return")
	// What is wanted there, one of those that come has not.
	checkNoFlow(t, "0/1: const 0, ifnot 3, put 0, get 0, return")
	checkNoFlow(t, "0/1: const 0, put 0, if 4, newcell 0, get 0, return")
	checkNoFlow(t, "0/1: const 0, put 0, if 4, newcell 0, getcell 0, return")
	checkNoFlow(t, "0/1: const 0, newcell 0, ifnot 4, put 0, putcell 0, return")
	checkNoFlow(t, "0/2: const 0, put 0, if 7, put 1, if 7, newcell 1, put 0, get 1, return")
	// A jump to its own place, and to the one behind it.
	checkFlow(t, "- v v", "0/0: const 0, if 1, return")
	checkFlow(t, "- v v", "0/0: const 0, ifnot 2, return")
	checkFlow(t, "- v v", "0/0: const 0, jump 2, return")
}

// The beginning is one of the ways to the first instruction: there the accumulator is unset, whatever comes back with a value.
func TestJumpsBackToTheBeginning(t *testing.T) {
	checkFlow(t, "- v v", "0/0: const 0, if 0, return")
	checkFlow(t, "-- v- vv", "0/1: const 0, put 0, jump 0")
	checkFlow(t, "-- -- v- vv vv", "0/1: jump 1, const 0, put 0, if 0, return")
	checkFlow(t, "- v v x - v", "0/0: jump 4, print, return, return, const 0, jump 1")
	checkNoFlow(t, "0/0: print, const 0, jump 0")
	x := imageFrom(t, "0/0: const 0, return", "1/1: get 0, newcell 0, jump 0")
	if checkVerify(t, x) != 1 {
		t.Error("a parameter that is a cell the second time is let in")
	}
	x = imageFrom(t, "0/0: const 0, return", "1/1: get 0, put 0, jump 0")
	if got := checkStates(t, x, 1); got != "-v vv vv" || checkVerify(t, x) != -1 {
		t.Errorf("the states are %s", got)
	}
}

// Places that were gone through, and must be gone through again.
func TestPlacesThatAreGoneThroughAgain(t *testing.T) {
	checkFlow(t, "-- v- v- v- v- vc v-", "0/1: const 0, put 0, const 0, ifnot 6, newcell 0, jump 2, return")
	checkNoFlow(t, "0/1: const 0, put 0, const 0, ifnot 6, newcell 0, jump 2, get 0, return")
	checkNoFlow(t, "0/1: const 0, put 0, get 0, ifnot 6, newcell 0, jump 2, return")
	checkNoFlow(t, "0/1: const 0, newcell 0, getcell 0, ifnot 6, put 0, jump 2, return")
	checkFlow(t, "-- v- vv vv vv vv vv", "0/1: const 0, put 0, get 0, ifnot 6, put 0, jump 2, return")
	// Two jumps back to one place; what the further one brings is lost in all between.
	checkFlow(t, "--- v-- vv- v-- v-- v-- v-- v-- v-c vcc v--", "0/2: const 0, put 0, put 1, const 0, if 10, const 0, if 3, newcell 1, newcell 0, jump 3, return")
	checkNoFlow(t, "0/2: const 0, put 0, put 1, get 0, if 10, const 0, if 3, newcell 1, newcell 0, jump 3, return")
	checkNoFlow(t, "0/2: const 0, put 0, put 1, const 0, if 10, get 1, if 3, newcell 1, newcell 0, jump 3, return")
	checkNoFlow(t, "0/2: const 0, put 0, put 1, const 0, if 10, const 0, if 3, newcell 1, newcell 0, jump 3, get 1, return")
	checkFlow(t, "--- v-- vv- vv- vv- vv- vv- vv- vvc vvc vv-", "0/2: const 0, put 0, put 1, get 0, if 10, get 0, if 3, newcell 1, put 0, jump 3, return")
	// A loop within a loop: the inner one is gone through again for what the outer one brings.
	checkFlow(t, "-- v- v- v- v- v- v- vc v-", "0/1: const 0, put 0, const 0, if 8, const 0, if 4, newcell 0, jump 2, return")
	checkNoFlow(t, "0/1: const 0, put 0, const 0, if 8, get 0, if 4, newcell 0, jump 2, return")
}

// lossyLoop: a Func of as many registers as there may be, all with values ahead of a loop that begins at 41; each of its jumps back
// has made a cell of one register more, in the given order.
func lossyLoop(order []int) impl.Func {
	f := impl.Func{Regs: 40, Code: []impl.Ins{insOf("const 0")}}
	for register := range 40 {
		f.Code = append(f.Code, impl.Ins{Op: impl.InsPut, A: register})
	}
	for _, register := range order {
		at := len(f.Code)
		f.Code = append(f.Code, insOf("const 0"), impl.Ins{Op: impl.InsIf, A: at + 4}, impl.Ins{Op: impl.InsNewCell, A: register}, insOf("jump 41"))
	}
	f.Code = append(f.Code, insOf("const 0"), insOf("return"))
	return f
}

// A place that changes again and again, until all is lost.
func TestPlacesThatChangeOften(t *testing.T) {
	for step := range 40 {
		var order []int
		for i := range 40 {
			order = append(order, (i*(2*(step%20)+1)+step)%40)
		}
		x := imageFrom(t, "0/0: const 0, return")
		x.Funcs[0] = lossyLoop(order)
		want := strings.Repeat("v", 41)
		states, _, ok := impl.States(x, 0)
		for _, register := range order {
			want = want[:register+1] + "-" + want[register+2:]
		}
		if !ok || toldOfState(states[41]) != want || toldOfState(states[len(states)-1]) != want {
			t.Fatalf("with %v States is %v, and at its beginning the loop has %s, want %s", order, ok, toldOfStates(states, make([]bool, len(states)), ok), want)
		}
		for register := range 40 {
			y := changedImage(x, func(x *impl.Image) {
				x.Funcs[0].Code[len(states)-2] = impl.Ins{Op: impl.InsGet, A: register}
			})
			if got := impl.Verify(y); got != map[bool]int{true: 0, false: -1}[slices.Contains(order, register)] {
				t.Fatalf("with %v and a get of %d behind the loop Verify is %d", order, register, got)
			}
		}
	}
	x := imageFrom(t, "0/0: const 0, return")
	x.Funcs[0] = lossyLoop([]int{39, 0, 20, 7, 7, 31})
	checkVerify(t, x)
}

func TestStatesOfHandlers(t *testing.T) {
	// Of one instruction: the state ahead of it, but with a value in the accumulator.
	checkFlow(t, "- v v", "0/0 {0-1>2}: const 0, return, return")
	checkFlow(t, "- v v", "0/0 {1-2>2}: const 0, return, return")
	checkFlow(t, "-- v- vv v-", "0/1 {1-2>3}: const 0, put 0, return, return")
	checkFlow(t, "-- v- vv vv", "0/1 {2-3>3}: const 0, put 0, return, return")
	checkFlow(t, "-- v- vv vv vv vv", "0/1 {2-3>4}: const 0, put 0, get 0, return, get 0, return")
	checkNoFlow(t, "0/1 {1-2>4}: const 0, put 0, get 0, return, get 0, return")
	checkNoFlow(t, "0/1 {0-3>4}: const 0, put 0, get 0, return, get 0, return")
	checkNoFlow(t, "0/1 {1-3>4}: const 0, put 0, get 0, return, get 0, return")
	checkFlow(t, "-- v- vv vv vv vv", "0/1 {2-4>4}: const 0, put 0, get 0, return, get 0, return")
	// What throws leads there, as all others do.
	checkFlow(t, "- v v", "0/0 {1-2>2}: const 0, throw, return")
	checkFlow(t, "- v v", "0/0 {1-2>2}: const 0, jump 1, return")
	// Of none.
	for _, h := range []string{"0-0>2", "1-1>2", "2-2>2", "2-1>2", "1-0>2", "300-0>2", "2-3>2", "2-300>2", "3-300>2", "300-300>2"} {
		checkFlow(t, "- v x", "0/0 {"+h+"}: const 0, return, return")
		checkFlow(t, "- v x", "0/0 {"+h+"}: const 0, return, get 300")
	}
	// The places that it has may go beyond the code.
	checkFlow(t, "- v v", "0/0 {0-300>2}: const 0, return, return")
	checkFlow(t, "- v v", "0/0 {1-300>2}: const 0, return, return")
	// It has no place that is reached.
	checkFlow(t, "- v x x", "0/0 {2-4>0}: const 0, return, print, return")
	checkFlow(t, "- v x x x", "0/0 {2-4>4}: const 0, return, print, return, get 9")
	// What is reached through it alone may be in another one.
	checkFlow(t, "- v v v x", "0/0 {0-1>2 2-3>3}: const 0, return, return, return, return")
	checkFlow(t, "-- v- v- vv vv vv", "0/1 {1-2>2 3-4>4}: const 0, return, put 0, throw, get 0, return")
}

func TestTargetsWithinTheirHandlers(t *testing.T) {
	checkFlow(t, "- v", "0/0 {0-1>0}: const 0, return")
	checkFlow(t, "- v", "0/0 {0-2>0}: const 0, return")
	checkFlow(t, "- v v", "0/0 {1-2>1}: const 0, print, return")
	checkFlow(t, "-- v- vv", "0/1 {0-2>1}: const 0, put 0, return")
	checkFlow(t, "-- v- vv", "0/1 {0-3>1}: const 0, put 0, return")
	checkFlow(t, "-- v- v- v-", "0/1 {0-4>2}: const 0, put 0, const 0, return")
	checkFlow(t, "-- v- vv vv", "0/1 {2-4>2}: const 0, put 0, get 0, return")
	checkNoFlow(t, "0/1 {1-4>2}: const 0, put 0, get 0, return")
	// From behind the Target a cell comes back.
	checkFlow(t, "-- v- v- v- vc", "0/1 {2-5>2}: const 0, put 0, const 0, newcell 0, return")
	checkNoFlow(t, "0/1 {2-5>2}: const 0, put 0, get 0, newcell 0, return")
	checkFlow(t, "-- v- vv vv vc", "0/1 {2-4>2}: const 0, put 0, get 0, newcell 0, return")
	// The first instruction has no accumulator at the beginning.
	checkNoFlow(t, "0/0 {0-1>0}: print, const 0, return")
	checkNoFlow(t, "0/0 {1-2>0}: print, const 0, return")
	checkFlow(t, "-", "0/0 {0-1>0}: jump 0")
}

// All Handlers that have a place count, not the first alone.
func TestHandlersThatOverlap(t *testing.T) {
	checkFlow(t, "-- v- vv vv v- vv vv", "0/1 {1-3>4 2-3>5}: const 0, put 0, get 0, return, return, get 0, return")
	checkFlow(t, "-- v- vv vv v- vv vv", "0/1 {2-3>5 1-3>4}: const 0, put 0, get 0, return, return, get 0, return")
	checkFlow(t, "-- v- vv v- v-", "0/1 {0-3>3 0-3>4}: const 0, put 0, return, return, return")
	checkFlow(t, "-- v- vv v- vv", "0/1 {0-3>3 2-3>4}: const 0, put 0, return, return, return")
	checkNoFlow(t, "0/1 {0-3>3 0-3>4}: const 0, put 0, return, return, get 0, return")
	checkNoFlow(t, "0/0 {0-1>2 0-1>3}: const 0, return, return")
	checkNoFlow(t, "0/0 {0-1>2 0-2>2 0-1>300}: const 0, return, return")
	// Two with one Target, one of them twice.
	checkFlow(t, "--- v-- vv- vvv vv-", "0/2 {2-3>4 3-4>4}: const 0, put 0, put 1, return, return")
	checkFlow(t, "--- v-- vv- vvv v--", "0/2 {2-3>4 3-4>4 1-2>4 1-2>4}: const 0, put 0, put 1, return, return")
	for count := range 41 {
		x := imageFrom(t, "0/1 {0-1>3}: const 0, put 0, return, return")
		x.Funcs[0].Handlers = slices.Repeat([]impl.Handler{{From: 2, To: 3, Target: 3}}, count)
		want := "-- v- vv vv"
		if count == 0 {
			want = "-- v- vv x"
		}
		if got := checkStates(t, x, 0); got != want {
			t.Errorf("with %d Handlers the states are %s", count, got)
		}
		if count > 0 {
			x.Funcs[0].Handlers[count-1] = impl.Handler{From: 1, To: 2, Target: 3}
			if got := checkStates(t, x, 0); got != "-- v- vv v-" {
				t.Errorf("with the last of %d Handlers another one the states are %s", count, got)
			}
		}
	}
}

// The place behind the last instruction, and all beyond, are never to be reached.
func TestPlacesBeyondTheCode(t *testing.T) {
	for _, told := range []string{
		"const 0", "const 0, print", "const 0, const 0", "const 0, put 0", "const 0, newcell 0", "const 0, newcell 0, getcell 0", "const 0, newcell 0, putcell 0", "const 0, not", "const 0, minus",
		"const 0, put 0, get 0", "const 0, put 0, binary 1 0", "const 0, put 0, call 0 0", "fun 1", "const 0, if 0", "const 0, ifnot 0", "const 0, if 1", "const 0, ifnot 1",
		"jump 1", "jump 2", "jump 300", "const 0, jump 2", "const 0, if 3, return", "const 0, ifnot 3, return", "const 0, if 300, return",
		"jump 1, const 0", "jump 2, return, const 0",
	} {
		checkNoFlow(t, "0/1: "+told, "0/0: const 0, return")
	}
	caps := imageFrom(t, "0/0: const 0, return", "0/0 [r0]: getcap 0")
	if checkVerify(t, caps) != 1 {
		t.Error("a getcap at the end is let in")
	}
	for _, target := range []int{2, 3, 4, 299, 300} {
		checkNoFlow(t, fmt.Sprintf("0/0 {0-1>%d}: const 0, return", target))
		checkNoFlow(t, fmt.Sprintf("0/0 {1-2>%d}: const 0, return", target))
		checkNoFlow(t, fmt.Sprintf("0/0 {0-2>1 0-2>%d}: const 0, return", target))
		checkFlow(t, "- v", fmt.Sprintf("0/0 {2-3>%d}: const 0, return", target))
		checkFlow(t, "- v", fmt.Sprintf("0/0 {1-1>%d}: const 0, return", target))
		checkFlow(t, "- v x", fmt.Sprintf("0/0 {2-3>%d}: const 0, return, return", target))
	}
	// As long as there may be: the last place of 300 is one, the place 300 none.
	long := func(last string) impl.Image {
		x := imageFrom(t, "0/0: const 0")
		x.Funcs[0].Code = append(slices.Repeat(x.Funcs[0].Code, 299), insOf(last))
		return x
	}
	for _, c := range []struct {
		last string
		want int
	}{{"return", -1}, {"throw", -1}, {"jump 0", -1}, {"jump 299", -1}, {"jump 300", 0}, {"const 0", 0}, {"print", 0}, {"if 0", 0}, {"ifnot 299", 0}} {
		if got := checkVerify(t, long(c.last)); got != c.want {
			t.Errorf("with %s at the end Verify is %d, want %d", c.last, got, c.want)
		}
	}
	x := long("return")
	x.Funcs[0].Handlers = []impl.Handler{{From: 299, To: 300, Target: 299}}
	if got := checkVerify(t, x); got != -1 {
		t.Errorf("with the last place as a Target Verify is %d", got)
	}
	x.Funcs[0].Handlers[0].Target = 300
	if got := checkVerify(t, x); got != 0 {
		t.Errorf("with a Target behind the last place Verify is %d", got)
	}
}

// Each thing that an instruction may want: code that has it, and the same code that lacks it.
func TestWhatIsWantedAndLacks(t *testing.T) {
	for _, c := range []struct{ has, lacks string }{
		{"const 1, return", "const 2, return"},
		{"const 0, put 0, get 0, return", "const 0, put 1, get 0, return"},
		{"const 0, put 1, get 1, return", "const 0, put 1, get 2, return"},
		{"const 0, put 0, get 0, return", "const 0, newcell 0, get 0, return"},
		{"const 0, put 1, return", "const 0, put 2, return"},
		{"const 0, put 1, return", "put 1, const 0, return"},
		{"const 0, newcell 1, return", "const 0, newcell 2, return"},
		{"const 0, newcell 1, return", "newcell 1, const 0, return"},
		{"const 0, newcell 1, getcell 1, return", "const 0, newcell 1, getcell 0, return"},
		{"const 0, newcell 1, getcell 1, return", "const 0, put 1, getcell 1, return"},
		{"const 0, newcell 1, getcell 1, return", "const 0, newcell 1, getcell 2, return"},
		{"const 0, newcell 0, putcell 0, return", "const 0, put 0, putcell 0, return"},
		{"const 0, newcell 0, putcell 0, return", "const 0, newcell 0, putcell 1, return"},
		{"const 0, put 0, binary 1 0, return", "const 0, put 0, binary 0 0, return"},
		{"const 0, put 0, binary 11 0, return", "const 0, put 0, binary 12 0, return"},
		{"const 0, put 0, binary 1 0, return", "const 0, put 0, binary 1 1, return"},
		{"const 0, put 1, binary 1 1, return", "const 0, put 1, binary 1 2, return"},
		{"const 0, put 0, binary 1 0, return", "const 0, newcell 0, binary 1 0, return"},
		{"const 0, not, return", "not, const 0, return"},
		{"const 0, minus, return", "minus, const 0, return"},
		{"const 0, print, return", "print, const 0, return"},
		{"const 0, return", "return, const 0"},
		{"const 0, throw", "throw, const 0"},
		{"const 0, if 2, return", "if 2, const 0, return"},
		{"const 0, ifnot 2, return", "ifnot 2, const 0, return"},
		{"const 0, if 2, return", "const 0, if 3, return"},
		{"const 0, ifnot 2, return", "const 0, ifnot 3, return"},
		{"jump 1, const 0, return", "jump 3, const 0, return"},
		{"const 0, newcell 0, fun 1, return", "const 0, newcell 0, fun 0, return"},
		{"const 0, newcell 0, fun 1, return", "const 0, put 0, fun 1, return"},
		{"const 0, newcell 0, fun 1, return", "const 0, newcell 1, fun 1, return"},
		{"const 0, newcell 0, fun 1, return", "fun 1, return"},
		{"fun 2, return", "fun 3, return"},
		{"fun 2, return", "fun 4, return"},
		{"fun 2, return", "fun 5, return"},
		{"const 0, put 1, call 1 0, return", "const 0, put 1, call 0 0, return"},
		{"const 0, put 1, call 1 0, return", "const 0, put 1, call 2 0, return"},
		{"const 0, put 1, call 1 0, return", "const 0, newcell 1, call 1 0, return"},
		{"const 0, put 0, put 1, call 0 1, return", "const 0, put 0, put 1, call 0 2, return"},
		{"const 0, put 0, put 1, call 0 1, return", "const 0, put 0, put 1, call 1 1, return"},
		{"const 0, put 0, put 1, call 0 1, return", "const 0, put 0, newcell 1, call 0 1, return"},
		{"const 0, put 0, put 1, call 0 1, return", "const 0, newcell 0, put 1, call 0 1, return"},
	} {
		others := []string{"0/0 [r0]: const 0, return", "0/0: const 0, return", "0/0 [c0]: const 0, return", "0/0 [r2]: const 0, return"}
		for _, told := range []string{c.has, c.lacks} {
			x := imageFrom(t, append([]string{"0/2: " + told}, others...)...)
			if got := checkVerify(t, x); got != map[bool]int{true: -1, false: 0}[told == c.has] {
				t.Errorf("Verify is %d of %q", got, told)
			}
			// The same of a Func that is not the first one.
			x.Funcs = slices.Insert(x.Funcs, 3, x.Funcs[0])
			x.Funcs[0] = x.Funcs[2]
			if strings.Contains(told, "fun") {
				continue
			}
			if got := checkVerify(t, x); got != map[bool]int{true: -1, false: 3}[told == c.has] {
				t.Errorf("Verify is %d of %q further behind", got, told)
			}
		}
	}
}

// Caps of both sorts, of functions that are made within functions.
func TestFunctionsThatAreMade(t *testing.T) {
	check := func(want int, funcs ...string) {
		t.Helper()
		if got := checkVerify(t, imageFrom(t, funcs...)); got != want {
			t.Errorf("Verify is %d, want %d, of\n%s", got, want, strings.Join(funcs, "\n"))
		}
	}
	main, end := "0/2: const 0, newcell 0, newcell 1, fun 1, return", ", const 0, return"
	check(-1, main, "0/0 [r0 r1]: fun 2"+end, "0/0 [c0]: getcap 0"+end)
	check(-1, main, "0/0 [r0 r1]: fun 2"+end, "0/0 [c0 c1]: getcap 1, putcap 0"+end)
	check(1, main, "0/0 [r0 r1]: fun 2"+end, "0/0 [c0 c2]: getcap 1"+end)
	check(2, main, "0/0 [r0 r1]: fun 2"+end, "0/0 [c0 c1]: getcap 2"+end)
	check(1, main, "0/0 [r0 r1]: getcap 2"+end)
	check(1, main, "0/0 [r0 r1]: getcap 0, putcap 2"+end)
	check(-1, main, "0/0 [r0 r1]: getcap 0, putcap 1"+end)
	check(1, main, "0/0 [r0 r1]: putcap 0"+end)
	check(0, main, "0/0 [r0 r2]: const 0, return")
	check(0, main, "0/0 [c0]: const 0, return")
	check(-1, main, "1/2 [r1 r0 r1]: get 0, newcell 1, fun 2, return", "0/0 [r1 c2 c0]: getcap 2, return")
	check(1, main, "1/2 [r1 r0 r1]: get 0, newcell 1, fun 2, return", "0/0 [r1 c3 c0]: getcap 2, return")
	check(1, main, "1/2 [r1 r0 r1]: get 0, newcell 1, fun 2, return", "0/0 [r0 c2 c0]: getcap 2, return")
	check(1, main, "1/2 [r1 r0 r1]: get 0, newcell 1, fun 2, return", "0/0 [r1 c2 r2]: getcap 2, return")
	// One makes itself, and one that stands ahead of it.
	check(-1, main, "0/0 [r0 r1]: fun 2, return", "0/2 [c0 c1]: const 0, newcell 0, newcell 1, fun 1, return")
	check(2, main, "0/0 [r0 r1]: fun 2, return", "0/2 [c0 c1]: const 0, newcell 0, put 1, fun 1, return")
	check(-1, "0/1: const 0, newcell 0, fun 1, return", "0/1 [r0]: const 0, newcell 0, fun 1, return")
	check(1, "0/1: const 0, newcell 0, fun 1, return", "0/1 [r0]: const 0, fun 1, return")
	check(1, "0/0: const 0, return", "0/0: fun 0, return")
	// The last Func of 16, and one beyond; as many Caps as there may be, the last of which lacks.
	funcs := append([]string{"0/1: const 0, newcell 0, fun 15, return"}, slices.Repeat([]string{"0/0: const 0, return"}, 15)...)
	check(-1, funcs...)
	check(0, append([]string{"0/1: const 0, newcell 0, fun 16, return"}, funcs[1:]...)...)
	check(0, funcs[:15]...)
	most := strings.Repeat("r0 ", 19)
	check(-1, "0/1: const 0, newcell 0, fun 1, return", "0/0 ["+most+"r0]: getcap 19, return")
	check(0, "0/1: const 0, newcell 0, fun 1, return", "0/0 ["+most+"r1]: getcap 19, return")
	check(0, "0/1: const 0, newcell 0, fun 1, return", "0/0 ["+most+"c0]: getcap 19, return")
	check(1, "0/1: const 0, newcell 0, fun 1, return", "0/0 ["+most+"r0]: getcap 20, return")
	// A cell in the last of 40 registers; the Index 40 is beyond.
	check(-1, "0/40: const 0, newcell 39, fun 1, return", "0/0 [r39]: getcap 0, return")
	check(0, "0/40: const 0, newcell 39, fun 1, return", "0/0 [r40]: getcap 0, return")
	check(0, "0/40: const 0, newcell 39, fun 1, return", "0/0 [r38]: getcap 0, return")
	// What is never made is not asked for its Caps.
	check(-1, "0/0: const 0, return", "0/0 [r40 c40]: getcap 1, return")
	check(-1, "0/0: const 0, return, fun 1", "0/0 [r40 c40]: getcap 1, return")
}

func TestCallsAtTheLastRegister(t *testing.T) {
	for _, regs := range []int{1, 2, 7, 40} {
		x := imageFrom(t, "0/0: const 0, return", fmt.Sprintf("0/%d: call 0 0, return", regs))
		all := stateByThings(regs, func(int) int { return 1 })
		for a := range regs + 3 {
			for b := range regs + 3 {
				x.Funcs[1].Code[0] = impl.Ins{Op: impl.InsCall, A: a, B: b}
				if _, ok := checkStep(t, x, 1, 0, all); ok != (a+b < regs) {
					t.Fatalf("with %d registers call %d %d is %v", regs, a, b, ok)
				}
				for register := range regs {
					less := stateByThings(regs, func(thing int) int { return map[bool]int{true: 1}[thing != register] })
					if _, ok := impl.StepState(x, 1, 0, less); ok != (a+b < regs && (register < a || register > a+b)) {
						t.Fatalf("without register %d of %d call %d %d is %v", register, regs, a, b, ok)
					}
				}
			}
		}
	}
}

// The first Func of which the states are not true, whatever those ahead of it and behind it are.
func TestFirstFuncThatIsUnsound(t *testing.T) {
	unsound := []string{"0/0: return", "0/0: const 0", "0/0: jump 300", "0/1: get 0, return", "0/0 {0-1>300}: const 0, return"}
	for count := 1; count <= 16; count++ {
		sound := slices.Repeat([]string{"0/0: const 0, return"}, count)
		if got := checkVerify(t, imageFrom(t, sound...)); got != -1 {
			t.Fatalf("of %d sound ones Verify is %d", count, got)
		}
		for first := range count {
			for second := first; second < count; second++ {
				funcs := slices.Clone(sound)
				funcs[first], funcs[second] = unsound[count%5], unsound[second%5]
				if second == first {
					funcs[second] = unsound[count%5]
				}
				x := imageFrom(t, funcs...)
				if got := checkVerify(t, x); got != first {
					t.Fatalf("with %d and %d of %d unsound Verify is %d", first, second, count, got)
				}
				if got := checkStates(t, x, first); got != noStates {
					t.Fatalf("the states of Func %d are %s", first, got)
				}
			}
		}
		all := slices.Repeat(unsound[:1], count)
		if got := checkVerify(t, imageFrom(t, all...)); got != 0 {
			t.Fatalf("of %d unsound ones Verify is %d", count, got)
		}
		// An image that is not right is told first.
		x := imageFrom(t, all...)
		x.Funcs[count-1].Code[0].B = 301
		if got := checkVerify(t, x); got != -2 {
			t.Fatalf("of an image that is not right Verify is %d", got)
		}
	}
}

// checkProgram: the states of each Func of a program, which the verifier lets in.
func checkProgram(t *testing.T, source string, states ...string) {
	t.Helper()
	x := compiled(t, parsedTree(t, source))
	if got := checkVerify(t, x); got != -1 {
		t.Errorf("of %q Verify is %d", source, got)
	}
	var all []string
	for fun := range x.Funcs {
		all = append(all, checkStates(t, x, fun))
	}
	if !slices.Equal(all, states) {
		t.Errorf("of %q the states are\n%s\nwant\n%s\nof\n%s", source, strings.Join(all, "\n"), strings.Join(states, "\n"), toldOfCode(x))
	}
}

func TestStatesOfPrograms(t *testing.T) {
	checkProgram(t, "", "- v")
	checkProgram(t, "let a = 1; print a + 2;", "--- v-- vv- vv- vvv vvv vvv vvv vvv")
	checkProgram(t, "return 1;", "- v x x")
	checkProgram(t, "return 1;print 2;", "- v x x x x")
	checkProgram(t, "throw 1;print 2;", "- v x x x x")
	checkProgram(t, "while(1){print 2;}", "- v v v v v v")
	checkProgram(t, "while(1){return 2;}", "- v v v x v v")
	checkProgram(t, "if(1){return 2;}else{return 3;}", "- v v v x v v x x")
	checkProgram(t, "1&&2||3;", "- v v v v v v")
	checkProgram(t, "try{throw 1;}catch e{print e;}", "-- v- x v- vv vv vv vv")
	checkProgram(t, "try{}catch e{print e;}", "-- x x x -- v-")
	checkProgram(t, "try{1;}catch e{throw e;}", "-- v- v- vv vv v- v-")
	checkProgram(t, "let a=1;(fun(){a;});", "-- v- vc vc vc", "- v v")
	checkProgram(t, "fun f(n){f(n);}", "-- v- vc vc vc vc", "-v-- vv-- vvv- vvv- vvvv vvvv vvvv")
	checkProgram(t, "(fun(a,b){(fun(){b;});});", "- v v", "-vv vvv vvc vvc vvc", "- v v")
	checkProgram(t, "if(1){let a=1;}else{let b=2;(fun(){b;});}print 3;", "-- v- v- v- vv v- v- vc v- v- v- v-", "- v v")
	checkProgram(t, "while(1){let a=2;(fun(){a;});}", "-- v- v- v- vc vc v- v-", "- v v")
}

// Promise 14's other half: what is compiled is let in, and the states of it are those of the rule.
func TestVerifyOfPrograms(t *testing.T) {
	seen := tally{ops: map[int]int{}}
	unreached := 0
	check := func(tree []impl.Node) {
		t.Helper()
		x, ok := compiledOrNone(tree)
		if !ok {
			return
		}
		if got := checkVerify(t, x); got != -1 {
			t.Fatalf("Verify is %d of\n%s", got, toldOfCode(x))
		}
		seen.count(x, 0)
		for fun := range x.Funcs {
			_, reached, _ := impl.States(x, fun)
			if slices.Contains(reached, false) {
				unreached++
			}
		}
	}
	for _, source := range rightPrograms() {
		check(parsedTree(t, source))
	}
	for _, place := range placesForStatements() {
		for _, statement := range statementsOfChapter() {
			check(parsedTree(t, strings.ReplaceAll(place, "@", statement)))
		}
	}
	for seed := range 300 {
		check(sownTree(6+seed*7%260, seed+61000))
	}
	for seed := range 60 {
		check(treeBySteps(20+seed*37%281, seed+62000))
	}
	var all []int
	for op := impl.InsConst; op <= impl.InsPrint; op++ {
		all = append(all, op)
	}
	seen.check(t, all, 400, 0, 100, 20)
	if unreached < 100 {
		t.Errorf("but %d Funcs have something that is not reached", unreached)
	}
}

// flow: a Func whose code is mostly sound as far as it goes straight on; jumps and Handlers lead anywhere.
func (d *dice) flow(x impl.Image, fun int, rare int) impl.Func {
	f := x.Funcs[fun]
	size := 2 + d.below(14)
	s := stateByThings(f.Regs, func(thing int) int { return map[bool]int{true: 1}[thing > -1 && thing < f.Params] })
	f.Code = slices.Repeat([]impl.Ins{insOf("const 0")}, size)
	for at := range size {
		for range 20 {
			i := impl.Ins{Op: d.near(1, 19, 1<<30), A: d.below(f.Regs + 1), B: d.below(2)}
			switch i.Op {
			case impl.InsJump, impl.InsIf, impl.InsIfNot:
				i.A = d.below(size)
			case impl.InsBinary:
				i.B = d.below(f.Regs + 1)
			}
			if wantsByRule(x, f, i, s) || d.below(rare) == 0 {
				f.Code[at] = i
				break
			}
		}
		s = stateByThings(f.Regs, func(thing int) int { return madeByRule(f.Code[at], thing, kindIn(s, thing)) })
	}
	f.Code = append(f.Code, insOf([]string{"return", "throw", "jump 0", "print"}[d.below(rare)%4]))
	for range d.below(3) {
		from := d.below(size)
		f.Handlers = append(f.Handlers, impl.Handler{From: from, To: from + d.below(4), Target: d.below(size + 1)})
	}
	return f
}

func (d *dice) flowImage(rare int) impl.Image {
	x := impl.Image{Consts: constsOfSize(1 + d.below(3))}
	for i := range 1 + d.below(4) {
		f := impl.Func{Code: []impl.Ins{insOf("const 0"), insOf("return")}}
		if i > 0 {
			f.Params = d.below(3)
			for range d.below(3) {
				f.Caps = append(f.Caps, impl.Cap{Reg: d.below(2) == 0, Index: d.below(2)})
			}
		}
		f.Regs = f.Params + d.below(4)
		x.Funcs = append(x.Funcs, f)
	}
	for fun := range x.Funcs {
		x.Funcs[fun] = d.flow(x, fun, rare)
	}
	return x
}

// checkThatNothingChanges: where the states of a Func lead there is no more than what comes there.
func checkThatNothingChanges(t *testing.T, x impl.Image, fun int) {
	t.Helper()
	states, reached, ok := impl.States(x, fun)
	if !ok {
		return
	}
	f := x.Funcs[fun]
	for at, s := range states {
		if !reached[at] {
			continue
		}
		behind, ok := impl.StepState(x, fun, at, s)
		if !ok {
			t.Fatalf("at %d there is no step of %s, of\n%s", at, toldOfState(s), toldOfFunc(f))
		}
		for _, way := range waysByRule(f, at) {
			comes := behind
			if way.thrown {
				comes = impl.State{Acc: impl.StateValue, Regs: s.Regs}
			}
			if !reached[way.to] || !hasMore(comes, states[way.to]) || !sameStates(impl.Join(comes, states[way.to]), states[way.to]) {
				t.Fatalf("from %d %s comes to %d, where there is %s, of\n%s", at, toldOfState(comes), way.to, toldOfState(states[way.to]), toldOfFunc(f))
			}
		}
	}
}

func TestStatesBySteps(t *testing.T) {
	right, wrong, less := 0, 0, 0
	for seed := range 12000 {
		d := dice{state: uint64(seed)*2654435761 + 161}
		x := d.flowImage(4 << (seed % 6))
		if checkVerify(t, x) == -1 {
			right++
		} else {
			wrong++
		}
		for fun := range x.Funcs {
			checkThatNothingChanges(t, x, fun)
			if told := checkStates(t, x, fun); strings.Contains(told, "x") && strings.Contains(told, "c") {
				less++
			}
		}
	}
	if right < 2000 || wrong < 2000 || less < 500 {
		t.Errorf("%d images are sound, %d are not, %d have cells and places that are not reached", right, wrong, less)
	}
}

// turn changes one part of the code of an image.
func (d *dice) turn(x *impl.Image) {
	f := &x.Funcs[d.below(len(x.Funcs))]
	i := &f.Code[d.below(len(f.Code))]
	switch d.below(8) {
	case 0:
		i.Op = 1 + d.below(19)
	case 1:
		i.B = d.below(4)
	case 2:
		f.Regs = max(f.Regs-1, f.Params)
	case 3:
		f.Code = f.Code[:1+d.below(len(f.Code))]
	case 4:
		f.Handlers = append(f.Handlers, impl.Handler{From: d.below(len(f.Code)), To: d.below(len(f.Code) + 2), Target: d.below(len(f.Code) + 1)})
	case 5:
		f.Code = slices.Delete(f.Code, 0, 1+d.below(len(f.Code))/9)
	default:
		i.A = d.below(len(f.Code) + 1)
	}
}

// Programs with one number of their code turned.
func TestStatesOfCodeThatIsTurned(t *testing.T) {
	right, wrong := 0, 0
	for seed := range 4000 {
		d := dice{state: uint64(seed)*2654435761 + 162}
		x, ok := compiledOrNone(parsedTree(t, rightPrograms()[seed%len(rightPrograms())]))
		if !ok {
			continue
		}
		if got := checkVerify(t, changedImage(x, d.turn)); got == -1 {
			right++
		} else if got >= 0 {
			wrong++
		}
	}
	if right < 500 || wrong < 500 {
		t.Errorf("%d are sound, %d are not", right, wrong)
	}
}

// checkMore: all that one Func reaches another one reaches, whose states have no less.
func checkMore(t *testing.T, why string, more impl.Image, less impl.Image, fun int) {
	t.Helper()
	lessStates, lessReached, ok := impl.States(less, fun)
	if !ok {
		return
	}
	moreStates, moreReached, ok := impl.States(more, fun)
	if !ok {
		t.Fatalf("%s: States is false, of\n%s\nbut not of\n%s", why, toldOfCode(more), toldOfCode(less))
	}
	for at := range lessStates {
		if !moreReached[at] {
			continue
		}
		if !lessReached[at] || !hasMore(moreStates[at], lessStates[at]) {
			t.Fatalf("%s: at %d there is %s, without it %s (%v), of\n%s", why, at, toldOfState(moreStates[at]), toldOfState(lessStates[at]), lessReached[at], toldOfCode(more))
		}
	}
}

// The promise of States: what begins with more, or comes to a place from fewer sides, goes wherever the other goes.
func TestMoreAtTheBeginning(t *testing.T) {
	params, handlers := 0, 0
	for seed := range 8000 {
		d := dice{state: uint64(seed)*2654435761 + 163}
		x := d.flowImage(16 << (seed % 4))
		for fun, f := range x.Funcs {
			if fun > 0 && f.Params < min(f.Regs, 4) {
				params++
				checkMore(t, "one parameter more", changedImage(x, func(x *impl.Image) { x.Funcs[fun].Params++ }), x, fun)
			}
			for at := range f.Handlers {
				handlers++
				checkMore(t, "a Handler less", changedImage(x, func(x *impl.Image) { x.Funcs[fun].Handlers = slices.Delete(x.Funcs[fun].Handlers, at, at+1) }), x, fun)
			}
			for at, i := range f.Code {
				if i.Op == impl.InsIf || i.Op == impl.InsIfNot {
					checkMore(t, "a way less", changedImage(x, func(x *impl.Image) { x.Funcs[fun].Code[at] = insOf("print") }), x, fun)
				}
			}
		}
	}
	if params < 2000 || handlers < 2000 {
		t.Errorf("there are but %d and %d", params, handlers)
	}
}

// Ins in all places of small code: each two instructions, whatever they are, between what is sound.
func TestStatesOfEachTwo(t *testing.T) {
	all := insOfEach(2)
	for n, i := range all {
		for k, j := range all {
			if (n+k)%3 > 0 {
				continue
			}
			x := imageFrom(t, "0/2 {2-3>4}: const 0, put 0, const 0, const 0, const 0, return", "0/0 [r1]: const 0, return")
			x.Funcs[0].Code[2], x.Funcs[0].Code[3] = i, j
			checkVerify(t, x)
		}
	}
}

// roomyState: a state whose list has spare room behind it, filled; and the whole list.
func roomyState(told string) (impl.State, []int) {
	s := stateOf(told)
	whole := append(slices.Clone(s.Regs), 7, 8, 9)
	return impl.State{Acc: s.Acc, Regs: whole[:len(s.Regs)]}, whole
}

// spoilState writes into a state, and behind its list.
func spoilState(s impl.State) {
	for register := range s.Regs {
		s.Regs[register] = 5
	}
	_ = append(s.Regs, 5)
}

func TestJoinsAreNewMemory(t *testing.T) {
	for _, c := range [][2]string{{"vvcv", "vvcv"}, {"v-cv", "vvc"}, {"vv", "vvcv"}, {"-", "-vc"}, {"v", "v"}, {"c---", "cccc"}} {
		a, wholeA := roomyState(c[0])
		b, wholeB := roomyState(c[1])
		first := impl.Join(a, b)
		want := toldOfState(first)
		spoilState(first)
		second := impl.Join(a, b)
		for _, s := range []impl.State{impl.Join(a, a), impl.Join(b, a), impl.Join(impl.State{}, b), impl.Join(a, impl.State{})} {
			spoilState(s)
		}
		_, keptA := roomyState(c[0])
		_, keptB := roomyState(c[1])
		if !slices.Equal(wholeA, keptA) || !slices.Equal(wholeB, keptB) {
			t.Errorf("%s or %s was written into", c[0], c[1])
		}
		if toldOfState(second) != want {
			t.Errorf("the second answer is %s, want %s", toldOfState(second), want)
		}
	}
}

func TestStepsAreNewMemory(t *testing.T) {
	for _, told := range []string{"const 0", "get 0", "put 0", "put 2", "newcell 1", "getcell 2", "putcell 2", "putcap 0", "jump 0", "if 0", "fun 3", "call 0 0", "return", "print", "get 9", "not"} {
		for _, from := range []string{"vvvc", "-v-c", "----", "vvv", "vvvvv"} {
			given, toldOfAll := roomyImage(stepImage(t, told))
			before := toldOfAll()
			s, whole := roomyState(from)
			first, ok := impl.StepState(given, 1, 0, s)
			want := toldOfState(first)
			spoilState(first)
			if _, kept := roomyState(from); !slices.Equal(whole, kept) || toldOfAll() != before {
				t.Fatalf("%s of %s: what was given was written into", told, from)
			}
			second, again := impl.StepState(given, 1, 0, s)
			if ok != again || toldOfState(second) != want {
				t.Fatalf("%s of %s: the second answer is %s, %v, want %s, %v", told, from, toldOfState(second), again, want, ok)
			}
		}
	}
}

func TestStatesAreNewMemory(t *testing.T) {
	images := []impl.Image{
		imageFrom(t, "0/2: const 0, put 0, if 5, put 1, jump 0, return, return", "2/4 {0-2>2}: get 1, put 3, return"),
		compiled(t, parsedTree(t, `let a=1;let b="text";fun f(c,d){try{a=b;}catch e{c=d;(fun(){e;c;b;"text";});}}try{print f(0.1,true);}catch g{throw g;}while(a){if(b){return 1;}}`)),
		imageFrom(t, "0/0: return", "0/0: const 0"), severalFuncs(), greatestImage(), {},
	}
	for _, x := range images {
		given, toldOfAll := roomyImage(x)
		before := toldOfAll()
		verdict := impl.Verify(given)
		for fun := range x.Funcs {
			states, reached, ok := impl.States(given, fun)
			want := toldOfStates(states, reached, ok)
			for at := range states {
				// Those behind it are as they were, those ahead of it are spoiled.
				behind := toldOfStates(states[at+1:], reached[at+1:], ok)
				spoilState(states[at])
				if toldOfStates(states[at+1:], reached[at+1:], ok) != behind || at > 0 && slices.ContainsFunc(states[at-1].Regs, func(kind int) bool { return kind != 5 }) {
					t.Fatalf("the state at %d shares memory with others", at)
				}
			}
			clear(states)
			clear(reached)
			if toldOfAll() != before {
				t.Fatalf("%s was written into", toldOfImage(x))
			}
			for _, other := range images {
				impl.Verify(other)
				impl.States(other, 0)
			}
			if got := toldOfStates(impl.States(given, fun)); got != want {
				t.Fatalf("the second answer is %s, want %s", got, want)
			}
		}
		if impl.Verify(given) != verdict || toldOfAll() != before {
			t.Fatalf("%s: the second answer is another one", toldOfImage(x))
		}
	}
}

// The greatest images there may be end, too.
func TestVerifyOfGreatImages(t *testing.T) {
	x := greatestImage()
	checkVerify(t, x)
	for fun := range x.Funcs {
		x.Funcs[fun].Code = lossyLoop([]int{3, 1, 2}).Code
		for len(x.Funcs[fun].Code) < 300 {
			x.Funcs[fun].Code = append(x.Funcs[fun].Code, insOf("throw"))
		}
		x.Funcs[fun].Handlers = nil
		for at := range 40 {
			x.Funcs[fun].Handlers = append(x.Funcs[fun].Handlers, impl.Handler{From: at, To: 300, Target: 298 - at})
		}
	}
	if got := checkVerify(t, x); got != -1 {
		t.Errorf("Verify is %d", got)
	}
}
