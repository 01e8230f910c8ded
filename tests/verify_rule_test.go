package tests

import (
	"strings"

	"loop.example/g00115/impl"
)

// What the verifier says by other means: what an instruction wants and leaves stands in a table of words; the states of a
// Func are found without joining any, one thing (the accumulator, or a register) after the other, by looking for all
// places and kinds that are reached together.

// rulesOfOps: of each Op what it wants, and what it makes.
var rulesOfOps = map[string][2]string{
	"const":   {"A<consts", "acc:=value"},
	"get":     {"A=value", "acc:=value"},
	"put":     {"A<regs acc", "A:=value"},
	"newcell": {"A<regs acc", "A:=cell"},
	"getcell": {"A=cell", "acc:=value"},
	"putcell": {"A=cell acc", ""},
	"getcap":  {"A<caps", "acc:=value"},
	"putcap":  {"A<caps acc", ""},
	"binary":  {"A=op B=value acc", "acc:=value"},
	"not":     {"acc", "acc:=value"},
	"minus":   {"acc", "acc:=value"},
	"jump":    {"A<code", ""},
	"ifnot":   {"A<code acc", ""},
	"if":      {"A<code acc", ""},
	"fun":     {"A=func A=caps", "acc:=value"},
	"call":    {"A..=values", "acc:=value"},
	"return":  {"acc", ""},
	"throw":   {"acc", ""},
	"print":   {"acc", ""},
}

func ruleOf(i impl.Ins) [2]string { return rulesOfOps[wordsOfOps[i.Op-1]] }

// isKind: whether a register is there and of that kind.
func isKind(s impl.State, register int, kind int) bool {
	for i, was := range s.Regs {
		if i == register {
			return was == kind
		}
	}
	return false
}

func capsByRule(x impl.Image, f impl.Func, made int, s impl.State) bool {
	if made == 0 || made >= len(x.Funcs) {
		return false
	}
	for _, c := range x.Funcs[made].Caps {
		if c.Reg && !isKind(s, c.Index, 2) || !c.Reg && c.Index+1 > len(f.Caps) {
			return false
		}
	}
	return true
}

func valuesByRule(s impl.State, i impl.Ins) bool {
	count := 0
	for register, kind := range s.Regs {
		if i.A <= register && register <= i.A+i.B && kind == 1 {
			count++
		}
	}
	return count == i.B+1
}

// hasByRule: whether a state has one of the things that an instruction may want.
func hasByRule(x impl.Image, f impl.Func, i impl.Ins, s impl.State, wanted string) bool {
	switch wanted {
	case "acc":
		return s.Acc == 1
	case "A<consts":
		return i.A <= len(x.Consts)-1
	case "A<regs":
		return i.A <= f.Regs-1
	case "A<caps":
		return i.A <= len(f.Caps)-1
	case "A<code":
		return i.A <= len(f.Code)-1
	case "A=value":
		return isKind(s, i.A, 1)
	case "B=value":
		return isKind(s, i.B, 1)
	case "A=cell":
		return isKind(s, i.A, 2)
	case "A=op":
		return 1 <= i.A && i.A <= 11
	case "A=func":
		return 1 <= i.A && i.A <= len(x.Funcs)-1
	case "A=caps":
		return capsByRule(x, f, i.A, s)
	case "A..=values":
		return valuesByRule(s, i)
	}
	panic(wanted)
}

func wantsByRule(x impl.Image, f impl.Func, i impl.Ins, s impl.State) bool {
	for _, wanted := range strings.Fields(ruleOf(i)[0]) {
		if !hasByRule(x, f, i, s, wanted) {
			return false
		}
	}
	return true
}

// madeByRule: the kind that a thing (-1 the accumulator, else a register) has behind an instruction.
func madeByRule(i impl.Ins, thing int, kind int) int {
	switch made := ruleOf(i)[1]; {
	case made == "acc:=value" && thing == -1, made == "A:=value" && thing == i.A:
		return 1
	case made == "A:=cell" && thing == i.A:
		return 2
	}
	return kind
}

func kindIn(s impl.State, thing int) int {
	if thing == -1 {
		return s.Acc
	}
	return s.Regs[thing]
}

// stateByThings: a state of so many registers, each thing of it by itself.
func stateByThings(regs int, kindOf func(thing int) int) impl.State {
	s := impl.State{Acc: kindOf(-1)}
	for register := range regs {
		s.Regs = append(s.Regs, kindOf(register))
	}
	return s
}

func isPlace(place int, size int) bool { return place > -1 && place < size }

func stepByRule(x impl.Image, fun int, at int, s impl.State) (impl.State, bool) {
	if !imageByRule(x) || !isPlace(fun, len(x.Funcs)) || !isPlace(at, len(x.Funcs[fun].Code)) || x.Funcs[fun].Regs != len(s.Regs) {
		return impl.State{}, false
	}
	i := x.Funcs[fun].Code[at]
	if !wantsByRule(x, x.Funcs[fun], i, s) {
		return impl.State{}, false
	}
	return stateByThings(len(s.Regs), func(thing int) int { return madeByRule(i, thing, kindIn(s, thing)) }), true
}

func joinByRule(a impl.State, b impl.State) impl.State {
	long, short := a, b
	if len(long.Regs) < len(short.Regs) {
		long, short = short, long
	}
	return stateByThings(len(long.Regs), func(thing int) int {
		if thing >= len(short.Regs) || kindIn(long, thing) != kindIn(short, thing) {
			return 0
		}
		return kindIn(long, thing)
	})
}

// way: where an instruction may lead; thrown ones lead to a Handler's Target.
type way struct {
	to     int
	thrown bool
}

func waysByRule(f impl.Func, at int) []way {
	var ways []way
	switch i := f.Code[at]; wordsOfOps[i.Op-1] {
	case "jump":
		ways = append(ways, way{to: i.A})
	case "if", "ifnot":
		ways = append(ways, way{to: i.A}, way{to: at + 1})
	case "return", "throw":
	default:
		ways = append(ways, way{to: at + 1})
	}
	for _, h := range f.Handlers {
		for place := h.From; place < h.To; place++ {
			if place == at {
				ways = append(ways, way{to: h.Target, thrown: true})
			}
		}
	}
	return ways
}

// reachedByRule: the places that are reached, those beyond the code too, whatever the states.
func reachedByRule(f impl.Func) map[int]bool {
	seen := map[int]bool{0: true}
	for todo := []int{0}; len(todo) > 0; todo = todo[1:] {
		if todo[0] >= len(f.Code) {
			continue
		}
		for _, way := range waysByRule(f, todo[0]) {
			if !seen[way.to] {
				seen[way.to] = true
				todo = append(todo, way.to)
			}
		}
	}
	return seen
}

// met: a place, and a kind that one thing may have ahead of it.
type met struct{ place, kind int }

// metByRule: all that is met, with one thing, on all ways from the beginning on.
func metByRule(f impl.Func, thing int) map[met]bool {
	first := met{}
	if thing > -1 && thing < f.Params {
		first.kind = 1
	}
	seen := map[met]bool{first: true}
	for todo := []met{first}; len(todo) > 0; todo = todo[1:] {
		from := todo[0]
		if from.place >= len(f.Code) {
			continue
		}
		for _, way := range waysByRule(f, from.place) {
			next := met{way.to, madeByRule(f.Code[from.place], thing, from.kind)}
			if way.thrown {
				next.kind = from.kind
			}
			if way.thrown && thing == -1 {
				next.kind = 1
			}
			if !seen[next] {
				seen[next] = true
				todo = append(todo, next)
			}
		}
	}
	return seen
}

// onlyKind: the kind that a thing has on whatever way one comes to a place; 0 when there are several.
func onlyKind(seen map[met]bool, place int) int {
	kinds := []int{}
	for kind := range 3 {
		if seen[met{place, kind}] {
			kinds = append(kinds, kind)
		}
	}
	if len(kinds) == 1 {
		return kinds[0]
	}
	return 0
}

func statesByRule(x impl.Image, fun int) ([]impl.State, []bool, bool) {
	if !imageByRule(x) || !isPlace(fun, len(x.Funcs)) {
		return nil, nil, false
	}
	f := x.Funcs[fun]
	seen := reachedByRule(f)
	things := map[int]map[met]bool{}
	for thing := -1; thing < f.Regs; thing++ {
		things[thing] = metByRule(f, thing)
	}
	states, reached := make([]impl.State, len(f.Code)), make([]bool, len(f.Code))
	for place := range seen {
		if place >= len(f.Code) {
			return nil, nil, false
		}
		reached[place] = true
		states[place] = stateByThings(f.Regs, func(thing int) int { return onlyKind(things[thing], place) })
		if !wantsByRule(x, f, f.Code[place], states[place]) {
			return nil, nil, false
		}
	}
	return states, reached, true
}

func verifyByRule(x impl.Image) int {
	if !imageByRule(x) {
		return -2
	}
	for fun := range x.Funcs {
		if _, _, ok := statesByRule(x, fun); !ok {
			return fun
		}
	}
	return -1
}
