package tests

import (
	"loop.example/g00115/impl"
)

// The machine by other means: a frame is a call of Go, whose things (the accumulator, -1, and the registers) stand in a map
// as values of Go, which are asked for by their type; what ends more than itself is a panic. Calls, fuel and the log are those
// of walk_rule_test.go, what is done to values is told by value_rule_test.go.

// cell: a variable that several frames may hold.
type cell struct{ value impl.Value }

// engine: one run of an image that is right.
type engine struct {
	stroll
	x impl.Image
	// seen: how often something was done, by its word.
	seen map[string]int
}

// things: what a frame has.
type things struct {
	f     impl.Func
	named map[int]any
	cells []*cell
}

func missing() { panic(leaving{end: 5}) }

// thingAt: the thing at this place, which is one of this type.
func thingAt[T any](h things, at int) T {
	thing, is := h.named[at].(T)
	if !is {
		missing()
	}
	return thing
}

// partAt: what stands at this place of a list.
func partAt[T any](list []T, at int) T {
	if !isPlace(at, len(list)) {
		missing()
	}
	return list[at]
}

func (h things) acc() impl.Value { return thingAt[impl.Value](h, -1) }

func (h things) put(register int, thing any) {
	if register >= h.f.Regs {
		missing()
	}
	h.named[register] = thing
}

// frame does the code of a Func.
func (e *engine) frame(f impl.Func, cells []*cell, handed []impl.Value) {
	h := things{f, map[int]any{}, cells}
	for i := range f.Params {
		h.named[i] = impl.Value{}
		if i < len(handed) {
			h.named[i] = handed[i]
		}
	}
	for at := 0; ; {
		next := at + 1
		left, thrown := leftBy(func() { next = e.step(h, at) }, 2)
		if thrown {
			e.seen["thrown"]++
			next = e.target(f, at, left)
			h.named[-1] = left.value
		}
		if next <= at {
			e.seen["back"]++
			e.burn()
		}
		at = next
	}
}

// target: where it is gone on behind a throw; if nowhere, it is thrown where the frame was called.
func (e *engine) target(f impl.Func, at int, left leaving) int {
	for _, h := range f.Handlers {
		for place := h.From; place < h.To; place++ {
			if place == at {
				e.seen["caught"]++
				return h.Target
			}
		}
	}
	panic(left)
}

func constByKind(c impl.Const) impl.Value {
	switch c.Kind {
	case 1:
		return numOf(c.Num)
	case 2:
		return textOf(c.Text)
	case 3, 4:
		return truthOf(c.Kind == 3)
	}
	return impl.Value{}
}

// step does an instruction, and answers the place that is next.
func (e *engine) step(h things, at int) int {
	i := partAt(h.f.Code, at)
	word := wordsOfOps[i.Op-1]
	e.seen[word]++
	switch word {
	case "return", "throw":
		panic(leaving{map[string]int{"return": 1, "throw": 2}[word], h.acc()})
	case "print":
		e.print(shownValueByRule(h.acc()))
	case "jump":
		return i.A
	case "if", "ifnot":
		if trueByRule(h.acc()) == (word == "if") {
			return i.A
		}
	case "put":
		h.put(i.A, h.acc())
	case "newcell":
		h.put(i.A, &cell{h.acc()})
	case "putcell":
		thingAt[*cell](h, i.A).value = h.acc()
	case "putcap":
		partAt(h.cells, i.A).value = h.acc()
	default:
		h.named[-1] = e.gives(h, word, i)
	}
	return at + 1
}

// gives: what an instruction gives.
func (e *engine) gives(h things, word string, i impl.Ins) impl.Value {
	switch word {
	case "const":
		return constByKind(partAt(e.x.Consts, i.A))
	case "get":
		return thingAt[impl.Value](h, i.A)
	case "getcell":
		return thingAt[*cell](h, i.A).value
	case "getcap":
		return partAt(h.cells, i.A).value
	case "binary":
		return gotByRule(binaryByRule(i.A, thingAt[impl.Value](h, i.B), h.acc()))
	case "not":
		return truthOf(!trueByRule(h.acc()))
	case "minus":
		return gotByRule(minusByRule(h.acc()))
	case "fun":
		return e.function(h, partAt(e.x.Funcs, i.A))
	}
	var all []impl.Value
	for register := i.A; register < i.A+i.B+1; register++ {
		all = append(all, thingAt[impl.Value](h, register))
	}
	return e.entered(all)
}

func (e *engine) function(h things, f impl.Func) impl.Value {
	var cells []*cell
	for _, c := range f.Caps {
		if c.Reg {
			cells = append(cells, thingAt[*cell](h, c.Index))
		} else {
			cells = append(cells, partAt(h.cells, c.Index))
		}
	}
	return e.add(func(handed []impl.Value) { e.frame(f, cells, handed) })
}

// ranByRule: what an image does that is right, and how often each word was done in it.
func ranByRule(x impl.Image, fuel int) (impl.Outcome, map[string]int) {
	e := engine{stroll: stroll{fuel: fuel}, x: x, seen: map[string]int{}}
	return e.outcome(func() { e.frame(x.Funcs[0], nil, nil) }), e.seen
}
