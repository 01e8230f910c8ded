package tests

import (
	"strings"

	"loop.example/g00115/impl"
)

// Walking by other means: a name is looked for along all that were told and may still be used, the last one first; what ends more
// than itself is a panic, which a call, a NodeTry's first block or the program recovers from; a function is one of Go. What is
// done to values is told by value_rule_test.go.

// bound: a variable, and those that were told ahead of it.
type bound struct {
	name  string
	value impl.Value
	ahead *bound
}

func (b *bound) find(name string) *bound {
	for b.name != name {
		b = b.ahead
	}
	return b
}

// leaving: what is panicked with.
type leaving struct {
	end   int
	value impl.Value
}

// stroll: one walk over a tree without faults.
type stroll struct {
	tree        []impl.Node
	fuel, going int
	log         []string
	functions   []func(handed []impl.Value) impl.Value
}

// leftBy: whether something was left with one of these Ends, and with which, and which value.
func leftBy(do func(), ends ...int) (left leaving, is bool) {
	defer func() {
		met := recover()
		for _, end := range ends {
			if by, ours := met.(leaving); ours && by.end == end {
				left, is = by, true
				return
			}
		}
		if met != nil {
			panic(met)
		}
	}()
	do()
	return leaving{}, false
}

func (s *stroll) burn() {
	if s.fuel--; s.fuel < 0 {
		s.fuel = 0
		panic(leaving{end: 3})
	}
}

func gotByRule(done doneToValues) impl.Value {
	if done.text != "" {
		panic(leaving{2, textOf(done.text)})
	}
	return done.value
}

func (s *stroll) value(at int, names *bound) impl.Value {
	node := s.tree[at]
	switch node.Kind {
	case impl.NodeNumber:
		return numOf(node.Num)
	case impl.NodeText:
		return textOf(node.Names[0])
	case impl.NodeTrue, impl.NodeFalse:
		return truthOf(node.Kind == impl.NodeTrue)
	case impl.NodeName:
		return names.find(node.Names[0]).value
	case impl.NodeNot:
		return truthOf(!trueByRule(s.value(node.A, names)))
	case impl.NodeMinus:
		return gotByRule(minusByRule(s.value(node.A, names)))
	case impl.NodeBinary:
		a := s.value(node.A, names)
		return gotByRule(binaryByRule(node.C, a, s.value(node.B, names)))
	case impl.NodeAnd, impl.NodeOr:
		if a := s.value(node.A, names); trueByRule(a) != (node.Kind == impl.NodeAnd) {
			return a
		}
		return s.value(node.B, names)
	case impl.NodeFun:
		return s.made(node, names)
	case impl.NodeCall:
		return s.called(node, names)
	}
	return impl.Value{}
}

func (s *stroll) made(node impl.Node, names *bound) impl.Value {
	return s.add(func(handed []impl.Value) {
		inner := names
		for i, name := range node.Names {
			inner = &bound{name: name, ahead: inner}
			for _, one := range handed[min(i, len(handed)):min(i+1, len(handed))] {
				inner.value = one
			}
		}
		s.block(node.A, inner)
	})
}

// add: a function that does this.
func (s *stroll) add(do func(handed []impl.Value)) impl.Value {
	s.functions = append(s.functions, func(handed []impl.Value) impl.Value {
		s.going++
		defer func() { s.going-- }()
		left, _ := leftBy(func() { do(handed) }, 1)
		return left.value
	})
	return funValue(len(s.functions) - 1)
}

func (s *stroll) called(node impl.Node, names *bound) impl.Value {
	all := []impl.Value{s.value(node.A, names)}
	for _, part := range node.List {
		all = append(all, s.value(part, names))
	}
	return s.entered(all)
}

// entered: a call of the first value, with the others.
func (s *stroll) entered(all []impl.Value) impl.Value {
	if all[0].Kind != 4 {
		panic(leaving{2, textOf("call")})
	}
	if s.burn(); s.going > 11 {
		panic(leaving{end: 4})
	}
	return s.functions[all[0].Ref](all[1:])
}

func (s *stroll) block(at int, names *bound) {
	for _, statement := range s.tree[at].List {
		names = s.statement(statement, names)
	}
}

// statement answers the names that may be used behind it.
func (s *stroll) statement(at int, names *bound) *bound {
	node := s.tree[at]
	switch node.Kind {
	case impl.NodeLet:
		if node.B == 0 {
			return &bound{node.Names[0], s.value(node.A, names), names}
		}
		names = &bound{name: node.Names[0], ahead: names}
		names.value = s.value(node.A, names)
	case impl.NodeSet:
		v := s.value(node.A, names)
		names.find(node.Names[0]).value = v
	case impl.NodePrint:
		s.print(shownValueByRule(s.value(node.A, names)))
	case impl.NodeReturn, impl.NodeThrow:
		panic(leaving{node.Kind - 24, s.value(node.A, names)})
	case impl.NodeExpr:
		s.value(node.A, names)
	case impl.NodeBlock:
		s.block(at, names)
	case impl.NodeIf:
		if trueByRule(s.value(node.A, names)) {
			s.block(node.B, names)
		} else if node.C >= 0 {
			s.statement(node.C, names)
		}
	case impl.NodeWhile:
		for ; trueByRule(s.value(node.A, names)); s.burn() {
			s.block(node.B, names)
		}
	case impl.NodeTry:
		if left, is := leftBy(func() { s.block(node.A, names) }, 2); is {
			s.block(node.B, &bound{node.Names[0], left.value, names})
		}
	}
	return names
}

func (s *stroll) print(text string) {
	if log := append(s.log, text); len(log) < 201 && len(strings.Join(log, "")) < 4001 {
		s.log = log
		return
	}
	panic(leaving{end: 3})
}

// strolledOver: what the program of a tree does, that is right and without faults.
func strolledOver(tree []impl.Node, fuel int) impl.Outcome {
	s := stroll{tree: tree, fuel: fuel}
	return s.outcome(func() { s.block(len(tree)-1, nil) })
}

// outcome: that of a program that does this.
func (s *stroll) outcome(do func()) impl.Outcome {
	left, is := leftBy(do, 1, 2, 3, 4, 5)
	if !is {
		left.end = 1
	}
	out := impl.Outcome{End: left.end, Log: s.log, Fuel: s.fuel}
	if left.end < 3 {
		out.Shown = shownValueByRule(left.value)
	}
	return out
}

func mayBeWalked(tree []impl.Node) bool { return treeByRule(tree) && scopesByRule(tree).fault == 0 }

func walkByRule(tree []impl.Node, fuel int) (impl.Outcome, bool) {
	if !mayBeWalked(tree) || fuel < 0 || fuel > 400 {
		return impl.Outcome{}, false
	}
	return strolledOver(tree, fuel), true
}
