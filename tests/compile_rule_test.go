package tests

import (
	"slices"

	"loop.example/g00115/impl"
)

// Chapter 14 by other means: nothing is made in order. How long the code of each node is, and which register is free at its beginning,
// is worked out for all nodes at once; then each node writes its own instructions at their places.

// behindAll: the last number of a key, of what comes behind all parts of a node.
const behindAll = 1 << 30

// want: a constant, or a function, and the key of where it is wanted.
type want struct {
	key   []int
	node  int
	value impl.Const
}

// layout: what is known of each node of a tree without faults, ahead of its code.
type layout struct {
	tree   []impl.Node
	spots  []spot
	names  scopes
	sizes  []int
	begins []int
	// free is the first register that is free at each node's beginning.
	free []int
	// funs are the functions, the program being the first, by their numbers.
	funs   []int
	consts []impl.Const
}

func sortedWants(wants []want) []want {
	slices.SortFunc(wants, func(a want, b want) int { return slices.Compare(a.key, b.key) })
	return wants
}

func keyAt(key []int, number int) []int { return append(slices.Clone(key), number) }

// ownSize: how many instructions a node has of its own.
func ownSize(node impl.Node) int {
	switch node.Kind {
	case impl.NodeExpr, impl.NodeBlock:
		return 0
	case impl.NodeBinary, impl.NodeWhile, impl.NodeTry:
		return 2
	case impl.NodeCall:
		return 2 + len(node.List)
	case impl.NodeLet:
		return 1 + 2*node.B
	case impl.NodeIf:
		if node.C >= 0 {
			return 2
		}
	}
	return 1
}

// sharedParams: the registers of the parameters of a function that are shared.
func (l *layout) sharedParams(fun int) []int {
	var out []int
	register := 0
	for _, place := range l.names.places {
		if place.Let != fun {
			continue
		}
		if place.Shared {
			out = append(out, register)
		}
		register++
	}
	return out
}

// gapsOf: how many instructions of its own a node has ahead of each of its parts.
func gapsOf(node impl.Node) []int {
	switch node.Kind {
	case impl.NodeBinary, impl.NodeAnd, impl.NodeOr, impl.NodeWhile:
		return []int{0, 1}
	case impl.NodeIf:
		return []int{0, 1, 1}
	case impl.NodeTry:
		return []int{0, 2}
	case impl.NodeLet:
		return []int{2 * node.B}
	case impl.NodeCall:
		return append([]int{0}, slices.Repeat([]int{1}, len(node.List))...)
	}
	return make([]int, 1+len(node.List))
}

// takenOf: how many registers are taken, since a node's beginning, when each of its parts begins.
func (l *layout) takenOf(node impl.Node) []int {
	switch node.Kind {
	case impl.NodeBinary, impl.NodeTry:
		return []int{0, 1}
	case impl.NodeLet:
		return []int{node.B}
	case impl.NodeCall:
		out := []int{0}
		for i := range node.List {
			out = append(out, i+1)
		}
		return out
	case impl.NodeBlock:
		out, lets := []int{}, 0
		for _, statement := range node.List {
			out = append(out, lets)
			if l.tree[statement].Kind == impl.NodeLet {
				lets++
			}
		}
		return out
	}
	return make([]int, 3)
}

// layOut finds sizes from the first node on, beginnings and registers from the last one on.
func (l *layout) layOut() {
	for at, node := range l.tree {
		parts, _ := rolesOf(node)
		l.sizes[at] = ownSize(node)
		for _, part := range parts {
			if node.Kind != impl.NodeFun {
				l.sizes[at] += l.sizes[part]
			}
		}
	}
	for at := len(l.tree) - 1; at >= 0; at-- {
		node := l.tree[at]
		if node.Kind == impl.NodeFun {
			l.begins[node.A], l.free[node.A] = 2*len(l.sharedParams(at)), len(node.Names)
			continue
		}
		begin := l.begins[at]
		parts, _ := rolesOf(node)
		gaps, taken := gapsOf(node), l.takenOf(node)
		for i, part := range parts {
			begin += gaps[i]
			l.begins[part], l.free[part] = begin, l.free[at]+taken[i]
			begin += l.sizes[part]
		}
	}
}

// number puts functions and constants in the order of walking through.
func (l *layout) number() {
	none := impl.Const{Kind: 5}
	var funs, consts []want
	for at, node := range l.tree {
		key := l.spots[at].key
		switch kind := node.Kind; {
		case kind == impl.NodeNumber:
			consts = append(consts, want{key, at, impl.Const{Kind: 1, Num: node.Num}})
		case kind == impl.NodeText:
			consts = append(consts, want{key, at, impl.Const{Kind: 2, Text: node.Names[0]}})
		case kind == impl.NodeTrue || kind == impl.NodeFalse || kind == impl.NodeNone:
			consts = append(consts, want{key, at, impl.Const{Kind: kind}})
		case kind == impl.NodeLet && node.B == 1:
			consts = append(consts, want{key, at, none})
		}
		if node.Kind == impl.NodeFun || at == len(l.tree)-1 {
			funs = append(funs, want{key: key, node: at})
			consts = append(consts, want{keyAt(key, behindAll), at, none})
		}
	}
	for _, w := range sortedWants(consts) {
		if !slices.Contains(l.consts, w.value) {
			l.consts = append(l.consts, w.value)
		}
	}
	for _, w := range sortedWants(funs) {
		l.funs = append(l.funs, w.node)
	}
}

func (l *layout) constant(c impl.Const) impl.Ins {
	return impl.Ins{Op: impl.InsConst, A: slices.Index(l.consts, c)}
}

// register: that of a place, in the function that it is of.
func (l *layout) register(place int) int {
	told := l.names.places[place]
	if node := l.tree[told.Let]; node.Kind == impl.NodeFun {
		return slices.Index(node.Names, told.Name)
	}
	return l.free[told.Let]
}

// reaching: the instruction of three by which a node does something with its variable.
func (l *layout) reaching(at int, register int, cell int, capture int) impl.Ins {
	place, fun := l.names.of[at], lastOf(l.spots[at].funs)
	switch told := l.names.places[place]; {
	case told.Fun != fun:
		return impl.Ins{Op: capture, A: slices.Index(l.names.captures[fun], place)}
	case told.Shared:
		return impl.Ins{Op: cell, A: l.register(place)}
	}
	return impl.Ins{Op: register, A: l.register(place)}
}

func (l *layout) telling(at int) impl.Ins { return l.reaching(at, impl.InsPut, impl.InsNewCell, 0) }

func (l *layout) writing(at int) impl.Ins {
	return l.reaching(at, impl.InsPut, impl.InsPutCell, impl.InsPutCap)
}

// write puts a node's own instructions into the code of its function.
func (l *layout) write(code []impl.Ins, at int) {
	node, begin, free := l.tree[at], l.begins[at], l.free[at]
	end := begin + l.sizes[at]
	behind := func(part int) int { return l.begins[part] + l.sizes[part] }
	switch node.Kind {
	case impl.NodeNumber:
		code[begin] = l.constant(impl.Const{Kind: 1, Num: node.Num})
	case impl.NodeText:
		code[begin] = l.constant(impl.Const{Kind: 2, Text: node.Names[0]})
	case impl.NodeTrue, impl.NodeFalse, impl.NodeNone:
		code[begin] = l.constant(impl.Const{Kind: node.Kind})
	case impl.NodeName:
		code[begin] = l.reaching(at, impl.InsGet, impl.InsGetCell, impl.InsGetCap)
	case impl.NodeNot, impl.NodeMinus, impl.NodePrint, impl.NodeReturn, impl.NodeThrow:
		code[end-1] = impl.Ins{Op: map[int]int{7: 10, 8: 11, 22: 19, 25: 17, 26: 18}[node.Kind]}
	case impl.NodeBinary:
		code[behind(node.A)], code[end-1] = impl.Ins{Op: impl.InsPut, A: free}, impl.Ins{Op: impl.InsBinary, A: node.C, B: free}
	case impl.NodeAnd:
		code[behind(node.A)] = impl.Ins{Op: impl.InsIfNot, A: end}
	case impl.NodeOr:
		code[behind(node.A)] = impl.Ins{Op: impl.InsIf, A: end}
	case impl.NodeCall:
		for i, part := range append([]int{node.A}, node.List...) {
			code[behind(part)] = impl.Ins{Op: impl.InsPut, A: free + i}
		}
		code[end-1] = impl.Ins{Op: impl.InsCall, A: free, B: len(node.List)}
	case impl.NodeFun:
		code[begin] = impl.Ins{Op: impl.InsFun, A: slices.Index(l.funs, at)}
	case impl.NodeLet:
		code[end-1] = l.telling(at)
		if node.B == 1 {
			code[begin], code[begin+1], code[end-1] = l.constant(impl.Const{Kind: 5}), l.telling(at), l.writing(at)
		}
	case impl.NodeSet:
		code[end-1] = l.writing(at)
	case impl.NodeIf:
		code[behind(node.A)] = impl.Ins{Op: impl.InsIfNot, A: behind(node.B)}
		if node.C >= 0 {
			code[behind(node.A)], code[behind(node.B)] = impl.Ins{Op: impl.InsIfNot, A: l.begins[node.C]}, impl.Ins{Op: impl.InsJump, A: end}
		}
	case impl.NodeWhile:
		code[behind(node.A)], code[end-1] = impl.Ins{Op: impl.InsIfNot, A: end}, impl.Ins{Op: impl.InsJump, A: begin}
	case impl.NodeTry:
		code[behind(node.A)], code[behind(node.A)+1] = impl.Ins{Op: impl.InsJump, A: end}, l.telling(at)
	}
}

// most: the greatest that next was in a function.
func (l *layout) most(fun int, members []int) int {
	most := len(l.tree[fun].Names)
	for _, at := range members {
		taken := 0
		switch node := l.tree[at]; node.Kind {
		case impl.NodeBinary, impl.NodeLet, impl.NodeTry:
			taken = 1
		case impl.NodeCall:
			taken = 1 + len(node.List)
		}
		most = max(most, l.free[at]+taken)
	}
	return most
}

// handlersOf: those of a function, in the order of the ends of what is tried.
func (l *layout) handlersOf(members []int) []impl.Handler {
	var tries []want
	for _, at := range members {
		if l.tree[at].Kind == impl.NodeTry {
			tries = append(tries, want{key: keyAt(l.spots[at].key, 15), node: at})
		}
	}
	var out []impl.Handler
	for _, w := range sortedWants(tries) {
		node := l.tree[w.node]
		from := l.begins[node.A]
		to := from + l.sizes[node.A]
		out = append(out, impl.Handler{From: from, To: to, Target: to + 1})
	}
	return out
}

func (l *layout) capsOf(fun int) []impl.Cap {
	around := l.spots[fun].funs
	var out []impl.Cap
	for _, place := range l.names.captures[fun] {
		outer := around[len(around)-2]
		if l.names.places[place].Fun == outer {
			out = append(out, impl.Cap{Reg: true, Index: l.register(place)})
			continue
		}
		out = append(out, impl.Cap{Index: slices.Index(l.names.captures[outer], place)})
	}
	return out
}

func (l *layout) function(fun int) impl.Func {
	body, params := fun, 0
	if node := l.tree[fun]; node.Kind == impl.NodeFun {
		body, params = node.A, len(node.Names)
	}
	var members []int
	for at, s := range l.spots {
		around := s.funs
		// A NodeFun's own instruction is of the function around it.
		if l.tree[at].Kind == impl.NodeFun {
			around = around[:len(around)-1]
		}
		if lastOf(around) == fun {
			members = append(members, at)
		}
	}
	end := l.begins[body] + l.sizes[body]
	code := make([]impl.Ins, end+2)
	for i, register := range l.sharedParams(fun) {
		code[2*i], code[2*i+1] = impl.Ins{Op: impl.InsGet, A: register}, impl.Ins{Op: impl.InsNewCell, A: register}
	}
	for _, at := range members {
		l.write(code, at)
	}
	code[end], code[end+1] = l.constant(impl.Const{Kind: 5}), impl.Ins{Op: impl.InsReturn}
	return impl.Func{Params: params, Regs: l.most(fun, members), Caps: l.capsOf(fun), Code: code, Handlers: l.handlersOf(members)}
}

// imageOf: the image of a tree whose names are without faults, whatever its size.
func imageOf(tree []impl.Node, names scopes) impl.Image {
	l := layout{tree: tree, spots: spotsOf(tree), names: names, sizes: make([]int, len(tree)), begins: make([]int, len(tree)), free: make([]int, len(tree))}
	l.layOut()
	l.number()
	out := impl.Image{Consts: l.consts}
	for _, fun := range l.funs {
		out.Funcs = append(out.Funcs, l.function(fun))
	}
	return out
}

func compileByRule(tree []impl.Node) (impl.Image, int, int) {
	names := scopesByRule(tree)
	if names.fault != 0 {
		return impl.Image{}, names.fault, names.node
	}
	x := imageOf(tree, names)
	if !imageByRule(x) {
		return impl.Image{}, 3, 0
	}
	return x, 0, -1
}
