package tests

import (
	"fmt"
	"math"
	"regexp"
	"slices"
	"strings"
	"testing"

	"loop.example/g00115/impl"
)

// Promise 9: a right tree is right by itself; what spoils one part spoils it.

// partsOfKinds: what each Kind is made of, in the order A, B, C: e an expression, b a block, x a block, a NodeIf or none;
// behind a star what its List holds, s being a statement.
var partsOfKinds = map[int]string{
	1: "", 2: "", 3: "", 4: "", 5: "", 6: "", 7: "e", 8: "e", 9: "ee", 10: "ee", 11: "ee", 12: "e*e", 13: "b",
	20: "e", 21: "e", 22: "e", 23: "ebx", 24: "eb", 25: "e", 26: "e", 27: "bb", 28: "e", 29: "*s",
}

// namesOfKinds: of the Kinds that use Names, what these are: t a text, n a name, p parameters.
var namesOfKinds = map[int]string{2: "t", 6: "n", 13: "p", 20: "n", 21: "n", 27: "n"}

var nameForm = regexp.MustCompile(`^[A-Za-z_][A-Za-z_0-9]{0,11}$`)

var textForm = regexp.MustCompile(`^[ !#-~]{0,40}$`)

const farPlace = 1 << 40

// allKinds: every Kind of the document, ascending.
func allKinds() []int {
	return []int{1, 2, 3, 4, 5, 6, 7, 8, 9, 10, 11, 12, 13, 20, 21, 22, 23, 24, 25, 26, 27, 28, 29}
}

// rolesOf: for each part of a node, its number and what it is to be; f, a function, is what a NodeLet with B 1 has.
func rolesOf(node impl.Node) ([]int, string) {
	ahead, listed, _ := strings.Cut(partsOfKinds[node.Kind], "*")
	parts := []int{node.A, node.B, node.C}[:len(ahead)]
	if ahead == "ebx" && node.C == -1 {
		parts, ahead = parts[:2], "eb"
	}
	if node.Kind == impl.NodeLet && node.B == 1 {
		ahead = "f"
	}
	if listed == "" {
		return parts, ahead
	}
	return append(parts, node.List...), ahead + strings.Repeat(listed, len(node.List))
}

func roleAllows(role byte, kind int) bool {
	switch role {
	case 'e':
		return kind <= 13
	case 'b':
		return kind == 29
	case 'x':
		return kind == 29 || kind == 23
	case 'f':
		return kind == 13
	}
	return kind >= 20 && kind <= 28
}

func nameByRule(name string) bool {
	return nameForm.MatchString(name) && !slices.Contains(strings.Fields(wordsOfLanguage), name)
}

func namesByRule(node impl.Node) bool {
	switch namesOfKinds[node.Kind] {
	case "t":
		return len(node.Names) == 1 && textForm.MatchString(node.Names[0])
	case "n":
		return len(node.Names) == 1 && nameByRule(node.Names[0])
	case "p":
		return len(node.Names) <= 4 && !slices.ContainsFunc(node.Names, func(name string) bool { return !nameByRule(name) })
	}
	return len(node.Names) == 0
}

// fieldsByRule: whether a node has a Kind, and its fields, but for its parts, are as that asks.
func fieldsByRule(node impl.Node) bool {
	roles, known := partsOfKinds[node.Kind]
	if !known || node.At < 0 || node.At > 600 || !namesByRule(node) {
		return false
	}
	num := math.Float64frombits(node.Num)
	if node.Num != 0 && (node.Kind != 1 || math.IsNaN(num) || math.IsInf(num, 0) || math.Signbit(num)) {
		return false
	}
	ahead, listed, _ := strings.Cut(roles, "*")
	b := len(ahead) >= 2 || node.B == 0 || node.Kind == 20 && node.B == 1
	c := len(ahead) == 3 || node.C == 0
	if node.Kind == 9 {
		c = node.C >= 1 && node.C <= 11
	}
	return (ahead != "" || node.A == 0) && b && c && (listed != "" || len(node.List) == 0)
}

func treeByRule(tree []impl.Node) bool {
	if len(tree) < 1 || len(tree) > 300 || tree[len(tree)-1].Kind != 29 {
		return false
	}
	used := map[int]int{}
	for at, node := range tree {
		if !fieldsByRule(node) {
			return false
		}
		parts, roles := rolesOf(node)
		for i, part := range parts {
			if part < 0 || part >= at || !roleAllows(roles[i], tree[part].Kind) {
				return false
			}
			used[part]++
		}
	}
	for at := range tree[1:] {
		if used[at] != 1 {
			return false
		}
	}
	return true
}

// depthByRule goes up from each node to the last one, and counts.
func depthByRule(tree []impl.Node) int {
	above := make([]int, len(tree))
	for at, node := range tree {
		parts, _ := rolesOf(node)
		for _, part := range parts {
			above[part] = at
		}
	}
	depth := 0
	for from := range tree {
		steps := 1
		for at := from; at != len(tree)-1; at = above[at] {
			steps++
		}
		depth = max(depth, steps)
	}
	return depth
}

// toldWithoutAt: all of a tree in a text, but for At; lists that are nil and empty ones are told alike.
func toldWithoutAt(tree []impl.Node) string {
	var out strings.Builder
	for _, n := range tree {
		fmt.Fprintf(&out, "%d:%d %d %d %v %q %x;", n.Kind, n.A, n.B, n.C, n.List, n.Names, n.Num)
	}
	return out.String()
}

func copyOfTree(tree []impl.Node) []impl.Node {
	out := slices.Clone(tree)
	for i := range out {
		out[i].List = slices.Clone(out[i].List)
		out[i].Names = slices.Clone(out[i].Names)
	}
	return out
}

// checkTree holds TreeOk, DepthOf and SameTree against the rule, and answers whether the tree is right.
func checkTree(t *testing.T, tree []impl.Node) bool {
	t.Helper()
	want := treeByRule(tree)
	if got := impl.TreeOk(tree); got != want {
		t.Fatalf("TreeOk(%+v) = %v, want %v", tree, got, want)
	}
	depth := 0
	if want {
		depth = depthByRule(tree)
	}
	if got := impl.DepthOf(tree); got != depth {
		t.Fatalf("DepthOf(%+v) = %d, want %d", tree, got, depth)
	}
	if !impl.SameTree(tree, tree) {
		t.Fatalf("%+v is not the same as itself", tree)
	}
	return want
}

func checkRight(t *testing.T, tree []impl.Node) {
	t.Helper()
	if !checkTree(t, tree) {
		t.Errorf("%+v is not right", tree)
	}
}

func checkSpoiled(t *testing.T, tree []impl.Node) {
	t.Helper()
	if checkTree(t, tree) || impl.DepthOf(tree) != 0 {
		t.Errorf("%+v is right, or has a depth", tree)
	}
}

// maker puts nodes one behind the other.
type maker struct{ tree []impl.Node }

func (m *maker) put(node impl.Node) int {
	m.tree = append(m.tree, node)
	return len(m.tree) - 1
}

// join puts a node of a Kind that has these parts, and else the least that the Kind asks for.
func (m *maker) join(kind int, parts ...int) int {
	node := impl.Node{Kind: kind}
	switch namesOfKinds[kind] {
	case "t":
		node.Names = []string{"a text"}
	case "n":
		node.Names = []string{"x"}
	}
	if kind == impl.NodeBinary {
		node.C = impl.OpAdd
	}
	ahead, _, _ := strings.Cut(partsOfKinds[kind], "*")
	for i, field := range []*int{&node.A, &node.B, &node.C}[:len(ahead)] {
		*field = parts[i]
	}
	node.List = slices.Clone(parts[len(ahead):])
	return m.put(node)
}

// grow puts a node of a Kind, and ahead of it what it is made of; at the place slot of its parts stands one of the Kind other.
func (m *maker) grow(kind int, slot int, other int) int {
	usual := map[rune]int{'e': impl.NodeTrue, 'b': impl.NodeBlock, 'x': impl.NodeBlock, 's': impl.NodeExpr}
	var parts []int
	for i, role := range strings.ReplaceAll(partsOfKinds[kind], "*", "") {
		kindOfPart := usual[role]
		if i == slot {
			kindOfPart = other
		}
		if kind == impl.NodeBlock && slot < 0 {
			break
		}
		parts = append(parts, m.grow(kindOfPart, -1, 0))
	}
	return m.join(kind, parts...)
}

// closed puts behind what a node needs around it, up to the last block.
func (m *maker) closed(at int) []impl.Node {
	if m.tree[at].Kind < impl.NodeLet {
		at = m.join(impl.NodeExpr, at)
	}
	if m.tree[at].Kind != impl.NodeBlock {
		m.join(impl.NodeBlock, at)
	}
	return m.tree
}

// smallTree: the least tree with a node of a Kind, and that node's number.
func smallTree(kind int) ([]impl.Node, int) {
	var m maker
	at := m.grow(kind, -1, 0)
	return m.closed(at), at
}

// with: a copy of the tree, in which change was done to one node.
func with(tree []impl.Node, at int, change func(node *impl.Node)) []impl.Node {
	out := copyOfTree(tree)
	change(&out[at])
	return out
}

// knownTree: let n=3; fun f(a,b){return a<b;} if(f(n,4)){print "yes";}else if(!n){n=-n;} while(n){try{throw none;}catch e{}} as nodes in the order in which they end.
func knownTree() []impl.Node {
	name := func(name string, at int) impl.Node {
		return impl.Node{Kind: impl.NodeName, Names: []string{name}, At: at}
	}
	return []impl.Node{
		{Kind: impl.NodeNumber, Num: impl.FromInt(3), At: 6},
		{Kind: impl.NodeLet, Names: []string{"n"}, A: 0},
		name("a", 27), name("b", 29),
		{Kind: impl.NodeBinary, C: impl.OpLess, A: 2, B: 3, At: 28},
		{Kind: impl.NodeReturn, A: 4, At: 20},
		{Kind: impl.NodeBlock, List: []int{5}, At: 19},
		{Kind: impl.NodeFun, Names: []string{"a", "b"}, A: 6, At: 9},
		{Kind: impl.NodeLet, Names: []string{"f"}, A: 7, B: 1, At: 9},
		name("f", 36), name("n", 38),
		{Kind: impl.NodeNumber, Num: impl.FromInt(4), At: 40},
		{Kind: impl.NodeCall, A: 9, List: []int{10, 11}, At: 37},
		{Kind: impl.NodeText, Names: []string{"yes"}, At: 50},
		{Kind: impl.NodePrint, A: 13, At: 44},
		{Kind: impl.NodeBlock, List: []int{14}, At: 43},
		name("n", 66),
		{Kind: impl.NodeNot, A: 16, At: 65},
		name("n", 72),
		{Kind: impl.NodeMinus, A: 18, At: 71},
		{Kind: impl.NodeSet, Names: []string{"n"}, A: 19, At: 69},
		{Kind: impl.NodeBlock, List: []int{20}, At: 68},
		{Kind: impl.NodeIf, A: 17, B: 21, C: -1, At: 62},
		{Kind: impl.NodeIf, A: 12, B: 15, C: 22, At: 33},
		name("n", 82),
		{Kind: impl.NodeNone, At: 95},
		{Kind: impl.NodeThrow, A: 25, At: 89},
		{Kind: impl.NodeBlock, List: []int{26}, At: 88},
		{Kind: impl.NodeBlock, At: 108},
		{Kind: impl.NodeTry, A: 27, B: 28, Names: []string{"e"}, At: 85},
		{Kind: impl.NodeBlock, List: []int{29}, At: 84},
		{Kind: impl.NodeWhile, A: 24, B: 30, At: 76},
		{Kind: impl.NodeBlock, List: []int{1, 8, 23, 31}},
	}
}

// chainTree: a tree of so many nodes, each within the next one; at least 3.
func chainTree(count int) []impl.Node {
	var m maker
	at := m.join(impl.NodeTrue)
	for len(m.tree) < count-2 {
		at = m.join(impl.NodeNot+len(m.tree)%2, at)
	}
	return m.closed(at)
}

// callTree: a tree of so many nodes, all but four of which are handed in to one call.
func callTree(count int) []impl.Node {
	var m maker
	parts := []int{m.join(impl.NodeName)}
	for len(m.tree) < count-3 {
		parts = append(parts, m.join(impl.NodeNone))
	}
	return m.closed(m.join(impl.NodeCall, parts...))
}

// wideTree: a tree of so many nodes, an odd number, whose statements stand one behind the other.
func wideTree(count int) []impl.Node {
	var m maker
	var list []int
	for len(m.tree) < count-1 {
		list = append(list, m.join(impl.NodePrint, m.join(impl.NodeFalse)))
	}
	m.join(impl.NodeBlock, list...)
	return m.tree
}

// shrub makes trees by steps: what is not used yet stands in lists by what it may be.
type shrub struct {
	maker
	state                          uint64
	expressions, blocks, statement []int
}

func (s *shrub) below(n int) int {
	s.state ^= s.state << 13
	s.state ^= s.state >> 7
	s.state ^= s.state << 17
	return int(s.state % uint64(n))
}

func (s *shrub) take(list *[]int) int {
	i := s.below(len(*list))
	at := (*list)[i]
	*list = slices.Delete(*list, i, i+1)
	return at
}

// elseOr: a NodeIf that stands among the statements, if there is one, or else a block, or -1.
func (s *shrub) elseOr() int {
	i := slices.IndexFunc(s.statement, func(at int) bool { return s.tree[at].Kind == impl.NodeIf })
	switch {
	case i >= 0 && s.below(2) == 0:
		at := s.statement[i]
		s.statement = slices.Delete(s.statement, i, i+1)
		return at
	case len(s.blocks) > 0 && s.below(2) == 0:
		return s.take(&s.blocks)
	}
	return -1
}

func (s *shrub) keep(at int) {
	switch kind := s.tree[at].Kind; {
	case kind < impl.NodeLet:
		s.expressions = append(s.expressions, at)
	case kind == impl.NodeBlock:
		s.blocks = append(s.blocks, at)
	default:
		s.statement = append(s.statement, at)
	}
}

// step puts a node of the Kind, if what it is to be made of is there.
func (s *shrub) step(kind int) {
	roles := partsOfKinds[kind]
	if strings.Count(roles, "e") > len(s.expressions) || strings.Count(roles, "b") > len(s.blocks) {
		return
	}
	var parts []int
	for _, role := range strings.SplitN(roles, "*", 2)[0] {
		switch role {
		case 'e':
			parts = append(parts, s.take(&s.expressions))
		case 'b':
			parts = append(parts, s.take(&s.blocks))
		case 'x':
			parts = append(parts, s.elseOr())
		}
	}
	from := map[int]*[]int{impl.NodeCall: &s.expressions, impl.NodeBlock: &s.statement}[kind]
	for from != nil && len(*from) > 0 && s.below(4) > 0 {
		parts = append(parts, s.take(from))
	}
	at := s.join(kind, parts...)
	s.dress(&s.tree[at])
	s.keep(at)
}

// dress gives a node other numbers, names and places than the least ones.
func (s *shrub) dress(node *impl.Node) {
	names := []string{"a", "Z", "_", "x1", "long_name_12", "lets", "If"}
	node.At = s.below(601)
	switch node.Kind {
	case impl.NodeNumber:
		node.Num = s.state % impl.Infinite
	case impl.NodeText:
		node.Names = []string{strings.Repeat("~ !let", 6)[:s.below(37)]}
	case impl.NodeBinary:
		node.C = 1 + s.below(11)
	case impl.NodeLet:
		if s.tree[node.A].Kind == impl.NodeFun {
			node.B = s.below(2)
		}
	}
	switch namesOfKinds[node.Kind] {
	case "n":
		node.Names = []string{names[s.below(len(names))]}
	case "p":
		node.Names = slices.Clone(names[:s.below(5)])
	}
}

// open: how many nodes the tree has, once all that is not used is put in its last block.
func (s *shrub) open() int { return len(s.tree) + len(s.expressions) + 2*len(s.blocks) + 1 }

// treeBySteps: a tree of just so many nodes, at least 20, chosen by a seed.
func treeBySteps(count int, seed int) []impl.Node {
	s := shrub{state: uint64(seed)*2654435761 + 88172645463325252}
	for kinds := allKinds(); s.open() < count-8; {
		s.step(kinds[s.below(len(kinds))])
	}
	for len(s.blocks) > 0 {
		if len(s.expressions) == 0 {
			s.step(impl.NodeNone)
		}
		s.step(impl.NodeWhile)
	}
	s.step(impl.NodeFalse)
	for s.open() < count {
		s.step(impl.NodeMinus)
	}
	for len(s.expressions) > 0 {
		s.step(impl.NodeExpr)
	}
	s.join(impl.NodeBlock, s.statement...)
	return s.tree
}

func treesBySteps(counts ...int) [][]impl.Node {
	var out [][]impl.Node
	for i, count := range counts {
		out = append(out, treeBySteps(count, i))
	}
	return out
}

func someTrees() [][]impl.Node {
	out := [][]impl.Node{knownTree(), chainTree(3), chainTree(10), callTree(12), wideTree(11)}
	for _, kind := range allKinds() {
		tree, _ := smallTree(kind)
		out = append(out, tree)
	}
	return append(out, treesBySteps(20, 24, 28, 30, 32, 36, 40, 44, 50, 60)...)
}

func TestKindsAndLimitsOfTrees(t *testing.T) {
	kinds := []int{
		impl.NodeNumber, impl.NodeText, impl.NodeTrue, impl.NodeFalse, impl.NodeNone, impl.NodeName, impl.NodeNot, impl.NodeMinus, impl.NodeBinary, impl.NodeAnd, impl.NodeOr, impl.NodeCall, impl.NodeFun,
		impl.NodeLet, impl.NodeSet, impl.NodePrint, impl.NodeIf, impl.NodeWhile, impl.NodeReturn, impl.NodeThrow, impl.NodeTry, impl.NodeExpr, impl.NodeBlock,
	}
	if !slices.Equal(kinds, allKinds()) {
		t.Errorf("the kinds are %v", kinds)
	}
	ops := []int{impl.OpAdd, impl.OpSub, impl.OpMul, impl.OpDiv, impl.OpRem, impl.OpLess, impl.OpMost, impl.OpGreater, impl.OpLeast, impl.OpSame, impl.OpOther}
	if !slices.Equal(ops, []int{1, 2, 3, 4, 5, 6, 7, 8, 9, 10, 11}) || impl.MaxNodes != 300 {
		t.Errorf("the ops are %v, MaxNodes is %d", ops, impl.MaxNodes)
	}
}

func TestRightTreesOfEachKind(t *testing.T) {
	depths := map[int]int{1: 3, 2: 3, 3: 3, 4: 3, 5: 3, 6: 3, 7: 4, 8: 4, 9: 4, 10: 4, 11: 4, 12: 4, 13: 4, 20: 3, 21: 3, 22: 3, 23: 3, 24: 3, 25: 3, 26: 3, 27: 3, 28: 3, 29: 1}
	for _, kind := range allKinds() {
		tree, _ := smallTree(kind)
		checkRight(t, tree)
		if got := impl.DepthOf(tree); got != depths[kind] {
			t.Errorf("DepthOf(%+v) = %d, want %d", tree, got, depths[kind])
		}
	}
}

func TestTreesThatAreKnown(t *testing.T) {
	checkRight(t, knownTree())
	if got := impl.DepthOf(knownTree()); got != 7 {
		t.Errorf("the depth is %d", got)
	}
	for _, size := range []int{3, 4, 5, 50, 298, 299, 300} {
		checkRight(t, chainTree(size))
		if got := impl.DepthOf(chainTree(size)); len(chainTree(size)) != size || got != size {
			t.Errorf("a chain of %d nodes has the depth %d", size, got)
		}
	}
	for _, size := range []int{4, 5, 10, 11, 299, 300} {
		checkRight(t, callTree(size))
		if got := impl.DepthOf(callTree(size)); len(callTree(size)) != size || got != 4 {
			t.Errorf("a call of %d nodes has the depth %d", size, got)
		}
	}
	for _, size := range []int{3, 5, 299} {
		checkRight(t, wideTree(size))
		if got := impl.DepthOf(wideTree(size)); len(wideTree(size)) != size || got != 3 {
			t.Errorf("a list of %d nodes has the depth %d", size, got)
		}
	}
}

func TestTreesBySteps(t *testing.T) {
	kinds := map[int]int{}
	early := 0
	for seed := range 600 {
		tree := treeBySteps(20+seed%281, seed)
		if len(tree) != 20+seed%281 {
			t.Fatalf("%d nodes, want %d", len(tree), 20+seed%281)
		}
		checkRight(t, tree)
		for _, node := range tree {
			kinds[node.Kind]++
			if node.Kind == impl.NodeLet {
				early += node.B
			}
		}
	}
	if early < 50 {
		t.Errorf("there are but %d functions told with their names", early)
	}
	for _, kind := range allKinds() {
		if kinds[kind] < 100 {
			t.Errorf("there are but %d nodes of kind %d", kinds[kind], kind)
		}
	}
}

func TestTreesOfNoNodesAndOfOne(t *testing.T) {
	checkSpoiled(t, nil)
	checkSpoiled(t, []impl.Node{})
	checkRight(t, []impl.Node{{Kind: impl.NodeBlock}})
	checkRight(t, []impl.Node{{Kind: impl.NodeBlock, List: []int{}, Names: []string{}}})
	if got := impl.DepthOf([]impl.Node{{Kind: impl.NodeBlock}}); got != 1 {
		t.Errorf("a block has the depth %d", got)
	}
	for _, kind := range allKinds() {
		tree := []impl.Node{{Kind: kind}}
		if got := checkTree(t, tree); got != (kind == impl.NodeBlock) {
			t.Errorf("TreeOk(%+v) = %v", tree, got)
		}
	}
	checkSpoiled(t, []impl.Node{{Kind: impl.NodeBlock, List: []int{0}}})
	checkSpoiled(t, []impl.Node{{Kind: impl.NodeBlock, List: []int{-1}}})
	checkSpoiled(t, []impl.Node{{Kind: impl.NodeBlock, List: []int{1}}})
}

func TestTreesOfTooManyNodes(t *testing.T) {
	for _, tree := range append(treesBySteps(300, 300, 300, 300), chainTree(300), callTree(300)) {
		checkRight(t, tree)
	}
	for _, tree := range append(treesBySteps(301, 302, 303, 400, 600), chainTree(301), callTree(301), wideTree(301), chainTree(5000)) {
		checkSpoiled(t, tree)
	}
	checkSpoiled(t, make([]impl.Node, 301))
	checkSpoiled(t, slices.Repeat([]impl.Node{{Kind: impl.NodeBlock}}, 301))
}

func TestKindsThatAreNone(t *testing.T) {
	for kind := -3; kind < 300; kind++ {
		_, known := partsOfKinds[kind]
		alone := []impl.Node{{Kind: kind}, {Kind: impl.NodeExpr}, {Kind: impl.NodeBlock, List: []int{1}}}
		if got := checkTree(t, alone); got && (!known || kind > 5) {
			t.Errorf("TreeOk(%+v) = %v", alone, got)
		}
		if known {
			continue
		}
		checkSpoiled(t, []impl.Node{{Kind: kind}})
		for _, tree := range someTrees()[:20] {
			for at := range tree {
				checkSpoiled(t, with(tree, at, func(node *impl.Node) { node.Kind = kind }))
			}
		}
	}
	for _, kind := range []int{math.MinInt, math.MaxInt, -29, 1 << 32, 1<<32 + 29, 256 + 29} {
		checkSpoiled(t, []impl.Node{{Kind: kind}})
		checkSpoiled(t, []impl.Node{{Kind: kind}, {Kind: impl.NodeBlock, List: []int{0}}})
	}
}

// Another Kind spoils a tree, unless it asks for no more than what is there: behind each Kind stand those.
func TestOtherKinds(t *testing.T) {
	alike := map[int][]int{
		1: {1, 3, 4, 5}, 2: {2}, 3: {1, 3, 4, 5}, 4: {1, 3, 4, 5}, 5: {1, 3, 4, 5}, 6: {2, 6}, 7: {7, 8, 12}, 8: {7, 8, 12}, 9: {9}, 10: {10, 11}, 11: {10, 11}, 12: {12}, 13: {13},
		20: {20, 21}, 21: {20, 21}, 22: {22, 25, 26, 28}, 23: {23}, 24: {24}, 25: {22, 25, 26, 28}, 26: {22, 25, 26, 28}, 27: {27}, 28: {22, 25, 26, 28}, 29: {29},
	}
	for _, kind := range allKinds() {
		tree, at := smallTree(kind)
		for other := -1; other < 40; other++ {
			changed := with(tree, at, func(node *impl.Node) { node.Kind = other })
			if got := checkTree(t, changed); got != slices.Contains(alike[kind], other) {
				t.Errorf("TreeOk(%+v) = %v", changed, got)
			}
		}
	}
}

// Each field that a Kind does not use is set to something, one at a time.
func TestFieldsThatAreNotUsed(t *testing.T) {
	for _, kind := range allKinds() {
		tree, at := smallTree(kind)
		ahead, listed, _ := strings.Cut(partsOfKinds[kind], "*")
		for _, value := range []int{1, -1, 2, 3, at + 1, farPlace, -farPlace, math.MinInt, math.MaxInt} {
			if ahead == "" {
				checkSpoiled(t, with(tree, at, func(node *impl.Node) { node.A = value }))
			}
			if len(ahead) < 2 {
				checkSpoiled(t, with(tree, at, func(node *impl.Node) { node.B = value }))
			}
			if len(ahead) < 3 && kind != impl.NodeBinary {
				checkSpoiled(t, with(tree, at, func(node *impl.Node) { node.C = value }))
			}
			if listed == "" {
				checkSpoiled(t, with(tree, at, func(node *impl.Node) { node.List = []int{value} }))
			}
		}
		if listed == "" {
			checkSpoiled(t, with(tree, at, func(node *impl.Node) { node.List = []int{0} }))
			checkSpoiled(t, with(tree, at, func(node *impl.Node) { node.List = make([]int, 300) }))
		}
		if namesOfKinds[kind] == "" {
			checkSpoiled(t, with(tree, at, func(node *impl.Node) { node.Names = []string{""} }))
			checkSpoiled(t, with(tree, at, func(node *impl.Node) { node.Names = []string{"x"} }))
			checkSpoiled(t, with(tree, at, func(node *impl.Node) { node.Names = []string{"x", "y"} }))
		}
		for _, num := range []uint64{1, one, greatestFinite, impl.NaN, impl.Infinite, minusZero} {
			if kind != impl.NodeNumber {
				checkSpoiled(t, with(tree, at, func(node *impl.Node) { node.Num = num }))
			}
		}
		checkRight(t, with(tree, at, func(node *impl.Node) { node.List = append([]int{}, node.List...) }))
		checkRight(t, with(tree, at, func(node *impl.Node) { node.Names = append([]string{}, node.Names...) }))
	}
}

// setPart changes a part of a node, in the order in which they are told; nothing when it has fewer.
func setPart(node *impl.Node, slot int, value int) {
	ahead, _, _ := strings.Cut(partsOfKinds[node.Kind], "*")
	if slot < len(ahead) {
		*[]*int{&node.A, &node.B, &node.C}[slot] = value
		return
	}
	node.List[slot-len(ahead)] = value
}

func TestPartsThatStandElsewhere(t *testing.T) {
	for _, tree := range someTrees() {
		for at, node := range tree {
			parts, _ := rolesOf(node)
			for slot, part := range parts {
				for _, value := range []int{at, at + 1, len(tree) - 1, len(tree), len(tree) + 1, -1, -2, part - len(tree), part + 1<<32, math.MinInt, math.MaxInt} {
					checkSpoiled(t, with(tree, at, func(node *impl.Node) { setPart(node, slot, value) }))
				}
				// What another node uses, or nothing would use what it was.
				for value := range at {
					if value != part {
						checkSpoiled(t, with(tree, at, func(node *impl.Node) { setPart(node, slot, value) }))
					}
				}
			}
		}
	}
}

// Each part of each Kind is one of each Kind.
func TestPartsOfEachKind(t *testing.T) {
	for _, kind := range allKinds() {
		for slot, role := range strings.ReplaceAll(partsOfKinds[kind], "*", "") {
			for _, other := range allKinds() {
				var m maker
				tree := m.closed(m.grow(kind, slot, other))
				want := map[rune]bool{'e': other < 20, 'b': other == 29, 'x': other == 29 || other == 23, 's': other >= 20 && other < 29}[role]
				if got := checkTree(t, tree); got != want {
					t.Errorf("part %d of kind %d may be of kind %d: %v, want %v", slot, kind, other, got, want)
				}
			}
		}
	}
}

func TestElse(t *testing.T) {
	ifWith := func(other int) []impl.Node {
		return []impl.Node{
			{Kind: impl.NodeTrue}, {Kind: impl.NodeBlock}, {Kind: impl.NodeBlock}, {Kind: impl.NodeFalse}, {Kind: impl.NodeIf, A: 3, B: 2, C: -1},
			{Kind: impl.NodeIf, A: 0, B: 1, C: other}, {Kind: impl.NodeBlock, List: []int{5}},
		}
	}
	checkRight(t, ifWith(4))
	for other := -3; other < 9; other++ {
		if other != 4 {
			checkSpoiled(t, ifWith(other))
		}
	}
	both := ifWith(-1)
	both[6].List = []int{4, 5}
	checkRight(t, both)
	both[6].List = []int{5, 4}
	checkRight(t, both)
	both[5].C = 4
	checkSpoiled(t, both)
	block := []impl.Node{{Kind: impl.NodeTrue}, {Kind: impl.NodeBlock}, {Kind: impl.NodeBlock}, {Kind: impl.NodeIf, A: 0, B: 1, C: 2}, {Kind: impl.NodeBlock, List: []int{3}}}
	checkRight(t, block)
	block[3].B, block[3].C = 2, 1
	checkRight(t, block)
	block[3].C = 2
	checkSpoiled(t, block)
	block[3].C = -1
	checkSpoiled(t, block)
	// A part may be the node 0, whose number is what a field has that is not used.
	first := []impl.Node{{Kind: impl.NodeBlock}, {Kind: impl.NodeBlock}, {Kind: impl.NodeNone}, {Kind: impl.NodeIf, A: 2, B: 1, C: 0}, {Kind: impl.NodeBlock, List: []int{3}}}
	checkRight(t, first)
	first[3].C = -1
	checkSpoiled(t, first)
	none := []impl.Node{{Kind: impl.NodeNone}, {Kind: impl.NodeBlock}, {Kind: impl.NodeIf, A: 0, B: 1}, {Kind: impl.NodeBlock, List: []int{2}}}
	checkSpoiled(t, none)
	none[2].C = -1
	checkRight(t, none)
}

func TestNodesUsedTwice(t *testing.T) {
	byTwo := []impl.Node{{Kind: impl.NodeTrue}, {Kind: impl.NodePrint}, {Kind: impl.NodeExpr}, {Kind: impl.NodeBlock, List: []int{1, 2}}}
	checkSpoiled(t, byTwo)
	checkRight(t, []impl.Node{{Kind: impl.NodeTrue}, {Kind: impl.NodePrint}, {Kind: impl.NodeTrue}, {Kind: impl.NodeExpr, A: 2}, {Kind: impl.NodeBlock, List: []int{1, 3}}})
	for _, kind := range []int{impl.NodeBinary, impl.NodeAnd, impl.NodeOr, impl.NodeCall} {
		for spare := range 2 {
			var m maker
			first := m.join(impl.NodeNone)
			if spare > 0 {
				m.join(impl.NodeNone)
			}
			checkSpoiled(t, m.closed(m.join(kind, first, first)))
		}
	}
	twice := []impl.Node{{Kind: impl.NodeBlock}, {Kind: impl.NodeTry, Names: []string{"e"}}, {Kind: impl.NodeBlock, List: []int{1}}}
	checkSpoiled(t, twice)
	inList := []impl.Node{{Kind: impl.NodeTrue}, {Kind: impl.NodeThrow}, {Kind: impl.NodeBlock, List: []int{1, 1}}}
	checkSpoiled(t, inList)
	inList[2].List = []int{1}
	checkRight(t, inList)
	handed := []impl.Node{{Kind: impl.NodeName, Names: []string{"f"}}, {Kind: impl.NodeTrue}, {Kind: impl.NodeCall, List: []int{1, 1}}, {Kind: impl.NodeExpr, A: 2}, {Kind: impl.NodeBlock, List: []int{3}}}
	checkSpoiled(t, handed)
	handed[2].List = []int{1}
	checkRight(t, handed)
}

// As many uses as there are nodes to use are not enough: here one is used twice, and one by nothing.
func TestUsesThatAreEvenInNumber(t *testing.T) {
	tree := []impl.Node{{Kind: impl.NodeTrue}, {Kind: impl.NodeTrue}, {Kind: impl.NodeBinary, C: 1}, {Kind: impl.NodeExpr, A: 2}, {Kind: impl.NodeBlock, List: []int{3}}}
	checkSpoiled(t, tree)
	tree[2].A = 1
	checkRight(t, tree)
	tree[2].B = 1
	checkSpoiled(t, tree)
	for _, tree := range someTrees() {
		for at, node := range tree {
			for slot := range node.List {
				checkSpoiled(t, with(tree, at, func(node *impl.Node) { node.List = append(node.List, node.List[slot]) }))
				checkSpoiled(t, with(tree, at, func(node *impl.Node) { node.List = slices.Delete(node.List, slot, slot+1) }))
			}
		}
	}
}

func TestNodesThatNothingUses(t *testing.T) {
	for _, tree := range someTrees() {
		for _, kind := range []int{impl.NodeTrue, impl.NodeNumber, impl.NodeBlock} {
			for at := range len(tree) + 1 {
				more := copyOfTree(tree)
				for i := range more {
					parts, _ := rolesOf(more[i])
					for slot, part := range parts {
						if part >= at {
							setPart(&more[i], slot, part+1)
						}
					}
				}
				checkSpoiled(t, slices.Insert(more, at, impl.Node{Kind: kind}))
			}
		}
	}
}

func TestLastNodes(t *testing.T) {
	for _, tree := range someTrees() {
		for at := range tree {
			if got := checkTree(t, tree[:at]); got && tree[at-1].Kind != impl.NodeBlock {
				t.Errorf("%+v ends with no block", tree[:at])
			}
		}
		for _, kind := range allKinds() {
			if kind != impl.NodeBlock {
				checkSpoiled(t, with(tree, len(tree)-1, func(node *impl.Node) { node.Kind = kind }))
			}
		}
	}
	for _, kind := range allKinds()[:22] {
		var m maker
		m.grow(kind, -1, 0)
		checkSpoiled(t, m.tree)
	}
}

func namesThatAreRight() []string {
	return []string{
		"a", "z", "A", "Z", "_", "a0", "_9", "__", "a0123456789_", "abcdefghijkl", "ABCDEFGHIJKL", "____________", "m_N8", "lets", "Let", "LET", "le", "nones", "prin", "printf", "i", "iff", "fun1", "_if", "tru", "elseif", "e", "e1",
	}
}

func namesThatAreWrong() []string {
	out := []string{
		"", "0", "9", "1a", "0_", "abcdefghijklm", "_____________", "a0123456789_0", strings.Repeat("a", 300), "a b", " a", "a ", "a\n", "\n", "a-b", "-", "+", "a.b", "é", "aé", "\xff", "a\xff", "a\x00", "\x00", `"`, `"a"`, "a;", "ａ", "а", "١", "a١",
	}
	return append(out, strings.Fields(wordsOfLanguage)...)
}

func TestNamesInTrees(t *testing.T) {
	for _, kind := range []int{impl.NodeName, impl.NodeLet, impl.NodeSet, impl.NodeTry, impl.NodeFun} {
		tree, at := smallTree(kind)
		named := func(names ...string) []impl.Node {
			return with(tree, at, func(node *impl.Node) { node.Names = names })
		}
		for _, name := range namesThatAreRight() {
			checkRight(t, named(name))
		}
		for _, name := range namesThatAreWrong() {
			checkSpoiled(t, named(name))
		}
		for b := range 256 {
			piece := string([]byte{byte(b)})
			letter := b >= 'a' && b <= 'z' || b >= 'A' && b <= 'Z' || b == '_'
			if got := checkTree(t, named(piece)); got != letter {
				t.Errorf("%q is a name: %v", piece, got)
			}
			if got := checkTree(t, named("q"+piece)); got != (letter || b >= '0' && b <= '9') {
				t.Errorf("%q is a name: %v", "q"+piece, got)
			}
		}
		if kind != impl.NodeFun {
			checkSpoiled(t, named())
			checkSpoiled(t, named("x", "y"))
			checkSpoiled(t, named("x", "x"))
			checkSpoiled(t, named("x", ""))
			checkSpoiled(t, named("", "x"))
		}
	}
}

func TestParameters(t *testing.T) {
	tree, at := smallTree(impl.NodeFun)
	named := func(names ...string) []impl.Node {
		return with(tree, at, func(node *impl.Node) { node.Names = names })
	}
	four := []string{"a", "bc", "d_1", "abcdefghijkl"}
	for size := range 5 {
		checkRight(t, named(four[:size]...))
	}
	checkRight(t, named("a", "a", "a", "a"))
	checkSpoiled(t, named("a", "b", "c", "d", "e"))
	checkSpoiled(t, named("a", "b", "c", "d", ""))
	checkSpoiled(t, named("a", "b", "c", "d", "e", "f"))
	for slot := range four {
		for _, name := range namesThatAreWrong() {
			names := slices.Clone(four)
			names[slot] = name
			checkSpoiled(t, named(names...))
			checkSpoiled(t, named(names[:slot+1]...))
		}
	}
}

func TestTextsInTrees(t *testing.T) {
	tree, at := smallTree(impl.NodeText)
	named := func(names ...string) []impl.Node {
		return with(tree, at, func(node *impl.Node) { node.Names = names })
	}
	for size := range 60 {
		for _, piece := range []string{"a", " ", "~", "0", "'"} {
			if got := checkTree(t, named(strings.Repeat(piece, size))); got != (size <= 40) {
				t.Errorf("a text of %d bytes: %v", size, got)
			}
		}
	}
	for b := range 256 {
		piece := string([]byte{byte(b)})
		want := b >= 32 && b <= 126 && piece != `"`
		for _, text := range []string{piece, "a" + piece, piece + "a", strings.Repeat("x", 20) + piece + strings.Repeat("y", 19), piece + strings.Repeat("z", 39), strings.Repeat("z", 39) + piece} {
			if got := checkTree(t, named(text)); got != want {
				t.Errorf("%q: %v, want %v", text, got, want)
			}
		}
		checkSpoiled(t, named(strings.Repeat("x", 40)+piece))
	}
	for _, text := range append(strings.Fields(wordsOfLanguage), "", "0", "1a", "let x = 1;", `\n`, `\`, "'", "abcdefghijklm") {
		checkRight(t, named(text))
	}
	for _, text := range []string{`"`, `a"`, `"a"`, `\"`, "é", "a\n", "\t", "\x7f", "\x1f", "\x80", "日本", "\r\n", "\u00a0"} {
		checkSpoiled(t, named(text))
	}
	checkSpoiled(t, named())
	checkSpoiled(t, named("a", "b"))
	checkSpoiled(t, named("a", ""))
	checkSpoiled(t, named("", ""))
}

func TestFlagOfLet(t *testing.T) {
	for _, kind := range allKinds()[:13] {
		var m maker
		at := m.grow(impl.NodeLet, 0, kind)
		tree := m.closed(at)
		flagged := func(flag int) []impl.Node {
			return with(tree, at, func(node *impl.Node) { node.B = flag })
		}
		checkRight(t, flagged(0))
		if kind == impl.NodeFun {
			checkRight(t, flagged(1))
		} else {
			checkSpoiled(t, flagged(1))
		}
		for _, flag := range []int{-1, 2, 3, 256, 257, 1 << 32, 1<<32 + 1, math.MinInt, math.MaxInt} {
			checkSpoiled(t, flagged(flag))
		}
	}
}

// What is within the function, or around it, tells nothing of the flag: it is the NodeLet's own A that counts.
func TestFlagOfLetAsksForItsOwnValue(t *testing.T) {
	within := []impl.Node{
		{Kind: impl.NodeBlock}, {Kind: impl.NodeFun}, {Kind: impl.NodeCall, A: 1}, {Kind: impl.NodeLet, A: 2, Names: []string{"x"}}, {Kind: impl.NodeBlock, List: []int{3}},
		{Kind: impl.NodeFun, A: 4}, {Kind: impl.NodeLet, A: 5, Names: []string{"f"}}, {Kind: impl.NodeBlock, List: []int{6}},
	}
	setFlag := func(node *impl.Node) { node.B = 1 }
	checkRight(t, within)
	checkRight(t, with(within, 6, setFlag))
	checkSpoiled(t, with(within, 3, setFlag))
	checkSpoiled(t, with(with(within, 3, setFlag), 6, setFlag))
	for at := range within {
		if at != 6 {
			checkSpoiled(t, with(within, at, setFlag))
		}
	}
}

func TestOps(t *testing.T) {
	tree, at := smallTree(impl.NodeBinary)
	for op := -20; op < 40; op++ {
		if got := checkTree(t, with(tree, at, func(node *impl.Node) { node.C = op })); got != (op >= 1 && op <= 11) {
			t.Errorf("op %d: %v", op, got)
		}
	}
	for _, op := range []int{math.MinInt, math.MaxInt, 1<<32 + 1, 257} {
		checkSpoiled(t, with(tree, at, func(node *impl.Node) { node.C = op }))
	}
}

func TestNumbersInTrees(t *testing.T) {
	tree, at := smallTree(impl.NodeNumber)
	holds := func(num uint64) []impl.Node {
		return with(tree, at, func(node *impl.Node) { node.Num = num })
	}
	for _, num := range []uint64{0, 1, leastWithE1 - 1, leastWithE1, one, twoTo970, justWhole, greatestFinite - 1, greatestFinite} {
		checkRight(t, holds(num))
		checkSpoiled(t, holds(signOfNumber+num))
	}
	for _, num := range slices.Concat(numbersThatAreNone(), bothInfinite(), []uint64{minusZero, math.MaxUint64, impl.Infinite + 1, signOfNumber - 1}) {
		checkSpoiled(t, holds(num))
	}
	for _, num := range append(numbersOfEachKind(), numbersBySteps(3000)...) {
		parts := impl.PartsOfNumber(num)
		want := !parts.Below && (parts.Kind == impl.KindZero || parts.Kind == impl.KindFinite)
		if got := checkTree(t, holds(num)); got != want {
			t.Errorf("the number %x: %v, want %v", num, got, want)
		}
	}
}

func TestPlacesInTrees(t *testing.T) {
	for _, tree := range someTrees()[:28] {
		for at := range tree {
			for _, place := range []int{0, 1, 300, 599, 600} {
				checkRight(t, with(tree, at, func(node *impl.Node) { node.At = place }))
			}
			for _, place := range []int{-1, 601, 602, 1 << 32, math.MinInt, math.MaxInt} {
				checkSpoiled(t, with(tree, at, func(node *impl.Node) { node.At = place }))
			}
		}
	}
}

// spoilers: changes of one node, most of which spoil a tree.
func spoilers() []func(node *impl.Node) {
	var out []func(node *impl.Node)
	for _, value := range []int{-1, 0, 1, 2, 5, 11, 12, 300} {
		out = append(out,
			func(node *impl.Node) { node.A = value }, func(node *impl.Node) { node.B = value }, func(node *impl.Node) { node.C = value },
			func(node *impl.Node) { node.A += value }, func(node *impl.Node) { node.B -= value }, func(node *impl.Node) { node.C += value },
			func(node *impl.Node) { node.List = append(node.List, value) }, func(node *impl.Node) { node.List = []int{value} },
			func(node *impl.Node) { node.Kind += value }, func(node *impl.Node) { node.Num += uint64(value) }, func(node *impl.Node) { node.At = value },
		)
	}
	return append(out,
		func(node *impl.Node) { node.List = nil }, func(node *impl.Node) { node.Names = nil }, func(node *impl.Node) { slices.Reverse(node.List) }, func(node *impl.Node) { slices.Reverse(node.Names) },
		func(node *impl.Node) { node.Names = append(node.Names, "q") }, func(node *impl.Node) { node.Names = []string{"if"} }, func(node *impl.Node) { node.Names = []string{"ok"} },
		func(node *impl.Node) { node.A, node.B = node.B, node.A }, func(node *impl.Node) { node.B, node.C = node.C, node.B }, func(node *impl.Node) { *node = impl.Node{} },
	)
}

// Whatever is changed in one node, the tree is right by the rule, or it is not; and it is the same tree only where no more than At was changed.
func TestOneChangeInATree(t *testing.T) {
	for _, tree := range someTrees() {
		told := toldWithoutAt(tree)
		for at := range tree {
			for _, spoil := range spoilers() {
				changed := with(tree, at, spoil)
				checkTree(t, changed)
				checkSame(t, tree, changed, told == toldWithoutAt(changed))
			}
		}
	}
}

func TestNodesChangedByPlace(t *testing.T) {
	for _, tree := range someTrees() {
		told := toldWithoutAt(tree)
		for i := range tree {
			for j := range i {
				swapped := copyOfTree(tree)
				swapped[i], swapped[j] = swapped[j], swapped[i]
				checkTree(t, swapped)
				checkSame(t, tree, swapped, told == toldWithoutAt(swapped))
			}
			checkTree(t, slices.Delete(copyOfTree(tree), i, i+1))
			checkTree(t, slices.Insert(copyOfTree(tree), i, tree[i]))
		}
	}
}

func checkSame(t *testing.T, a []impl.Node, b []impl.Node, want bool) {
	t.Helper()
	if impl.SameTree(a, b) != want || impl.SameTree(b, a) != want {
		t.Fatalf("SameTree(%+v, %+v) is not %v from both sides", a, b, want)
	}
}

func TestSameTreeButForPlaces(t *testing.T) {
	for _, tree := range append(someTrees(), treesBySteps(300, 299, 100)...) {
		moved := copyOfTree(tree)
		checkSame(t, tree, moved, true)
		for i := range moved {
			moved[i].At = (moved[i].At*7 + i + 1) % 601
		}
		checkSame(t, tree, moved, true)
		for i := range moved {
			moved[i].At = -i
			moved[i].List = append([]int{}, moved[i].List...)
			moved[i].Names = append([]string{}, moved[i].Names...)
		}
		checkSame(t, tree, moved, true)
	}
}

func TestSameTreeOfTreesThatDiffer(t *testing.T) {
	base := impl.Node{Kind: 7, A: 1, B: 2, C: 3, List: []int{4, 5}, Names: []string{"six", "seven"}, Num: 8, At: 9}
	changes := []func(node *impl.Node){
		func(node *impl.Node) { node.Kind++ }, func(node *impl.Node) { node.A++ }, func(node *impl.Node) { node.B++ }, func(node *impl.Node) { node.C++ }, func(node *impl.Node) { node.Num++ },
		func(node *impl.Node) { node.List[0]++ }, func(node *impl.Node) { node.List[1]-- }, func(node *impl.Node) { node.List = node.List[:1] }, func(node *impl.Node) { node.List = nil },
		func(node *impl.Node) { node.List = append(node.List, 0) }, func(node *impl.Node) { slices.Reverse(node.List) },
		func(node *impl.Node) { node.Names[0] = "Six" }, func(node *impl.Node) { node.Names[1] += "\x00" }, func(node *impl.Node) { node.Names[1] = "" }, func(node *impl.Node) { node.Names = node.Names[:1] }, func(node *impl.Node) { node.Names = nil },
		func(node *impl.Node) { node.Names = append(node.Names, "") }, func(node *impl.Node) { slices.Reverse(node.Names) }, func(node *impl.Node) { node.Names = []string{"sixs", "even"} },
		func(node *impl.Node) { node.A, node.B = node.B, node.A }, func(node *impl.Node) { node.B, node.C = node.C, node.B }, func(node *impl.Node) { node.Num += 1 << 63 }, func(node *impl.Node) { node.A += 1 << 32 }, func(node *impl.Node) { *node = impl.Node{} },
	}
	for size := 1; size < 6; size++ {
		tree := copyOfTree(slices.Repeat([]impl.Node{base}, size))
		checkSame(t, tree, copyOfTree(tree), true)
		for at := range tree {
			for i, change := range changes {
				if changed := with(tree, at, change); impl.SameTree(tree, changed) || impl.SameTree(changed, tree) {
					t.Errorf("change %d in node %d of %d is not seen", i, at, size)
				}
			}
		}
		checkSame(t, tree, tree[:size-1], false)
		checkSame(t, tree, append(copyOfTree(tree), base), false)
		checkSame(t, tree, nil, false)
	}
	checkSame(t, nil, nil, true)
	checkSame(t, nil, []impl.Node{}, true)
	checkSame(t, nil, []impl.Node{{}}, false)
	checkSame(t, []impl.Node{{}}, []impl.Node{{At: 5, List: []int{}, Names: []string{}}}, true)
	checkSame(t, make([]impl.Node, 400), make([]impl.Node, 400), true)
	checkSame(t, make([]impl.Node, 400), make([]impl.Node, 401), false)
	// Zeros of two signs are the same number, but not the same bits; NaN is the same as itself here.
	checkSame(t, []impl.Node{{Kind: 1}}, []impl.Node{{Kind: 1, Num: minusZero}}, false)
	checkSame(t, []impl.Node{{Kind: 1, Num: impl.NaN}}, []impl.Node{{Kind: 1, Num: impl.NaN}}, true)
}

// Trees that differ are told apart, two by two.
func TestSameTreeTwoByTwo(t *testing.T) {
	trees := append(someTrees(), nil, []impl.Node{{}}, []impl.Node{{}, {}})
	for i, a := range trees {
		for j, b := range trees {
			checkSame(t, a, b, toldWithoutAt(a) == toldWithoutAt(b))
			if i == j {
				checkSame(t, a, copyOfTree(b), true)
			}
		}
	}
}

// roomy: a copy of the tree with spare room behind it and behind its lists, filled; and what tells whether any of it was written into.
func roomy(tree []impl.Node) ([]impl.Node, func() string) {
	whole := append(copyOfTree(tree), impl.Node{Kind: -7, A: -8, At: -9}, impl.Node{Kind: -10})
	var lists [][]int
	var names [][]string
	for i := range tree {
		list := append(slices.Clone(tree[i].List), -11, -12)
		words := append(slices.Clone(tree[i].Names), "spare", "room")
		lists, names = append(lists, list), append(names, words)
		whole[i].List, whole[i].Names = list[:len(list)-2], words[:len(words)-2]
	}
	return whole[:len(tree)], func() string { return fmt.Sprintf("%+v %v %q", whole, lists, names) }
}

func TestTreesAreNotChanged(t *testing.T) {
	for _, tree := range someTrees() {
		for at := range tree {
			for _, spoil := range append(spoilers()[:3], func(node *impl.Node) {}) {
				given, told := roomy(with(tree, at, spoil))
				other, otherTold := roomy(tree)
				before, otherBefore := told(), otherTold()
				ok, depth, same := impl.TreeOk(given), impl.DepthOf(given), impl.SameTree(given, other)
				if told() != before || otherTold() != otherBefore {
					t.Fatalf("%+v was written into", given)
				}
				if impl.TreeOk(given) != ok || impl.DepthOf(given) != depth || impl.SameTree(given, other) != same {
					t.Fatalf("%+v: the second answer is another one", given)
				}
			}
		}
	}
}
