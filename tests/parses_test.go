package tests

import (
	"fmt"
	"reflect"
	"slices"
	"strings"
	"testing"

	"loop.example/g00115/impl"
)

// Promise 10: a program that is parsed is a right tree; its fault is within it.

const (
	infiniteNumber = "1e309"
	fortyBytes     = "forty bytes (let x = 1;) // { & } - ok!!"
)

// toldWithAt: all of a tree in a text; lists that are nil and empty ones are told alike.
func toldWithAt(tree []impl.Node) string {
	var out strings.Builder
	for i, n := range tree {
		fmt.Fprintf(&out, "%d: kind %d, %d %d %d %v %q %x at %d\n", i, n.Kind, n.A, n.B, n.C, n.List, n.Names, n.Num, n.At)
	}
	return out.String()
}

// checkParse holds Parse against the rule and the promise, and answers the tree.
func checkParse(t *testing.T, source string) []impl.Node {
	t.Helper()
	got, fault := impl.Parse(source)
	want, wantFault := parseByRule(source)
	if fault != wantFault || toldWithAt(got) != toldWithAt(want) {
		t.Fatalf("Parse(%q) =\n%s%d, want\n%s%d", source, toldWithAt(got), fault, toldWithAt(want), wantFault)
	}
	if fault != -1 {
		if len(got) > 0 || fault < 0 || fault > len(source) {
			t.Fatalf("Parse(%q) has a tree beside a fault, or its fault, %d, is not within it", source, fault)
		}
		return nil
	}
	if !impl.TreeOk(got) {
		t.Fatalf("Parse(%q) is no right tree:\n%s", source, toldWithAt(got))
	}
	checkPlaces(t, source, got)
	return got
}

// signOfNode: what stands where a node has its place; nothing of those that begin with whatever their value begins with.
func signOfNode(node impl.Node) string {
	switch node.Kind {
	case impl.NodeName, impl.NodeSet:
		return node.Names[0]
	case impl.NodeText:
		return `"` + node.Names[0] + `"`
	case impl.NodeBinary:
		return []string{"", "+", "-", "*", "/", "%", "<", "<=", ">", ">=", "==", "!="}[node.C]
	case impl.NodeLet:
		return []string{"let", "fun"}[node.B]
	}
	return map[int]string{
		impl.NodeTrue: "true", impl.NodeFalse: "false", impl.NodeNone: "none", impl.NodeNot: "!", impl.NodeMinus: "-", impl.NodeAnd: "&&", impl.NodeOr: "||", impl.NodeCall: "(", impl.NodeFun: "fun", impl.NodeBlock: "{",
		impl.NodePrint: "print", impl.NodeIf: "if", impl.NodeWhile: "while", impl.NodeReturn: "return", impl.NodeThrow: "throw", impl.NodeTry: "try",
	}[node.Kind]
}

// checkPlaces: each node's place is within the source, and what makes one of its Kind begins there; the last one's is 0.
func checkPlaces(t *testing.T, source string, tree []impl.Node) {
	t.Helper()
	last := len(tree) - 1
	if tree[last].At != 0 {
		t.Fatalf("%q: the program's block is at %d", source, tree[last].At)
	}
	for _, node := range tree[:last] {
		if node.At < 0 || node.At >= len(source) || !strings.HasPrefix(source[node.At:], signOfNode(node)) {
			t.Fatalf("%q: %+v is not made by what stands there", source, node)
		}
	}
}

func checkParsed(t *testing.T, source string) []impl.Node {
	t.Helper()
	tree := checkParse(t, source)
	if _, fault := impl.Parse(source); fault != -1 {
		t.Errorf("Parse(%q) has a fault at %d", source, fault)
	}
	return tree
}

func checkParseFault(t *testing.T, source string, want int) {
	t.Helper()
	if got, fault := impl.Parse(source); fault != want || len(got) > 0 {
		t.Errorf("Parse(%q) = %+v, %d, want nothing, %d", source, got, fault, want)
	}
	checkParse(t, source)
}

// checkFaultBefore: the fault is where the `@`, which is taken out, stands.
func checkFaultBefore(t *testing.T, marked string) {
	t.Helper()
	ahead, behind, found := strings.Cut(marked, "@")
	if !found {
		t.Fatalf("%q tells no place", marked)
	}
	checkParseFault(t, ahead+behind, len(ahead))
}

func checkNodes(t *testing.T, source string, want ...impl.Node) {
	t.Helper()
	got, fault := impl.Parse(source)
	if fault != -1 || toldWithAt(got) != toldWithAt(want) {
		t.Errorf("Parse(%q) =\n%s%d, want\n%s-1", source, toldWithAt(got), fault, toldWithAt(want))
	}
	checkParse(t, source)
}

// shapeOf: a node of a tree in a text, which tells what is made of what.
func shapeOf(tree []impl.Node, at int) string {
	node := tree[at]
	part := func(at int) string { return shapeOf(tree, at) }
	both := func(mark string) string { return "(" + mark + " " + part(node.A) + " " + part(node.B) + ")" }
	words := map[int]string{impl.NodeTrue: "true", impl.NodeFalse: "false", impl.NodeNone: "none", impl.NodePrint: "print ", impl.NodeReturn: "return ", impl.NodeThrow: "throw ", impl.NodeExpr: "do "}
	switch node.Kind {
	case impl.NodeNumber:
		return impl.ShowNumber(node.Num)
	case impl.NodeText:
		return `"` + node.Names[0] + `"`
	case impl.NodeTrue, impl.NodeFalse, impl.NodeNone:
		return words[node.Kind]
	case impl.NodeName:
		return node.Names[0]
	case impl.NodeNot:
		return "(! " + part(node.A) + ")"
	case impl.NodeMinus:
		return "(- " + part(node.A) + ")"
	case impl.NodeBinary:
		return both(signOfNode(node))
	case impl.NodeAnd:
		return both("&&")
	case impl.NodeOr:
		return both("||")
	case impl.NodeCall:
		return "(call " + part(node.A) + shapesOf(tree, node.List) + ")"
	case impl.NodeFun:
		return "(fun " + strings.Join(append(node.Names, part(node.A)), " ") + ")"
	case impl.NodeLet:
		return strings.Repeat("early ", node.B) + "let " + node.Names[0] + " " + part(node.A)
	case impl.NodeSet:
		return "set " + node.Names[0] + " " + part(node.A)
	case impl.NodePrint, impl.NodeReturn, impl.NodeThrow, impl.NodeExpr:
		return words[node.Kind] + part(node.A)
	case impl.NodeIf:
		if node.C == -1 {
			return "if " + part(node.A) + " " + part(node.B)
		}
		return "if " + part(node.A) + " " + part(node.B) + " else " + part(node.C)
	case impl.NodeWhile:
		return "while " + part(node.A) + " " + part(node.B)
	case impl.NodeTry:
		return "try " + part(node.A) + " " + node.Names[0] + " " + part(node.B)
	}
	return "{" + shapesOf(tree, node.List) + " }"
}

func shapesOf(tree []impl.Node, list []int) string {
	out := ""
	for _, at := range list {
		out += " " + shapeOf(tree, at)
	}
	return out
}

// checkShape: whether the program's statements are such.
func checkShape(t *testing.T, source string, want string) {
	t.Helper()
	tree := checkParsed(t, source)
	if len(tree) == 0 {
		return
	}
	if got := shapeOf(tree, len(tree)-1); got != "{ "+want+" }" {
		t.Errorf("Parse(%q) is %s, want { %s }", source, got, want)
	}
}

// checkShapeOfE: whether an E is such.
func checkShapeOfE(t *testing.T, e string, want string) {
	t.Helper()
	checkShape(t, "print "+e+";", "print "+want)
}

func nameNode(name string, at int) impl.Node {
	return impl.Node{Kind: impl.NodeName, Names: []string{name}, At: at}
}

func numberNode(n int, at int) impl.Node {
	return impl.Node{Kind: impl.NodeNumber, Num: impl.FromInt(n), At: at}
}

func programOf(list ...int) impl.Node { return impl.Node{Kind: impl.NodeBlock, List: list} }

// statementsOfChapter: each statement that the chapter names, in words of its own tokens.
func statementsOfChapter() []string {
	return []string{
		"let a = 1 ;", "a = 1 ;", "print 1 ;", "if ( a ) { }", "if ( a ) { } else { }", "if ( a ) { } else if ( b ) { }", "if ( a ) { } else if ( b ) { } else { }",
		"while ( a ) { }", "return 1 ;", "throw 1 ;", "try { } catch e { }", "fun f ( ) { }", "fun f ( a ) { }", "fun f ( a , b , c , d ) { }", "1 ;", "f ( ) ;", "fun ( ) { } ;",
		"let f = fun ( a , b ) { return a + b ; } ;", "f ( a , 1 , true ) ;", "if ( a ) { print 1 ; a = 2 ; } else { print none ; }", "try { throw \"x\" ; } catch e { print e ; }",
	}
}

// formsOfE: each form of E that the chapter names.
func formsOfE() []string {
	return []string{
		"1", `"a"`, `""`, "true", "false", "none", "a", "( a )", "- a", "! a", "a ( )", "a ( 1 )", "a ( 1 , b )", "fun ( ) { }", "fun ( a , b ) { return a ; }",
		"a || b", "a && b", "a == b", "a != b", "a < b", "a <= b", "a > b", "a >= b", "a + b", "a - b", "a * b", "a / b", "a % b",
	}
}

// placesForE: what an E may stand in, for the `@`.
func placesForE() []string {
	return []string{
		"@ ;", "let x = @ ;", "x = @ ;", "print @ ;", "return @ ;", "throw @ ;", "if ( @ ) { }", "if ( a ) { } else if ( @ ) { }", "while ( @ ) { }",
		"x = ( @ ) ;", "x = - @ ;", "x = ! @ ;", "x = f ( @ ) ;", "x = f ( 1 , @ , 2 ) ;", "x = ( @ ) ( ) ;", "x = @ ( ) ;", "x = fun ( ) { return @ ; } ;",
		"x = @ || c ;", "x = c || @ ;", "x = @ && c ;", "x = c && @ ;", "x = @ == c ;", "x = c != @ ;", "x = @ < c ;", "x = c >= @ ;", "x = @ + c ;", "x = c - @ ;", "x = @ * c ;", "x = c / @ ;", "x = c % ( @ ) ;",
	}
}

// placesForStatements: what a statement may stand in, for the `@`.
func placesForStatements() []string {
	return []string{
		"@", "@ x = 1 ;", "x = 1 ; @", "@ @", "if ( a ) { @ }", "if ( a ) { } else { @ }", "if ( a ) { } else if ( b ) { @ }", "while ( a ) { @ }", "while ( a ) { x = 1 ; @ x = 2 ; }",
		"try { @ } catch e { }", "try { } catch e { @ }", "fun f ( a ) { @ }", "let f = fun ( ) { @ } ;", "f ( fun ( ) { @ } , fun ( ) { @ } ) ;", "( fun ( ) { @ } ) ( ) ;",
	}
}

func TestParseOfNothing(t *testing.T) {
	for _, source := range []string{"", " ", "\n", "\t", " \n\t ", strings.Repeat(" ", 599), strings.Repeat("\n", 600)} {
		checkNodes(t, source, programOf())
	}
	checkParseFault(t, strings.Repeat(" ", 601), 600)
}

func TestParseOfTheKnownTree(t *testing.T) {
	source := `let n=3; fun f(a,b){return a<b;} if(f(n,4)){print "yes";}else if(!n){n=-n;} while(n){try{throw none;}catch e{}}`
	tree := checkParsed(t, source)
	if toldWithAt(tree) != toldWithAt(knownTree()) {
		t.Errorf("Parse(%q) =\n%swant\n%s", source, toldWithAt(tree), toldWithAt(knownTree()))
	}
}

func TestNodesOfSimpleStatements(t *testing.T) {
	names := func(kind int, at int) impl.Node { return impl.Node{Kind: kind, Names: []string{"x"}, At: at} }
	checkNodes(t, " let x = 7 ;", numberNode(7, 9), names(impl.NodeLet, 1), programOf(1))
	checkNodes(t, " x = 7 ;", numberNode(7, 5), names(impl.NodeSet, 1), programOf(1))
	checkNodes(t, " print 7 ;", numberNode(7, 7), impl.Node{Kind: impl.NodePrint, At: 1}, programOf(1))
	checkNodes(t, " return 7 ;", numberNode(7, 8), impl.Node{Kind: impl.NodeReturn, At: 1}, programOf(1))
	checkNodes(t, " throw 7 ;", numberNode(7, 7), impl.Node{Kind: impl.NodeThrow, At: 1}, programOf(1))
	checkNodes(t, " 7 ;", numberNode(7, 1), impl.Node{Kind: impl.NodeExpr, At: 1}, programOf(1))
	checkNodes(t, "7;x;", numberNode(7, 0), impl.Node{Kind: impl.NodeExpr}, nameNode("x", 2), impl.Node{Kind: impl.NodeExpr, A: 2, At: 2}, programOf(1, 3))
	// A statement begins at its bracket, where its value begins behind it.
	checkNodes(t, " ( x ) ;", nameNode("x", 3), impl.Node{Kind: impl.NodeExpr, At: 1}, programOf(1))
	checkNodes(t, " ((x))+1;", nameNode("x", 3), numberNode(1, 7), impl.Node{Kind: impl.NodeBinary, C: impl.OpAdd, A: 0, B: 1, At: 6}, impl.Node{Kind: impl.NodeExpr, A: 2, At: 1}, programOf(3))
}

func TestNodesOfStatementsWithBlocks(t *testing.T) {
	block := func(at int, list ...int) impl.Node { return impl.Node{Kind: impl.NodeBlock, List: list, At: at} }
	ifNode := func(a int, b int, c int, at int) impl.Node {
		return impl.Node{Kind: impl.NodeIf, A: a, B: b, C: c, At: at}
	}
	checkNodes(t, " if (x) { }", nameNode("x", 5), block(8), ifNode(0, 1, -1, 1), programOf(2))
	checkNodes(t, "if(x){}else{}", nameNode("x", 3), block(5), block(11), ifNode(0, 1, 2, 0), programOf(3))
	checkNodes(t, "if(x){}else if(y){}", nameNode("x", 3), block(5), nameNode("y", 15), block(17), ifNode(2, 3, -1, 12), ifNode(0, 1, 4, 0), programOf(5))
	checkNodes(t, "if(x){y;}else if(y){}else{1;}",
		nameNode("x", 3), nameNode("y", 6), impl.Node{Kind: impl.NodeExpr, A: 1, At: 6}, block(5, 2), nameNode("y", 17), block(19),
		numberNode(1, 26), impl.Node{Kind: impl.NodeExpr, A: 6, At: 26}, block(25, 7), ifNode(4, 5, 8, 14), ifNode(0, 3, 9, 0), programOf(10))
	checkNodes(t, " while(x){y;1;}", nameNode("x", 7), nameNode("y", 10), impl.Node{Kind: impl.NodeExpr, A: 1, At: 10}, numberNode(1, 12), impl.Node{Kind: impl.NodeExpr, A: 3, At: 12}, block(9, 2, 4), impl.Node{Kind: impl.NodeWhile, A: 0, B: 5, At: 1}, programOf(6))
	checkNodes(t, " try{x;}catch e1{}", nameNode("x", 5), impl.Node{Kind: impl.NodeExpr, A: 0, At: 5}, block(4, 1), block(16), impl.Node{Kind: impl.NodeTry, A: 2, B: 3, Names: []string{"e1"}, At: 1}, programOf(4))
	checkNodes(t, " fun g(a,b){}", block(11), impl.Node{Kind: impl.NodeFun, Names: []string{"a", "b"}, At: 1}, impl.Node{Kind: impl.NodeLet, A: 1, B: 1, Names: []string{"g"}, At: 1}, programOf(2))
	checkNodes(t, " fun g(){g();}",
		nameNode("g", 9), impl.Node{Kind: impl.NodeCall, At: 10}, impl.Node{Kind: impl.NodeExpr, A: 1, At: 9}, block(8, 2), impl.Node{Kind: impl.NodeFun, A: 3, At: 1}, impl.Node{Kind: impl.NodeLet, A: 4, B: 1, Names: []string{"g"}, At: 1}, programOf(5))
}

func TestNodesOfEachE(t *testing.T) {
	printed := func(at int) impl.Node { return impl.Node{Kind: impl.NodePrint, A: at} }
	for e, want := range map[string]impl.Node{
		"12": {Kind: impl.NodeNumber, Num: impl.FromInt(12)}, "0.5": {Kind: impl.NodeNumber, Num: 0x3fe0000000000000}, "5e-324": {Kind: impl.NodeNumber, Num: 1}, "0": {Kind: impl.NodeNumber}, "1e-400": {Kind: impl.NodeNumber},
		`"a b"`: {Kind: impl.NodeText, Names: []string{"a b"}}, `""`: {Kind: impl.NodeText, Names: []string{""}}, `"if"`: {Kind: impl.NodeText, Names: []string{"if"}}, `"("`: {Kind: impl.NodeText, Names: []string{"("}},
		"true": {Kind: impl.NodeTrue}, "false": {Kind: impl.NodeFalse}, "none": {Kind: impl.NodeNone}, "x": nameNode("x", 0), "trues": nameNode("trues", 0),
	} {
		want.At = 7
		checkNodes(t, "print  "+e+";", want, printed(0), programOf(1))
		want.At = 9
		checkNodes(t, "print (( "+e+")) ;", want, printed(0), programOf(1))
	}
	for mark, op := range opsOfMarks {
		checkNodes(t, "print x "+mark+" 1;", nameNode("x", 6), numberNode(1, 9+len(mark)), impl.Node{Kind: impl.NodeBinary, C: op, A: 0, B: 1, At: 8}, printed(2), programOf(3))
	}
	checkNodes(t, "print x && 1;", nameNode("x", 6), numberNode(1, 11), impl.Node{Kind: impl.NodeAnd, A: 0, B: 1, At: 8}, printed(2), programOf(3))
	checkNodes(t, "print x || 1;", nameNode("x", 6), numberNode(1, 11), impl.Node{Kind: impl.NodeOr, A: 0, B: 1, At: 8}, printed(2), programOf(3))
	checkNodes(t, "print - x;", nameNode("x", 8), impl.Node{Kind: impl.NodeMinus, At: 6}, printed(1), programOf(2))
	checkNodes(t, "print ! x;", nameNode("x", 8), impl.Node{Kind: impl.NodeNot, At: 6}, printed(1), programOf(2))
	checkNodes(t, "print !-x;", nameNode("x", 8), impl.Node{Kind: impl.NodeMinus, At: 7}, impl.Node{Kind: impl.NodeNot, A: 1, At: 6}, printed(2), programOf(3))
	checkNodes(t, "print x ();", nameNode("x", 6), impl.Node{Kind: impl.NodeCall, At: 8}, printed(1), programOf(2))
	checkNodes(t, "print x(1,y);", nameNode("x", 6), numberNode(1, 8), nameNode("y", 10), impl.Node{Kind: impl.NodeCall, List: []int{1, 2}, At: 7}, printed(3), programOf(4))
	checkNodes(t, "print x(1)(2);", nameNode("x", 6), numberNode(1, 8), impl.Node{Kind: impl.NodeCall, List: []int{1}, At: 7}, numberNode(2, 11), impl.Node{Kind: impl.NodeCall, A: 2, List: []int{3}, At: 10}, printed(4), programOf(5))
	checkNodes(t, "print x(y(1));", nameNode("x", 6), nameNode("y", 8), numberNode(1, 10), impl.Node{Kind: impl.NodeCall, A: 1, List: []int{2}, At: 9}, impl.Node{Kind: impl.NodeCall, List: []int{3}, At: 7}, printed(4), programOf(5))
	checkNodes(t, "print fun(a){};", impl.Node{Kind: impl.NodeBlock, At: 12}, impl.Node{Kind: impl.NodeFun, Names: []string{"a"}, At: 6}, printed(1), programOf(2))
	checkNodes(t, "let f=fun(){};", impl.Node{Kind: impl.NodeBlock, At: 11}, impl.Node{Kind: impl.NodeFun, At: 6}, impl.Node{Kind: impl.NodeLet, A: 1, Names: []string{"f"}}, programOf(2))
	checkNodes(t, "print 1+2*x;", numberNode(1, 6), numberNode(2, 8), nameNode("x", 10), impl.Node{Kind: impl.NodeBinary, C: impl.OpMul, A: 1, B: 2, At: 9}, impl.Node{Kind: impl.NodeBinary, C: impl.OpAdd, A: 0, B: 3, At: 7}, printed(4), programOf(5))
	checkNodes(t, "print (1+2)*x;", numberNode(1, 7), numberNode(2, 9), impl.Node{Kind: impl.NodeBinary, C: impl.OpAdd, A: 0, B: 1, At: 8}, nameNode("x", 12), impl.Node{Kind: impl.NodeBinary, C: impl.OpMul, A: 2, B: 3, At: 11}, printed(4), programOf(5))
}

func TestEachEWithinEachPlace(t *testing.T) {
	for i, place := range placesForE() {
		for j, e := range formsOfE() {
			checkParsed(t, strings.ReplaceAll(place, "@", e))
			checkParsed(t, strings.ReplaceAll(place, "@", "("+e+")"))
			for k, other := range formsOfE() {
				between := []string{"( @ )", "+ @", "( 1 , @ )"}[(i+j+k)%3]
				checkParsed(t, strings.ReplaceAll(place, "@", e+strings.ReplaceAll(between, "@", other)))
			}
		}
	}
}

func TestEachStatementWithinEachPlace(t *testing.T) {
	for _, place := range placesForStatements() {
		for _, statement := range statementsOfChapter() {
			checkParsed(t, strings.ReplaceAll(place, "@", statement))
			for _, inner := range placesForStatements() {
				checkParsed(t, strings.ReplaceAll(place, "@", strings.ReplaceAll(inner, "@", statement)))
			}
		}
	}
}

// levelOf: which level of E a mark is of; the lesser ones bind less.
func levelOf(mark string) int {
	return slices.IndexFunc(marksByLevel, func(marks string) bool { return strings.Contains(marks, " "+mark+" ") })
}

func allMarksBetween() []string { return strings.Fields(strings.Join(marksByLevel, " ")) }

// Each mark against each: those of one level from the left, else the one that binds more first.
func TestMarksTwoByTwo(t *testing.T) {
	if len(allMarksBetween()) != 13 {
		t.Fatal("the marks are not the document's")
	}
	for _, first := range allMarksBetween() {
		for _, second := range allMarksBetween() {
			want := fmt.Sprintf("(%s (%s a b) c)", second, first)
			if levelOf(second) > levelOf(first) {
				want = fmt.Sprintf("(%s a (%s b c))", first, second)
			}
			checkShapeOfE(t, "a"+first+"b"+second+"c", want)
			checkShapeOfE(t, "(a"+first+"b)"+second+"c", fmt.Sprintf("(%s (%s a b) c)", second, first))
			checkShapeOfE(t, "a"+first+"(b"+second+"c)", fmt.Sprintf("(%s a (%s b c))", first, second))
		}
		checkShapeOfE(t, strings.Join(strings.Split("abcd", ""), first), fmt.Sprintf("(%s (%s (%s a b) c) d)", first, first, first))
		checkShapeOfE(t, "a"+first+"-b", fmt.Sprintf("(%s a (- b))", first))
		checkShapeOfE(t, "-a"+first+"b", fmt.Sprintf("(%s (- a) b)", first))
		checkShapeOfE(t, "!a"+first+"!b", fmt.Sprintf("(%s (! a) (! b))", first))
		checkShapeOfE(t, "-(a"+first+"b)", fmt.Sprintf("(- (%s a b))", first))
		checkShapeOfE(t, "a(1)"+first+"b(2)", fmt.Sprintf("(%s (call a 1) (call b 2))", first))
		checkShapeOfE(t, "fun(){}"+first+"fun(){}", fmt.Sprintf("(%s (fun { }) (fun { }))", first))
		checkShape(t, "a"+first+"b;", fmt.Sprintf("do (%s a b)", first))
	}
}

func TestMarksThreeByThree(t *testing.T) {
	for _, first := range allMarksBetween() {
		for _, second := range allMarksBetween() {
			for _, third := range allMarksBetween() {
				checkParsed(t, "print a"+first+"b"+second+"c"+third+"d;")
			}
		}
	}
	checkShapeOfE(t, "a||b&&c==d<e+f*-g", "(|| a (&& b (== c (< d (+ e (* f (- g)))))))")
	checkShapeOfE(t, "-a*b+c<d==e&&f||g", "(|| (&& (== (< (+ (* (- a) b) c) d) e) f) g)")
	checkShapeOfE(t, "a||b&&c||d", "(|| (|| a (&& b c)) d)")
	checkShapeOfE(t, "1-2-3+4", "(+ (- (- 1 2) 3) 4)")
	checkShapeOfE(t, "8/4/2%3*5", "(* (% (/ (/ 8 4) 2) 3) 5)")
	checkShapeOfE(t, "a<b<c>=d", "(>= (< (< a b) c) d)")
	checkShapeOfE(t, "a==b!=c==d", "(== (!= (== a b) c) d)")
}

func TestSignsAndCalls(t *testing.T) {
	checkShapeOfE(t, "--a", "(- (- a))")
	checkShapeOfE(t, "!!-!a", "(! (! (- (! a))))")
	checkShapeOfE(t, "a--b", "(- a (- b))")
	checkShapeOfE(t, "a---b", "(- a (- (- b)))")
	checkShapeOfE(t, "-1", "(- 1)")
	checkShapeOfE(t, "-a(1)", "(- (call a 1))")
	checkShapeOfE(t, "(-a)(1)", "(call (- a) 1)")
	checkShapeOfE(t, "!a()()", "(! (call (call a)))")
	checkShapeOfE(t, "a()(1)(2,3)", "(call (call (call a) 1) 2 3)")
	checkShapeOfE(t, "a(b(c(d)))", "(call a (call b (call c d)))")
	checkShapeOfE(t, "a(b(1)(2),c)(d)", "(call (call a (call (call b 1) 2) c) d)")
	checkShapeOfE(t, "a(b+c,d||e)", "(call a (+ b c) (|| d e))")
	checkShapeOfE(t, `1(2)`, "(call 1 2)")
	checkShapeOfE(t, `"a"("b")`, `(call "a" "b")`)
	checkShapeOfE(t, `true()+none(false)`, "(+ (call true) (call none false))")
	checkShapeOfE(t, "(a)(b)", "(call a b)")
	checkShapeOfE(t, "((a)((b)))", "(call a b)")
	checkShapeOfE(t, "fun(a){return a;}(1)", "(call (fun a { return a }) 1)")
	checkShapeOfE(t, "fun(){}()()", "(call (call (fun { })))")
	checkShapeOfE(t, "fun(f){}(fun(x){})", "(call (fun f { }) (fun x { }))")
	checkShapeOfE(t, "-fun(){}*2", "(* (- (fun { })) 2)")
	checkShapeOfE(t, "f(fun(a){a;},fun(b){b;})", "(call f (fun a { do a }) (fun b { do b }))")
}

func TestElseIfChains(t *testing.T) {
	checkShape(t, "if(a){1;}else if(b){2;}else if(c){3;}else{4;}", "if a { do 1 } else if b { do 2 } else if c { do 3 } else { do 4 }")
	checkShape(t, "if(a){}if(b){}", "if a { } if b { }")
	checkShape(t, "if(a){if(b){}}else{}", "if a { if b { } } else { }")
	checkShape(t, "if(a){if(b){}else{1;}}", "if a { if b { } else { do 1 } }")
	checkShape(t, "if(a){}else{if(b){}}", "if a { } else { if b { } }")
	checkShape(t, "if(a){}else if(b){}c=1;", "if a { } else if b { } set c 1")
	for size := range 22 {
		checkParsed(t, "if(a){}"+strings.Repeat("else if(b){}", size))
		checkParsed(t, "if(a){}"+strings.Repeat("else if(b){}", size)+"else{}")
		checkFaultBefore(t, "if(a){}"+strings.Repeat("else if(b){}", size)+"else{}@else{}")
		checkFaultBefore(t, "if(a){}"+strings.Repeat("else if(b){}", size)+"else{}@else if(c){}")
		checkFaultBefore(t, "if(a){}"+strings.Repeat("else if(b){}", size)+"else @1;")
	}
}

func TestFunAsStatementAndAsE(t *testing.T) {
	checkShape(t, "fun f(){}", "early let f (fun { })")
	checkShape(t, "fun f(a,b){return a;}f(1);", "early let f (fun a b { return a }) do (call f 1)")
	checkShape(t, "let f=fun(){};", "let f (fun { })")
	checkShape(t, "f=fun(){};", "set f (fun { })")
	checkShape(t, "fun(){};", "do (fun { })")
	checkShape(t, "fun(a){}(1);", "do (call (fun a { }) 1)")
	checkShape(t, "fun(){}+1;", "do (+ (fun { }) 1)")
	checkShape(t, "(fun(){});", "do (fun { })")
	checkShape(t, "fun f(){fun g(){}}", "early let f (fun { early let g (fun { }) })")
	checkShape(t, "fun f(){return fun(){};}", "early let f (fun { return (fun { }) })")
	checkShape(t, "fun f(f){}", "early let f (fun f { })")
	checkShape(t, "fun f(a,a){}", "early let f (fun a a { })")
	checkShape(t, "fun f(){}f();fun(){};", "early let f (fun { }) do (call f) do (fun { })")
	// The statement ends with its block; what follows begins another one.
	checkShape(t, "fun f(){}-1;", "early let f (fun { }) do (- 1)")
	checkShape(t, "fun f(){}(1);", "early let f (fun { }) do 1")
	checkFaultBefore(t, "fun f(){}(@);")
	checkFaultBefore(t, "fun f(){}@;")
	checkFaultBefore(t, "fun f(){}@+1;")
	checkFaultBefore(t, "fun(){}@")
	checkFaultBefore(t, "fun(){}@f();")
	checkFaultBefore(t, "print fun @f(){};")
	checkFaultBefore(t, "let x=fun @f(){};")
	checkFaultBefore(t, "(fun @f(){});")
	checkFaultBefore(t, "fun @1(){}")
	checkFaultBefore(t, "fun @let(){}")
	checkFaultBefore(t, "fun @;")
	checkFaultBefore(t, "fun@")
	checkFaultBefore(t, "fun f@=1;")
	checkFaultBefore(t, `fun @"f"(){}`)
}

func TestStatementsThatBeginWithAName(t *testing.T) {
	checkShape(t, "a=1;", "set a 1")
	checkShape(t, "a==1;", "do (== a 1)")
	checkShape(t, "a = b == c;", "set a (== b c)")
	checkShape(t, "a == b == c;", "do (== (== a b) c)")
	checkShape(t, "a;", "do a")
	checkShape(t, "a(1);", "do (call a 1)")
	checkShape(t, "a!=1;", "do (!= a 1)")
	checkShape(t, "a<=1;a>=1;", "do (<= a 1) do (>= a 1)")
	checkFaultBefore(t, "a= @=1;")
	checkFaultBefore(t, "a= @==1;")
	checkFaultBefore(t, "a = @= 1;")
	checkFaultBefore(t, "a=b@=1;")
	checkFaultBefore(t, "a==b@=1;")
	checkFaultBefore(t, "(a)@=1;")
	checkFaultBefore(t, "a()@=1;")
	checkFaultBefore(t, "1@=1;")
	checkFaultBefore(t, `"a"@=1;`)
	checkFaultBefore(t, "-a@=1;")
	checkFaultBefore(t, "print a@=1;")
	checkFaultBefore(t, "true@=1;")
	checkFaultBefore(t, "let a@==1;")
	checkFaultBefore(t, "f(a@=1);")
	checkFaultBefore(t, "if(a@=1){}")
	checkFaultBefore(t, "a @b;")
	checkFaultBefore(t, "a@{}")
	checkFaultBefore(t, "a@")
	checkFaultBefore(t, "a=@")
	checkFaultBefore(t, "@=1;")
}

// Texts that look like marks and words are none.
func TestTextsThatLookLikeTokens(t *testing.T) {
	for _, look := range strings.Fields(wordsOfLanguage + " " + marksOfLanguage) {
		text := `"` + look + `"`
		checkShape(t, text+";", "do "+text)
		checkShapeOfE(t, "f("+text+","+text+")", "(call f "+text+" "+text+")")
		checkShapeOfE(t, text+"+"+text, "(+ "+text+" "+text+")")
		checkShape(t, "if("+text+"){"+text+";}", "if "+text+" { do "+text+" }")
		for _, statement := range statementsOfChapter() {
			words := strings.Fields(statement)
			for i := range words {
				if words[i] == look {
					checkParse(t, strings.Join(words[:i], " ")+" "+text+" "+strings.Join(words[i+1:], " "))
				}
			}
		}
	}
	checkFaultBefore(t, `"let" @x=1;`)
	checkFaultBefore(t, `x @"=" 1;`)
	checkFaultBefore(t, `x=1@";"`)
	checkFaultBefore(t, `let @"x"=1;`)
	checkFaultBefore(t, `fun f(@"a"){}`)
	checkFaultBefore(t, `if @"(" 1){}`)
	checkFaultBefore(t, `if(1)@"{" }`)
	checkFaultBefore(t, `f(1 @"," 2);`)
	checkFaultBefore(t, `a @"+" b;`)
}

func TestParametersInSources(t *testing.T) {
	names := []string{"a", "b1", "_c", "abcdefghijkl", "e", "f"}
	for _, form := range []string{"fun f(@){}", "let f=fun(@){};", "fun(@){}();", "print f(fun(@){return 1;});"} {
		ahead, behind, _ := strings.Cut(form, "@")
		for size := range 5 {
			tree := checkParsed(t, ahead+strings.Join(names[:size], ",")+behind)
			at := slices.IndexFunc(tree, func(n impl.Node) bool { return n.Kind == impl.NodeFun })
			if at < 0 || !slices.Equal(tree[at].Names, names[:size]) {
				t.Errorf("%d parameters: %+v", size, tree)
			}
			if size > 0 && size < 4 {
				checkFaultBefore(t, ahead+strings.Join(names[:size], ",")+",@"+behind)
				checkFaultBefore(t, ahead+strings.Join(names[:size], ",")+",@,a"+behind)
			}
		}
		four := strings.Join(names[:4], " , ")
		checkFaultBefore(t, ahead+four+" @, e"+behind)
		checkFaultBefore(t, ahead+four+" @, e, f"+behind)
		checkFaultBefore(t, ahead+four+" @,"+behind)
		checkFaultBefore(t, ahead+four+" @, 1"+behind)
		checkFaultBefore(t, ahead+four+" @e"+behind)
		for _, wrong := range strings.Fields(`@, a,@, a@;b a@"b" @1 @"a" a,@1 @let a,@fun @(a) @-a a@+b a@=1 a@{} @none`) {
			checkFaultBefore(t, ahead+wrong+behind)
		}
	}
}

func TestHandedIn(t *testing.T) {
	handed := []string{"1", "b", "-c", "(d)", "e+1", "f(1,2,3,4,5,6)", "7", "8"}
	shapes := []string{"1", "b", "(- c)", "d", "(+ e 1)", "(call f 1 2 3 4 5 6)"}
	for size := range 7 {
		inside := strings.Join(handed[:size], ",")
		checkShapeOfE(t, "g("+inside+")", "("+strings.Join(append([]string{"call g"}, shapes[:size]...), " ")+")")
		checkShape(t, "g("+inside+")("+inside+");", "do ("+strings.Join(append([]string{"call (" + strings.Join(append([]string{"call g"}, shapes[:size]...), " ") + ")"}, shapes[:size]...), " ")+")")
		checkFaultBefore(t, "g("+inside+"@")
		checkFaultBefore(t, "g("+inside+"@;")
		if size > 0 && size < 6 {
			checkFaultBefore(t, "g("+inside+",@);")
			checkFaultBefore(t, "g("+inside+",@,1);")
		}
	}
	six := strings.Join(handed[:6], ",")
	checkFaultBefore(t, "g("+six+"@,);")
	checkFaultBefore(t, "g("+six+"@,7);")
	checkFaultBefore(t, "g("+six+"@,7,8);")
	checkFaultBefore(t, "g(g("+six+"),g("+six+"@,7));")
	checkFaultBefore(t, "g(1)("+six+"@,7);")
	checkFaultBefore(t, "fun(){}(1,2,3,4,5,6@,7);")
	for _, wrong := range strings.Fields("@, @,1 1,@, 1,@,2 1@;2 @; 1@=2 @let 1@{} 1@else") {
		checkFaultBefore(t, "g("+wrong+");")
	}
	checkFaultBefore(t, "g(1 @2);")
	checkFaultBefore(t, "g(1@;")
	checkFaultBefore(t, "g(@;")
}

func TestTextsOfFortyBytes(t *testing.T) {
	if len(fortyBytes) != 40 {
		t.Fatal("not forty bytes")
	}
	for size := range 60 {
		text := strings.Repeat("x", size)
		if size <= 40 {
			checkShapeOfE(t, `"`+text+`"`, `"`+text+`"`)
			checkShapeOfE(t, `a+"`+text+`"`, `(+ a "`+text+`")`)
			continue
		}
		checkFaultBefore(t, `print @"`+text+`";`)
		checkFaultBefore(t, `@"`+text+`";`)
		checkFaultBefore(t, `print a+@"`+text+`";`)
		checkFaultBefore(t, `f(1,@"`+text+`");`)
		checkFaultBefore(t, `print 1 @"`+text+`";`)
		checkFaultBefore(t, `print (@; "`+text+`";`)
	}
	checkShapeOfE(t, `"`+fortyBytes+`"`, `"`+fortyBytes+`"`)
	checkFaultBefore(t, `@"`+fortyBytes+`~";`)
}

func TestNumbersThatAreFinite(t *testing.T) {
	for _, number := range []string{"0", "1", "1e308", "1.7976931348623157e308", "5e-324", "1e-999", "0e999", nines(30), "1.7976931348623158e308"} {
		checkParsed(t, "print "+number+";")
		checkParsed(t, "print -"+number+"*"+number+";")
	}
	for _, number := range []string{infiniteNumber, "1.7976931348623159e308", "2e308", nines(30) + "e279", "1e400", "10e308"} {
		checkFaultBefore(t, "print @"+number+";")
		checkFaultBefore(t, "@"+number+";")
		checkFaultBefore(t, "print -@"+number+";")
		checkFaultBefore(t, "print 1+@"+number+";")
		checkFaultBefore(t, "f(1,@"+number+");")
		checkFaultBefore(t, "if(@"+number+"){}")
		checkFaultBefore(t, "print 1 @"+number+";")
		checkFaultBefore(t, "print @;"+number+";")
		checkFaultBefore(t, "print @"+number+"")
	}
}

// The document's own numbers and sizes that one program can have.
func TestSourcesOfTheMostBytes(t *testing.T) {
	for _, statement := range []string{"x;", "print 1;", "fun f(a){return a;}", "if(a){}else{}", "x=-1*2;"} {
		blanksTo := func(size int) string { return statement + strings.Repeat(" ", size-len(statement)) }
		checkParsed(t, blanksTo(599))
		checkParsed(t, blanksTo(600))
		checkParseFault(t, blanksTo(601), 600)
		checkParseFault(t, blanksTo(5000), 600)
		ahead := func(size int) string { return strings.Repeat("\n", size-len(statement)) + statement }
		tree := checkParsed(t, ahead(600))
		if len(tree) < 2 || tree[len(tree)-2].At != 600-len(statement) {
			t.Errorf("%q at the end of 600 bytes: %+v", statement, tree)
		}
		checkParseFault(t, ahead(601), 600)
		// The end is at the length of source, blanks and all.
		cut := statement[:len(statement)-1]
		checkParseFault(t, cut+strings.Repeat(" ", 600-len(cut)), 600)
		checkParseFault(t, cut+strings.Repeat(" ", 599-len(cut)), 599)
	}
	long := "let long_name_12=" + strings.Repeat(`"`+fortyBytes+`"+`, 13) + `"`
	long += strings.Repeat("z", 600-len(long)-2) + `";`
	if len(long) != 600 {
		t.Fatal("not 600 bytes")
	}
	checkParsed(t, long)
	checkParseFault(t, long+" ", 600)
	checkParseFault(t, long+"@", 600)
	checkParseFault(t, "@"+long, 600)
}

func TestSourcesOfTheMostTokens(t *testing.T) {
	tree := checkParsed(t, strings.Repeat("x;", 100))
	if len(tree) != 201 {
		t.Errorf("%d nodes", len(tree))
	}
	checkParseFault(t, strings.Repeat("x;", 100)+"x", 200)
	checkParseFault(t, strings.Repeat("x;", 100)+" x;", 201)
	checkParseFault(t, strings.Repeat("x;", 99)+"-x;", 200)
	checkParsed(t, strings.Repeat("x;", 98)+"x+x;")
	checkParsed(t, "x"+strings.Repeat("+x", 99)+";")
	checkParseFault(t, "x"+strings.Repeat("+x", 99), 199)
	checkParseFault(t, "x"+strings.Repeat("+x", 100), 200)
	checkParsed(t, "f"+strings.Repeat("()", 99)+";")
	checkParseFault(t, strings.Repeat("f(", 100), 200)
	checkParsed(t, strings.Repeat("f(", 66)+strings.Repeat(")", 66)+";")
	checkParsed(t, strings.Repeat("-x;", 66))
	checkParsed(t, strings.Repeat("fun f(){}", 33))
	checkParseFault(t, strings.Repeat("fun f(){}", 33)+"fun", len(strings.Repeat("fun f(){}", 33))+3)
	// Scan's fault is told, whatever is wrong ahead of it.
	checkParseFault(t, strings.Repeat(";", 201), 200)
	checkParseFault(t, strings.Repeat(";", 200), 0)
}

// nest is a program whose parts are within one another; it knows of each that counts where it begins, and within how many others.
type nest struct {
	ahead, behind string
	depth         int
	places        []int
	within        []int
}

// part: one that counts begins here.
func (n *nest) part() {
	n.places, n.within = append(n.places, len(n.ahead)), append(n.within, n.depth)
	n.depth++
}

// layer writes what stands ahead, and behind, of what is within: `<` begins one that counts, and `>` ends it, here or behind.
func (n *nest) layer(ahead string, behind string) {
	for _, piece := range ahead {
		switch piece {
		case '<':
			n.part()
		case '>':
			n.depth--
		default:
			n.ahead += string(piece)
		}
	}
	n.behind = behind + n.behind
}

// faultOfNest: the place of the first that is within 24 others, or -1.
func (n *nest) faultOfNest() int {
	for i, place := range n.places {
		if n.within[i] >= 24 {
			return place
		}
	}
	return -1
}

// layers: by what they stand in (s a statement's place, e an E's, g a signed one's, i an `if`'s behind an `else`), and what they have within. Those that count are marked by `<`, and by `>` when they end at once.
var layers = map[byte][][3]string{
	's': {
		{"<print ", ";", "e"}, {"<x=", ";", "e"}, {"<let x=", ";", "e"}, {"<", ";", "e"}, {"<return ", ";", "e"}, {"<throw ", ";", "e"}, {"<if(", "){}", "e"}, {"<while(", "){}", "e"},
		{"<if(1)<{", "}", "s"}, {"<if(1)<{", "}else{}", "s"}, {"<if(1)<{}>else <{", "}", "s"}, {"<while(1)<{", "}", "s"}, {"<try<{", "}catch e{}", "s"}, {"<try<{}>catch e<{", "}", "s"}, {"<fun f(a)<{", "}", "s"},
		{"<if(1)<{}>else ", "", "i"}, {"<<-1>;>", "", "s"}, {"<1;>", "", "s"},
	},
	'e': {
		{"<(", ")", "e"}, {"<(", ")()", "e"}, {"<-", "", "g"}, {"<!", "", "g"}, {"<fun()<{", "}", "s"}, {"<fun(a,b)<{", "}(1)", "s"},
		{"f(", ")", "e"}, {"f(1,", ")", "e"}, {"1+", "", "e"}, {"1||", "", "e"}, {"<-1>*", "", "e"}, {"<(1)>+", "", "e"}, {"<!1>==", "", "e"},
	},
	'g': {{"<(", ")", "e"}, {"<-", "", "g"}, {"<!", "", "g"}, {"<fun()<{", "}", "s"}, {"<(", ")(1)", "e"}, {"f(", ")", "e"}},
	'i': {{"<if(1)<{", "}", "s"}, {"<if(1)<{", "}else{}", "s"}, {"<if(1)<{}>else ", "", "i"}, {"<if(", "){}", "e"}, {"<if(1)<{}>else <{", "}", "s"}},
}

// nestBySteps: layers chosen by a seed, until as many parts as asked for are within one another, or no more fit.
func nestBySteps(depth int, seed int) *nest {
	dice := shrub{state: uint64(seed)*2654435761 + 88172645463325252}
	n := &nest{}
	in := byte('s')
	for n.depth < depth {
		choices := layers[in]
		chosen := choices[dice.below(len(choices))]
		n.layer(chosen[0], chosen[1])
		in = chosen[2][0]
	}
	switch in {
	case 'e', 'g':
		n.ahead += "1"
	case 'i':
		n.layer("<if(1)<{}>>", "")
	}
	return n
}

func TestNestsBySteps(t *testing.T) {
	faults, rights := map[int]int{}, map[int]int{}
	for seed := range 3000 {
		depth := 1 + seed%30
		n := nestBySteps(depth, seed)
		source := n.ahead + n.behind
		if tokens, _ := impl.Scan(source); len(tokens) == 0 {
			continue
		}
		want := n.faultOfNest()
		got, fault := impl.Parse(source)
		// What stands behind, such as the block of an `else`, may be too deep, too, or not; the chart tells that.
		if want != -1 && fault != want || want == -1 && n.depth < 22 && fault != -1 {
			t.Fatalf("Parse(%q) = %+v, %d, want %d", source, got, fault, want)
		}
		checkParse(t, source)
		if fault == -1 {
			rights[n.depth]++
		} else {
			faults[n.depth]++
		}
	}
	if rights[24] < 10 || rights[23] < 10 || faults[25] < 10 || faults[26] < 10 || rights[25] > 0 {
		t.Errorf("right ones by depth: %v, faults by depth: %v", rights, faults)
	}
}

// checkDeepest: the source with just so many of one piece has no fault, and with one more it is at the `@` in that.
func checkDeepest(t *testing.T, right string, wrong string) {
	t.Helper()
	checkParsed(t, right)
	checkFaultBefore(t, wrong)
}

func TestDepthOfBracketsAndSigns(t *testing.T) {
	if impl.MaxDepth != 24 {
		t.Errorf("MaxDepth is %d", impl.MaxDepth)
	}
	times := strings.Repeat
	// With the statement they are 24.
	for _, begin := range []string{"print ", "let x=", "x=", "return ", "throw ", "", "print f(", "print 1+", "if(", "while("} {
		end := map[string]string{"print f(": ");", "if(": "){}", "while(": "){}"}[begin]
		if end == "" {
			end = ";"
		}
		checkDeepest(t, begin+times("(", 23)+"1"+times(")", 23)+end, begin+times("(", 23)+"@(1)"+times(")", 23)+end)
		checkDeepest(t, begin+times("-", 23)+"1"+end, begin+times("-", 23)+"@-1"+end)
		checkDeepest(t, begin+times("!", 23)+"1"+end, begin+times("!", 23)+"@!1"+end)
		checkDeepest(t, begin+times("-!", 11)+"(1)"+end, begin+times("-!", 11)+"(@-1)"+end)
		checkDeepest(t, begin+times("(-", 11)+"(1)"+times(")", 11)+end, begin+times("(-", 11)+"(@(1))"+times(")", 11)+end)
		checkFaultBefore(t, begin+times("(", 23)+"@((1))"+times(")", 23)+end)
		checkFaultBefore(t, begin+times("(", 23)+"@(((1)))"+times(")", 23)+end)
		checkFaultBefore(t, begin+times("-", 23)+"@--1"+end)
		checkFaultBefore(t, begin+times("-", 23)+"@(1)"+end)
		checkFaultBefore(t, begin+times("(", 23)+"@-1"+times(")", 23)+end)
		checkFaultBefore(t, begin+times("(", 23)+"@!1"+times(")", 23)+end)
		checkFaultBefore(t, begin+times("(", 23)+"1+@(1)"+times(")", 23)+end)
		checkFaultBefore(t, begin+times("(", 23)+"f(1,@-1)"+times(")", 23)+end)
		checkFaultBefore(t, begin+times("(", 23)+"@fun(){}"+times(")", 23)+end)
		checkFaultBefore(t, begin+times("(", 22)+"fun()@{}"+times(")", 22)+end)
		checkDeepest(t, begin+times("(", 21)+"fun(){}"+times(")", 21)+end, begin+times("(", 21)+"fun(){@1;}"+times(")", 21)+end)
		checkDeepest(t, begin+times("-", 21)+"fun(){}"+end, begin+times("-", 21)+"fun(){@x=1;}"+end)
	}
}

// What is too deep begins at its first token, whichever that is; a `}` begins none.
func TestDepthOfStatementsAndBlocks(t *testing.T) {
	times := strings.Repeat
	for _, pair := range [][2]string{{"if(1){", "}"}, {"while(1){", "}"}, {"fun f(){", "}"}, {"try{", "}catch e{}"}, {"if(1){}else{", "}"}, {"try{}catch e{", "}"}, {"if(1){", "}else{}"}} {
		ahead, behind := times(pair[0], 12), times(pair[1], 12)
		checkParsed(t, ahead+behind)
		for _, statement := range statementsOfChapter() {
			checkFaultBefore(t, ahead+"@"+statement+behind)
			checkFaultBefore(t, ahead+"@"+statement+statement+behind)
		}
		for _, wrong := range strings.Fields("; ) { = else catch , *") {
			checkFaultBefore(t, ahead+"@"+wrong+behind)
		}
		checkFaultBefore(t, ahead+"@"+pair[0]+pair[1]+behind)
		checkFaultBefore(t, ahead+"@"+pair[0]+pair[0])
		checkFaultBefore(t, ahead+"@")
		eleven, ends := times(pair[0], 11), times(pair[1], 11)
		for _, right := range []string{"1;", "-1;", "(1);", "x=(1);", "print 1;", "if(1){}", "if(1){}else{}", "while(1){}", "fun g(){}", "try{}catch e{}", "if(f(f(f(1)))){}", "f(1)(2);"} {
			checkParsed(t, eleven+right+ends)
			checkParsed(t, eleven+right+right+ends)
		}
		for _, wrong := range []string{"-@-1;", "(@(1));", "-@(1);", "(@-1);", "x=fun()@{};", "if(1){@1;}", "if(1){}else if(2)@{}", "if((@(1))){}", "fun()@{};", "while(-@-1){}", "try{}catch e{@1;}", "f(-@-1);", "-1+(@!1);"} {
			checkFaultBefore(t, eleven+wrong+ends)
		}
	}
}

func TestDepthOfFunctionsAndChains(t *testing.T) {
	times := strings.Repeat
	checkDeepest(t, times("fun(){", 8)+times("};", 8), times("fun(){", 8)+"@fun(){};"+times("};", 8))
	checkDeepest(t, times("x=fun(a){", 8)+times("};", 8), times("x=fun(a){", 8)+"@1;"+times("};", 8))
	checkDeepest(t, times("f(fun(){", 8)+times("});", 8), times("f(fun(){", 8)+"@x;"+times("});", 8))
	checkDeepest(t, times("-fun(){", 6)+times("};", 6), times("-fun(){", 6)+"@x;"+times("};", 6))
	checkDeepest(t, times("(fun(){", 6)+times("});", 6), times("(fun(){", 6)+"@x;"+times("});", 6))
	checkDeepest(t, "if(1){}"+times("else if(1){}", 22), "if(1){}"+times("else if(1){}", 22)+"else if(1)@{}")
	checkDeepest(t, "if(1){}"+times("else if(1){}", 22)+"else{}", "if(1){}"+times("else if(1){}", 22)+"else{@1;}")
	checkDeepest(t, "if(1){}"+times("else if(1){}", 21)+"else if(1){}", "if(1){}"+times("else if(1){}", 21)+"else if(1){@1;}")
	checkDeepest(t, "if(1){}"+times("else if(1){}", 21)+"else if(-1){}", "if(1){}"+times("else if(1){}", 21)+"else if(-@-1){}")
	checkDeepest(t, times("if(1){", 11)+"if(1){}else{}"+times("}", 11), times("if(1){", 11)+"if(1){}else if(1)@{}"+times("}", 11))
	// A statement that is within 23 others: it is one of `fun` when a name follows, else one of an E, and what that begins with is too deep.
	ahead, behind := "fun(){"+times("if(1){", 10), times("}", 10)+"};"
	checkDeepest(t, ahead+"x;print f(1);"+behind, ahead+"@-x;"+behind)
	checkFaultBefore(t, ahead+"fun g()@{}"+behind)
	checkFaultBefore(t, ahead+"fun g(@1){}"+behind)
	checkFaultBefore(t, ahead+"@fun(){};"+behind)
	checkFaultBefore(t, ahead+"@fun 1;"+behind)
	checkFaultBefore(t, ahead+"@fun")
	checkFaultBefore(t, ahead+"if(1)@{}"+behind)
	checkFaultBefore(t, ahead+"if(@(1)){}"+behind)
}

func TestWhatCountsForNoDepth(t *testing.T) {
	times := strings.Repeat
	checkParsed(t, "print "+times("f(", 60)+times(")", 60)+";")
	checkParsed(t, "print "+times("f(1,", 35)+"2"+times(")", 35)+";")
	checkParsed(t, "print f"+times("(1)", 60)+";")
	checkParsed(t, "print 1"+times("+1", 90)+";")
	checkParsed(t, "print 1"+times("||1&&1", 40)+";")
	checkParsed(t, times("x=1;", 45))
	checkParsed(t, times("if(1){}", 30))
	checkParsed(t, times("fun f(){}", 30))
	checkParsed(t, "print -1"+times("- -1", 50)+";")
	checkParsed(t, "print (1)"+times("+(1)", 40)+";")
	checkParsed(t, "print fun(){}"+times("+fun(){}", 28)+";")
	checkParsed(t, "f((1),(2),(3),(4),(5),(6));"+times("(f)((1));", 15))
	checkParsed(t, "fun f(a,b,c,d){"+times("-a;", 60)+"}")
}

// toWrite: tokens in a source, with a blank between any two.
func toWrite(words []string) string { return strings.Join(words, " ") }

// rightPrograms: programs without a fault, each token between blanks.
func rightPrograms() []string {
	out := statementsOfChapter()
	for _, place := range placesForE() {
		out = append(out, strings.ReplaceAll(place, "@", "a - 1"))
	}
	return append(out,
		`let n = 3 ; fun f ( a , b ) { return a < b ; } if ( f ( n , 4 ) ) { print "yes" ; } else if ( ! n ) { n = - n ; } while ( n ) { try { throw none ; } catch e { } }`,
		`fun make ( ) { let c = 0 ; return fun ( ) { c = c + 1 ; return c ; } ; } let g = make ( ) ; g ( ) ; print g ( ) ( 1 , 2 , 3 , 4 , 5 , 6 ) ;`,
		`while ( a <= b && ! c || d != e % 2 ) { if ( x ) { return - ( 1 + 2 ) * 3 ; } else { x = fun ( a , b , c , d ) { } ; } } x == y ;`,
		`try { try { f ( ) ; } catch a { throw a ; } } catch b { print "b" + b ; } fun ( ) { } ( ) ; ( fun ( x ) { x ; } ) ( 1 ) ;`,
	)
}

// tokensToTry: one of each token, and those that cannot stand in a program.
func tokensToTry() []string {
	out := strings.Fields(wordsOfLanguage + " " + marksOfLanguage)
	return append(out, "q", "5", `"t"`, `";"`, infiniteNumber, `"`+strings.Repeat("t", 41)+`"`)
}

func TestTokensLeftOut(t *testing.T) {
	for _, program := range rightPrograms() {
		words := strings.Fields(program)
		checkParsed(t, program)
		for i := range words {
			for size := 1; size <= 3 && i+size <= len(words); size++ {
				checkParse(t, toWrite(slices.Delete(slices.Clone(words), i, i+size)))
			}
		}
	}
	for _, marked := range []string{
		"let @= 1 ;", "let a @1 ;", "let a = @;", "let a = 1@", "a @1 ;", "@= 1 ;", "a = @;", "a = 1@", "print @;", "print 1@", "1@", "@;", "return @;", "return 1@", "throw @;", "throw 1@",
		"( a ) @{ }", "if @a ) { }", "if ( @) { }", "if ( a @{ }", "if ( a ) @}", "if ( a ) {@", "if ( a ) { } @{ }", "if ( a ) { } else @}", "if ( a ) { } else {@", "if ( a ) { } else @( b ) { }",
		"while @a ) { }", "while ( @) { }", "while ( a @{ }", "while ( a ) @}", "while ( a ) {@", "try @} catch e { }", "try { @catch e { }", "try { } @e { }", "try { } catch @{ }", "try { } catch e @}", "try { } catch e {@", "@{ } catch e { }",
		"fun @) { }", "fun ( @{ }", "fun ( ) @}", "fun ( ) {@", "f ( ) @{ }", "fun f @) { }", "fun f ( @{ }", "fun f ( ) @}", "fun f ( ) {@", "fun f ( a @b ) { }", "fun f ( @, b ) { }", "fun f ( a , @) { }",
		"f @) ;", "f ( @;", "f ( )@", "f ( 1 @2 ) ;", "f ( 1 , @) ;", "f ( @, 2 ) ;", "print a @b ;", "print @* b ;", "print a * @;", "print ( a @;", "print a @) ;", "print ( @) ;", "print - @;", "print ! @;",
	} {
		checkFaultBefore(t, marked)
	}
	// What is left is a program, too.
	for _, source := range []string{"- b ;", "( a ) ;", "b ;", "fun ( ) { } ;", "f ;"} {
		checkParsed(t, source)
	}
}

func TestTokensTooMany(t *testing.T) {
	for _, program := range rightPrograms() {
		words := strings.Fields(program)
		for i := range len(words) + 1 {
			for _, more := range tokensToTry() {
				checkParse(t, toWrite(slices.Insert(slices.Clone(words), i, more)))
			}
		}
	}
	for _, marked := range []string{
		"@;", "1 ; @;", "let a = 1 ; @;", "@{ }", "@}", "@)", "( 1 ) @) ;", "if ( a ) { } @;", "if ( a ) { } @}", "if ( a ) { } else { } @else { }", "while ( a ) { } @;", "try { } catch e { } @catch f { }",
		"fun f ( ) { } @{ }", "fun ( ) { } @{ } ;", "let @let a = 1 ;", "let a @b = 1 ;", "let a = @= 1 ;", "let a = 1 @2 ;", "print @print 1 ;", "return @return 1 ;", "if @if ( a ) { }", "if ( a @b ) { }", "f ( ( 1 @, 2 ) ) ;", "@else { }", "@catch e { }",
		"try { } catch e @f { }", "try { } catch @( e ) { }", "let a = 1 @, b = 2 ;", "a + @+ b ;", "a @! b ;", "! @* b ;", "a @a ;", "1 @1 ;",
	} {
		checkFaultBefore(t, marked)
	}
}

func TestTokensTurned(t *testing.T) {
	for _, program := range rightPrograms() {
		words := strings.Fields(program)
		for i := range words {
			for _, other := range tokensToTry() {
				turned := slices.Clone(words)
				turned[i] = other
				checkParse(t, toWrite(turned))
			}
			if i > 0 {
				swapped := slices.Clone(words)
				swapped[i-1], swapped[i] = swapped[i], swapped[i-1]
				checkParse(t, toWrite(swapped))
			}
		}
	}
}

// Two tokens alone, and three: whatever may begin a program, and whatever may not.
func TestFewTokens(t *testing.T) {
	all := tokensToTry()
	for _, first := range all {
		checkParse(t, first)
		for _, second := range all {
			checkParse(t, first+" "+second)
			for _, third := range all {
				checkParse(t, first+" "+second+" "+third)
			}
		}
	}
}

// A program that is cut goes on behind its end: its fault is its length, unless what is left is a program itself.
func TestEndsOfSources(t *testing.T) {
	for _, program := range rightPrograms() {
		words := strings.Fields(program)
		for i := range words {
			for _, behind := range []string{"", " ", "\n\t "} {
				source := toWrite(words[:i]) + behind
				checkParse(t, source)
				if _, fault := impl.Parse(source); fault != -1 && fault != len(source) {
					t.Errorf("Parse(%q) has its fault at %d, not at its end", source, fault)
				}
			}
		}
	}
	for _, statement := range statementsOfChapter() {
		words := strings.Fields(statement)
		for i := 1; i < len(words); i++ {
			source := toWrite(words[:i])
			if source == "if ( a ) { }" || source == "if ( a ) { } else if ( b ) { }" || source == "if ( a ) { print 1 ; a = 2 ; }" {
				checkParsed(t, source)
				continue
			}
			checkParseFault(t, source, len(source))
			checkParseFault(t, source+"\n", len(source)+1)
			checkParseFault(t, "\t"+source+"  ", len(source)+3)
		}
	}
}

func TestScansFaults(t *testing.T) {
	for _, c := range []struct {
		source string
		want   int
	}{
		{"@", 0}, {"x=1;@", 4}, {"print &1;", 6}, {`print "a`, 6}, {"print abcdefghijklm;", 6}, {"print 1.;", 7}, {"print 1e1000;", 6}, {"x=1;\r", 4}, {"x\x00", 1}, {"é", 0}, {"x=1;#", 4}, {"x|y;", 1},
		{"print 1;\x80", 8}, {"\"a\nb\";", 0},
	} {
		checkParseFault(t, c.source, c.want)
	}
	// A source that Scan refuses has no tokens: its place is told, even where the tokens ahead of it would be a fault.
	for _, ahead := range []string{"", "x=1;", ";", "print ", "print ; ", "let let ", "}}} ", "if(1){", "print " + infiniteNumber + ";", strings.Repeat("(", 40)} {
		for _, wrong := range []string{"@", "&", "abcdefghijklm", `"`, "1e1000", "\x7f"} {
			checkParseFault(t, ahead+wrong, len(ahead))
			checkParseFault(t, ahead+wrong+"\n;"+wrong, len(ahead))
		}
	}
}

func TestTwoFaults(t *testing.T) {
	for _, marked := range []string{
		"print @; print ;", "let @= 1; let = 2;", "x = 1; print @; let = ;", "if @1 { let ; }", "fun f(a @b) { print ; }", "f(1 @2) + ;", "print ( 1 @; print ( 2 ;", "print @" + infiniteNumber + "; print ;", "print @; print " + infiniteNumber + ";",
		`print @"` + strings.Repeat("x", 41) + `" "y";`, "fun f(a,b,c,d@,e) { f(1,2,3,4,5,6,7); }", "f(1,2,3,4,5,6@,7); fun g(a,b,c,d,e){}", "@} }", "print @) ) ;", "while (@) {", "try @catch", "if (1) { @else {",
		"print " + strings.Repeat("(", 23) + "@( + ;", "print @; " + strings.Repeat("-", 30) + "1;", "print " + strings.Repeat("-", 23) + "@-; print ;", "print " + strings.Repeat("-", 22) + "-@;", strings.Repeat("if(1){", 12) + "@let = ;",
	} {
		checkFaultBefore(t, marked)
	}
	// Two tokens of each program are turned: the place is the first one's.
	programs := rightPrograms()
	for i, program := range programs[len(programs)-4:] {
		words := strings.Fields(program)
		for first := range words {
			for step := 1; first+step < len(words); step += 5 + i {
				spoiled := slices.Clone(words)
				spoiled[first], spoiled[first+step] = infiniteNumber+" "+infiniteNumber, infiniteNumber+" "+infiniteNumber
				_, one := impl.Parse(toWrite(append(slices.Clone(spoiled[:first+1]), words[first+1:]...)))
				_, both := impl.Parse(toWrite(spoiled))
				if one != both || one < 0 {
					t.Errorf("%q: the fault is at %d, and with another one behind it at %d", toWrite(spoiled), one, both)
				}
			}
		}
	}
}

// grower makes programs by the rules, with steps chosen by a seed.
type grower struct {
	shrub
	least map[string]int
}

// leastSizes: how many tokens each word of the rules has at least.
func leastSizes() map[string]int {
	least := map[string]int{}
	for range grammar {
		for of, rules := range grammar {
			for _, rule := range rules {
				size := leastOf(allRules[rule].words, least)
				if known := least[of]; size > 0 && (known == 0 || size < known) {
					least[of] = size
				}
			}
		}
	}
	return least
}

// leastOf: how many tokens a rule has at least; 0 when that is not known yet.
func leastOf(rule []string, least map[string]int) int {
	size := 0
	for _, word := range rule {
		switch {
		case grammar[word] == nil:
			size++
		case least[word] == 0:
			return 0
		}
		size += least[word]
	}
	return size
}

func (g *grower) grown(word string, room int) []string {
	if grammar[word] == nil {
		return []string{g.written(word)}
	}
	var fit [][]string
	for _, rule := range grammar[word] {
		if words := allRules[rule].words; leastOf(words, g.least) <= room {
			fit = append(fit, words)
		}
	}
	chosen := fit[g.below(len(fit))]
	spare := room - leastOf(chosen, g.least)
	var out []string
	for i, part := range chosen {
		more := 0
		if grammar[part] != nil {
			more = g.below(spare + 1)
			if i == len(chosen)-1 || !slices.ContainsFunc(chosen[i+1:], func(word string) bool { return grammar[word] != nil }) {
				more = spare
			}
		}
		spare -= more
		out = append(out, g.grown(part, g.least[part]+more)...)
	}
	return out
}

func (g *grower) written(class string) string {
	choices := map[string][]string{
		"FUN": {"fun"}, "NAME": {"a", "b", "x1", "_", "long_name_12", "lets", "If"}, "NUMBER": {"0", "1", "2.5", "1e3", "0.1e-7", "007"}, "TEXT": {`""`, `"text"`, `"("`, `"let"`, `"};"`, `"` + strings.Repeat("~", 40) + `"`},
	}[class]
	if choices == nil {
		return class
	}
	return choices[g.below(len(choices))]
}

// programBySteps: the tokens of a program of about so many.
func programBySteps(room int, seed int) []string {
	g := grower{shrub: shrub{state: uint64(seed)*2654435761 + 88172645463325252}, least: leastSizes()}
	return g.grown("Program", room)
}

// tight writes tokens without blanks, where none are needed.
func tight(words []string) string {
	out := ""
	isPart := func(b byte) bool { return nameForm.MatchString("_" + string(rune(b))) }
	for _, word := range words {
		if out != "" && isPart(out[len(out)-1]) && isPart(word[0]) {
			out += " "
		}
		out += word
	}
	return out
}

func TestProgramsBySteps(t *testing.T) {
	right, kinds := 0, map[int]int{}
	for seed := range 1500 {
		words := programBySteps(2+seed%150, seed)
		source := tight(words)
		tree := checkParse(t, source)
		if len(tree) > 0 {
			right++
		}
		for _, node := range tree {
			kinds[node.Kind]++
		}
		if spaced := toWrite(words); len(spaced) <= 600 {
			if other := checkParse(t, spaced); !impl.SameTree(tree, other) {
				t.Fatalf("%q and %q are not the same", source, spaced)
			}
		}
	}
	for _, kind := range allKinds() {
		if kinds[kind] < 50 {
			t.Errorf("there are but %d nodes of kind %d", kinds[kind], kind)
		}
	}
	if right < 1000 {
		t.Errorf("but %d are right", right)
	}
}

func TestSpoiledProgramsBySteps(t *testing.T) {
	dice := shrub{state: 88172645463325252}
	all := tokensToTry()
	for seed := range 600 {
		words := programBySteps(3+seed%60, seed+5000)
		for range 8 {
			spoiled := slices.Clone(words)
			for range 1 + dice.below(2) {
				at := dice.below(len(spoiled))
				switch dice.below(3) {
				case 0:
					spoiled[at] = all[dice.below(len(all))]
				case 1:
					spoiled = slices.Insert(spoiled, at, all[dice.below(len(all))])
				default:
					spoiled = slices.Insert(slices.Delete(spoiled, at, at+1), dice.below(len(spoiled)), words[at%len(words)])
				}
			}
			checkParse(t, toWrite(spoiled))
		}
	}
}

// Bytes of programs are turned, as they stand.
func TestParseOfSpoiledSources(t *testing.T) {
	for _, program := range append(programs(), rightPrograms()...) {
		for at := range program {
			checkParse(t, program[:at])
			checkParse(t, program[at:])
			for _, other := range []string{"", " ", ";", "(", ")", "=", "{", "}", "-", "x", "1", `"`, ",", "@", "é"} {
				checkParse(t, program[:at]+other+program[at+1:])
			}
		}
	}
}

// With other blanks the tree is the same, and each node's place that of the same token.
func TestParseWithOtherBlanks(t *testing.T) {
	for _, program := range rightPrograms() {
		tokens, _ := impl.Scan(program)
		tree := checkParsed(t, program)
		for seed := range 21 {
			other := otherBlanks(tokens, seed)
			moved, _ := impl.Scan(other)
			want := copyOfTree(tree)
			for i := range want[:len(want)-1] {
				at := slices.IndexFunc(tokens, func(token impl.Token) bool { return token.At == tree[i].At })
				want[i].At = moved[at].At
			}
			if got := checkParsed(t, other); toldWithAt(got) != toldWithAt(want) {
				t.Fatalf("Parse(%q) =\n%swant\n%s", other, toldWithAt(got), toldWithAt(want))
			}
		}
	}
}

// What is written into an answer, or behind its lists, is to be seen nowhere else.
func TestTreesAreNewMemory(t *testing.T) {
	for _, program := range rightPrograms() {
		first, _ := impl.Parse(program)
		want := toldWithAt(first)
		for i := range first {
			list, names := append(first[i].List, -1), append(first[i].Names, "spare")
			list[0], names[0] = -2, "written"
			list[len(list)-1], names[len(names)-1] = -3, "room"
			for j := range first {
				if slices.Contains(first[j].List, -3) || slices.Contains(first[j].Names, "room") || j > i && (slices.Contains(first[j].List, -2) || slices.Contains(first[j].Names, "written")) {
					t.Fatalf("%q: nodes %d and %d share memory", program, i, j)
				}
			}
		}
		second, fault := impl.Parse(program)
		if fault != -1 || toldWithAt(second) != want {
			t.Fatalf("Parse(%q) is another one, once its answer was written into", program)
		}
	}
}

// Nothing is kept from one call to another, whatever its end.
func TestParseKeepsNothing(t *testing.T) {
	deep := "print " + strings.Repeat("(", 24) + "1"
	for _, program := range rightPrograms() {
		before, _ := impl.Parse(program)
		for _, between := range []string{deep, "print ;", "@", "if(1){", ""} {
			impl.Parse(between)
			if after, fault := impl.Parse(program); fault != -1 || !reflect.DeepEqual(before, after) {
				t.Fatalf("Parse(%q) is another one behind %q", program, between)
			}
		}
	}
}
