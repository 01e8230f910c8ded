package tests

import (
	"slices"
	"strings"
	"testing"

	"loop.example/g00115/impl"
)

// Promise 11: what is printed of a program's tree, where that is neither too long nor too deep, is parsed as the same tree.

// textsOfKinds: how a node is printed. N is its name, S its number, P its parameters, O its mark, L its list, H what is handed in,
// A, B and C what is printed of these; G is A in brackets where what is called, or stands behind a sign, needs them, F where a NodeExpr does.
var textsOfKinds = map[int]string{
	1: "S", 2: `"N"`, 3: "true", 4: "false", 5: "none", 6: "N", 7: "!G", 8: "-G", 9: "(AOB)", 10: "(A&&B)", 11: "(A||B)", 12: "G(H)", 13: "fun(P)A",
	20: "let N=A;", 21: "N=A;", 22: "print A;", 23: "if(A)Belse C", 24: "while(A)B", 25: "return A;", 26: "throw A;", 27: "try A catch N B", 28: "F;", 29: "{L}",
}

// printByRule fills in the text of each node, from the first to the last: what it is made of stands ahead of it.
func printByRule(tree []impl.Node) (string, bool) {
	if !treeByRule(tree) {
		return "", false
	}
	texts := make([]string, len(tree))
	for at, node := range tree {
		texts[at] = filledIn(tree, texts, node)
	}
	last := texts[len(tree)-1]
	if source := last[1 : len(last)-1]; len(source) <= 600 {
		return source, true
	}
	return "", false
}

func filledIn(tree []impl.Node, texts []string, node impl.Node) string {
	form := textsOfKinds[node.Kind]
	part := func(at int) string {
		if at < 0 || at >= len(texts) {
			return ""
		}
		return texts[at]
	}
	// In brackets, when A is one of these kinds.
	guarded := func(kinds ...int) string {
		if slices.Contains(kinds, tree[node.A].Kind) {
			return "(" + texts[node.A] + ")"
		}
		return texts[node.A]
	}
	var list []string
	for _, at := range node.List {
		list = append(list, texts[at])
	}
	switch {
	case node.Kind == 20 && node.B == 1:
		form, texts = "fun NA", slices.Clone(texts)
		texts[node.A] = strings.TrimPrefix(texts[node.A], "fun")
	case node.Kind == 23 && node.C == -1:
		form = "if(A)B"
	}
	name := strings.Join(node.Names, ",")
	return strings.NewReplacer(
		"N", name, "P", name, "S", shownByFloats(node.Num), "O", []string{"", "+", "-", "*", "/", "%", "<", "<=", ">", ">=", "==", "!="}[max(node.C, 0)%12],
		"L", strings.Join(list, ""), "H", strings.Join(list, ","), "A", part(node.A), "B", part(node.B), "C", part(node.C), "G", guarded(13, 7, 8), "F", guarded(13),
	).Replace(form)
}

// nestedInPrint: how many of what MaxDepth counts are within one another, when the tree is printed.
func nestedInPrint(tree []impl.Node) int {
	last := len(tree) - 1
	around, most := make([]int, len(tree)), 0
	for at, node := range slices.Backward(tree) {
		inner := around[at]
		// Statements, blocks, those with brackets of their own, those with signs, and functions; the program's block is none.
		if at < last && (node.Kind >= 20 || node.Kind >= 7 && node.Kind <= 11 || node.Kind == 13) {
			inner++
		}
		most = max(most, inner)
		parts, _ := rolesOf(node)
		for i, part := range parts {
			kind := tree[part].Kind
			around[part] = inner
			switch {
			case node.Kind == 20 && node.B == 1:
				// `fun` is the statement itself.
				around[part]--
			case i == 0 && (node.Kind == 12 || node.Kind == 7 || node.Kind == 8) && (kind == 13 || kind == 7 || kind == 8), node.Kind == 28 && kind == 13:
				around[part]++
				most = max(most, around[part])
			}
		}
	}
	return most
}

// inOrder: the same tree with its nodes in the order in which they end.
func inOrder(tree []impl.Node) []impl.Node {
	var m maker
	var put func(at int) int
	put = func(at int) int {
		node := copyOfTree(tree[at : at+1])[0]
		parts, _ := rolesOf(node)
		for slot, part := range parts {
			setPart(&node, slot, put(part))
		}
		return m.put(node)
	}
	put(len(tree) - 1)
	return m.tree
}

// parsesBackByRule: whether a print is parsed as the tree, as the tree tells it: its nodes stand as they end, and nothing is too many or too deep.
func parsesBackByRule(tree []impl.Node, source string) bool {
	tooMany := slices.ContainsFunc(tree, func(node impl.Node) bool { return node.Kind == 12 && len(node.List) > 6 })
	_, fault := scanByRule(source)
	return !tooMany && fault == -1 && nestedInPrint(tree) <= 24 && toldWithoutAt(tree) == toldWithoutAt(inOrder(tree))
}

// checkPrint holds Print and PrintsBack against the rules, and answers the print.
func checkPrint(t *testing.T, tree []impl.Node) (string, bool) {
	t.Helper()
	want, wantOk := printByRule(tree)
	got, ok := impl.Print(tree)
	if got != want || ok != wantOk {
		t.Fatalf("Print(%+v) = %q, %v, want %q, %v", tree, got, ok, want, wantOk)
	}
	if back, wantBack := impl.PrintsBack(tree), ok && parsesBackByRule(tree, got); back != wantBack {
		t.Fatalf("PrintsBack(%+v), of %q, is %v, want %v", tree, got, back, wantBack)
	}
	return got, ok
}

// checkBack: the print is parsed as the same tree, but for At, and printed again as the same text.
func checkBack(t *testing.T, tree []impl.Node) string {
	t.Helper()
	printed, ok := checkPrint(t, tree)
	back, fault := impl.Parse(printed)
	again, againOk := impl.Print(back)
	if !ok || fault != -1 || toldWithoutAt(back) != toldWithoutAt(tree) || again != printed || !againOk || !impl.PrintsBack(tree) {
		t.Fatalf("%q, %v is parsed as\n%s%d, and printed again as %q, %v; it is of\n%s", printed, ok, toldWithAt(back), fault, again, againOk, toldWithAt(tree))
	}
	return printed
}

// checkPrints: the tree of a source is printed as a text, and that is parsed as it.
func checkPrints(t *testing.T, source string, want string) {
	t.Helper()
	tree, fault := impl.Parse(source)
	if fault != -1 {
		t.Fatalf("Parse(%q) has a fault at %d", source, fault)
	}
	if got := checkBack(t, tree); got != want {
		t.Errorf("%q is printed as %q, want %q", source, got, want)
	}
}

// checkPrintsE: an E is printed so, wherever it is all that stands there.
func checkPrintsE(t *testing.T, e string, want string) {
	t.Helper()
	checkPrints(t, "print "+e+" ;", "print "+want+";")
	checkPrints(t, "x = "+e+" ;", "x="+want+";")
	checkPrints(t, "if ( "+e+" ) { }", "if("+want+"){}")
	checkPrints(t, "f ( "+e+" , ( "+e+" ) ) ;", "f("+want+","+want+");")
}

// checkNoPrint: nothing is printed, and it does not print back.
func checkNoPrint(t *testing.T, tree []impl.Node) {
	t.Helper()
	checkPrint(t, tree)
	if got, ok := impl.Print(tree); got != "" || ok || impl.PrintsBack(tree) {
		t.Errorf("Print(%+v) = %q, %v, or it prints back", tree, got, ok)
	}
}

// checkNotBack: the print is such, but it is not parsed as the same tree.
func checkNotBack(t *testing.T, tree []impl.Node, want string) {
	t.Helper()
	if got, ok := checkPrint(t, tree); got != want || !ok || impl.PrintsBack(tree) {
		t.Errorf("Print(%+v) = %q, %v, want %q, true; or it prints back", tree, got, ok, want)
	}
}

func parsedTree(t *testing.T, source string) []impl.Node {
	t.Helper()
	tree, fault := impl.Parse(source)
	if fault != -1 {
		t.Fatalf("Parse(%q) has a fault at %d", source, fault)
	}
	return tree
}

func TestPrintOfTheEmptyProgram(t *testing.T) {
	for _, at := range []int{0, 1, 600} {
		tree := []impl.Node{{Kind: impl.NodeBlock, At: at}}
		if got, ok := impl.Print(tree); got != "" || !ok || !impl.PrintsBack(tree) {
			t.Errorf("Print of the empty program = %q, %v, or it does not print back", got, ok)
		}
		checkBack(t, tree)
	}
	checkBack(t, []impl.Node{{Kind: impl.NodeBlock, List: []int{}, Names: []string{}}})
	checkPrints(t, " \n\t ", "")
	checkNoPrint(t, nil)
	checkNoPrint(t, []impl.Node{})
	checkNoPrint(t, []impl.Node{{Kind: impl.NodeBlock, At: 601}})
	checkNoPrint(t, []impl.Node{{}})
}

func TestPrintsOfStatements(t *testing.T) {
	for source, want := range map[string]string{
		"let abc = 1 ;": "let abc=1;", "let f = fun ( ) { } ;": "let f=fun(){};", "let f = fun ( a , b ) { return a ; } ;": "let f=fun(a,b){return a;};", "let f = ( fun ( ) { } ) ;": "let f=fun(){};",
		"abc = 1 ;": "abc=1;", "f = fun ( ) { } ;": "f=fun(){};", "print 1 ;": "print 1;", "print ( 1 ) ;": "print 1;", "return 1 ;": "return 1;", "return - a ;": "return -a;", "return ( a + b ) ;": "return (a+b);", "throw 1 ;": "throw 1;",
		`throw "x y" ;`: `throw "x y";`, "1 ;": "1;", "a ;": "a;", "a ( ) ;": "a();", "( a ) ;": "a;", "a + b ;": "(a+b);", "a == b ;": "(a==b);",
		"if ( a ) { }": "if(a){}", "if ( a < b ) { }": "if((a<b)){}", "if ( a ) { 1 ; }": "if(a){1;}", "if ( a ) { } else { }": "if(a){}else {}", "if ( a ) { 1 ; } else { 2 ; 3 ; }": "if(a){1;}else {2;3;}",
		"if ( a ) { } else if ( b ) { }": "if(a){}else if(b){}", "if ( a ) { } else if ( b ) { } else { }": "if(a){}else if(b){}else {}", "if ( a ) { } else if ( b ) { 1 ; } else if ( c ) { } else { 2 ; }": "if(a){}else if(b){1;}else if(c){}else {2;}",
		"if ( a ) { } else { if ( b ) { } }": "if(a){}else {if(b){}}", "if ( a ) { if ( b ) { } } else { }": "if(a){if(b){}}else {}", "if ( a ) { if ( b ) { } else { } }": "if(a){if(b){}else {}}", "if ( a ) { } if ( b ) { }": "if(a){}if(b){}",
		"while ( a ) { }": "while(a){}", "while ( a + 1 ) { print a ; a = a - 1 ; }": "while((a+1)){print a;a=(a-1);}", "while ( ! a ) { while ( b ) { } }": "while(!a){while(b){}}",
		"try { } catch e { }": "try {} catch e {}", "try { throw 1 ; } catch e1 { print e1 ; }": "try {throw 1;} catch e1 {print e1;}", "try { try { } catch a { } } catch b { try { } catch c { } }": "try {try {} catch a {}} catch b {try {} catch c {}}",
		"fun f ( ) { }": "fun f(){}", "fun f ( a ) { }": "fun f(a){}", "fun f ( a , b , c , d ) { return a ; }": "fun f(a,b,c,d){return a;}", "fun f ( ) { fun g ( x ) { } let h = fun ( ) { } ; }": "fun f(){fun g(x){}let h=fun(){};}",
		"let a = 1 ; a = 2 ; print a ; a ;": "let a=1;a=2;print a;a;", "fun f(a,b) { if (a < b) { return -a; } else { x = \"q\"; } } ": "fun f(a,b){if((a<b)){return -a;}else {x=\"q\";}}",
	} {
		checkPrints(t, source, want)
		checkPrints(t, want, want)
		checkPrints(t, "x = 0 ;"+source+" x = 9 ;", "x=0;"+want+"x=9;")
		checkPrints(t, "while ( 1 ) { "+source+" }", "while(1){"+want+"}")
		checkPrints(t, "fun k ( ) { "+source+source+" }", "fun k(){"+want+want+"}")
	}
}

func TestPrintOfTheKnownTree(t *testing.T) {
	want := `let n=3;fun f(a,b){return (a<b);}if(f(n,4)){print "yes";}else if(!n){n=-n;}while(n){try {throw none;} catch e {}}`
	if got := checkBack(t, knownTree()); got != want {
		t.Errorf("the known tree is printed as %q", got)
	}
}

func TestPrintsOfEachE(t *testing.T) {
	for e, want := range map[string]string{
		"1": "1", "2.50": "2.5", "007": "7", `"a b"`: `"a b"`, `""`: `""`, `"let"`: `"let"`, `"({;,"`: `"({;,"`, `"` + fortyBytes + `"`: `"` + fortyBytes + `"`, "true": "true", "false": "false", "none": "none", "a": "a", "long_name_12": "long_name_12",
		"( a )": "a", "( ( a ) )": "a", "- a": "-a", "! a": "!a", "- 1": "-1", "! true": "!true", `! "x"`: `!"x"`, "- none": "-none", "- ( a )": "-a", "! ( a )": "!a",
		"a || b": "(a||b)", "a && b": "(a&&b)", "a == b": "(a==b)", "a != b": "(a!=b)", "a < b": "(a<b)", "a <= b": "(a<=b)", "a > b": "(a>b)", "a >= b": "(a>=b)", "a + b": "(a+b)", "a - b": "(a-b)", "a * b": "(a*b)", "a / b": "(a/b)", "a % b": "(a%b)",
		"( a + b )": "(a+b)", "a + b + c": "((a+b)+c)", "a + ( b + c )": "(a+(b+c))", "a + b * c": "(a+(b*c))", "( a + b ) * c": "((a+b)*c)", "a || b && c": "(a||(b&&c))", "( a || b ) && c": "((a||b)&&c)", "a == b < c": "(a==(b<c))",
		"- a + b": "(-a+b)", "- ( a + b )": "-(a+b)", "a - - b": "(a--b)", "a + - 1": "(a+-1)", "a < - b": "(a<-b)", "a == ! b": "(a==!b)", "! a == b": "(!a==b)", "! ( a == b )": "!(a==b)", "! a && ! b": "(!a&&!b)", "a != ! b": "(a!=!b)", "a - ( - b )": "(a--b)",
		"f ( )": "f()", "f ( 1 )": "f(1)", "f ( 1 , b )": "f(1,b)", `f ( 1 , "2" , true , false , none , f )`: `f(1,"2",true,false,none,f)`, "f ( ) ( )": "f()()", "f ( 1 ) ( 2 , 3 ) ( )": "f(1)(2,3)()", "f ( g ( h ( ) ) )": "f(g(h()))", "f ( a + b , - c )": "f((a+b),-c)",
		"( f ) ( 1 )": "f(1)", "f ( ( 1 ) )": "f(1)", "1 ( 2 )": "1(2)", `"a" ( )`: `"a"()`, "true ( )": "true()", "none ( none )": "none(none)", "( a + b ) ( c )": "(a+b)(c)", "( a && b ) ( )": "(a&&b)()", "( a || b ) ( )": "(a||b)()", "- f ( )": "-f()", "! f ( 1 ) ( 2 )": "!f(1)(2)",
		"fun ( ) { }": "fun(){}", "fun ( a ) { }": "fun(a){}", "fun ( a , b , c , d ) { return a ; }": "fun(a,b,c,d){return a;}", "fun ( ) { return fun ( ) { } ; }": "fun(){return fun(){};}", "( fun ( ) { } )": "fun(){}", "f ( fun ( ) { } , fun ( x ) { } )": "f(fun(){},fun(x){})",
		"fun ( ) { } + 1": "(fun(){}+1)", "1 + fun ( ) { }": "(1+fun(){})", "fun ( ) { } == fun ( ) { }": "(fun(){}==fun(){})", "fun ( ) { } && a": "(fun(){}&&a)",
	} {
		checkPrintsE(t, e, want)
		checkPrintsE(t, want, want)
	}
}

// operandsInBrackets: one of each kind of E, by which of them stand in brackets where they are called, or behind a sign.
func operandsInBrackets() map[string]bool {
	return map[string]bool{
		"1": false, "0.5": false, `"t"`: false, `""`: false, "true": false, "false": false, "none": false, "a": false, "(a+b)": false, "(a==b)": false, "(a&&b)": false, "(a||b)": false, "f()": false, "f(1,2)": false, "f()()": false, "(-a)()": false, "(fun(){})()": false,
		"-a": true, "!a": true, "-1": true, "-(-a)": true, "!(-a)": true, "-(!a)": true, "!(a+b)": true, "-f()": true, "!(fun(){})": true, "fun(){}": true, "fun(a,b){return a;}": true,
	}
}

func TestBracketsOfPrints(t *testing.T) {
	for e, inBrackets := range operandsInBrackets() {
		bound := e
		if inBrackets {
			bound = "(" + e + ")"
		}
		for source, want := range map[string]string{
			"(" + e + ")()": bound + "()", "(" + e + ")(1,b)": bound + "(1,b)", "((" + e + "))(1)()": bound + "(1)()", "-(" + e + ")": "-" + bound, "!(" + e + ")": "!" + bound, "((" + e + ")())()": bound + "()()",
			"-((" + e + ")())": "-" + bound + "()", "!((" + e + ")(1))(2)": "!" + bound + "(1)(2)", "(-(" + e + "))()": "(-" + bound + ")()", "(!(" + e + "))(3)": "(!" + bound + ")(3)", "-(-(" + e + "))": "-(-" + bound + ")", "!(!(" + e + "))": "!(!" + bound + ")",
			"-(!(" + e + "))": "-(!" + bound + ")", "!(-(" + e + "))": "!(-" + bound + ")", "f(" + e + ")": "f(" + e + ")", "f(1,(" + e + "))": "f(1," + e + ")", "(" + e + ")+1": "(" + e + "+1)", "1-(" + e + ")": "(1-" + e + ")", "(" + e + ")&&(" + e + ")": "(" + e + "&&" + e + ")",
			"1||(" + e + ")": "(1||" + e + ")", "fun(){return (" + e + ");}": "fun(){return " + e + ";}",
		} {
			checkPrintsE(t, source, want)
		}
	}
}

// A NodeFun that is all of a NodeExpr stands in brackets; nothing else that stands there does for that.
func TestStatementsThatAreAnE(t *testing.T) {
	for source, want := range map[string]string{
		"fun(){};": "(fun(){});", "(fun(){});": "(fun(){});", "((fun(a,b){return a;}));": "(fun(a,b){return a;});", "fun(){}();": "(fun(){})();", "(fun(){})();": "(fun(){})();", "(fun(a){})(1)(2);": "(fun(a){})(1)(2);",
		"fun(){}+1;": "(fun(){}+1);", "1+fun(){};": "(1+fun(){});", "fun(){}&&fun(){};": "(fun(){}&&fun(){});", "fun(){}||1;": "(fun(){}||1);", "!fun(){};": "!(fun(){});", "-fun(){};": "-(fun(){});", "f(fun(){});": "f(fun(){});", "fun(){}(fun(){});": "(fun(){})(fun(){});",
		"(fun(){}==1)();": "(fun(){}==1)();", "fun(){fun(){};};": "(fun(){(fun(){});});", "fun f(){fun(){};}": "fun f(){(fun(){});}", "fun f(){}fun(){};": "fun f(){}(fun(){});", "if(1){fun(){};}else{fun(){};}": "if(1){(fun(){});}else {(fun(){});}",
		"let f=fun(){};": "let f=fun(){};", "f=fun(){};": "f=fun(){};", "print fun(){};": "print fun(){};", "return fun(){};": "return fun(){};", "throw fun(){};": "throw fun(){};", "while(fun(){}){}": "while(fun(){}){}",
		"-a;": "-a;", "!a;": "!a;", "-(-a);": "-(-a);", "--a;": "-(-a);", "-a();": "-a();", "(-a)();": "(-a)();", "a==1;": "(a==1);", "(a)==1;": "(a==1);",
	} {
		checkPrints(t, source, want)
	}
	for e := range operandsInBrackets() {
		want := e
		if strings.HasPrefix(e, "fun") {
			want = "(" + e + ")"
		}
		checkPrints(t, "("+e+");", want+";")
		checkPrints(t, "fun f(){("+e+");("+e+");}", "fun f(){"+want+";"+want+";}")
	}
}

// Each kind of E as each part of each kind, in trees that no source told.
func TestPrintsOfEachKindInEach(t *testing.T) {
	for _, kind := range allKinds() {
		for slot, role := range strings.ReplaceAll(partsOfKinds[kind], "*", "") {
			for _, other := range allKinds() {
				if !roleAllows(byte(role), other) {
					continue
				}
				var m maker
				at := m.grow(kind, slot, other)
				tree := m.closed(at)
				checkBack(t, tree)
				if kind == impl.NodeLet && other == impl.NodeFun {
					checkBack(t, with(tree, at, func(node *impl.Node) { node.B = 1 }))
				}
			}
		}
	}
}

func TestPrintsOfFunctionsByFlag(t *testing.T) {
	for size := range 5 {
		params := []string{"a", "bc", "d_1", "abcdefghijkl"}[:size]
		tree := []impl.Node{{Kind: impl.NodeBlock}, {Kind: impl.NodeFun, Names: params}, {Kind: impl.NodeLet, A: 1, Names: []string{"name"}}, {Kind: impl.NodeBlock, List: []int{2}}}
		told := "(" + strings.Join(params, ",") + "){}"
		if got := checkBack(t, tree); got != "let name=fun"+told+";" {
			t.Errorf("with B 0: %q", got)
		}
		if got := checkBack(t, with(tree, 2, func(node *impl.Node) { node.B = 1 })); got != "fun name"+told {
			t.Errorf("with B 1: %q", got)
		}
	}
}

func TestPrintsOfIfs(t *testing.T) {
	tree := func(other ...impl.Node) []impl.Node {
		out := append([]impl.Node{{Kind: impl.NodeTrue}, {Kind: impl.NodeBlock}}, other...)
		at := len(out)
		return append(out, impl.Node{Kind: impl.NodeIf, A: 0, B: 1, C: at - 1}, impl.Node{Kind: impl.NodeBlock, List: []int{at}})
	}
	block := impl.Node{Kind: impl.NodeBlock}
	noneWithBlock := []impl.Node{{Kind: impl.NodeNone}, block}
	for _, c := range []struct {
		tree []impl.Node
		want string
	}{
		{with(tree(), 2, func(node *impl.Node) { node.C = -1 }), "if(true){}"},
		{tree(block), "if(true){}else {}"},
		{tree(append(noneWithBlock, impl.Node{Kind: impl.NodeIf, A: 2, B: 3, C: -1})...), "if(true){}else if(none){}"},
		{tree(append(noneWithBlock, block, impl.Node{Kind: impl.NodeIf, A: 2, B: 3, C: 4})...), "if(true){}else if(none){}else {}"},
		{tree(append(noneWithBlock, impl.Node{Kind: impl.NodeIf, A: 2, B: 3, C: -1}, impl.Node{Kind: impl.NodeBlock, List: []int{4}})...), "if(true){}else {if(none){}}"},
	} {
		if got := checkBack(t, c.tree); got != c.want {
			t.Errorf("%q is printed, want %q", got, c.want)
		}
	}
}

func TestPrintsOfNumbers(t *testing.T) {
	for told, want := range map[string]string{
		"0": "0", "0.0": "0", "1": "1", "10": "10", "1.50": "1.5", "0.1": "0.1", "3.25e1": "32.5", "123456789": "123456789", "1e20": "100000000000000000000", "1e21": "1e+21", "1e22": "1e+22", "1.5e300": "1.5e+300", "0.000001": "0.000001", "0.0000001": "1e-7", "1.25e-7": "1.25e-7",
		"5e-324": "5e-324", "1.7976931348623157e308": "1.7976931348623157e+308", "9007199254740993": "9007199254740992", "2.2250738585072014e-308": "2.2250738585072014e-308", "0.30000000000000004": "0.30000000000000004", "1e-400": "0", "123456789012345678901": "123456789012345680000",
	} {
		checkPrintsE(t, told, want)
		checkPrintsE(t, "-"+told, "-"+want)
		checkPrintsE(t, told+"-"+told, "("+want+"-"+want+")")
		checkPrintsE(t, told+"("+told+")", want+"("+want+")")
	}
	for _, num := range slices.Concat(numbersOfEachKind(), numbersBySteps(2000), []uint64{0, 1, greatestFinite}) {
		tree, at := smallTree(impl.NodeNumber)
		tree[at].Num = num
		if num >= impl.Infinite {
			checkNoPrint(t, tree)
		} else if got := checkBack(t, tree); got != shownByFloats(num)+";" {
			t.Errorf("%x is printed as %q", num, got)
		}
	}
}

func TestPrintsOfNamesAndTexts(t *testing.T) {
	for _, kind := range []int{impl.NodeName, impl.NodeLet, impl.NodeSet, impl.NodeTry, impl.NodeFun} {
		tree, at := smallTree(kind)
		for _, name := range namesThatAreRight() {
			checkBack(t, with(tree, at, func(node *impl.Node) { node.Names = []string{name} }))
		}
		for _, name := range namesThatAreWrong() {
			checkNoPrint(t, with(tree, at, func(node *impl.Node) { node.Names = []string{name} }))
		}
	}
	tree, at := smallTree(impl.NodeText)
	for b := range 256 {
		piece := string([]byte{byte(b)})
		for _, text := range []string{piece, "a" + piece, piece + strings.Repeat("z", 39)} {
			changed := with(tree, at, func(node *impl.Node) { node.Names = []string{text} })
			if b < 32 || b > 126 || b == '"' {
				checkNoPrint(t, changed)
			} else if got := checkBack(t, changed); got != `"`+text+`";` {
				t.Errorf("the text %q is printed as %q", text, got)
			}
		}
	}
	for size := range 45 {
		changed := with(tree, at, func(node *impl.Node) { node.Names = []string{strings.Repeat("x", size)} })
		if _, ok := checkPrint(t, changed); ok != (size <= 40) {
			t.Errorf("a text of %d bytes: %v", size, ok)
		}
	}
}

// sourceOfSize: a program that is its own print, with one statement ahead, and of just so many bytes.
func sourceOfSize(ahead string, size int) string {
	source := ahead
	for size-len(source) > 14 {
		source += "long_name_ab;"
	}
	for len(source) < size {
		rest := size - len(source)
		take := min(rest, 13)
		if rest-take == 1 {
			take--
		}
		source += strings.Repeat("y", take-1) + ";"
	}
	return source
}

func TestPrintsAtTheEndOfSources(t *testing.T) {
	for _, ahead := range []string{"", "let x=1;", "x=1;", "print 1;", "if(a){}", "if(a){}else {}", "if(a){}else if(b){}", "while(a){}", "return 1;", "throw 1;", "try {} catch e {}", "fun f(a,b){}", "(fun(){});", "-(-a);", `"text";`, "(a+b);", "f(1,2)();"} {
		for size := 590; size <= 600; size++ {
			source := sourceOfSize(ahead, size)
			if len(source) != size {
				t.Fatalf("%q is of %d bytes", source, len(source))
			}
			checkPrints(t, source, source)
		}
		// One byte more than a source may have: the tree is made longer by a name.
		tree := parsedTree(t, sourceOfSize(ahead, 598)+"z;")
		name := len(tree) - 3
		for size := 1; size <= 12; size++ {
			longer := with(tree, name, func(node *impl.Node) { node.Names = []string{strings.Repeat("z", size)} })
			if size == 1 {
				checkBack(t, longer)
			} else {
				checkNoPrint(t, longer)
			}
		}
	}
}

// What is longer in print than it was in its source, by brackets, blanks or figures.
func TestPrintsThatGetTooLong(t *testing.T) {
	fill := func(source string, size int) string { return sourceOfSize("", size-len(source)) + source }
	for _, c := range []struct {
		source string
		more   int
	}{
		{"a+b;", 2}, {"if(a){}else{}", 1}, {"try{}catch e{}", 3}, {"fun(){};", 2}, {"fun(){}();", 2}, {"--a;", 2}, {"a+b+c;", 4}, {"1e19;", 16}, {"!fun(){};", 2}, {"1e21;", 1}, {"a<b&&c;", 4},
	} {
		for over := -3; over <= 3; over++ {
			source := fill(c.source, 600-c.more+over)
			if len(source) > 600 {
				continue
			}
			tree := parsedTree(t, source)
			if over > 0 {
				checkNoPrint(t, tree)
				continue
			}
			if got := checkBack(t, tree); len(got) != 600+over {
				t.Errorf("%q is printed in %d bytes, want %d", source, len(got), 600+over)
			}
		}
	}
	// Trees whose print is much longer than any source.
	for _, tree := range [][]impl.Node{callTree(300), wideTree(299), chainTree(300)} {
		checkNoPrint(t, tree)
	}
}

// Brackets of NodeBinary count for depth, where the source had none.
func TestPrintsThatGetTooDeep(t *testing.T) {
	sums := func(count int) string { return "x=1" + strings.Repeat("+1", count) + ";" }
	printed := func(count int) string {
		return "x=" + strings.Repeat("(", count) + "1" + strings.Repeat("+1)", count) + ";"
	}
	for count := range 40 {
		tree := parsedTree(t, sums(count))
		if count <= 23 {
			checkPrints(t, sums(count), printed(count))
		} else {
			checkNotBack(t, tree, printed(count))
		}
	}
	repeated := strings.Repeat
	for _, c := range []struct {
		ahead, piece, behind string
		most                 int
	}{
		// A source is the piece, so many times, between ahead and behind; most of them are parsed again.
		{"x=1", "&&1", ";", 23}, {"x=1", "||1", ";", 23}, {"x=1", "-1", ";", 23}, {"x=1", "<1", ";", 23}, {"x=1", "==1", ";", 23}, {"if(1", "*1", "){}", 23}, {"while(1", "/1", "){}", 23}, {"1", "%1", ";", 23}, {"f(1", "+1", ");", 23}, {"x=f(1", "+1", ");", 23},
		{"if(a){x=1", "+1", ";}", 21}, {"fun f(){return 1", "+1", ";}", 21}, {"x=fun(){return 1", "+1", ";};", 20}, {"fun(){return 1", "+1", ";};", 19}, {"fun(){return 1", "+1", ";}();", 19}, {"if(a){}else if(1", "+1", "){}", 22}, {"x=-(1", "+1", ");", 22}, {"x=-a", "+1", ";", 22},
		{"x=", "-", "a;", 12}, {"x=", "!", "a;", 12}, {"", "-", "a;", 12}, {"x=", "!", "f(1);", 12}, {"x=", "-", "(a+b);", 11}, {"x=", "-", "fun(){};", 10}, {"x=(", "-", "a)();", 11},
	} {
		for count := range min(c.most+4, 24) {
			tree, fault := impl.Parse(c.ahead + repeated(c.piece, count) + c.behind)
			if fault != -1 {
				t.Fatalf("%q: a fault at %d", c.ahead+repeated(c.piece, count)+c.behind, fault)
			}
			if count <= c.most {
				checkBack(t, tree)
			} else if text, ok := checkPrint(t, tree); !ok || impl.PrintsBack(tree) {
				t.Errorf("%q, %v of %d is parsed again", text, ok, count)
			}
		}
	}
}

// Trees that are deeper than any source may be are printed, if they are not too long.
func TestPrintsOfDeepTrees(t *testing.T) {
	for count := 3; count < 300; count++ {
		tree := chainTree(count)
		text, ok := checkPrint(t, tree)
		if want := 3*(count-3) + len("true;") - 2; count > 3 && ok != (want <= 600) || ok && count > 3 && len(text) != want {
			t.Errorf("a chain of %d is printed as %q, %v", count, text, ok)
		}
		if impl.PrintsBack(tree) != (count <= 15) {
			t.Errorf("a chain of %d prints back: %v", count, count > 15)
		}
	}
	var m maker
	block := m.join(impl.NodeBlock)
	for count := 1; count <= 40; count++ {
		block = m.join(impl.NodeBlock, m.join(impl.NodeWhile, m.join(impl.NodeTrue), block))
		want := strings.Repeat("while(true){", count) + strings.Repeat("}", count)
		if inOrderTree := inOrder(m.tree); count <= 12 {
			if got := checkBack(t, inOrderTree); got != want {
				t.Errorf("%q is printed, want %q", got, want)
			}
		} else {
			checkNotBack(t, inOrderTree, want)
		}
	}
}

// signedAt: the tree with a NodeNot around one of its E.
func signedAt(tree []impl.Node, at int) []impl.Node {
	out := copyOfTree(tree)
	for i := range out {
		parts, _ := rolesOf(out[i])
		for slot, part := range parts {
			if part >= at {
				setPart(&out[i], slot, part+1)
			}
		}
	}
	return slices.Insert(out, at+1, impl.Node{Kind: impl.NodeNot, A: at})
}

// Brackets are tokens, too: what has few enough in its source may have too many in print.
func TestPrintsOfTooManyTokens(t *testing.T) {
	times := strings.Repeat
	for _, source := range []string{
		times("(x+x);", 32) + times("x;", 4), times("x;", 100), times("-x;", 66) + "x;", times("(fun(){});", 24) + times("x;", 4), times("f(1);", 40), times("if(a){}else {}", 20) + times("x;", 10),
		times("try {} catch e {}", 28) + "x;x;", times("-(-x);", 33) + "x;", times("let f=fun(){};", 20) + times("x;", 10),
	} {
		if tokens, _ := scanByRule(source); len(tokens) != 200 {
			t.Fatalf("%q has %d tokens", source, len(tokens))
		}
		checkPrints(t, source, source)
		tree := parsedTree(t, source)
		// The last statement is an E: with a sign, it has one token more.
		more := signedAt(tree, len(tree)-3)
		end := strings.LastIndex(source[:len(source)-1], ";") + 1
		checkNotBack(t, more, source[:end]+"!"+source[end:])
	}
	for count := range 51 {
		source, want := times("1+1;", count), times("(1+1);", count)
		if count <= 33 {
			checkPrints(t, source, want)
		} else {
			checkNotBack(t, parsedTree(t, source), want)
		}
	}
}

// Right trees that no program has: more handed in than may be, and nodes that stand in another order than they end.
func TestPrintsOfTreesOfNoProgram(t *testing.T) {
	for count := range 12 {
		var m maker
		parts := []int{m.join(impl.NodeName)}
		for range count {
			parts = append(parts, m.join(impl.NodeNone))
		}
		tree := m.closed(m.join(impl.NodeCall, parts...))
		want := "x(" + strings.Join(slices.Repeat([]string{"none"}, count), ",") + ");"
		if count > 6 {
			checkNotBack(t, tree, want)
		} else if got := checkBack(t, tree); got != want {
			t.Errorf("%q is printed, want %q", got, want)
		}
	}
	turned := []impl.Node{{Kind: impl.NodeTrue}, {Kind: impl.NodeFalse}, {Kind: impl.NodeBinary, A: 1, B: 0, C: impl.OpLess}, {Kind: impl.NodePrint, A: 2}, {Kind: impl.NodeBlock, List: []int{3}}}
	checkNotBack(t, turned, "print (false<true);")
	checkBack(t, inOrder(turned))
	late := []impl.Node{{Kind: impl.NodeTrue}, {Kind: impl.NodeFalse}, {Kind: impl.NodePrint, A: 0}, {Kind: impl.NodePrint, A: 1}, {Kind: impl.NodeBlock, List: []int{2, 3}}}
	checkNotBack(t, late, "print true;print false;")
	checkNotBack(t, with(late, 4, func(node *impl.Node) { node.List = []int{3, 2} }), "print false;print true;")
	blocks := []impl.Node{{Kind: impl.NodeBlock}, {Kind: impl.NodeBlock}, {Kind: impl.NodeTry, A: 1, B: 0, Names: []string{"e"}}, {Kind: impl.NodeBlock, List: []int{2}}}
	checkNotBack(t, blocks, "try {} catch e {}")
	checkBack(t, inOrder(blocks))
}

// Places count for nothing.
func TestPrintsWhateverThePlaces(t *testing.T) {
	for _, program := range rightPrograms() {
		tree := parsedTree(t, program)
		want, ok := impl.Print(tree)
		for _, at := range []int{0, 7, 600} {
			moved := copyOfTree(tree)
			for i := range moved {
				moved[i].At = (at + i) % 601
			}
			if got, gotOk := impl.Print(moved); got != want || gotOk != ok || impl.PrintsBack(moved) != impl.PrintsBack(tree) {
				t.Errorf("%q, %v is printed with other places, %q, %v without", got, gotOk, want, ok)
			}
			moved[len(moved)-1].At = 601
			checkNoPrint(t, moved)
		}
	}
}

func TestPrintsOfPrograms(t *testing.T) {
	for _, program := range append(rightPrograms(), programs()...) {
		if tree, fault := impl.Parse(program); fault == -1 {
			printed := checkBack(t, tree)
			checkParsed(t, printed)
		}
	}
}

// Each E in each place for one, and each statement in each place for one, twice.
func TestPrintsWithinOneAnother(t *testing.T) {
	check := func(source string) {
		t.Helper()
		if tree, fault := impl.Parse(source); fault == -1 {
			checkBack(t, tree)
		}
	}
	for _, place := range placesForE() {
		for _, e := range formsOfE() {
			check(strings.ReplaceAll(place, "@", e))
			check(strings.ReplaceAll(place, "@", "( "+e+" )"))
			for _, outer := range formsOfE()[7:13] {
				check(strings.ReplaceAll(place, "@", "( "+strings.ReplaceAll(outer, "a", "( "+e+" )")+" )"))
			}
			for _, statement := range placesForStatements() {
				check(strings.ReplaceAll(statement, "@", strings.ReplaceAll(place, "@", "( "+e+" )")))
			}
		}
	}
	for _, outer := range placesForStatements() {
		for _, inner := range placesForStatements() {
			for _, statement := range statementsOfChapter() {
				check(strings.ReplaceAll(outer, "@", strings.ReplaceAll(inner, "@", statement)))
			}
		}
	}
}

// Trees by steps: as they are, and with their nodes as they end.
func TestPrintsOfTreesBySteps(t *testing.T) {
	printed, back, kinds := 0, 0, map[int]int{}
	for seed := range 1200 {
		tree := treeBySteps(20+seed%60, seed)
		ordered := inOrder(tree)
		text, ok := checkPrint(t, tree)
		other, otherOk := checkPrint(t, ordered)
		if text != other || ok != otherOk {
			t.Fatalf("%q, %v is printed, and %q, %v of the same in another order", text, ok, other, otherOk)
		}
		if ok {
			printed++
		}
		if impl.PrintsBack(ordered) {
			checkBack(t, ordered)
			back++
			for _, node := range ordered {
				kinds[node.Kind]++
			}
		}
	}
	for _, kind := range allKinds() {
		if kinds[kind] < 100 {
			t.Errorf("there are but %d nodes of kind %d", kinds[kind], kind)
		}
	}
	if printed < 500 || back < 250 || back == printed {
		t.Errorf("%d are printed, %d of them print back", printed, back)
	}
}

// What is printed of a program is parsed as the same tree, unless it is too long or too deep; the chart of the rules says the same.
func TestPrintsOfProgramsBySteps(t *testing.T) {
	back := 0
	for seed := range 1500 {
		source := tight(programBySteps(2+seed%120, seed+9000))
		tree, fault := impl.Parse(source)
		if fault != -1 {
			continue
		}
		printed, ok := checkPrint(t, tree)
		if !ok {
			continue
		}
		if seed%5 == 0 {
			checkParse(t, printed)
		}
		if impl.PrintsBack(tree) {
			checkBack(t, tree)
			back++
		}
	}
	if back < 500 {
		t.Errorf("but %d print back", back)
	}
}

func TestPrintsOfTreesThatAreNotRight(t *testing.T) {
	for _, tree := range someTrees() {
		for at := range tree {
			checkPrint(t, tree[:at])
			checkPrint(t, tree[at:])
			for _, spoil := range spoilers() {
				checkPrint(t, with(tree, at, spoil))
			}
		}
		checkNoPrint(t, append(copyOfTree(tree), impl.Node{Kind: impl.NodeTrue}))
		checkNoPrint(t, append(copyOfTree(tree), impl.Node{Kind: impl.NodeBlock}))
	}
	for _, kind := range []int{-1, 0, 14, 19, 30, 31, 1 << 40} {
		checkNoPrint(t, []impl.Node{{Kind: kind}, {Kind: impl.NodePrint}, {Kind: impl.NodeBlock, List: []int{1}}})
		checkNoPrint(t, []impl.Node{{Kind: impl.NodeTrue}, {Kind: kind}, {Kind: impl.NodeBlock, List: []int{1}}})
		checkNoPrint(t, []impl.Node{{Kind: kind}})
	}
	for _, count := range []int{301, 303, 1001} {
		checkNoPrint(t, wideTree(count))
		checkNoPrint(t, chainTree(count))
	}
	// A name that tells no function, told as `fun` tells one.
	checkNoPrint(t, []impl.Node{{Kind: impl.NodeTrue}, {Kind: impl.NodeLet, B: 1, Names: []string{"x"}}, {Kind: impl.NodeBlock, List: []int{1}}})
}

func TestPrintsChangeNothing(t *testing.T) {
	for _, tree := range someTrees() {
		given, told := roomy(tree)
		before := told()
		text, ok := impl.Print(given)
		back := impl.PrintsBack(given)
		if told() != before {
			t.Fatalf("%+v was written into", given)
		}
		for _, node := range given {
			for _, name := range node.Names {
				if within(text, name) || within(name, text) {
					t.Errorf("%q shares memory with %q", text, name)
				}
			}
		}
		for _, between := range [][]impl.Node{nil, knownTree(), chainTree(300), {{Kind: 99}}} {
			impl.Print(between)
			impl.PrintsBack(between)
			if again, againOk := impl.Print(given); again != text || againOk != ok || impl.PrintsBack(given) != back {
				t.Fatalf("%q is printed at first, %q then", text, again)
			}
		}
	}
}
