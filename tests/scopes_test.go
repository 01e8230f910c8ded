package tests

import (
	"fmt"
	"reflect"
	"regexp"
	"slices"
	"strconv"
	"strings"
	"testing"

	"loop.example/g00115/impl"
)

// Promise 12: each name has a place of its name; captures are of functions around.

func scopesOf(tree []impl.Node) scopes {
	var s scopes
	s.places, s.of, s.fault, s.node = impl.Resolve(tree)
	s.captures = map[int][]int{}
	for at, node := range tree {
		if node.Kind != impl.NodeFun {
			continue
		}
		if captured := impl.Captures(tree, at); len(captured) > 0 {
			s.captures[at] = captured
		}
	}
	return s
}

func (s scopes) told() string {
	return fmt.Sprintf("places %+v, of nodes %v, fault %d at %d, captures %v", s.places, s.of, s.fault, s.node, s.captures)
}

// funsAround: the functions that a node is within, the program's block and itself among them.
func funsAround(tree []impl.Node, node int) []int { return spotsOf(tree)[node].funs }

// checkPromise: what the promise says, of answers without a fault.
func checkPromise(t *testing.T, tree []impl.Node, s scopes) {
	t.Helper()
	if len(s.of) != len(tree) {
		t.Fatalf("%d nodes have %d numbers", len(tree), len(s.of))
	}
	for at, node := range tree {
		switch node.Kind {
		case impl.NodeName, impl.NodeSet, impl.NodeLet, impl.NodeTry:
			if s.of[at] < 0 || s.of[at] >= len(s.places) || s.places[s.of[at]].Name != node.Names[0] {
				t.Fatalf("node %d, %+v, has no place of its name: %s", at, node, s.told())
			}
		default:
			if s.of[at] != -1 {
				t.Fatalf("node %d, %+v, has a place: %s", at, node, s.told())
			}
		}
	}
	for _, place := range s.places {
		if !slices.Contains(tree[place.Let].Names, place.Name) || !slices.Contains([]int{impl.NodeLet, impl.NodeTry, impl.NodeFun}, tree[place.Let].Kind) || lastOf(funsAround(tree, place.Let)) != place.Fun {
			t.Fatalf("the place %+v is not told by its node in its function", place)
		}
	}
	for fun, captured := range s.captures {
		if tree[fun].Kind != impl.NodeFun {
			t.Fatalf("node %d is no NodeFun, and captures %v", fun, captured)
		}
		for i, place := range captured {
			around := funsAround(tree, fun)
			if !slices.Contains(around[:len(around)-1], s.places[place].Fun) || !s.places[place].Shared || slices.Contains(captured[:i], place) {
				t.Fatalf("function %d captures %v, of which %+v is not shared, or of no function around", fun, captured, s.places[place])
			}
		}
	}
}

// checkScopes holds Resolve and Captures against the rule and the promise, and answers what they tell.
func checkScopes(t *testing.T, tree []impl.Node) scopes {
	t.Helper()
	got, want := scopesOf(tree), scopesByRule(tree)
	if got.told() != want.told() {
		t.Fatalf("of\n%sthere are %s,\nwant %s", toldWithAt(tree), got.told(), want.told())
	}
	if got.fault == 0 {
		checkPromise(t, tree, got)
	} else if len(got.places) > 0 || len(got.of) > 0 || len(got.captures) > 0 {
		t.Fatalf("beside a fault there are %s", got.told())
	}
	return got
}

// mark: what a marked program tells of one name, or, with a list, of the function whose block follows.
type mark struct {
	at     int
	name   string
	place  int
	shared bool
	list   []int
}

var markForm = regexp.MustCompile(`([A-Za-z_][A-Za-z_0-9]*)([#$])([0-9]+)|\[([0-9 ]*)\]`)

// marksOf: the program without marks, and these. `a#0` is a name and the number of its place, `$` instead of `#` where a place
// that is shared is told; `[0 1]` ahead of a function's block is what it captures.
func marksOf(marked string) (string, []mark) {
	source, from := "", 0
	var marks []mark
	for _, m := range markForm.FindAllStringSubmatchIndex(marked, -1) {
		piece := func(group int) string { return marked[m[2*group]:m[2*group+1]] }
		source += marked[from:m[0]]
		from = m[1]
		found := mark{at: len(source), place: -1}
		if m[2] < 0 {
			for _, figures := range strings.Fields(piece(4)) {
				place, _ := strconv.Atoi(figures)
				found.list = append(found.list, place)
			}
		} else {
			found.name, found.shared = piece(1), piece(2) == "$"
			found.place, _ = strconv.Atoi(piece(3))
			source += found.name
		}
		marks = append(marks, found)
	}
	return source + marked[from:], marks
}

// marksOfNode: the marks of the names that a node has, one for each.
func marksOfNode(tree []impl.Node, node impl.Node, names []mark) []mark {
	behind := func(place int) int {
		i := slices.IndexFunc(names, func(m mark) bool { return m.at >= place })
		if i < 0 {
			return len(names)
		}
		return i
	}
	switch node.Kind {
	case impl.NodeName, impl.NodeSet, impl.NodeLet:
		return names[behind(node.At):][:1]
	case impl.NodeTry:
		end := behind(tree[node.B].At)
		return names[end-1 : end]
	case impl.NodeFun:
		end := behind(tree[node.A].At)
		return names[end-len(node.Names) : end]
	}
	return nil
}

// checkMarked: whether the names and functions of a program are as its marks tell.
func checkMarked(t *testing.T, marked string) scopes {
	t.Helper()
	source, marks := marksOf(marked)
	tree := parsedTree(t, source)
	s := checkScopes(t, tree)
	if s.fault != 0 || s.node != -1 {
		t.Errorf("%q has the fault %d at %d", source, s.fault, s.node)
		return s
	}
	names, count := []mark{}, 0
	captures := map[int][]int{}
	for _, m := range marks {
		if m.name == "" {
			captures[m.at] = m.list
			continue
		}
		names = append(names, m)
		count = max(count, m.place+1)
	}
	if len(s.places) != count {
		t.Errorf("%q has the places %+v, want %d", marked, s.places, count)
		return s
	}
	for at, node := range tree {
		for i, m := range marksOfNode(tree, node, names) {
			if m.name != node.Names[i] {
				t.Fatalf("%q: the names are not all marked", marked)
			}
			place := s.places[m.place]
			switch tells := node.Kind == impl.NodeLet || node.Kind == impl.NodeTry || node.Kind == impl.NodeFun; {
			case node.Kind != impl.NodeFun && s.of[at] != m.place:
				t.Errorf("%q: the place of node %d, %q, is %d, want %d", marked, at, m.name, s.of[at], m.place)
			case place.Name != m.name || tells && (place.Let != at || place.Shared != m.shared):
				t.Errorf("%q: the place %d is %+v, marked %+v", marked, m.place, place, m)
			}
		}
		if node.Kind == impl.NodeFun && !slices.Equal(s.captures[at], captures[tree[node.A].At]) {
			t.Errorf("%q: the function %d captures %v, want %v", marked, at, s.captures[at], captures[tree[node.A].At])
		}
	}
	return s
}

// faultMarked: the tree of a program, and its node of this Kind that stands where the `@`, which is taken out, stands.
func faultMarked(t *testing.T, marked string, kind int) ([]impl.Node, int) {
	t.Helper()
	ahead, behind, found := strings.Cut(marked, "@")
	tree := parsedTree(t, ahead+behind)
	node := slices.IndexFunc(tree, func(node impl.Node) bool { return node.At == len(ahead) && node.Kind == kind })
	if !found || node < 0 {
		t.Fatalf("%q tells no node", marked)
	}
	return tree, node
}

// checkScopeFault: the first fault is this one, at the node that is marked.
func checkScopeFault(t *testing.T, marked string, fault int, kind int) {
	t.Helper()
	tree, node := faultMarked(t, marked, kind)
	if s := checkScopes(t, tree); s.fault != fault || s.node != node {
		t.Errorf("%q has the fault %d at %d, want %d at %d", marked, s.fault, s.node, fault, node)
	}
}

func checkNoName(t *testing.T, marked string) {
	t.Helper()
	checkScopeFault(t, marked, impl.FaultName, impl.NodeName)
}

func checkTwice(t *testing.T, marked string) {
	t.Helper()
	checkScopeFault(t, marked, impl.FaultTwice, impl.NodeLet)
}

// checkBig: a tree that is not right has one fault, and no captures.
func checkBig(t *testing.T, tree []impl.Node) {
	t.Helper()
	places, of, fault, node := impl.Resolve(tree)
	if len(places) > 0 || len(of) > 0 || fault != impl.FaultBig || node != 0 {
		t.Errorf("Resolve(%+v) = %+v, %v, %d, %d", tree, places, of, fault, node)
	}
	for at := -1; at <= len(tree); at++ {
		if got := impl.Captures(tree, at); len(got) > 0 {
			t.Errorf("Captures(%+v, %d) = %v", tree, at, got)
		}
	}
}

func TestFaultsOfScopes(t *testing.T) {
	if impl.FaultName != 1 || impl.FaultTwice != 2 || impl.FaultBig != 3 {
		t.Error("a fault is not the document's")
	}
}

func TestPlacesOfEmptyPrograms(t *testing.T) {
	for _, source := range []string{"", " \n", "1;", "if(1){}else{}", "while(true){}", "fun(){};", "fun(){fun(){};};", `print "a";`} {
		tree := parsedTree(t, source)
		s := checkScopes(t, tree)
		if s.fault != 0 || s.node != -1 || len(s.places) > 0 || !slices.Equal(s.of, slices.Repeat([]int{-1}, len(tree))) || len(s.captures) > 0 {
			t.Errorf("%q: %s", source, s.told())
		}
	}
	places, of, fault, node := impl.Resolve([]impl.Node{{Kind: impl.NodeBlock}})
	if len(places) > 0 || !slices.Equal(of, []int{-1}) || fault != 0 || node != -1 {
		t.Errorf("of the empty program there are %+v, %v, %d, %d", places, of, fault, node)
	}
}

// All fields of all places, and all numbers, as they stand.
func TestPlacesThatAreKnown(t *testing.T) {
	for _, c := range []struct {
		source   string
		places   []impl.Place
		of       []int
		captures map[int][]int
	}{
		{"let a=1;", []impl.Place{{Fun: 2, Name: "a", Let: 1}}, []int{-1, 0, -1}, nil},
		{"let a=1;print a;", []impl.Place{{Fun: 4, Name: "a", Let: 1}}, []int{-1, 0, 0, -1, -1}, nil},
		{"let a=1;a=2;", []impl.Place{{Fun: 4, Name: "a", Let: 1}}, []int{-1, 0, -1, 0, -1}, nil},
		{"fun(p,q){};", []impl.Place{{Fun: 1, Name: "p", Let: 1}, {Fun: 1, Name: "q", Let: 1}}, []int{-1, -1, -1, -1}, nil},
		{"try{}catch e{}", []impl.Place{{Fun: 3, Name: "e", Let: 2}}, []int{-1, -1, 0, -1}, nil},
		{"fun f(){}", []impl.Place{{Fun: 3, Name: "f", Let: 2}}, []int{-1, -1, 0, -1}, nil},
		{"fun f(){f;}", []impl.Place{{Fun: 5, Name: "f", Shared: true, Let: 4}}, []int{0, -1, -1, -1, 0, -1}, map[int][]int{3: {0}}},
		// Nodes: 0 number, 1 let, 2 a, 3 b, 4 binary, 5 set, 6 block, 7 fun, 8 let, 9 block.
		{"let a=1;fun f(b){a=a+b;}", []impl.Place{{Fun: 9, Name: "a", Shared: true, Let: 1}, {Fun: 9, Name: "f", Let: 8}, {Fun: 7, Name: "b", Let: 7}},
			[]int{-1, 0, 0, 2, -1, 0, -1, -1, 1, -1}, map[int][]int{7: {0}}},
		// Nodes: 0 none, 1 let, 2 block, 3 e, 4 expr, 5 block, 6 try, 7 block, 8 fun, 9 let, 10 block.
		{"let g=fun(x){let y=none;try{}catch e{e;}};", []impl.Place{{Fun: 8, Name: "x", Let: 8}, {Fun: 8, Name: "y", Let: 1}, {Fun: 8, Name: "e", Let: 6}, {Fun: 10, Name: "g", Let: 9}},
			[]int{-1, 1, -1, 2, -1, -1, 2, -1, -1, 3, -1}, nil},
		// Nodes: 0 x, 1 return, 2 block, 3 fun, 4 return, 5 block, 6 fun, 7 expr, 8 block.
		{"(fun(x){return fun(){return x;};});", []impl.Place{{Fun: 6, Name: "x", Shared: true, Let: 6}}, []int{0, -1, -1, -1, -1, -1, -1, -1, -1}, map[int][]int{3: {0}}},
	} {
		s := checkScopes(t, parsedTree(t, c.source))
		want := scopes{c.places, c.of, 0, -1, c.captures}
		if s.told() != want.told() {
			t.Errorf("%q:\n%s, want\n%s", c.source, s.told(), want.told())
		}
	}
}

func TestNamesOfBlocks(t *testing.T) {
	for _, marked := range []string{
		// Of the same block.
		"let a#0=1;print a#0;", "let a#0=1;a#0=2;", "let a#0=1;a#0=a#0;", "let a#0=1;let b#1=a#0;let c#2=b#1+a#0;", "let a#0=1;return a#0;", "let a#0=1;throw -a#0;", "let a#0=1;!a#0;", "let a#0=1;a#0&&a#0||a#0;", "let a#0=1;a#0(a#0,a#0);",
		"if(1){let a#0=1;a#0;}", "while(1){let a#0=1;a#0;}", "try{let a#0=1;a#0;}catch e#1{}", "if(1){}else{let a#0=1;a#0;}",
		// Of a block around.
		"let a#0=1;if(a#0){a#0=a#0;}", "let a#0=1;if(a#0){a#0;}else{a#0;}", "let a#0=1;if(a#0){a#0;}else if(a#0){a#0;}else{a#0;}", "let a#0=1;while(a#0){a#0=a#0-1;}", "let a#0=1;try{a#0;}catch e#1{a#0;e#1;}",
		"let a#0=1;if(1){if(2){if(3){a#0=a#0;}}}", "if(1){let a#0=1;while(a#0){let b#1=a#0;try{a#0=b#1;}catch e#2{b#1=a#0+e#2;}}}",
		// Told again in a block within, and the one around behind it.
		"let a#0=1;if(a#0){let a#1=a#0;a#1=a#1;}a#0=a#0;", "let a#0=1;if(a#0){a#0=2;let a#1=a#0+1;a#1;}else{a#0;let a#2=a#0;a#2;}a#0;", "let a#0=1;while(a#0){let a#1=2;a#1;}a#0;",
		"let a#0=1;if(1){let a#1=2;if(2){let a#2=3;if(3){let a#3=4;a#3;}a#2;}a#1;}a#0;", "let a#0=1;if(1){let a#1=2;if(2){let a#2=a#1;a#2;}a#1;if(3){let a#3=a#1;a#3;}a#1;}a#0;",
		"let a#0=1;if(1){let a#1=a#0;let b#2=a#1;}let b#3=a#0;if(b#3){let b#4=b#3;let a#5=b#4;a#5;}a#0+b#3;",
		// Side by side.
		"if(1){let a#0=1;a#0;}if(2){let a#1=2;a#1;}", "if(1){let a#0=1;a#0;}else{let a#1=2;a#1;}", "if(1){let a#0=1;a#0;}else if(2){let a#1=2;a#1;}else{let a#2=3;a#2;}", "try{let a#0=1;a#0;}catch a#1{a#1;}", "while(1){let a#0=1;a#0;}while(2){let a#1=1;a#1;}let a#2=3;a#2;",
		"if(1){let a#0=1;a#0;}let a#1=2;a#1;if(3){a#1;let a#2=3;a#2;}a#1;",
	} {
		checkMarked(t, marked)
	}
}

func TestNamesOfTries(t *testing.T) {
	for _, marked := range []string{
		"try{}catch e#0{}", "try{}catch e#0{e#0;e#0=e#0;}", "try{1;}catch e#0{if(e#0){while(e#0){print e#0;}}}", "try{}catch e#0{}try{}catch e#1{e#1;}", "let e#0=1;try{e#0;}catch e#1{e#1;}e#0;",
		"let e#0=1;try{let e#1=e#0;e#1;}catch e#2{e#2;}e#0;", "try{try{}catch e#0{e#0;}}catch e#1{e#1;}", "try{}catch e#0{try{e#0;}catch e#1{e#1;}e#0;}", "try{let a#0=1;a#0;}catch e#1{let a#2=e#1;a#2;}",
		"try{}catch e#0{if(1){let e#1=e#0;e#1;}e#0;}", "try{}catch e$0{fun()[0]{e#0;};}", "fun()[]{try{}catch e$0{fun()[0]{let e#1=e#0;e#1;};}};", "try{}catch e#0{fun(e#1){e#1;};}",
		"try{let f#0=fun(){};f#0();}catch f$1{fun g#2()[1]{f#1();}}",
	} {
		checkMarked(t, marked)
	}
	checkNoName(t, "try{@e;}catch e{}")
	checkNoName(t, "try{}catch e{}@e;")
	checkNoName(t, "try{let a=1;}catch e{@a;}")
	checkNoName(t, "try{try{}catch e{}@e;}catch e{}")
	checkTwice(t, "try{}catch e{@let e=1;}")
	checkTwice(t, "try{}catch e{e;@let e=e;}")
	checkTwice(t, "try{}catch e{@fun e(){}}")
	checkTwice(t, "try{}catch e{if(1){let e=1;}@let e=2;}")
	checkTwice(t, "let e=1;try{}catch e{@let e=2;}")
	checkNoName(t, "try{}catch e{let e=@q;}")
}

func TestNamesOfFunctions(t *testing.T) {
	for _, marked := range []string{
		// Parameters.
		"fun f#0(a#1){a#1;}", "fun f#0(a#1,b#2,c#3,d#4){d#4+c#3+b#2+a#1;a#1=d#4;}", "fun(a#0,b#1){let c#2=a#0;if(c#2){let a#3=b#1;a#3;}a#0;};", "let a#0=1;fun f#1(a#2){a#2;}a#0;", "let g#1=fun(a#0){a#0;};g#1(1);",
		"fun f#0(f#1){f#1;}f#0;", "fun f#0(){let f#1=1;f#1;}f#0();", "fun(a#0){while(a#0){a#0=a#0-1;}};", "fun(a#0){a#0;};fun(a#1){a#1;};", "(fun(a#0){a#0;})(1);",
		// Of a function around, and of two.
		"let a$0=1;fun f#1()[0]{a#0;}", "let a$0=1;fun f#1()[0]{a#0=1;}", "let a$0=1;if(1){fun f#1()[0]{if(2){a#0;}}}", "fun f#0(a$1){return fun()[1]{return a#1;};}", "fun f#0(a$1){a#1;return fun(b#2)[1]{return a#1+b#2;};}",
		"let a$0=1;fun f#1()[0]{fun g#2()[0]{a#0;}}", "let a$0=1;fun()[0]{fun()[0]{a#0=2;};};", "fun(a$0){fun(b$1)[0]{fun(c#2)[0 1]{a#0+b#1+c#2;};};};", "let a$0=1;fun()[0]{fun()[0]{fun()[0]{fun()[0]{a#0;};};};};",
		// The name of the function itself.
		"fun f$0()[0]{f#0();}", "fun f$0()[0]{f#0=1;}", "fun f$0(n#1)[0]{if(n#1){f#0(n#1-1);}}f#0(3);", "fun f$0()[0]{fun g$1()[1 0]{g#1(f#0);}g#1();}f#0();", "if(1){fun f$0()[0]{f#0;}}fun f#1(){}f#1;",
		"let f$0=1;if(1){let f#1=fun()[0]{f#0;};f#1;}f#0;", "let f#0=1;if(1){fun f$1()[1]{f#1;}f#1;}f#0;", "fun f#0(){return fun(f$1){return fun()[1]{f#1;};};}f#0;",
		// Names that stand for another one within.
		"let a$0=1;fun f#1()[0]{a#0;let a#2=a#0;a#2;}a#0;", "let a$0=1;fun f#1()[0]{if(a#0){let a#2=2;a#2;}a#0;}", "let a#0=1;fun f#1(){let a#2=2;a#2;}a#0;", "let a#0=1;fun(a$1){fun()[1]{a#1;};};", "let a$0=1;fun()[0]{let a$1=a#0;fun()[1]{a#1;};};a#0;",
		"let a$0=1;fun()[0]{fun(a#1){a#1;};a#0;};", "fun f#0(){let a#1=1;a#1;}fun g#2(){let a#3=1;a#3;}",
	} {
		checkMarked(t, marked)
	}
	for _, marked := range []string{
		"let f=fun(){@f();};", "let f=fun(){let g=@f;};", "fun(a){};@a;", "fun f(a){}@a;", "fun f(){let a=1;}@a;", "fun f(){@a;}let a=1;", "fun f(){return @g();}fun g(){}", "if(1){fun f(){}}@f();", "fun f(){fun g(){}}@g();", "fun f(){@g();}",
		"let a=fun(){let a=@a;};", "fun(a){fun(b){};@b;};", "fun(){let x=1;};fun(){@x;};",
	} {
		checkNoName(t, marked)
	}
}

func TestWhatIsShared(t *testing.T) {
	for _, marked := range []string{
		"let a#0=1;let b$1=2;fun()[1]{b#1;};a#0;", "let a$0=1;if(1){let a#1=2;a#1;}fun()[0]{a#0;};", "let a#0=1;if(1){let a$1=2;fun()[1]{a#1;};}a#0;", "fun(a#0,b$1,c#2){fun()[1]{b#1;};a#0+b#1+c#2;};", "let a$0=1;a#0;fun(){};fun()[0]{a#0=1;};a#0;",
		"let a#0=1;fun f#1(){}a#0;f#1();", "let a#0=1;fun(){let a#1=2;a#1;};a#0;", "fun f#0(){}let g#1=fun(){};f#0(g#1);", "fun f$0(){}fun g#1()[0]{f#0();}", "try{}catch e#0{e#0;}try{}catch e$1{let f#2=fun()[1]{throw e#1;};f#2();}",
		// A use that is never come to counts like any other.
		"let a$0=1;fun()[0]{return 1;a#0;};", "let a$0=1;if(false){fun()[0]{a#0;};}", "let a$0=1;fun()[0]{while(false){a#0=1;}};",
		"let a$0=1;fun(b$1)[0]{let c$2=3;return fun(d$3)[0 1 2]{let e#4=5;return fun()[0 1 2 3]{a#0+b#1+c#2+d#3;};};};",
	} {
		checkMarked(t, marked)
	}
}

func TestCapturesInOrder(t *testing.T) {
	ahead := "let a$0=1;let b$1=2;let c$2=3;"
	for _, marked := range []string{
		"fun()[0 1 2]{a#0;b#1;c#2;};", "fun()[2 1 0]{c#2;b#1;a#0;};", "fun()[1 2 0]{b#1;c#2;a#0;};", "fun()[1 0 2]{b#1;b#1;a#0;b#1;c#2;a#0;};",
		// A, B, C and List, one behind the other.
		"fun()[2 0 1]{c#2(a#0,b#1);};", "fun()[1 2 0]{if(b#1){c#2;}else{a#0;}};", "fun()[2 1 0]{if(c#2){b#1;}else if(a#0){}};", "fun()[2 1 0]{while(c#2){b#1=1;}a#0;};", "fun()[1 2 0]{try{b#1;}catch e#3{c#2;}a#0;};", "fun()[1 0 2]{b#1*a#0+c#2;};", "fun()[2 0 1]{c#2&&a#0||b#1;};", "fun()[2 0 1]{let d#3=c#2;print a#0;return b#1;};",
		"fun()[2 0 1]{c#2==(a#0<b#1);};", "fun()[1 2 0]{b#1(-c#2)(!a#0);};", "fun()[2 1 0]{throw c#2;b#1;a#0;};",
		// A NodeSet is met ahead of its A.
		"fun()[0 1 2]{a#0=b#1;c#2;};", "fun()[1 0 2]{b#1=a#0;c#2;};", "fun()[2 1 0]{c#2=b#1==a#0;};", "fun()[2 0 1]{c#2=fun()[0 1]{a#0=b#1;};};", "fun()[1 0 2]{b#1=a#0(b#1,c#2);};",
		// A function within.
		"fun()[1 0 2]{fun()[1 0]{b#1;a#0;};c#2;};", "fun()[2 1 0]{c#2;fun()[1 2 0]{b#1;c#2;a#0;};};", "fun()[2 0 1]{fun()[2]{c#2;};fun()[0]{a#0;};fun()[1]{b#1;};};", "fun()[2 0 1]{fun()[2 0 1]{fun()[2]{c#2;};a#0;fun()[1 2]{b#1;c#2;};};};",
		// Its own names, and those of functions within, are not captured.
		"fun(d$3)[1 0]{b#1;let e$4=a#0;fun(f#5)[4 3 0]{e#4;d#3;f#5;a#0;};};c#2;fun()[2]{c#2;};", "fun()[1]{let a$3=b#1;fun()[3 1]{a#3;b#1;};};fun()[0 2]{a#0;c#2;};", "fun f$3()[3 0]{f#3;a#0;}fun()[1 2]{b#1;c#2;};",
		"let d#5=fun()[2 1 0]{let f#3=c#2;fun g$4()[4 1]{g#4=b#1;}g#4;a#0;};",
	} {
		checkMarked(t, ahead+marked)
	}
	checkMarked(t, "let a$0=1;fun f#1(b$2)[0]{return fun(c$3)[2 0]{return fun()[3 2 0]{c#3+b#2+a#0;};};}")
	checkMarked(t, "let a$0=1;fun f$1(b$2)[1 0]{f#1;fun g$3(c$4)[3 2 1 0]{g#3(b#2,f#1);fun h$5()[5 4 2 0]{h#5;c#4;b#2;a#0;}c#4;}}")
}

func TestOrderOfPlaces(t *testing.T) {
	for _, marked := range []string{
		"let a#0=1;let b#1=1;let c#2=1;", "let a#2=fun(b#0,c#1){};", "fun a#0(b#1,c#2){}", "let a#3=fun(b#0){let c#1=b#0;let d#2=c#1;};let e#4=a#3;", "fun a#0(b#1){let c#2=b#1;}let d#3=1;",
		"let a#1=fun(x#0){x#0;};let b#3=fun(x#2){x#2;};", "let a#3=fun(){let b#2=fun(){let c#1=fun(d#0){};};};", "fun a#0(){fun b#1(){fun c#2(d#3){}}}", "try{let a#0=1;}catch e#1{let b#2=2;}let c#3=4;", "try{try{}catch a#0{}}catch b#1{try{}catch c#2{}}",
		"let a#0=1;if(1){let b#1=1;}else if(2){let c#2=1;}else{let d#3=1;}while(1){let e#4=1;}let f#5=1;", "(fun(a#0){})(fun(b#1){},fun(c#2){});", "let z#0=1;let y#1=1;let x#2=1;", "let a#2=fun(b#0){}+fun(c#1){};fun d#3(e#4){}",
		"if(fun(a#0){}){let b#1=1;}else if(fun(c#2){}){}", "while(fun(a#0){}){let b#1=1;}", "let a#2=fun(){try{}catch b#0{let c#1=b#0;}};",
	} {
		checkMarked(t, marked)
	}
}

func TestNamesAheadOfTheirLet(t *testing.T) {
	for _, marked := range []string{
		"@a;let a=1;", "let a=@a;", "let a=1+@a;", "let a=1(@a);", "print @a;let a=1;a;", "if(1){@a;}let a=1;", "if(1){let a=1;}@a;", "while(@a){let a=1;}", "while(1){@a;let a=1;}", "if(1){let a=1;}else{@a;}", "if(1){let a=1;}else if(@a){}", "let a=@b;let b=1;",
		"let a=-@a;", "let a=!@a;", "let a=1&&@a;", "let a=fun(){@a;};", "let b=1;let a=b+@a;", "let a=fun(b){return @a;};", "return @a;", "throw @a;", "@a(1);", "1(@a);", "1(1,@a,2);", "print -@a;", "print 1+@a;", "print @a+b;", "print @a||b;", "if(@a){}", "if(1){}else if(@a){}", "if(1){@a;}", "if(1){}else{@a;}", "fun f(){@a;}",
		"fun f(b){b;}@b;", "print @A;let a=1;", "let a=1;print @a1;", "let ab=1;print @a;", "let a=1;print @_a;",
	} {
		checkNoName(t, marked)
	}
	// The one around is meant, up to the NodeLet's end.
	for _, marked := range []string{
		"let a#0=1;if(1){a#0;let a#1=a#0+a#0;a#1;}", "let a#0=1;if(1){a#0=1;let a#1=2;a#1=1;}", "let a$0=1;fun()[0]{let a#1=a#0;a#1;};", "let a$0=1;if(1){let a#1=fun()[0]{a#0;};a#1;}", "let a$0=1;if(1){let a#2=fun(b#1)[0]{a#0+b#1;};a#2;}", "let a$0=1;fun()[0]{a#0=2;let a#1=fun()[0]{a#0;};a#1;};",
		"let a#0=1;if(1){fun a$1()[1]{a#1;}a#1;}",
	} {
		checkMarked(t, marked)
	}
	for _, marked := range []string{"@a=1;", "@a=1;let a=1;", "if(1){let a=1;}@a=2;", "fun f(){@a=1;}let a=1;", "fun f(b){}@b=1;", "try{@e=1;}catch e{}", "let a=fun(){@a=1;};", "let a=1;if(1){@A=a;}"} {
		checkScopeFault(t, marked, impl.FaultName, impl.NodeSet)
	}
}

func TestNamesToldTwice(t *testing.T) {
	for _, marked := range []string{
		"let a=1;@let a=2;", "let a=1;@fun a(){}", "fun a(){}@let a=1;", "fun a(){}@fun a(){}", "let a=1;let b=1;@let a=1;", "let a=1;@let a=a;", "if(1){let a=1;@let a=2;}", "while(1){let a=1;@let a=2;}", "if(1){}else{let a=1;@let a=2;}", "try{let a=1;@let a=2;}catch e{}", "try{}catch e{let a=1;@let a=2;}",
		"fun(){let a=1;@let a=2;};", "let a=1;if(1){let a=2;}@let a=3;", "let a=1;fun(){let a=2;};@let a=3;", "let a=1;if(1){let a=1;@let a=2;}", "let a=1;@let a=fun(a){a;};",
		// A parameter's name in the function's own block.
		"fun(a){@let a=1;};", "fun f(a){@let a=a;}", "fun f(a,b){let c=1;@let b=1;}", "fun f(a){@fun a(){}}", "fun f(a){if(a){let a=1;}@let a=2;}", "let a=1;fun f(a){@let a=2;}", "let f=fun(a,b,c,d){@let d=a;};",
	} {
		checkTwice(t, marked)
	}
	for _, marked := range []string{"@fun(a,a){};", "@fun(a,b,a){};", "@fun(a,b,c,c){};", "@fun(a,a,a,a){};", "let a=1;print @fun(a,a){};", "@fun f(a,a){}", "let f=@fun(a,b,b){};", "@fun f(f,f){}", "@fun(a,a){let a=1;};", "fun(a){@fun(b,b){};};"} {
		checkScopeFault(t, marked, impl.FaultTwice, impl.NodeFun)
	}
	// In a block within, they may be told.
	for _, marked := range []string{
		"fun(a#0){if(a#0){let a#1=a#0;a#1;}a#0;};", "fun(a#0){while(1){let a#1=1;a#1;}};", "fun(a#0){try{let a#1=1;a#1;}catch a#2{a#2;}a#0;};", "fun(a$0){fun(a#1){a#1;};fun()[0]{let a#2=a#0;a#2;};};", "try{}catch e#0{if(1){let e#1=1;e#1;}while(1){let e#2=1;e#2;}e#0;}", "try{}catch e#0{try{let e#1=1;e#1;}catch e#2{e#2;}e#0;}",
		"try{}catch e$0{fun()[0]{let e#1=e#0;};fun(e#2){e#2;};}", "fun f#0(f#1){}", "fun f#0(){let f#1=1;f#1;}", "let a#0=1;fun f#1(a#2){if(1){let a#3=a#2;a#3;}a#2;}a#0;", "let f#1=fun(f#0){f#0;};f#1;", "fun(a#0,A#1,_a#2,a_#3){a#0+A#1+_a#2+a_#3;};",
		"try{let a#0=1;}catch a#1{}", "let a#0=1;try{}catch a#1{}", "let a#0=1;try{}catch a#1{a#1;}a#0;",
	} {
		checkMarked(t, marked)
	}
}

// The first fault in the order of walking through, of either kind.
func TestFirstFault(t *testing.T) {
	for _, c := range []struct {
		marked      string
		fault, kind int
	}{
		{"@p;q;", 1, 6}, {"@p+q;", 1, 6}, {"1+(@p+q);", 1, 6}, {"@p(q,r);", 1, 6}, {"1(@p,q);", 1, 6}, {"if(@p){q;}else{r;}", 1, 6}, {"if(1){@q;}else{r;}", 1, 6}, {"while(@p){q;}", 1, 6}, {"try{@p;}catch e{q;}", 1, 6}, {"@p&&q;", 1, 6}, {"@p||q;", 1, 6}, {"fun(){@p;};q;", 1, 6},
		// A NodeSet's name, and then its A.
		{"@p=q;", 1, 21}, {"let q=1;@p=q;", 1, 21}, {"let p=1;p=@q;", 1, 6}, {"@p=fun(a,a){};", 1, 21}, {"let p=1;p=@fun(a,a){};", 2, 13}, {"@p=p;", 1, 21}, {"let a=1;a=1;if(1){@p=q;}", 1, 21}, {"fun f(){@p=f;q;}", 1, 21},
		// A NodeLet's A, and then its name; with `fun` the name, and then the function.
		{"let a=1;let a=@p;", 1, 6}, {"let a=1;let a=@fun(b,b){};", 2, 13}, {"let a=1;let a=fun(){@p;};", 1, 6}, {"let a=1;@fun a(){p;}", 2, 20}, {"let a=1;@fun a(b,b){}", 2, 20}, {"let a=1;@fun a(){let b=1;let b=2;}", 2, 20}, {"@fun a(b,b){p;}", 2, 13}, {"@fun a(b,b){let b=1;}", 2, 13}, {"let a=1;let a=fun(){let b=1;@let b=1;};", 2, 20},
		// One kind behind the other.
		{"@p;let a=1;let a=2;", 1, 6}, {"let a=1;@let a=2;p;", 2, 20}, {"let a=1;if(1){@p;}let a=2;", 1, 6}, {"let a=1;if(1){let b=1;@let b=2;p;}", 2, 20}, {"fun(a){@let a=1;p;};", 2, 20}, {"fun(a){@p;let a=1;};", 1, 6}, {"let a=1;@let a=2;let a=3;", 2, 20}, {"let a=1;let b=1;@let b=1;let a=1;", 2, 20},
		{"try{@p;}catch e{let e=1;}", 1, 6}, {"try{}catch e{@let e=1;p;}", 2, 20}, {"try{}catch e{let e=@p;}", 1, 6}, {"if(@fun(a,a){}){p;}", 2, 13}, {"if(@p){fun(a,a){};}", 1, 6}, {"1(@p,fun(a,a){});", 1, 6}, {"1(@fun(a,a){},p);", 2, 13}, {"@fun(a,a){}+p;", 2, 13},
		{"if(1){}else if(@p){q;}else{r;}", 1, 6}, {"if(1){}else if(2){@q;}else{r;}", 1, 6}, {"while(1){let a=1;@let a=1;}p;", 2, 20}, {"let a=1;let f=fun(a){@let a=1;};let a=p;", 2, 20}, {"throw @p;let a=1;let a=1;", 1, 6}, {"return 1;@p;", 1, 6},
		// Behind a fault names may be wrong as well, which counts for nothing.
		{"fun f(){let f=1;@let f=f;}", 2, 20}, {"let a=@a;a;", 1, 6}, {"@a=1;let a=1;let a=1;", 1, 21},
	} {
		checkScopeFault(t, c.marked, c.fault, c.kind)
	}
}

// The order of walking through is that of the parts, not that in which the nodes stand in the tree.
func TestScopesInAnyOrderOfNodes(t *testing.T) {
	name := func(name string) impl.Node { return impl.Node{Kind: impl.NodeName, Names: []string{name}} }
	let := func(name string, a int) impl.Node {
		return impl.Node{Kind: impl.NodeLet, Names: []string{name}, A: a}
	}
	one := impl.Node{Kind: impl.NodeNumber, Num: impl.FromInt(1)}
	for _, c := range []struct {
		tree        []impl.Node
		fault, node int
	}{
		{[]impl.Node{name("p"), name("q"), {Kind: impl.NodeBinary, A: 1, B: 0, C: 1}, {Kind: impl.NodeExpr, A: 2}, {Kind: impl.NodeBlock, List: []int{3}}}, 1, 1},
		{[]impl.Node{name("p"), name("q"), {Kind: impl.NodeBinary, A: 0, B: 1, C: 1}, {Kind: impl.NodeExpr, A: 2}, {Kind: impl.NodeBlock, List: []int{3}}}, 1, 0},
		{[]impl.Node{one, name("a"), let("a", 0), {Kind: impl.NodePrint, A: 1}, {Kind: impl.NodeBlock, List: []int{2, 3}}}, 0, -1},
		{[]impl.Node{one, name("a"), let("a", 0), {Kind: impl.NodePrint, A: 1}, {Kind: impl.NodeBlock, List: []int{3, 2}}}, 1, 1},
		{[]impl.Node{one, one, let("a", 0), let("a", 1), {Kind: impl.NodeBlock, List: []int{3, 2}}}, 2, 2},
		{[]impl.Node{one, one, let("a", 0), let("b", 1), {Kind: impl.NodeBlock, List: []int{3, 2}}}, 0, -1},
		{[]impl.Node{name("e"), {Kind: impl.NodeExpr, A: 0}, {Kind: impl.NodeBlock, List: []int{1}}, {Kind: impl.NodeBlock}, {Kind: impl.NodeTry, A: 3, B: 2, Names: []string{"e"}}, {Kind: impl.NodeBlock, List: []int{4}}}, 0, -1},
		{[]impl.Node{name("e"), {Kind: impl.NodeExpr, A: 0}, {Kind: impl.NodeBlock, List: []int{1}}, {Kind: impl.NodeBlock}, {Kind: impl.NodeTry, A: 2, B: 3, Names: []string{"e"}}, {Kind: impl.NodeBlock, List: []int{4}}}, 1, 0},
		{[]impl.Node{name("p"), name("q"), name("r"), {Kind: impl.NodeCall, A: 2, List: []int{1, 0}}, {Kind: impl.NodeExpr, A: 3}, {Kind: impl.NodeBlock, List: []int{4}}}, 1, 2},
	} {
		if s := checkScopes(t, c.tree); s.fault != c.fault || s.node != c.node {
			t.Errorf("of\n%sthe fault is %d at %d, want %d at %d", toldWithAt(c.tree), s.fault, s.node, c.fault, c.node)
		}
	}
	// Places are numbered as they are told.
	turned := []impl.Node{one, one, let("a", 0), let("b", 1), {Kind: impl.NodeBlock, List: []int{3, 2}}}
	if s := checkScopes(t, turned); len(s.places) != 2 || s.places[0].Name != "b" || s.places[1].Name != "a" || !slices.Equal(s.of, []int{-1, -1, 1, 0, -1}) {
		t.Errorf("b is told ahead of a: %s", s.told())
	}
}

// A NodeLet that has a NodeFun: with B 1 and without.
func TestLetOfFunction(t *testing.T) {
	for b := range 2 {
		tree := []impl.Node{{Kind: impl.NodeName, Names: []string{"f"}}, {Kind: impl.NodeExpr}, {Kind: impl.NodeBlock, List: []int{1}}, {Kind: impl.NodeFun, A: 2}, {Kind: impl.NodeLet, A: 3, B: b, Names: []string{"f"}}, {Kind: impl.NodeBlock, List: []int{4}}}
		s := checkScopes(t, tree)
		if b == 0 && (s.fault != impl.FaultName || s.node != 0 || len(s.captures) > 0) {
			t.Errorf("with B 0: %s", s.told())
		}
		if b == 1 && (s.fault != 0 || !slices.Equal(s.captures[3], []int{0}) || !s.places[0].Shared || s.places[0].Fun != 5) {
			t.Errorf("with B 1: %s", s.told())
		}
	}
}

func TestCapturesOfWhatIsNoFunction(t *testing.T) {
	for _, source := range []string{"let a=1;fun f(b){a=a+b;}", "let a=1;let f=fun(){fun(){a;};};", "fun f(){f();}", "", "let a=1;a;"} {
		tree := parsedTree(t, source)
		for _, fun := range []int{-1, -2, len(tree), len(tree) + 1, 300, 1 << 40, -1 << 63, 1<<63 - 1} {
			if got := impl.Captures(tree, fun); len(got) > 0 {
				t.Errorf("%q: Captures of %d, which is no node, are %v", source, fun, got)
			}
		}
		for at, node := range tree {
			if got := impl.Captures(tree, at); node.Kind != impl.NodeFun && len(got) > 0 {
				t.Errorf("%q: Captures of %+v are %v", source, node, got)
			}
		}
	}
	// One fault anywhere, and there are none.
	for _, source := range []string{"let a=1;fun f(){a;}q;", "q;let a=1;fun f(){a;}", "let a=1;fun f(){a;q;}", "let a=1;fun f(){a;}let a=2;", "let a=1;fun f(a,a){}fun g(){a;}"} {
		tree := parsedTree(t, source)
		if s := checkScopes(t, tree); s.fault == 0 || len(s.captures) > 0 {
			t.Errorf("%q: %s", source, s.told())
		}
	}
}

func TestScopesOfTreesThatAreNotRight(t *testing.T) {
	checkBig(t, nil)
	checkBig(t, []impl.Node{})
	checkBig(t, make([]impl.Node, 1))
	checkBig(t, make([]impl.Node, 400))
	for _, size := range []int{301, 303, 1001} {
		checkBig(t, wideTree(size))
		checkBig(t, chainTree(size))
	}
	for _, tree := range someTrees() {
		checkBig(t, append(copyOfTree(tree), impl.Node{Kind: impl.NodeTrue}))
		checkBig(t, append(copyOfTree(tree), impl.Node{Kind: impl.NodeBlock}))
		checkBig(t, tree[:len(tree)-1])
		for at := range tree {
			checkBig(t, with(tree, at, func(node *impl.Node) { node.At = 601 }))
			checkBig(t, with(tree, at, func(node *impl.Node) { node.Kind = 30 }))
			for _, spoil := range spoilers() {
				checkScopes(t, with(tree, at, spoil))
			}
		}
	}
	// Faults of names count for nothing there.
	checkBig(t, []impl.Node{{Kind: impl.NodeName, Names: []string{"q"}}, {Kind: impl.NodeExpr}, {Kind: impl.NodeBlock, List: []int{1}, At: -1}})
	checkBig(t, []impl.Node{{Kind: impl.NodeBlock}, {Kind: impl.NodeFun, Names: []string{"a", "a", "a", "a", "a"}}, {Kind: impl.NodeExpr, A: 1}, {Kind: impl.NodeBlock, List: []int{2}}})
	checkBig(t, []impl.Node{{Kind: impl.NodeBlock}, {Kind: impl.NodeFun, Names: []string{"a", "if"}}, {Kind: impl.NodeExpr, A: 1}, {Kind: impl.NodeBlock, List: []int{2}}})
	checkBig(t, []impl.Node{{Kind: impl.NodeTrue}, {Kind: impl.NodeLet, B: 1, Names: []string{"x"}}, {Kind: impl.NodeBlock, List: []int{1}}})
}

// Functions within one another, as many as a tree may have: each captures what stands around all of them.
func TestScopesOfDeepTrees(t *testing.T) {
	for _, depth := range []int{1, 2, 3, 10, 50, 98} {
		var m maker
		block := m.join(impl.NodeBlock, m.join(impl.NodeExpr, m.join(impl.NodeName)))
		for range depth {
			block = m.join(impl.NodeBlock, m.join(impl.NodeExpr, m.put(impl.Node{Kind: impl.NodeFun, A: block})))
		}
		free := inOrder(m.tree)
		if s := checkScopes(t, free); s.fault != impl.FaultName || s.node != 0 {
			t.Errorf("%d functions: %s", depth, s.told())
		}
		outermost := len(free) - 3
		told := with(free, outermost, func(node *impl.Node) { node.Names = []string{"x"} })
		s := checkScopes(t, told)
		if s.fault != 0 || len(s.places) != 1 || len(s.captures) != depth-1 || s.places[0].Shared != (depth > 1) {
			t.Errorf("%d functions: %s", depth, s.told())
		}
		for fun, captured := range s.captures {
			if !slices.Equal(captured, []int{0}) || fun == s.places[0].Fun {
				t.Errorf("%d functions: that at %d captures %v", depth, fun, captured)
			}
		}
	}
}

// As many names as a tree may tell, all of them captured.
func TestScopesOfWideTrees(t *testing.T) {
	for _, count := range []int{1, 2, 20, 73} {
		var m maker
		var lets, uses, want []int
		for i := range count {
			let := m.join(impl.NodeLet, m.join(impl.NodeNone))
			m.tree[let].Names = []string{"n" + strconv.Itoa(i)}
			lets = append(lets, let)
		}
		for i := range count {
			place := (i*7 + 3) % count
			used := m.put(impl.Node{Kind: impl.NodeName, Names: []string{"n" + strconv.Itoa(place)}})
			uses, want = append(uses, m.join(impl.NodePrint, used)), append(want, place)
		}
		fun := m.join(impl.NodeFun, m.join(impl.NodeBlock, uses...))
		m.join(impl.NodeBlock, append(lets, m.join(impl.NodeExpr, fun))...)
		if s := checkScopes(t, m.tree); s.fault != 0 || len(s.places) != count || !slices.Equal(s.captures[fun], want) {
			t.Errorf("%d names: %s", count, s.told())
		}
	}
}

// Each name told in each block, and used in each: what is seen where.
func TestNamesFromEachBlockInEach(t *testing.T) {
	frames := []string{
		"@if(1){@if(2){@}@}@", "@if(1){@}else{@}@", "@if(1){@}else if(2){@}else{@}@", "@while(1){@}@", "@try{@}catch e{@}@", "@try{@}catch a{@}@", "@fun f(){@}@", "@fun a(){@}@", "@fun f(a){@}@", "@fun f(b){@fun g(c){@}@}@", "@let f=fun(){@};@", "@let a=fun(){@};@",
		"@let f=fun(a){@if(1){@}@};@", "@try{@fun f(){@}@}catch e{@fun g(){@}@}@", "@while(1){@let g=fun(){@fun a(){@}@};@}@",
	}
	statements := []string{"", "a;", "a=1;", "let a=1;", "let a=a;", "let b=a;", "fun a(){a;}", "let a=fun(){a;};", "a=fun(a){a;};"}
	right := 0
	for _, frame := range frames {
		pieces := strings.Split(frame, "@")
		slots := len(pieces) - 1
		for first := range slots {
			for second := range slots {
				for i := range len(statements) * len(statements) {
					source := pieces[0]
					for slot, piece := range pieces[1:] {
						if slot == first {
							source += statements[i/len(statements)]
						}
						if slot == second {
							source += statements[i%len(statements)]
						}
						source += piece
					}
					if checkScopes(t, parsedTree(t, source)).fault == 0 {
						right++
					}
				}
			}
		}
	}
	if right < 2000 {
		t.Errorf("but %d are without a fault", right)
	}
}

func TestScopesOfPrograms(t *testing.T) {
	for _, program := range append(rightPrograms(), programs()...) {
		if tree, fault := impl.Parse(program); fault == -1 {
			checkScopes(t, tree)
		}
	}
	checkScopes(t, knownTree())
}

// mended: the tree with its first fault, which the rule tells, taken away: what has no place uses another name, if there is one, or is
// no name any more; what is told twice has a name of its own.
func mended(tree []impl.Node, s scopes, step int) []impl.Node {
	seen := []string(nil)
	if s.fault == impl.FaultName {
		seen = namesSeen(tree, s.node)
	}
	return with(tree, s.node, func(node *impl.Node) {
		switch {
		case len(seen) > 0:
			node.Names = []string{seen[step%len(seen)]}
		case node.Kind == impl.NodeName:
			*node = impl.Node{Kind: impl.NodeNone, At: node.At}
		case node.Kind == impl.NodeSet:
			*node = impl.Node{Kind: impl.NodeExpr, A: node.A, At: node.At}
		default:
			for i := range node.Names {
				node.Names[i] = "n" + strconv.Itoa(step) + "_" + strconv.Itoa(i)
			}
		}
	})
}

// checkMended: the tree without faults that comes of mending one, which is held against the rule at each step.
func checkMended(t *testing.T, tree []impl.Node) ([]impl.Node, scopes) {
	t.Helper()
	s := checkScopes(t, tree)
	for step := 0; s.fault != 0; step++ {
		if s.fault == impl.FaultBig || step > 2*len(tree) {
			t.Fatalf("a tree is not mended: %d at %d", s.fault, s.node)
		}
		tree = mended(tree, s, step)
		s = checkScopes(t, tree)
	}
	return tree, s
}

// sower makes trees of few names and many functions, by steps.
type sower struct {
	shrub
	// room is how many nodes may still be put, but for those that close what is open.
	room int
}

func (s *sower) name() string { return "abcd"[s.below(4):][:1] }

func (s *sower) named(kind int, a int) int {
	return s.put(impl.Node{Kind: kind, A: a, Names: []string{s.name()}})
}

func (s *sower) expression() int {
	s.room -= 2
	if s.room < 0 {
		return s.join(impl.NodeNone)
	}
	switch s.below(6) {
	case 0:
		return s.function()
	case 1:
		a := s.expression()
		return s.join(impl.NodeBinary, a, s.expression())
	case 2:
		parts := []int{s.expression()}
		for range s.below(3) {
			parts = append(parts, s.expression())
		}
		return s.join(impl.NodeCall, parts...)
	}
	return s.named(impl.NodeName, 0)
}

func (s *sower) function() int {
	var params []string
	for range s.below(3) {
		params = append(params, s.name())
	}
	return s.put(impl.Node{Kind: impl.NodeFun, Names: params, A: s.block()})
}

func (s *sower) block() int {
	s.room -= 2
	var list []int
	for s.room > 0 && s.below(5) > 0 {
		list = append(list, s.statement())
	}
	return s.join(impl.NodeBlock, list...)
}

func (s *sower) statement() int {
	s.room--
	switch s.below(9) {
	case 0, 1:
		return s.named(impl.NodeLet, s.expression())
	case 2:
		let := s.named(impl.NodeLet, s.function())
		s.tree[let].B = 1
		return let
	case 3, 4:
		return s.named(impl.NodeSet, s.expression())
	case 5:
		tried := s.block()
		try := s.join(impl.NodeTry, tried, s.block())
		s.tree[try].Names = []string{s.name()}
		return try
	case 6:
		a, b := s.expression(), s.block()
		return s.join(impl.NodeIf, a, b, s.block())
	case 7:
		a := s.expression()
		return s.join(impl.NodeWhile, a, s.block())
	}
	return s.join(impl.NodeReturn, s.expression())
}

// sownTree: a tree of up to about so many nodes.
func sownTree(room int, seed int) []impl.Node {
	s := sower{shrub: shrub{state: uint64(seed)*2654435761 + 88172645463325252}, room: room}
	var list []int
	for s.room > 0 {
		list = append(list, s.statement())
	}
	s.join(impl.NodeBlock, list...)
	return s.tree
}

// Trees of few names and many functions, mended fault by fault.
func TestScopesOfTreesThatAreSown(t *testing.T) {
	captured, most, kinds := 0, 0, map[int]int{}
	for seed := range 1200 {
		tree := sownTree(6+seed*7%120, seed)
		checkScopes(t, inOrder(tree))
		tree, s := checkMended(t, tree)
		for _, list := range s.captures {
			captured++
			most = max(most, len(list))
		}
		for _, place := range s.places {
			kinds[tree[place.Let].Kind]++
			if place.Shared {
				kinds[-tree[place.Let].Kind]++
			}
		}
	}
	for _, kind := range []int{impl.NodeLet, impl.NodeTry, impl.NodeFun} {
		if kinds[kind] < 100 || kinds[-kind] < 30 || kinds[-kind] > kinds[kind] {
			t.Errorf("of kind %d but %d places are told, of which %d are shared", kind, kinds[kind], kinds[-kind])
		}
	}
	if captured < 300 || most < 4 {
		t.Errorf("but %d functions capture anything, %d places at most", captured, most)
	}
}

// Trees by steps, whose nodes stand in any order.
func TestScopesOfTreesBySteps(t *testing.T) {
	captured, shared, kinds := 0, 0, map[int]int{}
	for seed := range 60 {
		tree, s := checkMended(t, treeBySteps(20+seed*37%281, seed+500))
		checkScopes(t, inOrder(tree))
		for _, list := range s.captures {
			captured += len(list)
		}
		for _, place := range s.places {
			kinds[tree[place.Let].Kind]++
			if place.Shared {
				shared++
			}
		}
	}
	if captured < 30 || shared < 30 || kinds[impl.NodeLet] < 100 || kinds[impl.NodeTry] < 30 || kinds[impl.NodeFun] < 100 {
		t.Errorf("but %d are captured, %d shared, told %v", captured, shared, kinds)
	}
}

// Programs by steps, mended likewise.
func TestScopesOfProgramsBySteps(t *testing.T) {
	told := 0
	for seed := range 900 {
		if tree, fault := impl.Parse(tight(programBySteps(2+seed%190, seed+77000))); fault == -1 {
			_, s := checkMended(t, tree)
			told += len(s.places)
		}
	}
	if told < 300 {
		t.Errorf("but %d places are told", told)
	}
}

// A fault put in where there was none is told, with its node.
func TestOneNameChanged(t *testing.T) {
	for _, source := range []string{
		"let a=1;fun f(b){a=a+b;}f(a);", "fun make(){let c=0;return fun(){c=c+1;return c;};}let g=make();g();print g();", "let n=3;while(n){try{throw n;}catch e{n=n-e;let m=e;print m;}}", "fun f(n){if(n<2){return n;}else{let k=f(n-1);return k+f(n-2);}}print f(9);",
	} {
		tree := parsedTree(t, source)
		if s := checkScopes(t, tree); s.fault != 0 {
			t.Fatalf("%q: %s", source, s.told())
		}
		for at, node := range tree {
			for i := range node.Names {
				missing := checkScopes(t, with(tree, at, func(node *impl.Node) { node.Names[i] = "nowhere" }))
				if used := node.Kind == impl.NodeName || node.Kind == impl.NodeSet; used && (missing.fault != impl.FaultName || missing.node != at) {
					t.Errorf("%q: node %d has no place, and the fault is %d at %d", source, at, missing.fault, missing.node)
				}
				for _, name := range strings.Fields("a b c e f g k m n make") {
					checkScopes(t, with(tree, at, func(node *impl.Node) { node.Names[i] = name }))
				}
			}
		}
	}
}

// Places in the source count for nothing.
func TestScopesWhateverThePlaces(t *testing.T) {
	for _, tree := range someTrees() {
		want := scopesOf(tree).told()
		for i := range tree {
			if got := scopesOf(with(tree, i, func(node *impl.Node) { node.At = (node.At + 300) % 601 })).told(); got != want {
				t.Errorf("%s, and %s with another place", want, got)
			}
		}
	}
}

func TestScopesChangeNothing(t *testing.T) {
	sources := []string{"let a=1;let b=2;fun f(c,d){try{a=b;}catch e{c=d;fun(){e;c;b;};}}", "fun f(n){f(n);}", "let a=1;let a=2;", "q;", ""}
	for _, source := range sources {
		given, told := roomy(parsedTree(t, source))
		before := told()
		first := scopesOf(given)
		want := first.told()
		if told() != before {
			t.Fatalf("%q: the tree was written into", source)
		}
		for _, place := range first.places {
			for _, node := range given {
				for _, name := range node.Names {
					if within(place.Name, name) {
						t.Errorf("%q: the place %+v shares memory with the tree", source, place)
					}
				}
			}
		}
		// What is written into an answer is to be seen nowhere else.
		for i := range first.places {
			first.places[i] = impl.Place{Fun: -5, Name: "written", Let: -6}
		}
		for i := range first.of {
			first.of[i] = -7
		}
		for _, list := range first.captures {
			_ = append(list, -8)
			for i := range list {
				list[i] = -9
			}
		}
		if told() != before {
			t.Fatalf("%q: the answer shares memory with the tree", source)
		}
		for _, other := range sources {
			scopesOf(parsedTree(t, other))
			if again := scopesOf(given).told(); again != want {
				t.Fatalf("%q: %s at first, %s then", source, want, again)
			}
		}
		second, third := scopesOf(given), scopesOf(given)
		if !reflect.DeepEqual(second, third) {
			t.Errorf("%q: two answers differ", source)
		}
	}
}
