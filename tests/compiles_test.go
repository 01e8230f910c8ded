package tests

import (
	"fmt"
	"reflect"
	"slices"
	"strconv"
	"strings"
	"testing"

	"loop.example/g00115/impl"
)

// Promise 14: what is compiled is right, and the verifier lets it in.

var wordsOfOps = strings.Fields("const get put newcell getcell putcell getcap putcap binary not minus jump ifnot if fun call return throw print")

// toldOfIns: the word of an instruction and the numbers that it uses; all of them, when one that it does not use is not 0.
func toldOfIns(i impl.Ins) string {
	used := 1
	switch i.Op {
	case impl.InsNot, impl.InsMinus, impl.InsReturn, impl.InsThrow, impl.InsPrint:
		used = 0
	case impl.InsBinary, impl.InsCall:
		used = 2
	}
	if i.B != 0 || used == 0 && i.A != 0 {
		used = 2
	}
	return strings.Join(append([]string{wordsOfOps[i.Op-1]}, strings.Fields(fmt.Sprint(i.A, i.B))[:used]...), " ")
}

func toldOfCap(c impl.Cap) string {
	if c.Reg {
		return "r" + strconv.Itoa(c.Index)
	}
	return "c" + strconv.Itoa(c.Index)
}

func toldOfHandler(h impl.Handler) string { return fmt.Sprintf("%d-%d>%d", h.From, h.To, h.Target) }

func toldOfConst(c impl.Const) string {
	if c.Kind == impl.ConstText && c.Num == 0 {
		return strconv.Quote(c.Text)
	}
	if c.Text != "" || c.Kind != impl.ConstNumber && c.Num != 0 {
		return fmt.Sprintf("%+v", c)
	}
	return map[int]string{1: impl.ShowNumber(c.Num), 3: "true", 4: "false", 5: "none"}[c.Kind]
}

// told: texts of what is in a list, with something between.
func told[T any](list []T, tell func(T) string, between string) string {
	var out []string
	for _, one := range list {
		out = append(out, tell(one))
	}
	return strings.Join(out, between)
}

// toldOfFunc: Params/Regs, the Caps in [], the Handlers in {}, if there are any, and the Code, as `0/2 [r0 c1] {0-2>3}: const 0, return`.
func toldOfFunc(f impl.Func) string {
	out := fmt.Sprintf("%d/%d", f.Params, f.Regs)
	if len(f.Caps) > 0 {
		out += " [" + told(f.Caps, toldOfCap, " ") + "]"
	}
	if len(f.Handlers) > 0 {
		out += " {" + told(f.Handlers, toldOfHandler, " ") + "}"
	}
	return out + ": " + told(f.Code, toldOfIns, ", ")
}

// toldOfCode: the constants of an image, and each Func in a line of its own.
func toldOfCode(x impl.Image) string {
	return told(x.Consts, toldOfConst, " ") + "\n" + told(x.Funcs, toldOfFunc, "\n")
}

// sameImages: whether all is the same, an empty list and nil being alike.
func sameImages(a impl.Image, b impl.Image) bool {
	return slices.Equal(a.Consts, b.Consts) && slices.EqualFunc(a.Funcs, b.Funcs, func(f impl.Func, g impl.Func) bool {
		return f.Params == g.Params && f.Regs == g.Regs && slices.Equal(f.Caps, g.Caps) && slices.Equal(f.Code, g.Code) && slices.Equal(f.Handlers, g.Handlers)
	})
}

// checkCompile holds Compile against the rule and the promise, and answers what it tells.
func checkCompile(t *testing.T, tree []impl.Node) (impl.Image, int, int) {
	t.Helper()
	x, fault, node := impl.Compile(tree)
	want, wantFault, wantNode := compileByRule(tree)
	if fault != wantFault || node != wantNode {
		t.Fatalf("of\n%sthere are the fault %d and %d, want %d and %d", toldWithAt(tree), fault, node, wantFault, wantNode)
	}
	if !sameImages(x, want) {
		t.Fatalf("of\n%sthere is\n%s\nwant\n%s", toldWithAt(tree), toldOfCode(x), toldOfCode(want))
	}
	if fault != 0 && (len(x.Funcs) > 0 || len(x.Consts) > 0) {
		t.Fatalf("beside the fault %d there is %s", fault, toldOfImage(x))
	}
	if right := impl.ImageOk(x); right != (fault == 0) || right != (impl.CodeSize(x) > 0) {
		t.Fatalf("with the fault %d ImageOk is %v, of %s", fault, right, toldOfImage(x))
	}
	if unsound := impl.Verify(x); fault == 0 && unsound != -1 {
		t.Fatalf("Verify is %d, of\n%s", unsound, toldOfCode(x))
	}
	return x, fault, node
}

// compiled: the image of a tree that has no fault.
func compiled(t *testing.T, tree []impl.Node) impl.Image {
	t.Helper()
	x, fault, node := checkCompile(t, tree)
	if fault != 0 || node != -1 {
		t.Fatalf("of\n%sthere are the fault %d and %d", toldWithAt(tree), fault, node)
	}
	return x
}

// checkCode: whether a program has these constants and Funcs, as toldOfCode tells them.
func checkCode(t *testing.T, source string, consts string, funcs ...string) {
	t.Helper()
	want := consts + "\n" + strings.Join(funcs, "\n")
	if got := toldOfCode(compiled(t, parsedTree(t, source))); got != want {
		t.Errorf("of %q there is\n%s\nwant\n%s", source, got, want)
	}
}

func checkCompileFault(t *testing.T, tree []impl.Node, wantFault int, wantNode int) {
	t.Helper()
	if _, fault, node := checkCompile(t, tree); fault != wantFault || node != wantNode {
		t.Errorf("of\n%sthere are the fault %d and %d, want %d and %d", toldWithAt(tree), fault, node, wantFault, wantNode)
	}
}

// checkEdge: a tree is right up to a limit, and too big with one more.
func checkEdge(t *testing.T, limit int, treeOf func(count int) []impl.Node) impl.Image {
	t.Helper()
	tooBig := treeOf(limit + 1)
	checkRight(t, tooBig)
	checkCompileFault(t, tooBig, impl.FaultBig, 0)
	return compiled(t, treeOf(limit))
}

func TestCodeOfTheEmptyProgram(t *testing.T) {
	checkCode(t, "", "none", "0/0: const 0, return")
	x, fault, node := impl.Compile([]impl.Node{{Kind: impl.NodeBlock}})
	want := impl.Image{Funcs: []impl.Func{{Code: []impl.Ins{{Op: 1}, {Op: 17}}}}, Consts: []impl.Const{{Kind: 5}}}
	if fault != 0 || node != -1 || !sameImages(x, want) {
		t.Errorf("of the empty program there are %s, %d and %d", toldOfCode(x), fault, node)
	}
}

func TestCodeOfEachE(t *testing.T) {
	checkCode(t, "1;", "1 none", "0/0: const 0, const 1, return")
	checkCode(t, `"a b";`, `"a b" none`, "0/0: const 0, const 1, return")
	checkCode(t, "true;", "true none", "0/0: const 0, const 1, return")
	checkCode(t, "false;", "false none", "0/0: const 0, const 1, return")
	checkCode(t, "none;", "none", "0/0: const 0, const 0, return")
	checkCode(t, "let a=1;a;", "1 none", "0/1: const 0, put 0, get 0, const 1, return")
	checkCode(t, "!1;", "1 none", "0/0: const 0, not, const 1, return")
	checkCode(t, "-1;", "1 none", "0/0: const 0, minus, const 1, return")
	checkCode(t, "-!-1;", "1 none", "0/0: const 0, minus, not, minus, const 1, return")
	for op, mark := range strings.Fields("+ - * / % < <= > >= == !=") {
		checkCode(t, "1"+mark+"2;", "1 2 none", "0/1: const 0, put 0, const 1, binary "+strconv.Itoa(op+1)+" 0, const 2, return")
	}
	checkCode(t, "1&&2;", "1 2 none", "0/0: const 0, ifnot 3, const 1, const 2, return")
	checkCode(t, "1||2;", "1 2 none", "0/0: const 0, if 3, const 1, const 2, return")
	checkCode(t, "1();", "1 none", "0/1: const 0, put 0, call 0 0, const 1, return")
	checkCode(t, "1(2);", "1 2 none", "0/2: const 0, put 0, const 1, put 1, call 0 1, const 2, return")
	checkCode(t, "1(2,3);", "1 2 3 none", "0/3: const 0, put 0, const 1, put 1, const 2, put 2, call 0 2, const 3, return")
	checkCode(t, "(fun(){});", "none", "0/0: fun 1, const 0, return", "0/0: const 0, return")
	checkCode(t, "(fun(a,b,c,d){});", "none", "0/0: fun 1, const 0, return", "4/4: const 0, return")
	checkCode(t, "(fun(a){return a;});", "none", "0/0: fun 1, const 0, return", "1/1: get 0, return, const 0, return")
}

func TestCodeOfEachStatement(t *testing.T) {
	checkCode(t, "let a=1;", "1 none", "0/1: const 0, put 0, const 1, return")
	checkCode(t, "let a=1;a=2;", "1 2 none", "0/1: const 0, put 0, const 1, put 0, const 2, return")
	checkCode(t, "print 1;", "1 none", "0/0: const 0, print, const 1, return")
	checkCode(t, "return 1;", "1 none", "0/0: const 0, return, const 1, return")
	checkCode(t, "throw 1;", "1 none", "0/0: const 0, throw, const 1, return")
	checkCode(t, "1;2;", "1 2 none", "0/0: const 0, const 1, const 2, return")
	checkCode(t, "if(1){print 2;}", "1 2 none", "0/0: const 0, ifnot 4, const 1, print, const 2, return")
	checkCode(t, "while(1){print 2;}", "1 2 none", "0/0: const 0, ifnot 5, const 1, print, jump 0, const 2, return")
	checkCode(t, "try{throw 1;}catch e{print e;}", "1 none", "0/1 {0-2>3}: const 0, throw, jump 6, put 0, get 0, print, const 1, return")
	checkCode(t, "fun f(){}", "none", "0/1: const 0, put 0, fun 1, put 0, const 0, return", "0/0: const 0, return")
	checkCode(t, "let f=fun(){};", "none", "0/1: fun 1, put 0, const 0, return", "0/0: const 0, return")
	checkCode(t, "return 1;print 2;return 3;", "1 2 3 none", "0/0: const 0, return, const 1, print, const 2, return, const 3, return")
}

func TestCodeOfIfs(t *testing.T) {
	checkCode(t, "if(1){}", "1 none", "0/0: const 0, ifnot 2, const 1, return")
	checkCode(t, "if(1){}else{}", "1 none", "0/0: const 0, ifnot 3, jump 3, const 1, return")
	checkCode(t, "if(1){print 2;}else{print 3;}", "1 2 3 none", "0/0: const 0, ifnot 5, const 1, print, jump 7, const 2, print, const 3, return")
	checkCode(t, "if(1){}else if(2){}", "1 2 none", "0/0: const 0, ifnot 3, jump 5, const 1, ifnot 5, const 2, return")
	checkCode(t, "if(1){}else if(2){}else{print 3;}", "1 2 3 none", "0/0: const 0, ifnot 3, jump 8, const 1, ifnot 6, jump 8, const 2, print, const 3, return")
	checkCode(t, "if(1){if(2){}else{}}print 3;", "1 2 3 none", "0/0: const 0, ifnot 5, const 1, ifnot 5, jump 5, const 2, print, const 3, return")
	checkCode(t, "if(1&&!2){}", "1 2 none", "0/0: const 0, ifnot 4, const 1, not, ifnot 5, const 2, return")
}

func TestCodeOfLoops(t *testing.T) {
	checkCode(t, "while(1){}", "1 none", "0/0: const 0, ifnot 3, jump 0, const 1, return")
	checkCode(t, "print 1;while(2){}", "1 2 none", "0/0: const 0, print, const 1, ifnot 5, jump 2, const 2, return")
	checkCode(t, "while(1){while(2){print 3;}print 4;}print 5;", "1 2 3 4 5 none",
		"0/0: const 0, ifnot 10, const 1, ifnot 7, const 2, print, jump 2, const 3, print, jump 0, const 4, print, const 5, return")
	checkCode(t, "while(1){while(2){while(3){}}}", "1 2 3 none", "0/0: const 0, ifnot 9, const 1, ifnot 8, const 2, ifnot 7, jump 4, jump 2, jump 0, const 3, return")
	checkCode(t, "while(1&&2){}", "1 2 none", "0/0: const 0, ifnot 3, const 1, ifnot 5, jump 0, const 2, return")
	checkCode(t, "while(1){if(2){}else{}}", "1 2 none", "0/0: const 0, ifnot 6, const 1, ifnot 5, jump 5, jump 0, const 2, return")
	checkCode(t, "while(1){let a=2;(fun(){a;});}", "1 2 none", "0/1: const 0, ifnot 6, const 1, newcell 0, fun 1, jump 0, const 2, return", "0/0 [r0]: getcap 0, const 2, return")
}

func TestCodeOfAndAndOr(t *testing.T) {
	checkCode(t, "print 1||2&&3||4;", "1 2 3 4 none", "0/0: const 0, if 5, const 1, ifnot 5, const 2, if 7, const 3, print, const 4, return")
	checkCode(t, "print 1&&2&&3;", "1 2 3 none", "0/0: const 0, ifnot 3, const 1, ifnot 5, const 2, print, const 3, return")
	checkCode(t, "print 1&&(2||3);", "1 2 3 none", "0/0: const 0, ifnot 5, const 1, if 5, const 2, print, const 3, return")
	checkCode(t, "print 1+(2&&3);", "1 2 3 none", "0/1: const 0, put 0, const 1, ifnot 5, const 2, binary 1 0, print, const 3, return")
	checkCode(t, "print 1&&2+3;", "1 2 3 none", "0/1: const 0, ifnot 6, const 1, put 0, const 2, binary 1 0, print, const 3, return")
}

// The Handlers of tries within what is tried stand ahead, those of tries in the second block behind.
func TestHandlersInOrder(t *testing.T) {
	checkCode(t, "try{}catch e{}", "none", "0/1 {0-0>1}: jump 2, put 0, const 0, return")
	checkCode(t, "print 1;try{print 2;}catch e{}print 3;", "1 2 3 none", "0/1 {2-4>5}: const 0, print, const 1, print, jump 6, put 0, const 2, print, const 3, return")
	checkCode(t, "try{try{throw 1;}catch a{throw 2;}}catch b{throw 3;}", "1 2 3 none",
		"0/1 {0-2>3 0-6>7}: const 0, throw, jump 6, put 0, const 1, throw, jump 10, put 0, const 2, throw, const 3, return")
	checkCode(t, "try{throw 1;}catch a{try{throw 2;}catch b{throw 3;}}", "1 2 3 none",
		"0/2 {0-2>3 4-6>7}: const 0, throw, jump 10, put 0, const 1, throw, jump 10, put 1, const 2, throw, const 3, return")
	checkCode(t, "try{throw 1;}catch a{}try{throw 2;}catch b{}", "1 2 none",
		"0/1 {0-2>3 4-6>7}: const 0, throw, jump 4, put 0, const 1, throw, jump 8, put 0, const 2, return")
	checkCode(t, "try{try{}catch a{}try{}catch b{}}catch c{try{}catch d{}}try{}catch e{}", "none",
		"0/2 {0-0>1 2-2>3 0-4>5 6-6>7 8-8>9}: jump 2, put 0, jump 4, put 0, jump 8, put 0, jump 8, put 1, jump 10, put 0, const 0, return")
	checkCode(t, "try{try{try{}catch a{}}catch b{}}catch c{}", "none", "0/1 {0-0>1 0-2>3 0-4>5}: jump 2, put 0, jump 4, put 0, jump 6, put 0, const 0, return")
	checkCode(t, "try{(fun(){try{throw 1;}catch a{}});}catch b{}", "1 none",
		"0/1 {0-1>2}: fun 1, jump 3, put 0, const 1, return", "0/1 {0-2>3}: const 0, throw, jump 4, put 0, const 1, return")
	checkCode(t, "while(1){try{if(2){}}catch e{}}", "1 2 none", "0/1 {2-4>5}: const 0, ifnot 7, const 1, ifnot 4, jump 6, put 0, jump 0, const 2, return")
}

func TestConstantsInOrder(t *testing.T) {
	checkCode(t, `print 1;print "1";print 1;print "1";print true;print true;print none;`, `1 "1" true none`,
		"0/0: const 0, print, const 1, print, const 0, print, const 1, print, const 2, print, const 2, print, const 3, print, const 3, return")
	checkCode(t, `0;"";false;none;true;`, `0 "" false none true`, "0/0: const 0, const 1, const 2, const 3, const 4, const 3, return")
	checkCode(t, "1;1.0;10e-1;001;", "1 none", "0/0: const 0, const 0, const 0, const 0, const 1, return")
	checkCode(t, "1;1.0000000000000002;", "1 1.0000000000000002 none", "0/0: const 0, const 1, const 2, return")
	checkCode(t, `"none";"true";"1";1;true;none;`, `"none" "true" "1" 1 true none`, "0/0: const 0, const 1, const 2, const 3, const 4, const 5, const 5, return")
	checkCode(t, `"a";"A";"a ";"aa";"a";`, `"a" "A" "a " "aa" none`, "0/0: const 0, const 1, const 2, const 3, const 0, const 4, return")
	// What a function wants is wanted where it stands.
	checkCode(t, "print 1;(fun(){print 2;(fun(){print 3;});print 4;});print 5;", "1 2 3 none 4 5",
		"0/0: const 0, print, fun 1, const 5, print, const 3, return", "0/0: const 1, print, fun 2, const 4, print, const 3, return", "0/0: const 2, print, const 3, return")
	checkCode(t, "(fun(){return 7;});return 7;", "7 none", "0/0: fun 1, const 0, return, const 1, return", "0/0: const 0, return, const 1, return")
	// The none ahead of a function that has a name comes ahead of what that wants, and behind what stood ahead of it.
	checkCode(t, "1;fun f(){2;}3;", "1 none 2 3", "0/1: const 0, const 1, put 0, fun 1, put 0, const 3, const 1, return", "0/0: const 2, const 1, return")
	checkCode(t, "let f=fun(){2;};", "2 none", "0/1: fun 1, put 0, const 1, return", "0/0: const 0, const 1, return")
}

// Numbers of each size, and texts of each length, stand in constants as they stand in trees.
func TestConstantsAsTheyStand(t *testing.T) {
	for _, num := range append(sizesAtEdges(), 0, 1, impl.Infinite-1) {
		if num >= impl.Infinite {
			continue
		}
		var m maker
		x := compiled(t, m.closed(m.put(impl.Node{Kind: impl.NodeNumber, Num: num})))
		if !slices.Equal(x.Consts, []impl.Const{{Kind: 1, Num: num}, {Kind: 5}}) {
			t.Errorf("of the number %d there are %+v", num, x.Consts)
		}
	}
	for size := range 41 {
		var m maker
		text := strings.Repeat("~ !let x", 5)[:size]
		x := compiled(t, m.closed(m.put(impl.Node{Kind: impl.NodeText, Names: []string{text}})))
		if !slices.Equal(x.Consts, []impl.Const{{Kind: 2, Text: text}, {Kind: 5}}) {
			t.Errorf("of the text %q there are %+v", text, x.Consts)
		}
	}
}

func TestFunctionsInOrder(t *testing.T) {
	end := "const 0, return"
	checkCode(t, "(fun(){(fun(){});});(fun(a){});", "none", "0/0: fun 1, fun 3, "+end, "0/0: fun 2, "+end, "0/0: "+end, "1/1: "+end)
	checkCode(t, "(fun(){})==(fun(a){});", "none", "0/1: fun 1, put 0, fun 2, binary 10 0, "+end, "0/0: "+end, "1/1: "+end)
	checkCode(t, "(fun(){})((fun(a){}),fun(a,b){});", "none", "0/3: fun 1, put 0, fun 2, put 1, fun 3, put 2, call 0 2, "+end, "0/0: "+end, "1/1: "+end, "2/2: "+end)
	checkCode(t, "if(fun(){}){(fun(a){});}else{(fun(a,b){});}", "none", "0/0: fun 1, ifnot 4, fun 2, jump 5, fun 3, "+end, "0/0: "+end, "1/1: "+end, "2/2: "+end)
	checkCode(t, "try{(fun(){});}catch e{(fun(a){});}", "none", "0/1 {0-1>2}: fun 1, jump 4, put 0, fun 2, "+end, "0/0: "+end, "1/1: "+end)
	checkCode(t, "fun f(){fun g(a){}}fun h(a,b){}", "none",
		"0/2: const 0, put 0, fun 1, put 0, const 0, put 1, fun 3, put 1, "+end, "0/1: const 0, put 0, fun 2, put 0, "+end, "1/1: "+end, "2/2: "+end)
}

func TestVariablesThatAreShared(t *testing.T) {
	checkCode(t, "let a=1;fun f(){return a;}", "1 none", "0/2: const 0, newcell 0, const 1, put 1, fun 1, put 1, const 1, return", "0/0 [r0]: getcap 0, return, const 1, return")
	checkCode(t, "let a=1;fun f(){a=2;}a=3;print a;", "1 none 2 3",
		"0/2: const 0, newcell 0, const 1, put 1, fun 1, put 1, const 3, putcell 0, getcell 0, print, const 1, return", "0/0 [r0]: const 2, putcap 0, const 1, return")
	// A variable is shared ahead of the function that uses it, too; one of the same name in that function is not.
	checkCode(t, "let a=1;print a;a=2;(fun(){a;});", "1 2 none", "0/1: const 0, newcell 0, getcell 0, print, const 1, putcell 0, fun 1, const 2, return", "0/0 [r0]: getcap 0, const 2, return")
	checkCode(t, "let a=1;(fun(){let a=2;a=a;});a=a;", "1 2 none", "0/1: const 0, put 0, fun 1, get 0, put 0, const 2, return", "0/1: const 1, put 0, get 0, put 0, const 2, return")
	checkCode(t, "let a=1;(fun(){let b=a;let a=b;a;});", "1 none", "0/1: const 0, newcell 0, fun 1, const 1, return", "0/2 [r0]: getcap 0, put 0, get 0, put 1, get 1, const 1, return")
	checkCode(t, "let a=1;if(1){let a=a;(fun(){a;});}a;", "1 none",
		"0/2: const 0, put 0, const 0, ifnot 7, get 0, newcell 1, fun 1, get 0, const 1, return", "0/0 [r1]: getcap 0, const 1, return")
}

func TestParametersThatAreShared(t *testing.T) {
	end := "const 0, return"
	checkCode(t, "fun f(a,b,c){return fun(){b=a;};}", "none", "0/1: const 0, put 0, fun 1, put 0, "+end,
		"3/3: get 0, newcell 0, get 1, newcell 1, fun 2, return, "+end, "0/0 [r1 r0]: getcap 1, putcap 0, "+end)
	checkCode(t, "(fun(a,b,c,d){a=b;(fun(){d;});d=c;});", "none", "0/0: fun 1, "+end,
		"4/4: get 3, newcell 3, get 1, put 0, fun 2, get 2, putcell 3, "+end, "0/0 [r3]: getcap 0, "+end)
	checkCode(t, "(fun(a){(fun(a){(fun(a){a;});a;});a;});", "none", "0/0: fun 1, "+end, "1/1: fun 2, get 0, "+end, "1/1: fun 3, get 0, "+end, "1/1: get 0, "+end)
	checkCode(t, "(fun(a){(fun(b){(fun(c){c=a;});b;});a;});", "none", "0/0: fun 1, "+end,
		"1/1: get 0, newcell 0, fun 2, getcell 0, "+end, "1/1 [r0]: fun 3, get 0, "+end, "1/1 [c0]: getcap 0, put 0, "+end)
	checkCode(t, "(fun(a,b){let c=a;(fun(){c;b;});});", "none", "0/0: fun 1, "+end, "2/3: get 1, newcell 1, get 0, newcell 2, fun 2, "+end, "0/0 [r2 r1]: getcap 0, getcap 1, "+end)
}

func TestCaughtNamesThatAreShared(t *testing.T) {
	checkCode(t, "try{throw 1;}catch e{e=e;}", "1 none", "0/1 {0-2>3}: const 0, throw, jump 6, put 0, get 0, put 0, const 1, return")
	checkCode(t, "try{throw 1;}catch e{(fun(){e;});}", "1 none", "0/1 {0-2>3}: const 0, throw, jump 5, newcell 0, fun 1, const 1, return", "0/0 [r0]: getcap 0, const 1, return")
	checkCode(t, "try{throw 1;}catch e{e=fun(){e;};e;}", "1 none",
		"0/1 {0-2>3}: const 0, throw, jump 7, newcell 0, fun 1, putcell 0, getcell 0, const 1, return", "0/0 [r0]: getcap 0, const 1, return")
	checkCode(t, "let a=1;try{}catch e{let b=e;(fun(){b;e;a;});}", "1 none",
		"0/3 {2-2>3}: const 0, newcell 0, jump 7, newcell 1, getcell 1, newcell 2, fun 1, const 1, return", "0/0 [r2 r1 r0]: getcap 0, getcap 1, getcap 2, const 1, return")
}

func TestCodeOfFunctionsFurtherOut(t *testing.T) {
	end := "const 1, return"
	checkCode(t, "let a=1;fun f(){return fun(){return a;};}", "1 none",
		"0/2: const 0, newcell 0, const 1, put 1, fun 1, put 1, "+end, "0/0 [r0]: fun 2, return, "+end, "0/0 [c0]: getcap 0, return, "+end)
	checkCode(t, "let a=1;(fun(){(fun(){(fun(){a=a;});});});", "1 none",
		"0/1: const 0, newcell 0, fun 1, "+end, "0/0 [r0]: fun 2, "+end, "0/0 [c0]: fun 3, "+end, "0/0 [c0]: getcap 0, putcap 0, "+end)
	checkCode(t, "let a=1;let b=2;fun f(c){return fun(d){return d+c+b+a;};}", "1 2 none",
		"0/3: const 0, newcell 0, const 1, newcell 1, const 2, put 2, fun 1, put 2, const 2, return", "1/1 [r1 r0]: get 0, newcell 0, fun 2, return, const 2, return",
		"1/2 [r0 c0 c1]: get 0, put 1, getcap 0, binary 1 1, put 1, getcap 1, binary 1 1, put 1, getcap 2, binary 1 1, return, const 2, return")
	checkCode(t, "fun f(a){let b=a;return fun(){let c=b;return fun(){return a+b+c;};};}", "none",
		"0/1: const 0, put 0, fun 1, put 0, const 0, return", "1/2: get 0, newcell 0, getcell 0, newcell 1, fun 2, return, const 0, return",
		"0/1 [r1 r0]: getcap 0, newcell 0, fun 3, return, const 0, return", "0/1 [c1 c0 r0]: getcap 0, put 0, getcap 1, binary 1 0, put 0, getcap 2, binary 1 0, return, const 0, return")
	// What a function within uses is captured on the way, ahead of what is used behind it; twice is once.
	checkCode(t, "let a=1;let b=1;(fun(){(fun(){b;b;});a;b;});", "1 none",
		"0/2: const 0, newcell 0, const 0, newcell 1, fun 1, "+end, "0/0 [r1 r0]: fun 2, getcap 1, getcap 0, "+end, "0/0 [c0]: getcap 0, getcap 0, "+end)
	// Functions one behind the other have captures of their own.
	checkCode(t, "let a=1;let b=1;(fun(){a;});(fun(){b;a;});(fun(){});", "1 none",
		"0/2: const 0, newcell 0, const 0, newcell 1, fun 1, fun 2, fun 3, "+end, "0/0 [r0]: getcap 0, "+end, "0/0 [r1 r0]: getcap 0, getcap 1, "+end, "0/0: "+end)
}

func TestCodeOfNamedFunctions(t *testing.T) {
	checkCode(t, "fun f(){f;}", "none", "0/1: const 0, newcell 0, fun 1, putcell 0, const 0, return", "0/0 [r0]: getcap 0, const 0, return")
	checkCode(t, "fun f(n){return f(n-1);}", "none 1", "0/1: const 0, newcell 0, fun 1, putcell 0, const 0, return",
		"1/3 [r0]: getcap 0, put 1, get 0, put 2, const 1, binary 2 2, put 2, call 1 1, return, const 0, return")
	checkCode(t, "let a=1;fun f(){}let b=2;", "1 none 2", "0/3: const 0, put 0, const 1, put 1, fun 1, put 1, const 2, put 2, const 1, return", "0/0: const 1, return")
	checkCode(t, "if(1){fun f(){f();}}fun g(){}", "1 none", "0/1: const 0, ifnot 6, const 1, newcell 0, fun 1, putcell 0, const 1, put 0, fun 2, put 0, const 1, return",
		"0/1 [r0]: getcap 0, put 0, call 0 0, const 1, return", "0/0: const 1, return")
	checkCode(t, "fun f(){fun g(){f;g;}}", "none", "0/1: const 0, newcell 0, fun 1, putcell 0, const 0, return",
		"0/1 [r0]: const 0, newcell 0, fun 2, putcell 0, const 0, return", "0/0 [c0 r0]: getcap 0, getcap 1, const 0, return")
	checkCode(t, "fun f(f){f;}f;", "none", "0/1: const 0, put 0, fun 1, put 0, get 0, const 0, return", "1/1: get 0, const 0, return")
}

func TestRegistersBehindBlocks(t *testing.T) {
	checkCode(t, "if(1){let a=2;let b=3;}let c=4;", "1 2 3 4 none", "0/2: const 0, ifnot 6, const 1, put 0, const 2, put 1, const 3, put 0, const 4, return")
	checkCode(t, "if(1){let a=2;}else{let b=3;}let c=4;", "1 2 3 4 none", "0/1: const 0, ifnot 5, const 1, put 0, jump 7, const 2, put 0, const 3, put 0, const 4, return")
	checkCode(t, "while(1){let a=2;}let c=4;", "1 2 4 none", "0/1: const 0, ifnot 5, const 1, put 0, jump 0, const 2, put 0, const 3, return")
	checkCode(t, "let a=1;if(a){let b=2;if(b){let c=3;}let d=4;}let e=5;", "1 2 3 4 5 none",
		"0/3: const 0, put 0, get 0, ifnot 12, const 1, put 1, get 1, ifnot 10, const 2, put 2, const 3, put 2, const 4, put 1, const 5, return")
	checkCode(t, "if(1){let a=2;(fun(){a;});}let c=4;", "1 2 none 4", "0/1: const 0, ifnot 5, const 1, newcell 0, fun 1, const 3, put 0, const 2, return", "0/0 [r0]: getcap 0, const 2, return")
	checkCode(t, "let a=1;(fun(b){let c=2;});let d=3;", "1 2 none 3", "0/2: const 0, put 0, fun 1, const 3, put 1, const 2, return", "1/2: const 1, put 1, const 2, return")
}

func TestRegistersBehindTries(t *testing.T) {
	checkCode(t, "try{let a=1;}catch e{let b=2;}let c=3;", "1 2 3 none", "0/2 {0-2>3}: const 0, put 0, jump 6, put 0, const 1, put 1, const 2, put 0, const 3, return")
	checkCode(t, "let a=1;try{let b=2;let c=3;}catch e{}let d=4;", "1 2 3 4 none",
		"0/3 {2-6>7}: const 0, put 0, const 1, put 1, const 2, put 2, jump 8, put 1, const 3, put 1, const 4, return")
	checkCode(t, "try{}catch e{}try{}catch f{let a=f;}", "none", "0/2 {0-0>1 2-2>3}: jump 2, put 0, jump 6, put 0, get 0, put 1, const 0, return")
}

func TestRegistersBehindBinary(t *testing.T) {
	checkCode(t, "let a=1;print a+2;let b=3;", "1 2 3 none", "0/2: const 0, put 0, get 0, put 1, const 1, binary 1 1, print, const 2, put 1, const 3, return")
	checkCode(t, "print 1+2+3;", "1 2 3 none", "0/1: const 0, put 0, const 1, binary 1 0, put 0, const 2, binary 1 0, print, const 3, return")
	checkCode(t, "print 1+(2+3);", "1 2 3 none", "0/2: const 0, put 0, const 1, put 1, const 2, binary 1 1, binary 1 0, print, const 3, return")
	checkCode(t, "print (1+2)*(3-4);", "1 2 3 4 none", "0/2: const 0, put 0, const 1, binary 1 0, put 0, const 2, put 1, const 3, binary 2 1, binary 3 0, print, const 4, return")
	checkCode(t, "let a=1+2;let b=a;", "1 2 none", "0/2: const 0, put 0, const 1, binary 1 0, put 0, get 0, put 1, const 2, return")
	checkCode(t, "1<2;3<4;", "1 2 3 4 none", "0/1: const 0, put 0, const 1, binary 6 0, const 2, put 0, const 3, binary 6 0, const 4, return")
}

func TestRegistersBehindCalls(t *testing.T) {
	checkCode(t, "let f=1;f(2,f(3));let b=4;", "1 2 3 4 none",
		"0/5: const 0, put 0, get 0, put 1, const 1, put 2, get 0, put 3, const 2, put 4, call 3 1, put 3, call 1 2, const 3, put 1, const 4, return")
	checkCode(t, "1(2)(3);", "1 2 3 none", "0/2: const 0, put 0, const 1, put 1, call 0 1, put 0, const 2, put 1, call 0 1, const 3, return")
	checkCode(t, "1()+2();", "1 2 none", "0/2: const 0, put 0, call 0 0, put 0, const 1, put 1, call 1 0, binary 1 0, const 2, return")
	checkCode(t, "1(2+3,4);", "1 2 3 4 none", "0/3: const 0, put 0, const 1, put 1, const 2, binary 1 1, put 1, const 3, put 2, call 0 2, const 4, return")
	checkCode(t, "1(2+(3+4));", "1 2 3 4 none", "0/3: const 0, put 0, const 1, put 1, const 2, put 2, const 3, binary 1 2, binary 1 1, put 1, call 0 1, const 4, return")
	checkCode(t, "let a=1();let b=2();", "1 2 none", "0/2: const 0, put 0, call 0 0, put 0, const 1, put 1, call 1 0, put 1, const 2, return")
	checkCode(t, "1(2,3,4,5,6,7);", "1 2 3 4 5 6 7 none",
		"0/7: const 0, put 0, const 1, put 1, const 2, put 2, const 3, put 3, const 4, put 4, const 5, put 5, const 6, put 6, call 0 6, const 7, return")
}

func TestCodeOfPrograms(t *testing.T) {
	checkCode(t, "fun make(){let c=0;return fun(){c=c+1;return c;};}let g=make();g();print g();", "none 0 1",
		"0/3: const 0, put 0, fun 1, put 0, get 0, put 1, call 1 0, put 1, get 1, put 2, call 2 0, get 1, put 2, call 2 0, print, const 0, return",
		"0/1: const 1, newcell 0, fun 2, return, const 0, return", "0/1 [r0]: getcap 0, put 0, const 2, binary 1 0, putcap 0, getcap 0, return, const 0, return")
	checkCode(t, `let n=3;fun f(a,b){return a<b;}if(f(n,4)){print "yes";}else if(!n){n=-n;}while(n){try{throw none;}catch e{}}`, `3 none 4 "yes"`,
		"0/5 {25-27>28}: const 0, put 0, const 1, put 1, fun 1, put 1, get 1, put 2, get 0, put 3, const 2, put 4, call 2 2, ifnot 17, const 3, print, jump 23, "+
			"get 0, not, ifnot 23, get 0, minus, put 0, get 0, ifnot 30, const 1, throw, jump 29, put 2, jump 23, const 1, return",
		"2/3: get 0, put 2, get 1, binary 6 2, return, const 1, return")
	if x := compiled(t, knownTree()); toldOfCode(x) != toldOfCode(compiled(t, inOrder(knownTree()))) {
		t.Error("the known tree has another image")
	}
	for _, program := range append(rightPrograms(), programs()...) {
		if tree, fault := impl.Parse(program); fault == -1 {
			checkCompile(t, tree)
			compiled(t, withoutFaults(tree))
		}
	}
}

// numbered: a name that no other number has.
func numbered(i int) string { return "n" + strconv.Itoa(i) }

func (m *maker) let(name string, value int) int {
	return m.put(impl.Node{Kind: impl.NodeLet, Names: []string{name}, A: value})
}

func (m *maker) name(name string) int {
	return m.put(impl.Node{Kind: impl.NodeName, Names: []string{name}})
}

// fun: a statement that is a function of these parameters and statements.
func (m *maker) fun(params []string, statements ...int) int {
	return m.join(impl.NodeExpr, m.put(impl.Node{Kind: impl.NodeFun, Names: params, A: m.join(impl.NodeBlock, statements...)}))
}

// lets: so many variables, of none.
func (m *maker) lets(count int) []int {
	var out []int
	for i := range count {
		out = append(out, m.let(numbered(i), m.join(impl.NodeNone)))
	}
	return out
}

// program: the tree whose program has these statements.
func (m *maker) program(statements ...int) []impl.Node {
	m.join(impl.NodeBlock, statements...)
	return m.tree
}

func TestMostRegisters(t *testing.T) {
	x := checkEdge(t, 40, func(count int) []impl.Node {
		var m maker
		return m.program(m.lets(count)...)
	})
	if x.Funcs[0].Regs != 40 {
		t.Errorf("40 variables have %d registers", x.Funcs[0].Regs)
	}
	for params := range 5 {
		x = checkEdge(t, 40-params, func(count int) []impl.Node {
			var m maker
			return m.program(m.fun(strings.Fields("a b c d")[:params], m.lets(count)...))
		})
		if x.Funcs[0].Regs != 0 || x.Funcs[1].Regs != 40 {
			t.Errorf("%d parameters: there are %d and %d registers", params, x.Funcs[0].Regs, x.Funcs[1].Regs)
		}
	}
	// What is called, and as many as are handed in.
	checkEdge(t, 39, func(count int) []impl.Node {
		var m maker
		parts := []int{m.join(impl.NodeTrue)}
		for range count {
			parts = append(parts, m.join(impl.NodeNone))
		}
		return m.closed(m.join(impl.NodeCall, parts...))
	})
	// A register for each that has a second part which is not done yet.
	checkEdge(t, 40, func(count int) []impl.Node {
		var m maker
		at := m.join(impl.NodeNone)
		for range count {
			at = m.join(impl.NodeBinary, m.join(impl.NodeTrue), at)
		}
		return m.closed(at)
	})
	// Names that are caught, each within the second block of another, behind variables.
	checkEdge(t, 25, func(count int) []impl.Node {
		var m maker
		list, tries := m.lets(15), []int{}
		for range count {
			caught := m.join(impl.NodeBlock, tries...)
			tries = []int{m.join(impl.NodeTry, m.join(impl.NodeBlock), caught)}
		}
		return m.program(append(list, tries...)...)
	})
	// Variables that are shared take no more than others.
	checkEdge(t, 40, func(count int) []impl.Node {
		var m maker
		lets := m.lets(count)
		return m.program(append(lets, m.fun(nil, m.join(impl.NodeExpr, m.name(numbered(0))), m.join(impl.NodeExpr, m.name(numbered(count-1)))))...)
	})
	// One register that is wanted for a moment counts as any other.
	checkEdge(t, 39, func(count int) []impl.Node {
		var m maker
		lets := m.lets(count)
		return m.program(append(lets, m.join(impl.NodePrint, m.join(impl.NodeBinary, m.join(impl.NodeTrue), m.join(impl.NodeTrue))))...)
	})
}

// However many are free again, they count once.
func TestRegistersThatAreFreeAgain(t *testing.T) {
	var m maker
	at := m.join(impl.NodeNone)
	for range 60 {
		at = m.join(impl.NodeBinary, at, m.join(impl.NodeTrue))
	}
	checkRegs := func(tree []impl.Node, want int) {
		t.Helper()
		if x := compiled(t, tree); x.Funcs[0].Regs != want {
			t.Errorf("there are %d registers, want %d, of\n%s", x.Funcs[0].Regs, want, toldOfCode(x))
		}
	}
	checkRegs(m.closed(at), 1)
	repeated := func(put func(m *maker) int) []impl.Node {
		var m maker
		var list []int
		for range 40 {
			list = append(list, put(&m))
		}
		return m.program(list...)
	}
	checkRegs(repeated(func(m *maker) int {
		called := m.join(impl.NodeNone)
		return m.join(impl.NodeExpr, m.join(impl.NodeCall, called, m.join(impl.NodeTrue)))
	}), 2)
	checkRegs(repeated(func(m *maker) int {
		asked := m.join(impl.NodeTrue)
		return m.join(impl.NodeIf, asked, m.join(impl.NodeBlock, m.let("x", m.join(impl.NodeNone))), -1)
	}), 1)
	checkRegs(repeated(func(m *maker) int {
		tried := m.join(impl.NodeBlock)
		return m.join(impl.NodeTry, tried, m.join(impl.NodeBlock))
	}), 1)
}

// longE: an expression of so many instructions, at least 4.
func (m *maker) longE(size int) int {
	at := m.join(impl.NodeTrue)
	for range (size - 1) / 3 {
		at = m.join(impl.NodeBinary, at, m.join(impl.NodeTrue))
	}
	for range (size - 1) % 3 {
		at = m.join(impl.NodeNot, at)
	}
	return at
}

func TestLongestCode(t *testing.T) {
	sizes := func(x impl.Image) []int {
		var out []int
		for _, f := range x.Funcs {
			out = append(out, len(f.Code))
		}
		return out
	}
	checkSizes := func(treeOf func(count int) []impl.Node, limit int, want ...int) {
		t.Helper()
		if got := sizes(checkEdge(t, limit, treeOf)); !slices.Equal(got, want) {
			t.Errorf("there are %v instructions, want %v", got, want)
		}
	}
	checkSizes(func(count int) []impl.Node {
		var m maker
		return m.closed(m.longE(count))
	}, 298, 300)
	checkSizes(func(count int) []impl.Node {
		var m maker
		return m.program(m.fun(nil, m.join(impl.NodePrint, m.longE(count))))
	}, 297, 3, 300)
	checkSizes(func(count int) []impl.Node {
		var m maker
		long := m.join(impl.NodeExpr, m.longE(count))
		return m.program(m.fun(nil), long, m.fun(nil))
	}, 296, 300, 2, 2)
	// All functions together may be longer.
	checkSizes(func(count int) []impl.Node {
		var m maker
		first, second := m.fun(nil, m.join(impl.NodeExpr, m.longE(70))), m.fun(nil, m.join(impl.NodeReturn, m.longE(40)))
		return m.program(m.join(impl.NodeExpr, m.longE(count)), first, second)
	}, 296, 300, 72, 43)
	// Jumps over all of it.
	checkSizes(func(count int) []impl.Node {
		var m maker
		asked := m.join(impl.NodeTrue)
		return m.program(m.join(impl.NodeWhile, asked, m.join(impl.NodeBlock, m.join(impl.NodeExpr, m.longE(count)))))
	}, 295, 300)
	checkSizes(func(count int) []impl.Node {
		var m maker
		tried := m.join(impl.NodeBlock, m.join(impl.NodeExpr, m.longE(count)))
		return m.program(m.join(impl.NodeTry, tried, m.join(impl.NodeBlock)))
	}, 296, 300)
	// As long as trees may be.
	checkCompileFault(t, chainTree(301), impl.FaultBig, 0)
	if got := sizes(compiled(t, chainTree(300))); !slices.Equal(got, []int{300}) {
		t.Errorf("a tree of 300 nodes has %v instructions", got)
	}
	if got := sizes(compiled(t, wideTree(299))); !slices.Equal(got, []int{300}) {
		t.Errorf("a tree of 299 nodes has %v instructions", got)
	}
}

func TestMostFunctions(t *testing.T) {
	behind := func(count int) []impl.Node {
		var m maker
		var list []int
		for range count {
			list = append(list, m.fun(nil))
		}
		return m.program(list...)
	}
	within := func(count int) []impl.Node {
		var m maker
		var list []int
		for range count {
			list = []int{m.fun(nil, list...)}
		}
		return m.program(list...)
	}
	for _, treeOf := range []func(count int) []impl.Node{behind, within} {
		if x := checkEdge(t, 15, treeOf); len(x.Funcs) != 16 {
			t.Errorf("there are %d Funcs", len(x.Funcs))
		}
		checkCompileFault(t, treeOf(60), impl.FaultBig, 0)
	}
}

func TestMostConstants(t *testing.T) {
	number := func(m *maker, i int) int {
		return m.join(impl.NodeExpr, m.put(impl.Node{Kind: impl.NodeNumber, Num: impl.FromInt(i)}))
	}
	numbers := func(count int) []impl.Node {
		var m maker
		var list []int
		for i := range 120 {
			list = append(list, number(&m, i%count))
		}
		return m.program(list...)
	}
	texts := func(count int) []impl.Node {
		var m maker
		var list []int
		for i := range count {
			list = append(list, m.join(impl.NodeExpr, m.put(impl.Node{Kind: impl.NodeText, Names: []string{numbered(i)}})))
		}
		return m.program(append(list, m.join(impl.NodeExpr, m.join(impl.NodeNone)))...)
	}
	// A function's constants are those of the program, too.
	apart := func(count int) []impl.Node {
		var m maker
		var list [3][]int
		for i := range count {
			list[i%3] = append(list[i%3], number(&m, i))
		}
		return m.program(append(list[0], m.fun(nil, append(list[1], m.fun(nil, list[2]...))...))...)
	}
	for _, treeOf := range []func(count int) []impl.Node{numbers, texts, apart} {
		if x := checkEdge(t, 39, treeOf); len(x.Consts) != 40 || slices.Index(x.Consts, impl.Const{Kind: 5}) < 0 {
			t.Errorf("there are %+v", x.Consts)
		}
	}
}

func TestMostCaptures(t *testing.T) {
	uses := func(m *maker, from int, to int) []int {
		var out []int
		for i := from; i < to; i++ {
			out = append(out, m.join(impl.NodeExpr, m.name(numbered(i))))
		}
		return out
	}
	one := func(count int) []impl.Node {
		var m maker
		lets := m.lets(count)
		return m.program(append(lets, m.fun(nil, uses(&m, 0, count)...))...)
	}
	deep := func(count int) []impl.Node {
		var m maker
		lets := m.lets(count)
		return m.program(append(lets, m.fun(nil, m.fun(nil, uses(&m, 0, count)...)))...)
	}
	// Only the function around has as many.
	around := func(count int) []impl.Node {
		var m maker
		lets := m.lets(count)
		first, second := m.fun(nil, uses(&m, 0, 11)...), m.fun(nil, uses(&m, 8, count)...)
		return m.program(append(lets, m.fun(nil, first, second))...)
	}
	for _, treeOf := range []func(count int) []impl.Node{one, deep, around} {
		x := checkEdge(t, 20, treeOf)
		if len(x.Funcs[1].Caps) != 20 || x.Funcs[0].Regs != 20 {
			t.Errorf("there are %d Caps", len(x.Funcs[1].Caps))
		}
	}
	// Functions one behind the other have their own.
	var m maker
	lets := m.lets(40)
	x := compiled(t, m.program(append(lets, m.fun(nil, uses(&m, 0, 20)...), m.fun(nil, uses(&m, 20, 40)...))...))
	if len(x.Funcs[1].Caps) != 20 || len(x.Funcs[2].Caps) != 20 {
		t.Errorf("there are %d and %d Caps", len(x.Funcs[1].Caps), len(x.Funcs[2].Caps))
	}
}

func TestMostHandlers(t *testing.T) {
	try := func(m *maker, tried ...int) int {
		block := m.join(impl.NodeBlock, tried...)
		return m.join(impl.NodeTry, block, m.join(impl.NodeBlock))
	}
	several := func(m *maker, count int) []int {
		var list []int
		for range count {
			list = append(list, try(m))
		}
		return list
	}
	behind := func(count int) []impl.Node {
		var m maker
		return m.program(several(&m, count)...)
	}
	within := func(count int) []impl.Node {
		var m maker
		var list []int
		for range count {
			list = []int{try(&m, list...)}
		}
		return m.program(list...)
	}
	inFunction := func(count int) []impl.Node {
		var m maker
		first := m.fun(nil, several(&m, 40)...)
		return m.program(first, m.fun(nil, several(&m, count)...))
	}
	for _, treeOf := range []func(count int) []impl.Node{behind, within, inFunction} {
		x := checkEdge(t, 40, treeOf)
		if f := x.Funcs[len(x.Funcs)-1]; len(f.Handlers) != 40 || f.Regs != 1 {
			t.Errorf("there are %d Handlers and %d registers", len(f.Handlers), f.Regs)
		}
	}
}

func TestCompileOfNamesWithFaults(t *testing.T) {
	for _, c := range []struct {
		fault, kind int
		marked      string
	}{
		{impl.FaultName, impl.NodeName, "@q;"},
		{impl.FaultName, impl.NodeName, "let a=@a;"},
		{impl.FaultName, impl.NodeName, "if(1){let a=1;}print 1+@a;"},
		{impl.FaultName, impl.NodeName, "fun f(a){}f(@a);"},
		{impl.FaultName, impl.NodeName, "let f=fun(){@f;};"},
		{impl.FaultName, impl.NodeName, "try{@e;}catch e{e;}"},
		{impl.FaultName, impl.NodeSet, "@q=1;"},
		{impl.FaultName, impl.NodeSet, "fun f(){@q=1;}let q=1;"},
		{impl.FaultTwice, impl.NodeLet, "let a=1;@let a=2;"},
		{impl.FaultTwice, impl.NodeLet, "fun a(){}@fun a(){}"},
		{impl.FaultTwice, impl.NodeLet, "fun f(a){@let a=1;}"},
		{impl.FaultTwice, impl.NodeLet, "try{}catch e{@let e=1;}"},
		{impl.FaultTwice, impl.NodeFun, "print @fun(a,a){};"},
		{impl.FaultTwice, impl.NodeLet, "let a=1;@let a=2;q;"},
		{impl.FaultName, impl.NodeName, "@q;let a=1;let a=2;"},
	} {
		tree, node := faultMarked(t, c.marked, c.kind)
		checkCompileFault(t, tree, c.fault, node)
	}
	// A fault of names is told, however big the program is.
	for _, count := range []int{5, 41, 60} {
		var m maker
		lets := m.lets(count)
		fault := m.name("q")
		checkCompileFault(t, m.program(append(lets, m.join(impl.NodeExpr, fault))...), impl.FaultName, fault)
		m = maker{}
		lets = m.lets(count)
		again := m.let(numbered(count/2), m.join(impl.NodeNone))
		checkCompileFault(t, m.program(append(lets, again)...), impl.FaultTwice, again)
	}
}

func TestCompileOfTreesThatAreNotRight(t *testing.T) {
	for _, tree := range [][]impl.Node{nil, {}, make([]impl.Node, 1), make([]impl.Node, 400), wideTree(301), chainTree(301), chainTree(1001), callTree(301)} {
		checkCompileFault(t, tree, impl.FaultBig, 0)
	}
	for _, tree := range someTrees() {
		checkCompileFault(t, append(copyOfTree(tree), impl.Node{Kind: impl.NodeTrue}), impl.FaultBig, 0)
		checkCompileFault(t, append(copyOfTree(tree), impl.Node{Kind: impl.NodeBlock}), impl.FaultBig, 0)
		checkCompileFault(t, tree[:len(tree)-1], impl.FaultBig, 0)
		for at := range tree {
			checkCompileFault(t, with(tree, at, func(node *impl.Node) { node.At = -1 }), impl.FaultBig, 0)
			checkCompileFault(t, with(tree, at, func(node *impl.Node) { node.Kind = 19 }), impl.FaultBig, 0)
			for _, spoil := range spoilers() {
				checkCompile(t, with(tree, at, spoil))
			}
		}
	}
	// Faults of names count for nothing there.
	checkCompileFault(t, []impl.Node{{Kind: impl.NodeName, Names: []string{"q"}}, {Kind: impl.NodeExpr}, {Kind: impl.NodeBlock, List: []int{1}, At: 601}}, impl.FaultBig, 0)
	checkCompileFault(t, []impl.Node{{Kind: impl.NodeTrue}, {Kind: impl.NodeLet, B: 1, Names: []string{"x"}}, {Kind: impl.NodeBlock, List: []int{1}}}, impl.FaultBig, 0)
}

// withoutFaults: the tree with all faults of its names mended.
func withoutFaults(tree []impl.Node) []impl.Node {
	s := scopesByRule(tree)
	for step := 0; s.fault == impl.FaultName || s.fault == impl.FaultTwice; step++ {
		tree = mended(tree, s, step)
		s = scopesByRule(tree)
	}
	return tree
}

// tally counts what images are made of, so that a test may tell that it has seen all of it.
type tally struct {
	ops                             map[int]int
	right, big, caps, outer, behind int
}

func (c *tally) count(x impl.Image, fault int) {
	if fault != 0 {
		c.big++
		return
	}
	c.right++
	for _, f := range x.Funcs {
		for _, ins := range f.Code {
			c.ops[ins.Op]++
		}
		for _, captured := range f.Caps {
			c.caps++
			if !captured.Reg {
				c.outer++
			}
		}
		if len(f.Handlers) > 1 {
			c.behind++
		}
	}
}

func (c *tally) check(t *testing.T, ops []int, right int, big int, caps int, behind int) {
	t.Helper()
	for _, op := range ops {
		if c.ops[op] < 100 {
			t.Errorf("there are but %d of %s", c.ops[op], wordsOfOps[op-1])
		}
	}
	if c.right < right || c.big < big || c.caps < caps || c.outer < caps/10 || c.behind < behind {
		t.Errorf("but %d are right, %d too big, %d captures, %d of which are further out, %d with several handlers", c.right, c.big, c.caps, c.outer, c.behind)
	}
}

// Trees of few names and many functions.
func TestCompileOfTreesThatAreSown(t *testing.T) {
	seen := tally{ops: map[int]int{}}
	for seed := range 1500 {
		tree := withoutFaults(sownTree(6+seed*7%260, seed+9000))
		x, fault, _ := checkCompile(t, tree)
		seen.count(x, fault)
		if y, again, _ := impl.Compile(inOrder(tree)); again != fault || !sameImages(x, y) {
			t.Fatalf("with nodes in another order there is\n%s\nwant\n%s", toldOfCode(y), toldOfCode(x))
		}
	}
	ops := []int{
		impl.InsConst, impl.InsGet, impl.InsPut, impl.InsNewCell, impl.InsGetCell, impl.InsPutCell, impl.InsGetCap, impl.InsPutCap, impl.InsBinary, impl.InsJump, impl.InsIfNot, impl.InsFun, impl.InsCall, impl.InsReturn,
	}
	seen.check(t, ops, 600, 100, 800, 100)
}

// Trees of all kinds, whose nodes stand in any order.
func TestCompileOfTreesBySteps(t *testing.T) {
	seen := tally{ops: map[int]int{}}
	for seed := range 150 {
		tree := treeBySteps(20+seed*37%281, seed+7000)
		checkCompile(t, tree)
		x, fault, _ := checkCompile(t, withoutFaults(tree))
		seen.count(x, fault)
	}
	seen.check(t, []int{impl.InsConst, impl.InsNot, impl.InsMinus, impl.InsIf, impl.InsIfNot, impl.InsJump, impl.InsThrow, impl.InsPrint}, 100, 1, 100, 10)
}

func TestCompileOfProgramsBySteps(t *testing.T) {
	seen := tally{ops: map[int]int{}}
	for seed := range 1200 {
		tree, fault := impl.Parse(tight(programBySteps(2+seed%190, seed+31000)))
		if fault == -1 {
			checkCompile(t, tree)
			x, big, _ := checkCompile(t, withoutFaults(tree))
			seen.count(x, big)
		}
	}
	seen.check(t, []int{impl.InsConst, impl.InsNot, impl.InsMinus, impl.InsIf, impl.InsIfNot, impl.InsBinary, impl.InsCall, impl.InsPut}, 300, 0, 0, 0)
}

// Each statement in each place for statements, each E in each place for E.
func TestCompileOfEachInEach(t *testing.T) {
	for _, place := range placesForStatements() {
		for _, statement := range statementsOfChapter() {
			compiled(t, withoutFaults(parsedTree(t, strings.ReplaceAll(place, "@", statement))))
		}
	}
	for _, place := range placesForE() {
		for _, e := range formsOfE() {
			compiled(t, withoutFaults(parsedTree(t, strings.ReplaceAll(place, "@", "( "+e+" )"))))
		}
	}
}

// Places in the source count for nothing, but that they are to be right.
func TestCompileWhateverThePlaces(t *testing.T) {
	for _, tree := range someTrees() {
		tree = withoutFaults(tree)
		want, wantFault, _ := checkCompile(t, tree)
		for at := range tree {
			if x, fault, _ := impl.Compile(with(tree, at, func(node *impl.Node) { node.At = (node.At + 300) % 601 })); fault != wantFault || !sameImages(x, want) {
				t.Fatalf("with another place there is\n%s\nwant\n%s", toldOfCode(x), toldOfCode(want))
			}
		}
	}
}

// writeInto puts something else into all of an image, and into the spare room behind each of its lists, one list after the other;
// each time the others are looked at.
func writeInto(t *testing.T, x impl.Image) {
	t.Helper()
	for fun := range x.Funcs {
		f := &x.Funcs[fun]
		for _, write := range []func(){
			func() { f.Code = append(f.Code, impl.Ins{Op: -1})[:len(f.Code)] },
			func() { f.Caps = append(f.Caps, impl.Cap{Index: -2})[:len(f.Caps)] },
			func() { f.Handlers = append(f.Handlers, impl.Handler{From: -3})[:len(f.Handlers)] },
		} {
			before := toldOfCode(x)
			if write(); toldOfCode(x) != before {
				t.Fatalf("two lists share memory: %s\nand then\n%s", before, toldOfCode(x))
			}
		}
	}
	for fun := range x.Funcs {
		f := x.Funcs[fun]
		clear(f.Code)
		clear(f.Caps)
		clear(f.Handlers)
		for i, other := range x.Funcs {
			if i > fun && len(other.Code) > 0 && other.Code[0].Op == 0 {
				t.Fatal("two Funcs share their code")
			}
		}
	}
	clear(x.Consts)
	clear(x.Funcs)
}

func TestCompileChangesNothing(t *testing.T) {
	sources := []string{
		`let a=1;let b="text";fun f(c,d){try{a=b;}catch e{c=d;(fun(){e;c;b;"text";});}}try{}catch g{}`, "fun f(n){f(n);}", "let a=1;let a=2;", "q;", "", "while(1){if(2){}else{}}",
	}
	for _, source := range sources {
		given, toldOfTree := roomy(parsedTree(t, source))
		before := toldOfTree()
		first, fault, node := impl.Compile(given)
		want := copyOfImage(first)
		if toldOfTree() != before {
			t.Fatalf("%q: the tree was written into", source)
		}
		for _, c := range first.Consts {
			for _, node := range given {
				for _, name := range node.Names {
					if within(c.Text, name) {
						t.Errorf("%q: the constant %+v shares memory with the tree", source, c)
					}
				}
			}
		}
		writeInto(t, first)
		if toldOfTree() != before {
			t.Fatalf("%q: the answer shares memory with the tree", source)
		}
		for _, other := range sources {
			impl.Compile(parsedTree(t, other))
			if x, again, at := impl.Compile(given); again != fault || at != node || !sameImages(x, want) {
				t.Fatalf("%q: there is\n%s\nwant\n%s", source, toldOfCode(x), toldOfCode(want))
			}
		}
		second, _, _ := impl.Compile(given)
		third, _, _ := impl.Compile(given)
		if !reflect.DeepEqual(second, third) {
			t.Errorf("%q: two answers differ", source)
		}
	}
}
