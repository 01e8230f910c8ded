package tests

import (
	"fmt"
	"math"
	"slices"
	"strconv"
	"strings"
	"testing"

	"loop.example/g00115/impl"
)

// Promise 18: walking with more fuel goes on as with less; a log of less fuel is a beginning of it.

// toldOfOutcome: the End's word, what is shown, each text of the log behind a `|`, and the fuel that is left.
func toldOfOutcome(o impl.Outcome) string {
	words := []string{"done", "thrown", "fuel", "deep", "bad"}
	if o.End < 1 || o.End > len(words) {
		return fmt.Sprintf("%+v", o)
	}
	out := words[o.End-1] + " " + o.Shown
	for _, text := range o.Log {
		out += "|" + text
	}
	return out + " +" + strconv.Itoa(o.Fuel)
}

func sameOutcomes(a impl.Outcome, b impl.Outcome) bool {
	return a.End == b.End && a.Shown == b.Shown && slices.Equal(a.Log, b.Log) && a.Fuel == b.Fuel
}

// checkWalk holds Walk of a tree that may be walked against the rule.
func checkWalk(t *testing.T, tree []impl.Node, fuel int) impl.Outcome {
	t.Helper()
	got, ok := impl.Walk(tree, fuel)
	if want := strolledOver(tree, fuel); !ok || !sameOutcomes(got, want) {
		source, _ := impl.Print(tree)
		t.Fatalf("%q with %d of fuel: %s, %v,\nwant %s, true", source, fuel, toldOfOutcome(got), ok, toldOfOutcome(want))
	}
	return got
}

// goesOnAs: what the promise says of two outcomes of one program, the second with one of fuel more.
func goesOnAs(less impl.Outcome, more impl.Outcome) bool {
	if less.End == impl.EndFuel && less.Fuel == 0 {
		return len(less.Log) <= len(more.Log) && slices.Equal(less.Log, more.Log[:len(less.Log)])
	}
	less.Fuel++
	return sameOutcomes(less, more)
}

// checkEachFuel: a walk with every fuel from 0 to what the program takes, and one more; and that the machine does the same.
func checkEachFuel(t *testing.T, tree []impl.Node) {
	t.Helper()
	most := checkWalk(t, tree, impl.MaxFuel)
	takes := impl.MaxFuel - most.Fuel
	before := checkWalk(t, tree, 0)
	for fuel := 1; fuel <= min(takes+1, impl.MaxFuel); fuel++ {
		next := checkWalk(t, tree, fuel)
		if !goesOnAs(before, next) {
			t.Fatalf("with %d of fuel %s, with one more %s", fuel-1, toldOfOutcome(before), toldOfOutcome(next))
		}
		if fuel >= takes && (next.End != most.End || next.Fuel != fuel-takes) {
			t.Fatalf("%d of fuel are taken of %d, but %s of %d", takes, impl.MaxFuel, toldOfOutcome(next), fuel)
		}
		before = next
	}
	checkRunsAsWalked(t, tree)
}

// checkOnly holds a program with just this fuel against what it is known to do.
func checkOnly(t *testing.T, source string, fuel int, want string) {
	t.Helper()
	got, code := impl.WalkSource(source, fuel)
	if code != 0 || toldOfOutcome(got) != want {
		t.Errorf("%q with %d of fuel: %s, %d,\nwant %s, 0", source, fuel, toldOfOutcome(got), code, want)
	}
	if walked := checkWalk(t, parsedTree(t, source), fuel); !sameOutcomes(walked, got) {
		t.Errorf("%q with %d of fuel: %s, but its tree %s", source, fuel, toldOfOutcome(got), toldOfOutcome(walked))
	}
	if ran, code := impl.RunSource(source, fuel); code != 0 || toldOfOutcome(ran) != want {
		t.Errorf("%q with %d of fuel is run: %s, %d,\nwant %s, 0", source, fuel, toldOfOutcome(ran), code, want)
	}
}

// checkWalks holds a program with this fuel against what it is known to do, and with every other fuel against the promise.
func checkWalks(t *testing.T, source string, fuel int, want string) {
	t.Helper()
	checkOnly(t, source, fuel, want)
	checkEachFuel(t, parsedTree(t, source))
}

// checkShows: what a program without any call or loop does.
func checkShows(t *testing.T, source string, want string) {
	t.Helper()
	checkWalks(t, source, 0, want+" +0")
	checkWalks(t, source, impl.MaxFuel, want+" +400")
}

func TestConstantsOfWalks(t *testing.T) {
	got := []int{impl.MaxFrames, impl.MaxFuel, impl.EndDone, impl.EndThrown, impl.EndFuel, impl.EndDeep, impl.EndBad}
	if !slices.Equal(got, []int{12, 400, 1, 2, 3, 4, 5}) {
		t.Errorf("the constants are %v", got)
	}
}

func TestWalksOfNothing(t *testing.T) {
	for _, source := range []string{"", " \n", "1;", "none;", `"a";`, "let a=1;", "fun f(){print 1;}", "if(0){print 1;}", "while(0){print 1;}", "try{}catch e{print 1;}"} {
		checkShows(t, source, "done none")
	}
}

// Each kind of expression, as it is shown, returned and thrown.
func TestWalksOfEachE(t *testing.T) {
	for _, row := range [][2]string{
		{"1", "1"}, {"007", "7"}, {"2.50", "2.5"}, {"1e3", "1000"}, {"1e21", "1e+21"}, {"0.1e-7", "1e-8"}, {`"a b"`, "a b"}, {`""`, ""}, {`"none"`, "none"},
		{"true", "true"}, {"false", "false"}, {"none", "none"}, {"x", "7"}, {"s", "it"}, {"f", "fun"}, {"fun(a,b){}", "fun"},
		{"-3", "-3"}, {"-x", "-7"}, {"--x", "7"}, {"-0", "0"}, {"1/-0", "-Infinity"}, {"-(1/0)", "-Infinity"}, {"-(0/0)", "NaN"},
		{"!1", "false"}, {"!0", "true"}, {"!-0", "true"}, {"!(0/0)", "true"}, {`!""`, "true"}, {`!"0"`, "false"}, {"!none", "true"}, {"!true", "false"}, {"!false", "true"}, {"!f", "false"}, {`!!"a"`, "true"},
		{"1+2", "3"}, {`"a"+"b"`, "ab"}, {`s+""`, "it"}, {"2-5", "-3"}, {"3*x", "21"}, {"1/3", "0.3333333333333333"}, {"x%4", "3"}, {"-x%4", "-3"}, {"x%0", "NaN"}, {"0.1+0.2", "0.30000000000000004"},
		{"1<2", "true"}, {"2<2", "false"}, {"2<=2", "true"}, {"3<=2", "false"}, {"2>2", "false"}, {"3>2", "true"}, {"2>=2", "true"}, {"2>=3", "false"}, {`"a"<"b"`, "true"}, {`"b"<="a"`, "false"}, {`""<"a"`, "true"}, {"0/0<1", "false"}, {"0/0>=0/0", "false"},
		{"x==7", "true"}, {"x==8", "false"}, {"x!=7", "false"}, {"x!=8", "true"}, {`1=="1"`, "false"}, {`s=="it"`, "true"}, {"none==none", "true"}, {"none==false", "false"}, {"0==-0", "true"}, {"0/0==0/0", "false"}, {"0/0!=0/0", "true"}, {"f==f", "true"},
		{"1&&2", "2"}, {"0&&2", "0"}, {"1||2", "1"}, {"0||2", "2"}, {"0||none&&1", "none"}, {"1-1||2*3&&4+x", "11"}, {"2+3*4-5%3", "12"},
	} {
		ahead := `let x=7;let s="it";fun f(){}`
		checkShows(t, ahead+"print "+row[0]+";", "done none|"+row[1])
		checkShows(t, ahead+"return "+row[0]+";", "done "+row[1])
		checkShows(t, ahead+"throw "+row[0]+";", "thrown "+row[1])
		checkShows(t, ahead+"let y="+row[0]+";print y;", "done none|"+row[1])
		checkShows(t, ahead+"x="+row[0]+";print x;", "done none|"+row[1])
		checkShows(t, ahead+"try{throw "+row[0]+";}catch e{return e;}", "done "+row[1])
		checkShows(t, ahead+row[0]+";print 5;", "done none|5")
		checkWalks(t, ahead+"print (fun(a,b){return b;})(1,"+row[0]+");", 5, "done none|"+row[1]+" +4")
		checkWalks(t, ahead+"return (fun(){return "+row[0]+";})();", 1, "done "+row[1]+" +0")
	}
}

func TestWalksOfEachStatement(t *testing.T) {
	for _, row := range [][2]string{
		{"let a=1;print a;let b=a+1;print b;", "done none|1|2"}, {"let a=1;a=2;print a;a=a+a;print a;", "done none|2|4"},
		{`print 1;print "";print "a|b";`, "done none|1||a|b"}, {"return 1;print 2;", "done 1"}, {"print 1;throw 2;print 3;", "thrown 2|1"}, {"1;2;print 3;4;", "done none|3"},
		{"if(1){print 1;}print 2;", "done none|1|2"}, {"if(0){print 1;}print 2;", "done none|2"}, {"if(1){print 1;}else{print 2;}", "done none|1"}, {"if(none){print 1;}else{print 2;}", "done none|2"},
		{`if(""){print 1;}else if("a"){print 2;}else{print 3;}`, "done none|2"}, {"if(false){print 1;}else if(0/0){print 2;}else{print 3;}", "done none|3"}, {"if(0){print 1;}else if(0){print 2;}print 3;", "done none|3"},
		{"try{print 1;}catch e{print 2;}print 3;", "done none|1|3"}, {"try{print 1;throw 2;print 3;}catch e{print e;}print 4;", "done none|1|2|4"}, {"try{}catch e{}return 1;", "done 1"},
		{"let f=fun(a){};print f;", "done none|fun"}, {"fun f(a){}print f;f=1;print f;", "done none|fun|1"}, {"let a=1;if(1){let a=2;print a;a=3;}print a;", "done none|2|1"}, {"let a=1;if(1){let a=a+1;print a;}print a;", "done none|2|1"},
		{"let a=1;if(1){a=2;let a=3;a=4;}print a;", "done none|2"}, {"let a=1;try{let a=2;throw a;}catch a{print a;a=3;print a;}print a;", "done none|2|3|1"},
	} {
		checkShows(t, row[0], row[1])
	}
	for _, row := range [][3]string{
		{"let n=3;while(n){print n;n=n-1;}print n;", "5", "done none|3|2|1|0 +2"}, {"while(1){}", "5", "fuel  +0"}, {"while(1){return 2;}", "5", "done 2 +5"}, {"let n=2;while(n){n=n-1;}return n;", "2", "done 0 +0"},
		{"fun f(a){return a+1;}print f(2);", "5", "done none|3 +4"}, {"fun f(a){print a;}print f(2);", "5", "done none|2|none +4"}, {"fun f(){return 1;print 2;}f();print 3;", "5", "done none|3 +4"}, {"print (fun(a,b,c,d){return a-b*c-d;})(1,2,3,4);", "5", "done none|-9 +4"},
		{"fun f(a){a=a+1;return a;}let a=1;print f(a);print a;", "5", "done none|2|1 +4"}, {"let a=1;fun f(){a=a+1;}f();f();print a;", "5", "done none|3 +3"}, {"fun f(){return f;}print f()()()();", "5", "done none|fun +1"},
		{"fun f(){1;}return f();", "1", "done none +0"}, {"fun f(){let a=1;a=2;if(a){a;}}return f();", "1", "done none +0"}, {"fun f(){try{throw 1;}catch e{e;}}return f();", "1", "done none +0"}, {"fun f(){let i=1;while(i){i=0;}}return f();", "2", "done none +0"}, {"fun f(){(fun(){return 7;})();}return f();", "2", "done none +0"},
	} {
		fuel, _ := strconv.Atoi(row[1])
		checkWalks(t, row[0], fuel, row[2])
	}
}

// placesThatGoOn: what a statement may stand in, for the `@`, behind which something is printed, if it is come to; and
// whether what is thrown there is caught there, by what prints it.
func placesThatGoOn() map[string]bool {
	return map[string]bool{
		"@ print 9;": false, "while(1){@ print 9;}": false, "if(1){@ print 9;}print 9;": false, "if(0){}else{@ print 9;}print 9;": false, "if(0){}else if(1){@ print 9;}print 9;": false,
		"try{@ print 9;}catch e{print e;}": true, "try{throw 1;}catch e{@ print 9;}print 9;": false, "while(1){if(1){if(1){@ print 9;}print 9;}print 9;}": false, "if(1){while(1){if(0){}else{@}print 9;}}print 9;": false,
		"try{while(1){if(1){@}print 9;}}catch e{print e;}": true, "try{try{@ print 9;}catch e{print e;}}catch g{print 8;}": true, "try{try{throw 1;}catch e{@ print 9;}print 9;}catch e{print e;}": true,
		"try{throw 1;}catch e{try{@ print 9;}catch e{print e;}}": true, "try{throw 1;}catch e{try{throw 2;}catch e{@ print 9;}print 9;}print 9;": false, "while(1){try{throw 1;}catch e{while(1){@ print 9;}print 9;}}": false,
	}
}

// A return ends all that is around it, up to its call, or the program.
func TestReturnsWithinEachPlace(t *testing.T) {
	for place := range placesThatGoOn() {
		returns := strings.ReplaceAll(place, "@", "return 5;")
		checkShows(t, returns, "done 5")
		checkWalks(t, "fun f(){"+returns+"}print f();print f()+1;", 3, "done none|5|6 +1")
		checkWalks(t, "fun f(a){"+returns+"}try{return f(f(1));}catch e{print 9;}", 3, "done 5 +1")
		checkWalks(t, "fun f(){fun g(){"+returns+"}return g()+1;}"+strings.ReplaceAll(place, "@", "return f()+1;"), 3, "done 7 +1")
	}
}

func TestThrowsWithinEachPlace(t *testing.T) {
	for place, caught := range placesThatGoOn() {
		throws := strings.ReplaceAll(place, "@", "throw 5;")
		if caught {
			checkShows(t, throws, "done none|5")
			checkWalks(t, "fun f(){"+throws+"return 6;}print f();", 3, "done none|5|6 +2")
		} else {
			checkShows(t, throws, "thrown 5")
			checkWalks(t, "fun f(){"+throws+"return 6;}print f();", 3, "thrown 5 +2")
			checkWalks(t, "fun f(){"+throws+"return 6;}try{print f();print 9;}catch e{print e;}print 7;", 3, "done none|5|7 +2")
		}
		// What a call throws is thrown where it stands.
		for _, call := range []string{"f();", "print f();", "let a=f();", "return f();", "throw f();", "1+f();", "f()+1;", "-f();", "!f();", "f()&&1;", "0||f();", "f()();", "g(f());", "g(1,f(),g());", "if(f()){}", "while(f()){}"} {
			source := "fun f(){throw 5;}fun g(){print 8;}" + strings.ReplaceAll(place, "@", call)
			if caught {
				checkWalks(t, source, 3, "done none|5 +2")
			} else {
				checkWalks(t, source, 3, "thrown 5 +2")
			}
		}
	}
}

func TestWhatIsThrownIsCaughtByTheNearest(t *testing.T) {
	for _, row := range [][3]string{
		{"try{try{throw 1;}catch a{print a;throw 2;}}catch b{print b;}", "0", "done none|1|2 +0"},
		{"try{try{throw 1;}catch a{print a;throw a;}}catch b{print b;throw b;}", "0", "thrown 1|1|1 +0"},
		{"try{throw 1;}catch a{print a;throw 2;print 9;}print 9;", "0", "thrown 2|1 +0"},
		{"try{throw 1;}catch a{}throw 2;", "0", "thrown 2 +0"},
		{"try{print 1;}catch a{print 9;}try{throw 2;}catch a{print a;}", "0", "done none|1|2 +0"},
		{"fun f(){throw 1;}try{fun g(){f();}}catch a{print 9;}", "0", "done none +0"},
		// A function is of the call's try, not of the one that it was made in.
		{"let g=none;try{g=fun(){throw 1;};}catch a{print 9;}try{g();}catch a{print a;}g();", "9", "thrown 1|1 +7"},
		{"fun f(){try{throw 1;}catch a{return a+1;}}try{print f();}catch b{print 9;}", "9", "done none|2 +8"},
		{"fun f(){try{throw 1;}catch a{throw a+1;}}try{print f();}catch b{print b;}", "9", "done none|2 +8"},
		{"fun f(n){if(n){f(n-1);}throw n;}try{f(3);}catch e{print e;}", "9", "done none|0 +5"},
		{"fun f(n){try{if(n){f(n-1);}throw n;}catch e{throw e+1;}}try{f(3);}catch e{print e;}", "9", "done none|4 +5"},
		{"fun t(x){throw x;}fun p(x){print x;return x;}try{p(1)+t(2)+p(3);}catch e{print e;}", "9", "done none|1|2 +7"},
		{"fun t(x){throw x;}fun p(x,y){print x;return p;}try{p(1)(p(2),t(3),p(4));}catch e{print e;}", "9", "done none|1|2|3 +6"},
		{"fun t(x){throw x;}try{t(t(1));}catch e{print e;}", "9", "done none|1 +8"},
		{"fun t(x){throw x;}try{throw t(1)+t(2);}catch e{print e;}", "9", "done none|1 +8"},
		{"fun t(x){throw x;}try{t(1)(t(2));}catch e{print e;}", "9", "done none|1 +8"},
		// A call that is left by a throw is not going on any more.
		{"fun f(n){if(n<2){throw n;}f(n-1);}let i=0;while(i<4){try{f(12);}catch e{print e;}i=i+1;}", "99", "done none|1|1|1|1 +47"},
		{"fun f(n){if(n<2){return n;}return f(n-1);}let i=0;while(i<4){print f(12);i=i+1;}", "99", "done none|1|1|1|1 +47"},
		{"fun f(n){if(n<2){return n;}while(1){try{return f(n-1);}catch e{}}}let i=0;while(i<4){print f(12);i=i+1;}", "99", "done none|1|1|1|1 +47"},
		{"let a=1;try{a=2;throw a;}catch e{print a+e;}print a;", "0", "done none|4|2 +0"},
		{"let a=1;try{let a=2;a=3;throw 0;}catch e{print a;}", "0", "done none|1 +0"},
		{"let a=1;try{a=-none;}catch e{print e;}print a;", "0", "done none|type|1 +0"},
	} {
		fuel, _ := strconv.Atoi(row[1])
		checkWalks(t, row[0], fuel, row[2])
	}
}

func TestTextsThatAreThrown(t *testing.T) {
	// A text of just MaxLong bytes is not too long yet.
	ahead := `let s="` + strings.Repeat("t", 40) + `";s=s+s+s+s+s;fun f(){}`
	for _, row := range [][2]string{
		{"1+none", "type"}, {`1+"a"`, "type"}, {`"a"+1`, "type"}, {`"a"-"b"`, "type"}, {`"a"*2`, "type"}, {"none/1", "type"}, {"true%true", "type"}, {`1<"a"`, "type"}, {"none<=none", "type"}, {"true>false", "type"}, {"f>=f", "type"},
		{"-none", "type"}, {`-"a"`, "type"}, {"-true", "type"}, {"-f", "type"}, {"--none", "type"}, {"!-none", "type"}, {`s+"a"`, "long"}, {`"a"+s`, "long"}, {"s+s", "long"}, {`s+"a"+none`, "long"}, {`none+(s+"a")`, "long"}, {`-none+(s+"a")`, "type"},
		{"1()", "call"}, {"none()", "call"}, {`"f"()`, "call"}, {"true(1,2)", "call"}, {"1(-none)", "type"}, {"(-none)(1)", "type"}, {"1(1(-none))", "type"}, {"1(none())", "call"}, {"f(1())", "call"},
	} {
		checkShows(t, ahead+"print 1;print "+row[0]+";print 2;", "thrown "+row[1]+"|1")
		checkShows(t, ahead+"try{print 1;"+row[0]+";print 2;}catch e{print e;print e==\""+row[1]+"\";}print 3;", "done none|1|"+row[1]+"|true|3")
		checkWalks(t, ahead+"fun g(){return "+row[0]+";}try{g();}catch e{print e;}", 1, "done none|"+row[1]+" +0")
	}
	text := strings.Repeat("t", 200)
	checkShows(t, ahead+`print s;print s+"";print ""+s;return s;`, "done "+text+"|"+text+"|"+text+"|"+text)
}

func TestAndAndOrOfEachValue(t *testing.T) {
	for _, row := range [][3]string{
		{"none", "none", ""}, {"false", "false", ""}, {"0", "0", ""}, {"-0", "0", ""}, {"0/0", "NaN", ""}, {`""`, "", ""}, {"1==2", "false", ""}, {"!1", "false", ""},
		{"true", "true", "is"}, {"1", "1", "is"}, {"-1", "-1", "is"}, {"5e-324", "5e-324", "is"}, {"1/0", "Infinity", "is"}, {`" "`, " ", "is"}, {`"false"`, "false", "is"}, {"fun(){}", "fun", "is"}, {"!0", "true", "is"},
	} {
		and, or, not := row[1], "7", "true"
		if row[2] != "" {
			and, or, not = "7", row[1], "false"
		}
		for _, b := range []string{"7", "(fun(){return 7;})()"} {
			got, code := impl.WalkSource("print ("+row[0]+")&&"+b+";print ("+row[0]+")||"+b+";print !("+row[0]+");", 5)
			if code != 0 || strings.Join(got.Log, "|") != and+"|"+or+"|"+not || got.End != impl.EndDone {
				t.Errorf("of %s: %s", row[0], toldOfOutcome(got))
			}
		}
		// The other one is done only where it is the value.
		ahead := "let n=0;fun f(){n=n+1;return n;}"
		done := map[bool]string{true: "1 +4", false: "0 +5"}
		checkWalks(t, ahead+"("+row[0]+")&&f();print n;", 5, "done none|"+done[row[2] != ""])
		checkWalks(t, ahead+"("+row[0]+")||f();print n;", 5, "done none|"+done[row[2] == ""])
		checkWalks(t, ahead+"if("+row[0]+"){f();}print n;", 5, "done none|"+done[row[2] != ""])
		checkWalks(t, ahead+"while(n<1&&("+row[0]+")){n=1;}print n;", 5, "done none|"+done[row[2] != ""])
		// What is thrown in the other one is not thrown where it isn't done.
		checkShows(t, "try{print (("+row[0]+")&&-none)==7;}catch e{print e;}", "done none|"+map[bool]string{true: "type", false: "false"}[row[2] != ""])
		checkShows(t, "try{print (("+row[0]+")||-none)==7;}catch e{print e;}", "done none|"+map[bool]string{true: "false", false: "type"}[row[2] != ""])
	}
}

func TestOrderOfParts(t *testing.T) {
	ahead := "fun p(x){print x;return x;}"
	for _, row := range [][2]string{
		{"p(1)+p(2)*p(3)-p(4);", "1|2|3|4"}, {"p(1)<p(2);p(4)==p(3);", "1|2|4|3"}, {"p(1)&&p(2)&&p(0)&&p(3);", "1|2|0"}, {"p(0)||p(none)||p(1)||p(2);", "0|none|1"}, {"p(p)(p(1));", "fun|1|1"}, {"print p(1)+p(1);", "1|1|2"},
		{"fun g(a,b,c){print a+b+c;}g(p(1),p(2),p(3));", "1|2|3|6"}, {"try{p(1)(p(2),p(3));}catch e{print e;}", "1|2|3|call"}, {"let a=p(1);a=p(2);print a;", "1|2|2"}, {"if(p(0)){p(1);}else if(p(2)){p(3);}else{p(4);}p(5);", "0|2|3|5"},
		{"let a=1;fun s(){a=5;return 1;}print a+s();print a;a=1;print s()+a;", "2|5|6"}, {"let a=1;fun s(){a=5;return 1;}a=a+s();print a;", "2"}, {"let f=fun(x){return 1;};fun h(){f=fun(x){return 2;};}print f(h());print f(h());", "1|2"},
		{"let a=1;fun s(){a=5;return 1;}fun g(x,y,z){print x;print y;print z;}g(a,s(),a);", "1|1|5"}, {"let a=1;fun s(){a=5;return 0;}print a||s();print s()||a;print a;", "1|5|5"}, {"let i=0;while(p(i)<2){i=i+1;p(9);}", "0|9|1|9|2"},
	} {
		tree := parsedTree(t, ahead+row[0])
		got := checkWalk(t, tree, 99)
		if got.End != impl.EndDone || strings.Join(got.Log, "|") != row[1] {
			t.Errorf("%q: %s, want %s", row[0], toldOfOutcome(got), row[1])
		}
		checkEachFuel(t, tree)
	}
}

// What a function holds: the variables that were around it when it was made, as they are when it is called.
func TestWhatFunctionsHold(t *testing.T) {
	for _, row := range [][3]string{
		{"let a=1;fun f(){return a;}a=2;print f();", "9", "done none|2 +8"},
		{"let a=1;fun f(){a=a+1;}f();f();print a;", "9", "done none|3 +7"},
		{"let a=1;fun get(){return a;}fun set(v){a=v;}print get();set(9);print get();print a;a=4;print get();", "9", "done none|1|9|9|4 +5"},
		{"fun make(c){return fun(){c=c+1;return c;};}let a=make(0);let b=make(10);print a();print a();print b();print a();", "9", "done none|1|2|11|3 +3"},
		{"fun make(){let c=0;return fun(){c=c+1;return c;};}let a=make();let b=make();print a();print a();print b();", "9", "done none|1|2|1 +4"},
		{"let f=none;let g=none;fun two(){let c=0;f=fun(){c=c+1;return c;};g=fun(){return c;};}two();let h=g;print f();print f();print g();two();print g();print h();", "9", "done none|1|2|2|0|2 +2"},
		// Each time the block is done its variable is another one.
		{"let i=0;let f=none;let g=none;while(i<2){let x=i;if(i){g=fun(){return x;};}else{f=fun(){x=x+10;return x;};}i=i+1;}print f();print f();print g();", "9", "done none|10|20|1 +4"},
		{"let i=0;let f=none;let g=none;while(i<2){try{throw i;}catch x{if(i){g=fun(){return x;};}else{f=fun(){x=x+10;return x;};}}i=i+1;}print f();print f();print g();", "9", "done none|10|20|1 +4"},
		{"let i=0;let f=none;while(i<3){let x=i;if(i==0){f=fun(){return x;};}x=x+100;i=i+1;}print f();", "9", "done none|100 +5"},
		{"let i=0;let f=none;let g=none;while(i<2){fun h(){return h;}if(i){g=h;}else{f=h;}i=i+1;}print f()==f;print g()==g;print f()==g;", "9", "done none|true|true|false +4"},
		{"let i=0;let f=none;while(i<2){let x=none;if(i==0){f=fun(){x=x==none;return x;};}else{print x;}i=i+1;if(i==1){print f();}}", "9", "done none|true|none +6"},
		// A variable of a call is that call's.
		{"fun f(n){let g=fun(){return n;};if(n){f(n-1);}n=n+10;return g();}print f(2);", "9", "done none|12 +3"},
		{"fun f(n,h){if(n){return f(n-1,h||fun(){return n;});}return h();}print f(3,none);", "9", "done none|3 +4"},
		{"fun f(n){let m=n;if(n){f(n-1);}return m;}print f(3);", "9", "done none|3 +5"},
		// Functions within functions.
		{"let a=1;fun f(){return fun(){return fun(){a=a+1;return a;};};}let g=f()();print g();print g();print a;", "9", "done none|2|3|3 +5"},
		{"fun f(a){return fun(b){return fun(c){return a*100+b*10+c;};};}print f(1)(2)(3);let g=f(4);print g(5)(6);print g(7)(8);", "19", "done none|123|456|478 +11"},
		{"let a=1;fun f(){let a=2;fun g(){a=a+1;return a;}return g;}let g=f();print g();print a;print g();print f()();", "9", "done none|3|1|4|3 +4"},
		// A function that is told by `fun` holds itself; what it is set to afterwards counts.
		{"fun f(n){if(n<2){return 1;}return n*f(n-1);}print f(5);", "9", "done none|120 +4"},
		{"fun f(n){if(n){return f(n-1);}return 7;}let g=f;f=fun(n){return 8;};print g(0);print g(1);", "9", "done none|7|8 +6"},
		{"let f=fun(){return 1;};if(1){let f=fun(){return f();};print f();}", "9", "done none|1 +7"},
		{"let even=none;fun odd(n){if(n){return even(n-1);}return false;}even=fun(n){if(n){return odd(n-1);}return true;};print even(5);print odd(5);", "19", "done none|false|true +7"},
		// What stands ahead of a name that a block tells is the one further out.
		{"let a=1;fun f(){print a;let a=2;print a;}f();print a;", "9", "done none|1|2|1 +8"},
		{"let a=1;if(1){let g=fun(){return a;};let a=2;print g();print a;}", "9", "done none|1|2 +8"},
	} {
		fuel, _ := strconv.Atoi(row[1])
		checkWalks(t, row[0], fuel, row[2])
	}
}

func TestFewerAndMoreHandedIn(t *testing.T) {
	for _, row := range [][2]string{
		{"f()", "none|none|none"}, {"f(1)", "1|none|none"}, {"f(1,2)", "1|2|none"}, {"f(1,2,3)", "1|2|3"}, {"f(1,2,3,4)", "1|2|3"}, {"f(1,2,3,4,5,6)", "1|2|3"}, {"f(none,2)", "none|2|none"},
	} {
		checkWalks(t, "fun f(a,b,c){print a;print b;print c;}"+row[0]+";", 2, "done none|"+row[1]+" +1")
	}
	checkWalks(t, "fun f(){print 1;}f(2,3);f();", 2, "done none|1|1 +0")
	// What is too much is dropped, but it is done.
	checkWalks(t, "fun f(){}fun p(x){print x;}f(p(1),p(2));", 3, "done none|1|2 +0")
	checkShows(t, "fun f(){}try{f(-none);}catch e{print e;}", "done none|type")
	// Parameters that lack are variables, too, and made anew.
	checkWalks(t, "fun f(a){a=a==none;return fun(){return a;};}let g=f();let h=f(1);print g();print h();", 4, "done none|true|false +0")
	// More than a source can hand in.
	var m maker
	tree := callTree(296)
	m.tree = append(m.tree, tree[:len(tree)-2]...)
	call := len(m.tree) - 1
	list := m.let("x", m.put(impl.Node{Kind: impl.NodeFun, Names: []string{"a"}, A: m.join(impl.NodeBlock)}))
	tree = m.program(list, m.join(impl.NodePrint, call))
	if got := checkWalk(t, tree, 1); toldOfOutcome(got) != "done none|none +0" {
		t.Errorf("of %d handed in: %s", len(tree[call].List), toldOfOutcome(got))
	}
}

// No function, no fuel, too many calls: the first of these that is so counts.
func TestWhatCallsWant(t *testing.T) {
	deep := "fun f(n){if(n){f(n-1);}@}f(11);"
	for _, row := range [][3]string{
		{"1();", "0", "thrown call +0"}, {"1();", "1", "thrown call +1"}, {"try{1();}catch e{print e;}", "0", "done none|call +0"}, {"fun f(){print 1;}f();", "0", "fuel  +0"}, {"fun f(){print 1;}f();", "1", "done none|1 +0"},
		{"fun f(){}try{f();}catch e{print 9;}", "0", "fuel  +0"}, {"fun f(){print 1;}print 2;f(f());", "1", "fuel |2|1 +0"}, {"fun f(){}f();1();", "1", "thrown call +0"}, {"fun f(){}f();f();", "1", "fuel  +0"},
		{deep, "12", "done none +0"}, {deep, "11", "fuel  +0"}, {strings.ReplaceAll(deep, "@", "1();"), "12", "thrown call +0"}, {strings.ReplaceAll(deep, "@", "(fun(){print 1;})();"), "12", "fuel  +0"},
		{strings.ReplaceAll(deep, "@", "if(n==0){(fun(){print 1;})();}"), "12", "fuel  +0"}, {strings.ReplaceAll(deep, "@", "if(n==0){(fun(){print 1;})();}"), "13", "deep  +0"}, {strings.ReplaceAll(deep, "@", "if(n==1){(fun(){print 1;})();}"), "13", "done none|1 +0"},
		{strings.ReplaceAll(deep, "@", "if(n==0){try{none();}catch e{print e;}}"), "12", "done none|call +0"},
	} {
		fuel, _ := strconv.Atoi(row[1])
		checkWalks(t, strings.ReplaceAll(row[0], "@", ""), fuel, row[2])
	}
}

func TestMostCalls(t *testing.T) {
	program := "fun f(n){print n;if(n<2){return 1;}return 1+f(n-1);}print f(@);print 9;"
	checkWalks(t, strings.ReplaceAll(program, "@", "12"), 400, "done none|12|11|10|9|8|7|6|5|4|3|2|1|12|9 +388")
	checkWalks(t, strings.ReplaceAll(program, "@", "13"), 400, "deep |13|12|11|10|9|8|7|6|5|4|3|2 +387")
	checkWalks(t, strings.ReplaceAll(program, "@", "99"), 13, "deep |99|98|97|96|95|94|93|92|91|90|89|88 +0")
	checkOnly(t, strings.ReplaceAll(program, "@", "99"), 12, "fuel |99|98|97|96|95|94|93|92|91|90|89|88 +0")
	// No try takes it.
	checkWalks(t, "fun f(){try{f();}catch e{print e;}}try{f();}catch e{print e;}print 1;", 400, "deep  +387")
	// Calls that are handed in are over by then.
	checkWalks(t, "fun f(n){return n+1;}print f(f(f(f(f(f(f(f(f(f(f(f(f(f(0))))))))))))));", 400, "done none|14 +386")
	checkWalks(t, "fun f(n){if(n){return f(n-1)+f(n-1);}return 1;}print f(5);", 400, "done none|32 +337")
	// Other functions count likewise, and those that are called in what is asked.
	checkWalks(t, "fun f(n,g){while(n){return g(n-1,g);}}print f(11,fun(n,g){return !n||g(n-1,g);});", 400, "done none|true +388")
	checkWalks(t, "fun f(n,g){while(n){return g(n-1,g);}}print f(12,fun(n,g){return !n||g(n-1,g);});", 400, "deep  +387")
}

func TestLastFuelOfLoops(t *testing.T) {
	program := "let n=3;while(n){print n;n=n-1;}print 9;"
	for fuel, want := range []string{"fuel |3 +0", "fuel |3|2 +0", "fuel |3|2|1 +0", "done none|3|2|1|9 +0", "done none|3|2|1|9 +1"} {
		checkWalks(t, program, fuel, want)
	}
	// Behind the block it is taken, though nothing is asked any more.
	checkWalks(t, "while(1){print 1;}", 1, "fuel |1|1 +0")
	checkWalks(t, "let n=1;while(n){n=0;}", 0, "fuel  +0")
	checkWalks(t, "let n=1;while(n){n=0;}", 1, "done none +0")
	// What ends the block takes none.
	for _, row := range [][2]string{{"while(1){return 1;}", "done 1"}, {"while(1){throw 1;}", "thrown 1"}, {"try{while(1){throw 1;}}catch e{print e;}", "done none|1"}, {"while(0){}", "done none"}, {"try{while(-none){}}catch e{print e;}", "done none|type"}} {
		checkShows(t, row[0], row[1])
	}
	// But what goes on within it does, and no try takes the end of it.
	checkWalks(t, "while(1){try{throw 1;}catch e{print e;}}", 2, "fuel |1|1|1 +0")
	checkWalks(t, "try{while(1){}}catch e{print e;}print 2;", 5, "fuel  +0")
	checkWalks(t, "let i=0;while(i<3){let j=0;while(j<i){j=j+1;}i=i+1;}print i;", 6, "done none|3 +0")
	checkWalks(t, "fun f(n){while(n){n=n-1;}return n;}print f(2)+f(3);", 7, "done none|0 +0")
	checkWalks(t, "fun f(n){while(n){n=n-1;}return n;}print f(2)+f(3);", 6, "fuel  +0")
	checkWalks(t, "fun f(){return 0;}while(f()){}print 1;", 1, "done none|1 +0")
	// The most that there is.
	for _, row := range [][2]string{{"399", "done none +1"}, {"400", "done none +0"}, {"401", "fuel  +0"}, {"1e9", "fuel  +0"}} {
		checkWalks(t, "let i=0;while(i<"+row[0]+"){i=i+1;}", 400, row[1])
	}
	checkOnly(t, "let i=0;while(i<400){i=i+1;}", 399, "fuel  +0")
}

// Each function that is made is the same as itself alone.
func TestRefsOfFunctionsThatAreMade(t *testing.T) {
	for _, row := range [][2]string{
		{"print fun(){}==fun(){};", "false"}, {"fun f(){}print f==f;let g=f;print g==f;", "true|true"}, {"fun f(){}fun g(){}print f==g;print f!=g;", "false|true"}, {"let f=fun(){};fun g(x){return x;}print g(f)==f;print g(f)==g;", "true|false"},
		{"fun m(){return fun(){};}print m()==m();let a=m();let b=m();print a==a;print a==b;print m==m;", "false|true|false|true"}, {"fun f(){return f;}print f()==f;print f()()==f();", "true|true"},
		{"let a=none;let b=none;let i=0;while(i<2){a=b;b=fun(){};i=i+1;}print a==b;print b==b;", "false|true"}, {"fun f(){}let n=0;print f==n;n=1;print f==n;print f==none;print f==true;", "false|false|false|false"},
		{"fun f(g){return g==f;}print f(f);print f(fun(g){});", "true|false"}, {"fun f(n,g){if(n){return f(n-1,fun(){});}return g;}print f(2)==f(2);", "false"}, {"let f=fun(){};try{throw f;}catch e{print e==f;}", "true"},
		{"fun a(){return 1;}fun b(){return 2;}fun c(){return 3;}print c();print a();print b();print (fun(){return 4;})();print b();", "3|1|2|4|2"},
		{"fun p(f){print f();return f;}p(p(fun(){return 1;}))==p(fun(){return 2;});print p(fun(){return p;})==p;", "1|1|2|fun|false"},
	} {
		tree := parsedTree(t, row[0])
		got := checkWalk(t, tree, 99)
		if got.End != impl.EndDone || strings.Join(got.Log, "|") != row[1] {
			t.Errorf("%q: %s, want %s", row[0], toldOfOutcome(got), row[1])
		}
		checkEachFuel(t, tree)
	}
	// As many as can be made.
	checkWalks(t, "let a=fun(){return 7;};let i=0;while(i<399){fun(){}==fun(){};i=i+1;}print a();", 400, "done none|7 +0")
}

func logOf(text string, count int) string { return strings.Repeat("|"+text, count) }

func TestMostTextsOfLogs(t *testing.T) {
	for _, row := range [][3]string{
		{"let i=0;while(i<199){print 5;i=i+1;}", "400", "done none" + logOf("5", 199) + " +201"},
		{"let i=0;while(i<200){print 5;i=i+1;}", "400", "done none" + logOf("5", 200) + " +200"},
		{"let i=0;while(i<201){print 5;i=i+1;}", "400", "fuel " + logOf("5", 200) + " +200"},
		{"let i=0;while(i<201){print 5;i=i+1;}", "200", "fuel " + logOf("5", 200) + " +0"},
		{"let i=0;while(i<200){print 5;i=i+1;}return 6;", "400", "done 6" + logOf("5", 200) + " +200"},
		{"let i=0;while(i<200){print 5;i=i+1;}throw 6;", "400", "thrown 6" + logOf("5", 200) + " +200"},
		{`let i=0;while(i<200){print "";i=i+1;}print "";print 5;`, "400", "fuel " + logOf("", 200) + " +200"},
		{"let i=0;while(1){try{print 5;}catch e{return 6;}}", "300", "fuel " + logOf("5", 200) + " +100"},
		{"fun f(){try{print 5;}catch e{return 6;}}while(1){f();}", "400", "fuel " + logOf("5", 200) + " +0"},
		{"fun f(){print 5;}f();while(1){f();f();}", "400", "fuel " + logOf("5", 200) + " +100"},
	} {
		fuel, _ := strconv.Atoi(row[1])
		checkWalks(t, row[0], fuel, row[2])
	}
	// Without any fuel: as many as a tree can have nodes for, and no end by that.
	var m maker
	var list []int
	for range 140 {
		list = append(list, m.join(impl.NodePrint, m.join(impl.NodeTrue)))
	}
	if got := checkWalk(t, m.program(list...), 0); got.End != impl.EndDone || len(got.Log) != 140 {
		t.Errorf("of 140 texts: %s", toldOfOutcome(got))
	}
}

func TestMostBytesOfLogs(t *testing.T) {
	forty := strings.Repeat("t", 40)
	ahead := `let s="` + forty + `";s=s+s+s+s+s;let i=0;while(i<@){print s;i=i+1;}`
	text := strings.Repeat("t", 200)
	for _, row := range [][3]string{
		{"19", "", "done none" + logOf(text, 19) + " +381"},
		{"20", "", "done none" + logOf(text, 20) + " +380"},
		{"21", "", "fuel " + logOf(text, 20) + " +380"},
		{"20", `print "";print "";`, "done none" + logOf(text, 20) + "|| +380"},
		{"20", `print "";print 1;print "";`, "fuel " + logOf(text, 20) + "| +380"},
		{"19", `print "` + forty[:39] + `";print s;print 1;`, "fuel " + logOf(text, 19) + "|" + forty[:39] + " +381"},
		{"19", `s="` + forty + `";print s+s+s+s;print s;print "";`, "done none" + logOf(text, 19) + "|" + text[:160] + "|" + forty + "| +381"},
		{"19", `s="` + forty + `";print s+s+s+s;print "` + forty[1:] + `";print 1;`, "done none" + logOf(text, 19) + "|" + text[:160] + "|" + forty[1:] + "|1 +381"},
		{"19", `s="` + forty + `";print s+s+s+s;print "` + forty[1:] + `";print 12;print 1;`, "fuel " + logOf(text, 19) + "|" + text[:160] + "|" + forty[1:] + " +381"},
		{"19", `s="` + forty + `";print s+s+s+s;print "` + forty[4:] + `";print none;return s;`, "done " + forty + logOf(text, 19) + "|" + text[:160] + "|" + forty[4:] + "|none +381"},
		{"19", `s="` + forty + `";print s+s+s+s;print "` + forty[4:] + `";print false;return s;`, "fuel " + logOf(text, 19) + "|" + text[:160] + "|" + forty[4:] + " +381"},
		{"20", `throw s;`, "thrown " + text + logOf(text, 20) + " +380"},
		{"20", `try{print 1;}catch e{print "";}`, "fuel " + logOf(text, 20) + " +380"},
	} {
		checkWalks(t, strings.ReplaceAll(ahead, "@", row[0])+row[1], 400, row[2])
	}
}

func TestFuelsThatAreMostAndLeast(t *testing.T) {
	checkWalks(t, "print 1;return 2;", 0, "done 2|1 +0")
	checkWalks(t, "print 1;return 2;", 400, "done 2|1 +400")
	checkWalks(t, "fun f(){}print 1;f();print 2;", 0, "fuel |1 +0")
	checkWalks(t, "fun f(){}print 1;f();print 2;", 400, "done none|1|2 +399")
	checkWalks(t, "print 1;while(1){print 2;}", 0, "fuel |1|2 +0")
	checkWalks(t, "let i=0;while(1){i=i+1;if(i%50==0){print i;}}", 400, "fuel |50|100|150|200|250|300|350|400 +0")
	checkWalks(t, "fun f(){}while(1){f();f();f();}", 400, "fuel  +0")
}

// refusedFuels: those that no walk takes.
func refusedFuels() []int {
	return []int{-1, impl.MaxFuel + 1, -impl.MaxFuel, 1000, math.MinInt, math.MaxInt, math.MinInt + 1, 1 << 32, -1 << 32}
}

func checkNoWalk(t *testing.T, tree []impl.Node, fuel int) {
	t.Helper()
	if got, ok := impl.Walk(tree, fuel); ok || !sameOutcomes(got, impl.Outcome{}) {
		t.Errorf("with %d of fuel: %+v, %v of\n%s", fuel, got, ok, toldWithAt(tree))
	}
	if _, ok := walkByRule(tree, fuel); ok {
		t.Errorf("the rule walks with %d of fuel over\n%s", fuel, toldWithAt(tree))
	}
}

func TestFuelsThatAreRefused(t *testing.T) {
	for _, source := range []string{"", "print 1;", "return 2;", "while(1){}", "throw 1;", "fun f(){f();}f();"} {
		for _, fuel := range refusedFuels() {
			checkNoWalk(t, parsedTree(t, source), fuel)
		}
	}
}

// programsWithFaults: of names, each with its fault.
func programsWithFaults() map[string]int {
	return map[string]int{
		"q;": impl.FaultName, "print 1;print q;": impl.FaultName, "q=1;": impl.FaultName, "return 1;q;": impl.FaultName, "if(0){q;}": impl.FaultName, "fun f(){q;}": impl.FaultName, "if(1){let a=1;}a;": impl.FaultName, "a;let a=1;": impl.FaultName, "let a=a;": impl.FaultName, "try{e;}catch e{}": impl.FaultName, "fun f(a){}a;": impl.FaultName, "let f=fun(){f();};": impl.FaultName,
		"let a=1;let a=2;": impl.FaultTwice, "fun f(a,a){}": impl.FaultTwice, "fun f(){}let f=1;": impl.FaultTwice, "fun f(a){let a=1;}": impl.FaultTwice, "try{}catch e{let e=1;}": impl.FaultTwice, "return 1;let a=1;let a=1;": impl.FaultTwice, "if(0){let a=1;let a=1;}": impl.FaultTwice,
	}
}

func TestTreesThatAreNotWalked(t *testing.T) {
	for source, fault := range programsWithFaults() {
		tree := parsedTree(t, source)
		if _, _, got, _ := impl.Resolve(tree); got != fault {
			t.Fatalf("%q has the fault %d", source, got)
		}
		for _, fuel := range append(refusedFuels(), 0, 1, impl.MaxFuel) {
			checkNoWalk(t, tree, fuel)
		}
	}
	wrong := [][]impl.Node{nil, {}, {{}}, {{Kind: impl.NodeTrue}}, {{Kind: impl.NodeBlock}, {Kind: impl.NodeBlock}}, {{Kind: impl.NodeBlock, At: 601}}, {{Kind: impl.NodeBlock, At: -1}}, {{Kind: impl.NodeBlock, List: []int{0}}}, chainTree(301), wideTree(301), callTree(301)}
	for _, tree := range wrong {
		for _, fuel := range []int{0, 1, impl.MaxFuel, -1} {
			checkNoWalk(t, tree, fuel)
		}
	}
	for _, tree := range someTrees() {
		tree = withoutFaults(tree)
		for at := range tree {
			for _, spoil := range spoilers() {
				spoiled := with(tree, at, spoil)
				if !mayBeWalked(spoiled) {
					checkNoWalk(t, spoiled, impl.MaxFuel)
				} else {
					checkWalk(t, spoiled, impl.MaxFuel)
				}
			}
		}
	}
}

func checkNoWalkOfSource(t *testing.T, source string, fuel int, want int) {
	t.Helper()
	if got, code := impl.WalkSource(source, fuel); code != want || !sameOutcomes(got, impl.Outcome{}) {
		t.Errorf("%q with %d of fuel: %+v, %d, want nothing, %d", source, fuel, got, code, want)
	}
}

// Of a fault of Parse, one of Resolve and a fuel that is not so the first counts.
func TestCodesOfSources(t *testing.T) {
	fuels := append(refusedFuels(), 0, 1, impl.MaxFuel)
	for _, source := range []string{")", "print 1", "print ;", "let a=1;let a=2;}", "q", "q;)", "&", "print 1;\x00", strings.Repeat("(", 25) + "1" + strings.Repeat(")", 25) + ";", strings.Repeat(" ", 601), strings.Repeat("1;", 101), "fun f(a,b,c,d,e){}", `"` + strings.Repeat("t", 41) + `";`, "print 1;print 2;if", "1e400;", "longer_than_12=1;"} {
		for _, fuel := range fuels {
			checkNoWalkOfSource(t, source, fuel, 1)
		}
	}
	for source := range programsWithFaults() {
		for _, fuel := range fuels {
			checkNoWalkOfSource(t, source, fuel, 2)
		}
	}
	for _, source := range []string{"", " ", "print 1;", "return 1;", "while(1){}", "1();"} {
		for _, fuel := range refusedFuels() {
			checkNoWalkOfSource(t, source, fuel, 3)
		}
		for _, fuel := range []int{0, 1, impl.MaxFuel - 1, impl.MaxFuel} {
			want, _ := walkByRule(parsedTree(t, source), fuel)
			if got, code := impl.WalkSource(source, fuel); code != 0 || !sameOutcomes(got, want) {
				t.Errorf("%q with %d of fuel: %+v, %d, want %+v", source, fuel, got, code, want)
			}
		}
	}
}

// Each statement in each place for statements, each E in each place for E.
func TestWalksOfEachInEach(t *testing.T) {
	ends := map[int]int{}
	walk := func(source string) {
		tree := withoutFaults(parsedTree(t, source))
		before := checkWalk(t, tree, 0)
		for fuel := 1; fuel < 6; fuel++ {
			next := checkWalk(t, tree, fuel)
			if !goesOnAs(before, next) {
				t.Fatalf("%q with %d of fuel: %s, with one more %s", source, fuel-1, toldOfOutcome(before), toldOfOutcome(next))
			}
			before = next
			ends[next.End]++
		}
	}
	for _, place := range placesForStatements() {
		for _, statement := range statementsOfChapter() {
			walk(strings.ReplaceAll(place, "@", statement))
			walk("let a = 1 ; let b = 0 ; let x = 3 ; " + strings.ReplaceAll(place, "@", statement))
		}
	}
	for _, place := range placesForE() {
		for _, e := range formsOfE() {
			walk("let a = 1 ; let b = 2 ; let c = 0 ; let x = 3 ; fun f ( ) { } " + strings.ReplaceAll(place, "@", "( "+e+" )"))
			walk("let a = fun ( ) { print 1 ; } ; let b = true ; let c = \"\" ; let x = none ; fun f ( ) { } " + strings.ReplaceAll(place, "@", "( "+e+" )"))
		}
	}
	for _, end := range []int{impl.EndDone, impl.EndThrown, impl.EndFuel} {
		if ends[end] < 300 {
			t.Errorf("but %d have the End %d", ends[end], end)
		}
	}
}

func TestWalksOfPrograms(t *testing.T) {
	checkEachFuel(t, knownTree())
	for _, program := range append(rightPrograms(), programs()...) {
		if tree, fault := impl.Parse(program); fault == -1 {
			checkEachFuel(t, withoutFaults(tree))
		}
	}
}

// roamer makes trees that have something to do: names are used for what they are, mostly.
type roamer struct {
	shrub
	room, told int
	// known are the names that may be used.
	known []knownName
}

// knownName: how many parameters it has, when it is a function's; -1 of a number.
type knownName struct {
	name   string
	params int
}

func (r *roamer) tell(params int) string {
	r.told++
	r.known = append(r.known, knownName{numbered(r.told), params})
	return numbered(r.told)
}

// within makes something; the names that are told by that are not known behind it.
func (r *roamer) within(make func() int) int {
	before := len(r.known)
	at := make()
	r.known = r.known[:before]
	return at
}

func (r *roamer) pick(isFunction bool) (knownName, bool) {
	var fit []knownName
	for _, k := range r.known {
		if (k.params >= 0) == isFunction {
			fit = append(fit, k)
		}
	}
	if len(fit) == 0 {
		return knownName{}, false
	}
	return fit[r.below(len(fit))], true
}

func (r *roamer) number(n int) int {
	return r.put(impl.Node{Kind: impl.NodeNumber, Num: impl.FromInt(n)})
}

func (r *roamer) set(name string, value int) int {
	return r.put(impl.Node{Kind: impl.NodeSet, Names: []string{name}, A: value})
}

func (r *roamer) binary(op int, a int, b int) int {
	return r.put(impl.Node{Kind: impl.NodeBinary, C: op, A: a, B: b})
}

func (r *roamer) leaf() int {
	if k, is := r.pick(false); is && r.below(3) > 0 {
		return r.name(k.name)
	}
	if r.below(40) == 0 {
		return r.join([]int{impl.NodeNone, impl.NodeText, impl.NodeTrue, impl.NodeFalse}[r.below(4)])
	}
	return r.number(r.below(5))
}

func (r *roamer) expression() int {
	r.room -= 2
	if r.room < 0 {
		return r.leaf()
	}
	switch r.below(12) {
	case 0, 1:
		a := r.expression()
		return r.binary(1+r.below(11), a, r.expression())
	case 2:
		a := r.expression()
		return r.join(impl.NodeAnd+r.below(2), a, r.expression())
	case 3:
		return r.join([]int{impl.NodeMinus, impl.NodeNot}[r.below(2)], r.expression())
	case 4, 5, 6, 7:
		if k, is := r.pick(true); is {
			return r.call(r.name(k.name), k.params+r.below(2))
		}
	case 8:
		if r.below(3) == 0 {
			return r.call(r.function(nil, 1), 2)
		}
	}
	return r.leaf()
}

func (r *roamer) call(called int, handed int) int {
	parts := []int{called}
	for range handed {
		parts = append(parts, r.expression())
	}
	return r.join(impl.NodeCall, parts...)
}

// function: a NodeFun; what is known within it, too, may be itself. Most give back a number.
func (r *roamer) function(itself []knownName, params int) int {
	return r.within(func() int {
		r.known = append(r.known, itself...)
		var names []string
		for range params {
			names = append(names, r.tell(-1))
		}
		list := r.list()
		if r.below(5) > 0 {
			list = append(list, r.join(impl.NodeReturn, r.expression()))
		}
		return r.put(impl.Node{Kind: impl.NodeFun, Names: names, A: r.join(impl.NodeBlock, list...)})
	})
}

func (r *roamer) list() []int {
	r.room -= 2
	var list []int
	for r.room > 0 && r.below(4) > 0 {
		list = append(list, r.statements()...)
	}
	return list
}

func (r *roamer) block() int {
	return r.within(func() int { return r.join(impl.NodeBlock, r.list()...) })
}

// loop: a number, and a NodeWhile that goes on until it is great enough.
func (r *roamer) loop(most int, list func() []int) []int {
	zero := r.number(0)
	name := r.tell(-1)
	let := r.let(name, zero)
	asked := r.binary(impl.OpLess, r.name(name), r.number(most))
	body := r.within(func() int {
		more := r.set(name, r.binary(impl.OpAdd, r.name(name), r.number(1)))
		return r.join(impl.NodeBlock, append([]int{more}, list()...)...)
	})
	return []int{let, r.join(impl.NodeWhile, asked, body)}
}

// try: what is caught is printed.
func (r *roamer) try(list func() []int) int {
	tried := r.within(func() int { return r.join(impl.NodeBlock, list()...) })
	return r.within(func() int {
		name := r.tell(-1)
		printed := r.join(impl.NodePrint, r.name(name))
		return r.put(impl.Node{Kind: impl.NodeTry, Names: []string{name}, A: tried, B: r.join(impl.NodeBlock, append([]int{printed}, r.list()...)...)})
	})
}

func (r *roamer) statements() []int {
	r.room--
	switch r.below(16) {
	case 0, 1:
		value := r.expression()
		return []int{r.let(r.tell(-1), value)}
	case 2, 3:
		r.told++
		itself := knownName{numbered(r.told), r.below(3)}
		fun := r.function([]knownName{itself}, itself.params)
		r.known = append(r.known, itself)
		return []int{r.put(impl.Node{Kind: impl.NodeLet, Names: []string{itself.name}, A: fun, B: 1})}
	case 4, 5:
		if k, is := r.pick(false); is {
			return []int{r.set(k.name, r.expression())}
		}
	case 6:
		a, b := r.expression(), r.block()
		return []int{r.join(impl.NodeIf, a, b, r.block())}
	case 7, 8:
		return r.loop(2+r.below(20), r.list)
	case 9, 10:
		return []int{r.try(r.list)}
	case 11:
		if r.below(3) == 0 {
			return []int{r.join(impl.NodeReturn, r.expression())}
		}
	case 12:
		if r.below(2) == 0 {
			return []int{r.join(impl.NodeThrow, r.expression())}
		}
	case 13:
		return []int{r.join(impl.NodeExpr, r.expression())}
	}
	return []int{r.join(impl.NodePrint, r.expression())}
}

// roamedTree: a tree of up to about so many nodes; of every two one that goes on after a throw.
func roamedTree(room int, seed int) []impl.Node {
	r := roamer{shrub: shrub{state: uint64(seed)*2654435761 + 88172645463325252}, room: room}
	all := func() []int {
		var list []int
		for r.room > 0 {
			list = append(list, r.statements()...)
		}
		return list
	}
	if seed%2 == 0 {
		return r.program(all()...)
	}
	return r.program(r.loop(4, func() []int { return []int{r.try(all)} })...)
}

// checkSomeFuels: a walk with the least fuels, one after the other, and with the most.
func checkSomeFuels(t *testing.T, tree []impl.Node) impl.Outcome {
	t.Helper()
	before := checkWalk(t, tree, 0)
	for fuel := 1; fuel <= 8; fuel++ {
		next := checkWalk(t, tree, fuel)
		if !goesOnAs(before, next) {
			t.Fatalf("with %d of fuel %s, with one more %s of\n%s", fuel-1, toldOfOutcome(before), toldOfOutcome(next), toldWithAt(tree))
		}
		before = next
	}
	return checkWalk(t, tree, impl.MaxFuel)
}

// checkAsItStands: with its nodes in another order, and at other places, it does the same.
func checkAsItStands(t *testing.T, tree []impl.Node, want impl.Outcome) {
	t.Helper()
	moved := inOrder(tree)
	for at := range moved {
		moved[at].At = (moved[at].At + 7*at) % 601
	}
	if got, ok := impl.Walk(moved, impl.MaxFuel); !ok || !sameOutcomes(got, want) {
		t.Fatalf("with nodes elsewhere %s, want %s", toldOfOutcome(got), toldOfOutcome(want))
	}
}

func TestWalksOfTreesThatRoam(t *testing.T) {
	ends, walks, texts, taken := map[int]int{}, 0, 0, 0
	for seed := range 3000 {
		tree := roamedTree(10+seed*7%140, seed)
		if len(tree) > impl.MaxNodes {
			continue
		}
		if !mayBeWalked(tree) {
			t.Fatalf("a tree may not be walked:\n%s", toldWithAt(tree))
		}
		got := checkSomeFuels(t, tree)
		if walks%20 == 0 {
			checkEachFuel(t, tree)
			checkAsItStands(t, tree, got)
		}
		walks++
		ends[got.End]++
		texts += len(got.Log)
		taken += impl.MaxFuel - got.Fuel
	}
	if walks < 2000 || texts < 4*walks || taken < 10*walks {
		t.Errorf("%d walks show but %d texts and take but %d of fuel", walks, texts, taken)
	}
	for end := impl.EndDone; end <= impl.EndDeep; end++ {
		if ends[end] < 50 {
			t.Errorf("but %d have the End %d", ends[end], end)
		}
	}
}

// Trees of few names and many functions, and trees of all kinds.
func TestWalksOfTreesThatAreSown(t *testing.T) {
	ends := map[int]int{}
	for seed := range 800 {
		tree := withoutFaults(sownTree(6+seed*7%260, seed+9000))
		got := checkSomeFuels(t, tree)
		checkAsItStands(t, tree, got)
		ends[got.End]++
	}
	for seed := range 100 {
		tree := withoutFaults(treeBySteps(20+seed*37%281, seed+7000))
		got := checkSomeFuels(t, tree)
		checkAsItStands(t, tree, got)
		ends[got.End]++
	}
	for seed := range 500 {
		if tree, fault := impl.Parse(tight(programBySteps(2+seed%190, seed+31000))); fault == -1 {
			ends[checkSomeFuels(t, withoutFaults(tree)).End]++
		}
	}
	if ends[impl.EndDone] < 300 || ends[impl.EndThrown] < 300 {
		t.Errorf("the Ends are %v", ends)
	}
}

func TestWalksOfDeepTrees(t *testing.T) {
	for _, tree := range [][]impl.Node{chainTree(300), wideTree(299), withoutFaults(callTree(300))} {
		checkSomeFuels(t, tree)
	}
	// Blocks within one another, as many as a tree has room for, with a return in the innermost one.
	var m maker
	at := m.join(impl.NodeReturn, m.join(impl.NodeText))
	for len(m.tree) < 297 {
		block := m.join(impl.NodeBlock, at)
		at = m.join(impl.NodeIf, m.join(impl.NodeTrue), block, -1)
	}
	tree := m.program(at)
	if got := checkWalk(t, tree, 0); toldOfOutcome(got) != "done a text +0" {
		t.Errorf("of %d nodes within one another: %s", impl.DepthOf(tree), toldOfOutcome(got))
	}
}

// What is answered is new memory, and nothing is kept.
func TestWalkChangesNothing(t *testing.T) {
	sources := []string{
		`let s="a text";print s;fun f(a,b){print a;return a+"";}try{throw f("one","two");}catch e{print e;return "a text";}`, `throw "text";`, "let i=0;while(1){print i;i=i+1;}", "q;", "", "fun f(){f();}f();", `let s="once";print s;print s;return s;`,
	}
	for _, source := range sources {
		for _, fuel := range []int{0, 1, 7, impl.MaxFuel, -1} {
			given, told := roomy(parsedTree(t, source))
			before := told()
			first, ok := impl.Walk(given, fuel)
			if told() != before {
				t.Fatalf("%q: the tree was written into", source)
			}
			texts := append(slices.Clone(first.Log), first.Shown)
			for _, text := range texts {
				for _, node := range given {
					for _, name := range node.Names {
						if within(text, name) {
							t.Errorf("%q: the text %q shares memory with the tree", source, text)
						}
					}
				}
				if within(text, source) {
					t.Errorf("%q: the text %q shares memory with the source", source, text)
				}
			}
			want := impl.Outcome{End: first.End, Shown: first.Shown, Log: slices.Clone(first.Log), Fuel: first.Fuel}
			for i := range first.Log {
				first.Log[i] = "written"
			}
			first.Log = append(first.Log, "spare")
			for _, other := range sources {
				impl.WalkSource(other, 50)
				if again, isOk := impl.Walk(given, fuel); isOk != ok || !sameOutcomes(again, want) {
					t.Fatalf("%q: %s, want %s", source, toldOfOutcome(again), toldOfOutcome(want))
				}
			}
			if bySource, code := impl.WalkSource(source, fuel); (code == 0) != ok || !sameOutcomes(bySource, want) {
				t.Errorf("%q: of the source %s, %d, of the tree %s", source, toldOfOutcome(bySource), code, toldOfOutcome(want))
			}
		}
	}
}
