package tests

import (
	"fmt"
	"math"
	"slices"
	"strings"
	"sync"
	"testing"

	"loop.example/g00115/impl"
)

// Promise 22: a desk answers whatever it is asked; what it compiles it runs as it walks it.

func sameDesks(a []impl.Image, b []impl.Image) bool { return slices.EqualFunc(a, b, sameImages) }

func copiesOfImages(images []impl.Image) []impl.Image {
	copies := slices.Clone(images)
	for i, x := range images {
		copies[i] = copyOfImage(x)
	}
	return copies
}

// checkAsk holds an ask against the rule: what it is told, and all images that stand on the desk behind it.
func checkAsk(t *testing.T, d impl.Desk, a impl.Ask) (impl.Desk, string) {
	t.Helper()
	kept := copiesOfImages(d.Images)
	images, want := askedByRule(kept, a)
	next, got := impl.DoAsk(d, a)
	if got != want {
		t.Fatalf("on a desk of %d, %+v is told %q, want %q", len(kept), a, got, want)
	}
	if !sameDesks(next.Images, images) {
		t.Fatalf("on a desk of %d, behind %+v there are %d images, want %d, or one is another", len(kept), a, len(next.Images), len(images))
	}
	if !sameDesks(d.Images, kept) {
		t.Fatalf("on a desk of %d, %+v writes into the desk that is handed in", len(kept), a)
	}
	return next, got
}

// checkAskTold: what an ask is told.
func checkAskTold(t *testing.T, d impl.Desk, a impl.Ask, want string) impl.Desk {
	t.Helper()
	next, got := checkAsk(t, d, a)
	if got != want {
		t.Errorf("on a desk of %d, %+v is told %q, want %q", len(d.Images), a, got, want)
	}
	return next
}

func compileOf(source string) impl.Ask { return impl.Ask{Op: impl.AskCompile, Text: source} }

func runOf(at int, fuel int) impl.Ask { return impl.Ask{Op: impl.AskRun, At: at, Fuel: fuel} }

func walkOf(source string, fuel int) impl.Ask {
	return impl.Ask{Op: impl.AskWalk, Text: source, Fuel: fuel}
}

func loadOf(t *testing.T, x impl.Image) impl.Ask {
	t.Helper()
	return impl.Ask{Op: impl.AskLoad, Text: imageTextOf(t, x)}
}

func showOf(at int) impl.Ask { return impl.Ask{Op: impl.AskShow, At: at} }

// deskFrom: a desk of Funcs that are told, each the only one of its image.
func deskFrom(t *testing.T, funcs ...string) impl.Desk {
	t.Helper()
	var d impl.Desk
	for _, fun := range funcs {
		d.Images = append(d.Images, machineFrom(t, fun))
	}
	return d
}

// deskOfSize: so many images, of which each returns its own number.
func deskOfSize(t *testing.T, size int) impl.Desk {
	t.Helper()
	var d impl.Desk
	for at := range size {
		x := machineFrom(t, "0/0: const 0, return")
		x.Consts[0].Num = impl.FromInt(at)
		d.Images = append(d.Images, x)
	}
	return d
}

// unsoundImages: images that are right, but that the verifier does not let in.
func unsoundImages(t *testing.T) []impl.Image {
	t.Helper()
	return []impl.Image{
		machineFrom(t, "0/0: return"), machineFrom(t, "0/0: const 1"), machineFrom(t, "0/1: get 0, return"), machineFrom(t, "0/0: jump 300"), machineFrom(t, "0/0: const 40, return"),
		machineFrom(t, "0/0: const 0, return", "0/0: print, return"), machineFrom(t, "0/0 {0-1>9}: const 0, return"), severalFuncs(),
	}
}

func TestLimitsOfDesks(t *testing.T) {
	got := []int{impl.MaxDesk, impl.AskCompile, impl.AskLoad, impl.AskRun, impl.AskWalk, impl.AskShow}
	if !slices.Equal(got, []int{20, 1, 2, 3, 4, 5}) {
		t.Errorf("the constants are %v", got)
	}
}

func TestEachAskOfAnEmptyDesk(t *testing.T) {
	var d impl.Desk
	checkAskTold(t, d, compileOf("print 1;"), "image 0")
	checkAskTold(t, d, loadOf(t, machineFrom(t, "0/0: const 1, return")), "image 0")
	checkAskTold(t, d, runOf(0, 3), "no")
	checkAskTold(t, d, walkOf("print 1;", 3), "done none|1")
	checkAskTold(t, d, showOf(0), "no")
	checkAskTold(t, impl.Desk{Images: []impl.Image{}}, compileOf("print 1;"), "image 0")
}

func TestEachAskOfADeskOfSeveral(t *testing.T) {
	d := deskFrom(t, "0/0: const 7, print, return", "0/0: const 8, throw", "0/0: jump 0")
	checkAskTold(t, d, runOf(0, 0), "done a|a")
	checkAskTold(t, d, runOf(1, 0), "thrown bc")
	checkAskTold(t, d, runOf(2, 9), "fuel ")
	checkAskTold(t, d, showOf(0), "const 7\nprint\nreturn\n")
	checkAskTold(t, d, showOf(1), "const 8\nthrow\n")
	checkAskTold(t, d, showOf(2), "jump 0\n")
	checkAskTold(t, d, walkOf("return 2;", 0), "done 2")
	d = checkAskTold(t, d, compileOf("return 1 + 2;"), "image 3")
	d = checkAskTold(t, d, loadOf(t, machineFrom(t, "0/0: const 2, print, throw")), "image 4")
	d = checkAskTold(t, d, compileOf(`throw "x";`), "image 5")
	for at, want := range []string{"done a|a", "thrown bc", "fuel ", "done 3", "thrown 2|2", "thrown x"} {
		checkAskTold(t, d, runOf(at, 9), want)
	}
	checkAskTold(t, d, runOf(6, 9), "no")
	checkAskTold(t, d, showOf(3), "const 0\nput 0\nconst 1\nbinary 1 0\nreturn\nconst 2\nreturn\n")
	checkAskTold(t, d, showOf(4), "const 2\nprint\nthrow\n")
	// But the first Func is shown, though the image has more of them.
	d = checkAskTold(t, d, compileOf("fun f(){return 1;}print f();"), "image 6")
	checkAskTold(t, d, showOf(6), "const 0\nput 0\nfun 1\nput 0\nget 0\nput 1\ncall 1 0\nprint\nconst 0\nreturn\n")
}

// checkRunAndWalk: what a program is told that is compiled and run, and walked. It stands on an empty desk, and behind others.
func checkRunAndWalk(t *testing.T, source string, fuel int, want string) {
	t.Helper()
	for _, size := range []int{0, 3, 19} {
		d := checkAskTold(t, deskOfSize(t, size), compileOf(source), fmt.Sprintf("image %d", size))
		checkAskTold(t, d, runOf(size, fuel), want)
		checkAskTold(t, d, walkOf(source, fuel), want)
	}
}

func TestEndsOfAsks(t *testing.T) {
	for source, want := range map[string]string{
		"": "done none", "return 7;": "done 7", `return "a text";`: "done a text", "return fun(){};": "done fun", "return true;": "done true",
		"print 1;return 2;": "done 2|1", "print 1;print none;print \"c\";": "done none|1|none|c",
		"throw 1;": "thrown 1", `print 1;print 2;throw "t";`: "thrown t|1|2", "1+none;": "thrown type", "print false;1();": "thrown call|false", "print 0;throw none;": "thrown none|0",
		"while(1){}": "fuel ", "print 1;while(1){}": "fuel |1", "print 1;print 2;while(1){}return 3;": "fuel |1|2",
		"fun f(){f();}f();": "deep ", "print 1;fun f(){f();}f();": "deep |1", "fun f(n){print n;f(n+1);}f(1);": "deep |1|2|3|4|5|6|7|8|9|10|11|12",
	} {
		checkRunAndWalk(t, source, 50, want)
	}
	d := deskFrom(t, "0/0: return", "0/0: const 1, print, jump 9", "0/1: const 1, print, const 7, print, get 0, return")
	for at, want := range []string{"bad ", "bad |1", "bad |1|a"} {
		checkAskTold(t, d, runOf(at, 5), want)
	}
}

// An empty text is nothing between what is around it; no text is told in another way than as it stands.
func TestTextsOfAnswers(t *testing.T) {
	checkRunAndWalk(t, `return "";`, 0, "done ")
	checkRunAndWalk(t, `throw "";`, 0, "thrown ")
	checkRunAndWalk(t, `print "";`, 0, "done none|")
	checkRunAndWalk(t, `print "";print "";return "";`, 0, "done ||")
	checkRunAndWalk(t, `print "";throw "";`, 0, "thrown |")
	checkRunAndWalk(t, `print " ";print "a b";print "  c  ";return " d ";`, 0, "done  d | |a b|  c  ")
	checkRunAndWalk(t, `print "|";print "a|b";print "||";return "|e|";`, 0, "done |e|"+"||"+"|a|b"+"|||")
	checkRunAndWalk(t, `print "no";print "fault 3";return "image 0";`, 0, "done image 0|no|fault 3")
	checkRunAndWalk(t, `let a="0123456789012345678901234567890123456789";let b=a+a+a+a+a;print b;return b;`, 0, "done "+strings.Repeat("0123456789", 20)+"|"+strings.Repeat("0123456789", 20))
	d := deskFrom(t, "0/0: const 9, print, const 7, print, print, return")
	d.Images[0].Consts[7].Text = "\n\xff\x00|"
	checkAskTold(t, d, runOf(0, 0), "done \n\xff\x00|||\n\xff\x00||\n\xff\x00|")
}

// As many texts, and as many bytes, as there may be in a Log.
func TestLongestAnswers(t *testing.T) {
	checkRunAndWalk(t, "let i=0;while(i<200){print i==i;i=i+1;}", 400, "done none"+strings.Repeat("|true", 200))
	checkRunAndWalk(t, "while(1){print \"\";}", 400, "fuel "+strings.Repeat("|", 200))
	forty := strings.Repeat("t", 40)
	checkRunAndWalk(t, `let a="`+forty+`";let b=a+a+a+a+a;let i=0;while(i<20){print b;i=i+1;}return b;`, 400, "done "+strings.Repeat(forty, 5)+strings.Repeat("|"+strings.Repeat(forty, 5), 20))
}

// Fuels 0, one less than is wanted, just that, one more, and the most.
func TestFuelsOfAsks(t *testing.T) {
	source := "let a=3;while(a){print a;a=a-1;}return a;"
	for fuel, want := range map[int]string{0: "fuel |3", 1: "fuel |3|2", 2: "fuel |3|2|1", 3: "done 0|3|2|1", 4: "done 0|3|2|1", impl.MaxFuel - 1: "done 0|3|2|1", impl.MaxFuel: "done 0|3|2|1"} {
		d := checkAskTold(t, impl.Desk{}, compileOf(source), "image 0")
		checkAskTold(t, d, walkOf(source, fuel), want)
		checkAskTold(t, d, runOf(0, fuel), want)
	}
	for _, d := range []impl.Desk{deskOfSize(t, 1), deskOfSize(t, 5)} {
		for _, fuel := range refusedFuels() {
			checkAskTold(t, d, runOf(0, fuel), "no")
			checkAskTold(t, d, walkOf("return 1;", fuel), "no")
			checkAskTold(t, d, walkOf("", fuel), "no")
			// The Ops that use none do not look at it.
			checkAskTold(t, d, impl.Ask{Op: impl.AskCompile, Text: "return 1;", Fuel: fuel}, fmt.Sprintf("image %d", len(d.Images)))
			checkAskTold(t, d, impl.Ask{Op: impl.AskLoad, Text: imageTextOf(t, d.Images[0]), Fuel: fuel}, fmt.Sprintf("image %d", len(d.Images)))
			checkAskTold(t, d, impl.Ask{Op: impl.AskShow, Fuel: fuel}, "const 0\nreturn\n")
		}
	}
}

// placesBeyond: numbers that are those of no image, where so many stand on the desk.
func placesBeyond(size int) []int {
	return []int{-1, size, size + 1, -2, -size - 1, size + 19, 20, 21, 256 + size, 1 << 32, 1<<32 + size, -1 << 32, math.MaxInt, math.MinInt, math.MinInt + 1}
}

func TestImagesThatAreNotThere(t *testing.T) {
	for _, size := range []int{0, 1, 2, 19, 20} {
		d := deskOfSize(t, size)
		for _, at := range placesBeyond(size) {
			for _, fuel := range []int{0, 7, impl.MaxFuel, -1, impl.MaxFuel + 1} {
				checkAskTold(t, d, runOf(at, fuel), "no")
			}
			checkAskTold(t, d, showOf(at), "no")
			// The Ops that ask for none do not look at it.
			checkAskTold(t, d, impl.Ask{Op: impl.AskWalk, Text: "return 1;", At: at}, "done 1")
			if size < 20 {
				checkAskTold(t, d, impl.Ask{Op: impl.AskCompile, Text: "return 1;", At: at}, fmt.Sprintf("image %d", size))
				checkAskTold(t, d, impl.Ask{Op: impl.AskLoad, Text: imageTextOf(t, machineFrom(t, "0/0: const 1, return")), At: at}, fmt.Sprintf("image %d", size))
			}
		}
		for at := range size {
			checkAskTold(t, d, runOf(at, 0), fmt.Sprintf("done %d", at))
			checkAskTold(t, d, showOf(at), "const 0\nreturn\n")
		}
	}
}

func TestOpsOfAsksThatAreNone(t *testing.T) {
	ops := []int{math.MinInt, math.MinInt + 1, -1 << 32, -1<<32 + 1, 1 << 32, 1<<32 + 1, 1<<32 + 5, 256, 257, 261, math.MaxInt - 1, math.MaxInt}
	for op := -20; op <= 40; op++ {
		if op < 1 || op > 5 {
			ops = append(ops, op)
		}
	}
	for _, d := range []impl.Desk{{}, deskOfSize(t, 1), deskOfSize(t, 20)} {
		for _, op := range ops {
			for _, text := range []string{"print 1;", "", ")", imageTextOf(t, machineFrom(t, "0/0: const 1, return"))} {
				checkAskTold(t, d, impl.Ask{Op: op, Text: text, Fuel: 5}, "no")
				checkAskTold(t, d, impl.Ask{Op: op, Text: text, At: -1, Fuel: -1}, "no")
			}
		}
	}
}

// faultsOfSources: sources, and the place of the fault that Parse tells.
func faultsOfSources() map[string]int {
	return map[string]int{
		")": 0, "print 1": 7, "print ;": 6, "let a=1;let a=2;}": 16, "q": 1, "q;)": 2, "&": 0, "print 1;\x00": 8, "print 1;x & y;": 10, strings.Repeat(" ", 601): 600, "fun f(a,b,c,d,e){}": 13,
		strings.Repeat("1;", 70) + strings.Repeat(" ", 300) + "(;": 441,
	}
}

func TestFaultsOfAsks(t *testing.T) {
	for _, d := range []impl.Desk{{}, deskOfSize(t, 3), deskOfSize(t, 20), deskOfSize(t, 21)} {
		for source, place := range faultsOfSources() {
			want := fmt.Sprintf("fault %d", place)
			checkAskTold(t, d, compileOf(source), want)
			for _, fuel := range append(refusedFuels(), 0, impl.MaxFuel) {
				checkAskTold(t, d, walkOf(source, fuel), want)
			}
		}
		for source, fault := range programsWithFaults() {
			want := fmt.Sprintf("wrong %d", fault)
			checkAskTold(t, d, compileOf(source), want)
			for _, fuel := range append(refusedFuels(), 0, impl.MaxFuel) {
				checkAskTold(t, d, walkOf(source, fuel), want)
			}
		}
		// A fault that Compile has and Resolve has not: the program is walked.
		for _, source := range sourcesOfTooMuch() {
			checkAskTold(t, d, compileOf(source), "wrong 3")
			checkAskTold(t, d, walkOf(source, 0), "done none")
			checkAskTold(t, d, walkOf(source, -1), "no")
		}
	}
}

// textsOfNoImage: such as nothing is read of.
func textsOfNoImage(t *testing.T) []string {
	t.Helper()
	text := imageTextOf(t, machineFrom(t, "0/0: const 1, return"))
	turned := []byte(text)
	turned[9] ^= 4
	sealed, _ := impl.Sealed("SC1")
	return []string{"", "x", "SC1", " ", "print 1;", "image 0", text[1:], text[:len(text)-1], text + "\x00", " " + text, text + text, string(turned), sealed, strings.Repeat("x", impl.MaxText), strings.Repeat("x", impl.MaxText+1)}
}

func TestImagesThatAreNotLoaded(t *testing.T) {
	for _, d := range []impl.Desk{{}, deskOfSize(t, 3), deskOfSize(t, 20), deskOfSize(t, 21)} {
		for _, text := range textsOfNoImage(t) {
			checkAskTold(t, d, impl.Ask{Op: impl.AskLoad, Text: text}, "form")
		}
		for _, x := range unsoundImages(t) {
			checkAskTold(t, d, loadOf(t, x), "unsound")
		}
	}
	// What is read, and is no program; what is a program, and is not read.
	checkAskTold(t, impl.Desk{}, compileOf(imageTextOf(t, machineFrom(t, "0/0: const 1, return"))), "fault 3")
}

func TestImagesThatAreLoaded(t *testing.T) {
	d, size := impl.Desk{}, 0
	for _, x := range []impl.Image{machineFrom(t, "0/0: const 1, return"), machineFrom(t, "0/0: const 0, return, get 9"), compiled(t, knownTree()), machineFrom(t, "0/1: fun 1, put 0, call 0 0, return", "0/0: const 7, throw"), machineFrom(t, "0/0: jump 0")} {
		d = checkAskTold(t, d, loadOf(t, x), fmt.Sprintf("image %d", size))
		if !sameImages(d.Images[size], x) {
			t.Errorf("there stands\n%s\nwant\n%s", toldOfCode(d.Images[size]), toldOfCode(x))
		}
		size++
		for _, fuel := range []int{0, 1, 40} {
			o, _ := impl.Run(x, fuel)
			checkAskTold(t, d, runOf(size-1, fuel), tellingOf(o))
		}
		checkAskTold(t, d, showOf(size-1), impl.ShowFunc(x, 0))
	}
}

func TestEmptyTextsOfAsks(t *testing.T) {
	d := checkAskTold(t, impl.Desk{}, compileOf(""), "image 0")
	checkAskTold(t, d, runOf(0, 0), "done none")
	checkAskTold(t, d, showOf(0), "const 0\nreturn\n")
	checkAskTold(t, d, walkOf("", 0), "done none")
	checkAskTold(t, d, impl.Ask{Op: impl.AskLoad}, "form")
	checkAskTold(t, d, impl.Ask{}, "no")
}

// One less than the most images, the most, and one more, with each Op.
func TestFullDesks(t *testing.T) {
	source, image := "return 5;", machineFrom(t, "0/0: const 3, return")
	d := deskOfSize(t, 19)
	for _, a := range []impl.Ask{compileOf(source), loadOf(t, image)} {
		full := checkAskTold(t, d, a, "image 19")
		checkAskTold(t, full, compileOf(source), "no")
		checkAskTold(t, full, loadOf(t, image), "no")
		if len(full.Images) != 20 {
			t.Errorf("there are %d images", len(full.Images))
		}
	}
	for _, size := range []int{19, 20, 21, 60} {
		d := deskOfSize(t, size)
		for at := range size {
			checkAskTold(t, d, runOf(at, 0), fmt.Sprintf("done %d", at))
			checkAskTold(t, d, showOf(at), "const 0\nreturn\n")
		}
		checkAskTold(t, d, runOf(size, 0), "no")
		checkAskTold(t, d, showOf(size), "no")
		checkAskTold(t, d, walkOf(source, 0), "done 5")
		if size > 19 {
			checkAskTold(t, d, compileOf(source), "no")
			checkAskTold(t, d, loadOf(t, image), "no")
		}
	}
}

// Images that are not right stand on a desk as they are; none of them is run, and of none there is anything to show.
func TestImagesOnDesksThatAreNotRight(t *testing.T) {
	wrong := []impl.Image{{}, {Funcs: []impl.Func{{}}}, {Consts: constsOfSize(41)}, {Funcs: []impl.Func{{Regs: -1, Code: []impl.Ins{{Op: -7, A: math.MinInt}}}}}}
	for _, spoil := range spoilersOf(severalFuncs()) {
		wrong = append(wrong, changedImage(severalFuncs(), spoil))
	}
	for _, x := range wrong {
		d := impl.Desk{Images: []impl.Image{machineFrom(t, "0/0: const 1, return"), x, machineFrom(t, "0/0: const 2, return")}}
		for _, fuel := range []int{0, impl.MaxFuel, -1} {
			checkAskTold(t, d, runOf(1, fuel), "no")
		}
		checkAskTold(t, d, showOf(1), "")
		checkAskTold(t, d, runOf(0, 0), "done 1")
		checkAskTold(t, d, runOf(2, 0), "done 2")
		d = checkAskTold(t, d, compileOf("return 4;"), "image 3")
		checkAskTold(t, d, runOf(3, 0), "done 4")
		checkAskTold(t, d, walkOf("return 4;", 0), "done 4")
		checkAskTold(t, d, impl.Ask{Op: impl.AskLoad, Text: "x"}, "form")
	}
}

// checkDesk: RunDesk of asks tells what each is told by itself, one behind the other, from an empty desk on.
func checkDesk(t *testing.T, asks []impl.Ask) []string {
	t.Helper()
	kept := slices.Clone(asks)
	got, ok := impl.RunDesk(asks)
	if !ok || len(got) != len(kept) {
		t.Fatalf("of %d asks there are %d answers, %v", len(kept), len(got), ok)
	}
	var d impl.Desk
	for i, a := range kept {
		var want string
		if d, want = impl.DoAsk(d, a); got[i] != want {
			t.Fatalf("ask %d, %+v, is told %q, by itself %q", i, a, got[i], want)
		}
	}
	if !slices.Equal(asks, kept) {
		t.Fatal("the asks were written into")
	}
	return got
}

func checkDeskTells(t *testing.T, asks []impl.Ask, want ...string) {
	t.Helper()
	if got := checkDesk(t, asks); !slices.Equal(got, want) {
		t.Errorf("%+v is told %q, want %q", asks, got, want)
	}
}

func TestDesksOfFewAsks(t *testing.T) {
	checkDeskTells(t, nil)
	checkDeskTells(t, []impl.Ask{})
	checkDeskTells(t, []impl.Ask{{}}, "no")
	checkDeskTells(t, []impl.Ask{compileOf("print 1;")}, "image 0")
	checkDeskTells(t, []impl.Ask{runOf(0, 3)}, "no")
	checkDeskTells(t, []impl.Ask{compileOf("print 1;"), runOf(0, 3), walkOf("print 1;", 3), {Op: impl.AskLoad, Text: "x"}, runOf(4, 0)}, "image 0", "done none|1", "done none|1", "form", "no")
	// What is refused takes no number, and what was compiled stays as it was.
	x := machineFrom(t, "0/0: const 2, return")
	checkDeskTells(t, []impl.Ask{compileOf("q;"), runOf(0, 3), compileOf(")"), loadOf(t, x), compileOf("return 1;"), {Op: 9}, loadOf(t, unsoundImages(t)[0]), compileOf("throw 3;"), runOf(0, 0), runOf(1, 0), runOf(2, 0), runOf(1, 0), runOf(3, 0), runOf(-1, 0)},
		"wrong 1", "no", "fault 0", "image 0", "image 1", "no", "unsound", "image 2", "done 2", "done 1", "thrown 3", "done 1", "no", "no")
	// The images know nothing of one another, and a run leaves nothing behind.
	checkDeskTells(t, []impl.Ask{compileOf("let a=1;a=a+1;return a;"), compileOf("return a;"), walkOf("return a;", 0), runOf(0, 0), runOf(0, 0), walkOf("let a=1;a=a+1;return a;", 0), showOf(1)}, "image 0", "wrong 1", "wrong 1", "done 2", "done 2", "done 2", "no")
}

func TestDesksOfMostAsks(t *testing.T) {
	for _, size := range []int{39, 40} {
		asks, want := []impl.Ask{}, []string{}
		for i := range size {
			asks = append(asks, compileOf(fmt.Sprintf("return %d;", i)))
			if i < 20 {
				want = append(want, fmt.Sprintf("image %d", i))
			} else {
				want = append(want, "no")
			}
		}
		checkDeskTells(t, asks, want...)
		for i := 20; i < size; i++ {
			asks[i], want[i] = runOf(39-i, 0), fmt.Sprintf("done %d", 39-i)
		}
		checkDeskTells(t, asks, want...)
		checkDeskTells(t, make([]impl.Ask, size), slices.Repeat([]string{"no"}, size)...)
	}
	for _, size := range []int{41, 42, 60, 1000} {
		for _, asks := range [][]impl.Ask{make([]impl.Ask, size), slices.Repeat([]impl.Ask{compileOf("print 1;")}, size), slices.Repeat([]impl.Ask{walkOf("print 1;", 3)}, size)} {
			if got, ok := impl.RunDesk(asks); ok || len(got) != 0 {
				t.Errorf("of %d asks there is %q, %v", size, got, ok)
			}
		}
	}
}

// askEachFuel: what is told of a program that is compiled on a desk, run there and walked there, with every fuel from 0 to what
// it takes, and more; and how it ends with the most.
func askEachFuel(t *testing.T, source string, sparse bool) string {
	t.Helper()
	d, told := impl.DoAsk(impl.Desk{Images: []impl.Image{smallImage()}}, compileOf(source))
	if told != "image 1" {
		t.Fatalf("%q is told %q", source, told)
	}
	most, _ := impl.WalkSource(source, impl.MaxFuel)
	last := min(impl.MaxFuel-most.Fuel+2, impl.MaxFuel)
	step := 1
	if sparse && last > 40 {
		step = 37
	}
	for fuel := 0; fuel <= last; fuel += step {
		_, ran := impl.DoAsk(d, runOf(1, fuel))
		_, walked := impl.DoAsk(d, walkOf(source, fuel))
		if ran != walked || ran == "no" {
			t.Fatalf("%q with %d of fuel is told %q when it is run, %q when it is walked", source, fuel, ran, walked)
		}
	}
	checkDesk(t, []impl.Ask{compileOf(source), runOf(0, last), walkOf(source, last)})
	_, ran := impl.DoAsk(d, runOf(1, impl.MaxFuel))
	if want := tellingOf(most); ran != want {
		t.Fatalf("%q is told %q, want %q", source, ran, want)
	}
	return ran
}

func sourceOf(t *testing.T, tree []impl.Node) (string, bool) {
	t.Helper()
	source, ok := impl.Print(tree)
	if !ok {
		return "", false
	}
	_, fault := impl.Parse(source)
	return source, fault == -1
}

// Each statement in each place for statements, each E in each place for E.
func TestDesksRunWhatTheyWalk(t *testing.T) {
	ends := map[string]int{}
	run := func(source string) {
		t.Helper()
		source, ok := sourceOf(t, withoutFaults(parsedTree(t, source)))
		if !ok {
			return
		}
		word, _, _ := strings.Cut(askEachFuel(t, source, ends["fuel"]%20 != 0), " ")
		ends[word]++
	}
	for _, place := range placesForStatements() {
		for _, statement := range statementsOfChapter() {
			run("let a = 1 ; let b = 0 ; let x = 3 ; " + strings.ReplaceAll(place, "@", statement))
			run("let a = 1 ; let b = 0 ; fun f ( ) { return a ; } print 1 ; " + strings.ReplaceAll(place, "@", statement))
		}
	}
	for _, place := range placesForE() {
		for _, e := range formsOfE() {
			run("let a = 1 ; let b = 2 ; let c = 0 ; let x = 3 ; fun f ( ) { } " + strings.ReplaceAll(place, "@", "( "+e+" )"))
			run("let a = fun ( ) { print 1 ; } ; let b = true ; let c = \"\" ; let x = none ; fun f ( ) { } print x ; " + strings.ReplaceAll(place, "@", "( "+e+" )"))
		}
	}
	run("fun f ( ) { f ( ) ; } f ( ) ;")
	if ends["done"] < 500 || ends["thrown"] < 500 || ends["fuel"] < 50 || ends["deep"] < 1 || ends["bad"] > 0 {
		t.Errorf("the Ends are %v", ends)
	}
}

func TestDesksRunTreesThatRoam(t *testing.T) {
	ends := map[string]int{}
	for seed := range 400 {
		tree := roamedTree(10+seed*7%90, seed+90000)
		if len(tree) > impl.MaxNodes {
			continue
		}
		source, ok := sourceOf(t, tree)
		if _, whole := compiledOrNone(tree); !ok || !whole {
			continue
		}
		word, _, _ := strings.Cut(askEachFuel(t, source, seed%10 != 0), " ")
		ends[word]++
	}
	for _, word := range []string{"done", "thrown", "fuel", "deep"} {
		if ends[word] < 5 {
			t.Errorf("the Ends are %v", ends)
		}
	}
}

// texts: what asks that are drawn at random are made of.
type texts struct {
	sources, images []string
}

func textsToAsk(t *testing.T) texts {
	t.Helper()
	p := texts{sources: slices.Concat(rightPrograms(), programs(), sourcesOfTooMuch(), []string{"", " ", ")", "print 1", "\xff", "fun f(){f();}f();", "while(1){print 1;}"})}
	for source := range programsWithFaults() {
		p.sources = append(p.sources, source)
	}
	slices.Sort(p.sources)
	for seed := range 60 {
		if source, ok := impl.Print(roamedTree(10+seed, seed+95000)); ok {
			p.sources = append(p.sources, source)
		}
		d := dice{state: uint64(seed)*2654435761 + 221}
		x := d.busyImage(t)
		for _, y := range []impl.Image{x, changedImage(x, d.turn), changedImage(x, d.turn)} {
			if text, ok := impl.ImageText(y); ok {
				p.images = append(p.images, text)
			}
		}
	}
	for _, source := range p.sources {
		tree, _ := impl.Parse(source)
		if x, ok := compiledOrNone(tree); ok {
			p.images = append(p.images, imageTextOf(t, x))
		}
	}
	for _, x := range unsoundImages(t) {
		p.images = append(p.images, imageTextOf(t, x))
	}
	p.images = append(p.images, textsOfNoImage(t)...)
	return p
}

// ask: something to ask a desk of so many images, of which one time out of `rare` a number is beyond.
func (d *dice) ask(p texts, size int, rare int) impl.Ask {
	a := impl.Ask{Op: d.near(1, 5, rare), At: d.near(0, max(size-1, 0), rare), Fuel: d.near(0, impl.MaxFuel, rare)}
	if d.below(3) > 0 {
		a.Fuel = d.below(30)
	}
	isSource := a.Op == impl.AskCompile || a.Op == impl.AskWalk
	if d.below(rare) == 0 {
		isSource = !isSource
	}
	if isSource {
		a.Text = p.sources[d.below(len(p.sources))]
	} else if a.Op == impl.AskLoad || d.below(2) == 0 {
		a.Text = p.images[d.below(len(p.images))]
	}
	return a
}

// wordOf: what an ask is told, in a word.
func wordOf(a impl.Ask, told string) string {
	if strings.HasSuffix(told, "\n") && a.Op == impl.AskShow {
		return "shown"
	}
	word, _, _ := strings.Cut(told, " ")
	return word
}

// Asks that are drawn at random, one behind another: each is told what the functions behind it tell by themselves.
func TestAsksBySteps(t *testing.T) {
	p := textsToAsk(t)
	words, full := map[string]int{}, 0
	for seed := range 120 {
		dice := dice{state: uint64(seed)*2654435761 + 222}
		var d impl.Desk
		var asks []impl.Ask
		for range 40 {
			a := dice.ask(p, len(d.Images), 6+seed%20)
			if seed%3 == 0 && dice.below(2) == 0 {
				// These fill their desks.
				a = impl.Ask{Op: impl.AskLoad, Text: p.images[dice.below(len(p.images))]}
			}
			asks = append(asks, a)
			var told string
			d, told = checkAsk(t, d, a)
			words[wordOf(a, told)]++
		}
		if len(d.Images) == 20 {
			full++
		}
		checkDesk(t, asks)
	}
	for _, word := range []string{"image", "fault", "wrong", "form", "unsound", "done", "thrown", "fuel", "shown", "no"} {
		if words[word] < 40 {
			t.Errorf("%q is told but %d times", word, words[word])
		}
	}
	if full < 10 {
		t.Errorf("but %d desks are full", full)
	}
}

// Desks of images of all sorts, of which some are not right, and more than there is room for.
func TestAsksOfDesksBySteps(t *testing.T) {
	p := textsToAsk(t)
	words := map[string]int{}
	for seed := range 400 {
		dice := dice{state: uint64(seed)*2654435761 + 223}
		var d impl.Desk
		for range dice.near(0, 20, 5) {
			d.Images = append(d.Images, []impl.Image{dice.image(30), dice.busyImage(t), dice.flowImage(40)}[dice.below(3)])
		}
		for range 4 {
			a := dice.ask(p, len(d.Images), 8)
			var told string
			d, told = checkAsk(t, d, a)
			words[wordOf(a, told)]++
		}
	}
	for _, word := range []string{"image", "done", "thrown", "fuel", "bad", "no", ""} {
		if words[word] < 10 {
			t.Errorf("%q is told but %d times", word, words[word])
		}
	}
}

// roomyDesk: a copy of a desk with spare room behind each of its lists, filled; and what tells whether any of it was written into.
func roomyDesk(images []impl.Image) (impl.Desk, func() string) {
	var whole []impl.Image
	var tellers []func() string
	for _, x := range images {
		given, told := roomyImage(x)
		whole, tellers = append(whole, given), append(tellers, told)
	}
	whole = append(whole, smallImage(), impl.Image{Funcs: []impl.Func{{Regs: -6}}})
	return impl.Desk{Images: whole[:len(images)]}, func() string {
		out := fmt.Sprintf("%+v", whole)
		for _, told := range tellers {
			out += told()
		}
		return out
	}
}

// someAsks: asks of all sorts.
func someAsks(t *testing.T) []impl.Ask {
	t.Helper()
	return []impl.Ask{
		compileOf(`let s="a text";print s;fun f(a){return a+s;}try{f(1);}catch e{print e;}`), compileOf(")"), compileOf("q;"), loadOf(t, machineFrom(t, "0/0: const 7, return")), loadOf(t, machineFrom(t, "0/1: fun 1, put 0, call 0 0, return", "0/0: const 8, throw")), loadOf(t, unsoundImages(t)[0]), {Op: impl.AskLoad, Text: "x"},
		runOf(0, 7), runOf(1, 7), runOf(2, -1), runOf(9, 7), walkOf(`print "a text";throw "another";`, 7), walkOf("q;", 7), showOf(0), showOf(1), showOf(-1), {}, {Op: 6, Text: "x"},
	}
}

// spoil writes into all of a desk, and into the spare room behind each of its lists.
func spoil(t *testing.T, d impl.Desk) {
	t.Helper()
	for i, x := range d.Images {
		before := told(d.Images[i+1:], toldOfCode, "\n")
		_ = append(x.Consts, impl.Const{Kind: -1})
		_ = append(x.Funcs, impl.Func{Regs: -1})
		writeInto(t, x)
		if told(d.Images[i+1:], toldOfCode, "\n") != before {
			t.Fatal("two images share memory")
		}
	}
	_ = append(d.Images, impl.Image{})
	clear(d.Images)
}

// What is handed in stays as it was, what is handed out is new memory, and nothing is kept.
func TestAsksChangeNothing(t *testing.T) {
	busy := dice{state: 224}
	desks := [][]impl.Image{nil, {machineFrom(t, "0/0: const 8, print, return")}, {severalFuncs(), allSorts(), {}, machineFrom(t, "0/1: const 7, put 0, const 8, binary 1 0, print, return"), busy.busyImage(t)}, deskOfSize(t, 20).Images}
	for _, images := range desks {
		for _, a := range someAsks(t) {
			given, toldOfDesk := roomyDesk(images)
			before := toldOfDesk()
			next, first := checkAsk(t, given, a)
			if toldOfDesk() != before {
				t.Fatalf("%+v writes into the desk", a)
			}
			want := copiesOfImages(next.Images)
			checkTextsOfDesk(t, given, a, next, first)
			spoil(t, next)
			if toldOfDesk() != before {
				t.Fatalf("%+v: the desk handed out shares memory with the one handed in", a)
			}
			for _, other := range someAsks(t) {
				impl.DoAsk(given, other)
				impl.RunDesk([]impl.Ask{other, other})
				if again, answer := impl.DoAsk(given, a); answer != first || !sameDesks(again.Images, want) {
					t.Fatalf("%+v is told %q, and then %q", a, first, answer)
				}
			}
		}
	}
}

// checkTextsOfDesk: no text that is handed out lies in the memory of one that is handed in.
func checkTextsOfDesk(t *testing.T, given impl.Desk, a impl.Ask, next impl.Desk, answer string) {
	t.Helper()
	handed := []string{a.Text}
	for _, x := range given.Images {
		for _, c := range x.Consts {
			handed = append(handed, c.Text)
		}
	}
	texts := []string{answer}
	for _, x := range next.Images {
		for _, c := range x.Consts {
			texts = append(texts, c.Text)
		}
	}
	for _, text := range texts {
		for _, other := range handed {
			if within(text, other) {
				t.Fatalf("%+v: the text %q shares memory with one that is handed in", a, text)
			}
		}
	}
}

func TestDesksOfAsksChangeNothing(t *testing.T) {
	asks := someAsks(t)
	whole := append(slices.Clone(asks), impl.Ask{Op: -1, Text: "spare"})
	first, _ := impl.RunDesk(whole[:len(asks)])
	want := slices.Clone(first)
	for i, text := range first {
		for _, a := range asks {
			if within(text, a.Text) {
				t.Errorf("the answer %q shares memory with an ask", text)
			}
		}
		first[i] = "written"
	}
	_ = append(first, "spare")
	if !slices.Equal(whole[:len(asks)], asks) || whole[len(asks)].Text != "spare" {
		t.Error("the asks were written into")
	}
	checkDeskTells(t, asks, want...)
	checkDeskTells(t, asks[3:5], "image 0", "image 1")
}

// Several at once ask the same desk, and desks of their own.
func TestAsksSideBySide(t *testing.T) {
	d, asks := impl.Desk{Images: []impl.Image{machineFrom(t, "0/0: const 8, print, return"), allSorts()}}, someAsks(t)
	want, _ := impl.RunDesk(asks)
	var all sync.WaitGroup
	told := make([][]string, 8)
	for worker := range told {
		all.Go(func() {
			for range 5 {
				told[worker], _ = impl.RunDesk(asks)
				for _, a := range asks {
					_, answer := impl.DoAsk(d, a)
					told[worker] = append(told[worker], answer)
				}
			}
		})
	}
	all.Wait()
	for _, a := range asks {
		_, answer := impl.DoAsk(d, a)
		want = append(want, answer)
	}
	for _, got := range told {
		if !slices.Equal(got, want) {
			t.Errorf("side by side there is %q, want %q", got, want)
		}
	}
}
