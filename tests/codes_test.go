package tests

import (
	"fmt"
	"math"
	"slices"
	"strings"
	"testing"

	"loop.example/g00115/impl"
)

// Promise 13: right images have their sizes.

// asked: a number, and what it may be at least and at most.
type asked struct{ number, least, most int }

// constByRule tells what is right of each kind; NaN is looked for by floats.
func constByRule(c impl.Const) bool {
	noNum, noText := c.Num == 0, c.Text == ""
	justOne := !math.IsNaN(math.Float64frombits(c.Num)) || c.Num == 9221120237041090560
	short := len(c.Text) < 41
	right := map[int]bool{1: justOne && noText, 2: noNum && short, 3: noNum && noText, 4: noNum && noText, 5: noNum && noText}
	return right[c.Kind]
}

// askedOf: all numbers of an image that the chapter bounds.
func askedOf(x impl.Image) []asked {
	all := []asked{{len(x.Funcs), 1, 16}, {len(x.Consts), 0, 40}}
	for i, f := range x.Funcs {
		params, caps := 4, 20
		if i == 0 {
			params, caps = 0, 0
		}
		all = append(all, asked{f.Params, 0, params}, asked{f.Regs, f.Params, 40}, asked{len(f.Caps), 0, caps}, asked{len(f.Code), 1, 300}, asked{len(f.Handlers), 0, 40})
		for _, c := range f.Caps {
			all = append(all, asked{c.Index, 0, 40})
		}
		for _, ins := range f.Code {
			all = append(all, asked{ins.Op, 1, 19}, asked{ins.A, 0, 300}, asked{ins.B, 0, 300})
		}
		for _, h := range f.Handlers {
			all = append(all, asked{h.From, 0, 300}, asked{h.To, 0, 300}, asked{h.Target, 0, 300})
		}
	}
	return all
}

func imageByRule(x impl.Image) bool {
	beyond := func(a asked) bool { return a.number < a.least || a.number > a.most }
	wrong := func(c impl.Const) bool { return !constByRule(c) }
	return !slices.ContainsFunc(askedOf(x), beyond) && !slices.ContainsFunc(x.Consts, wrong)
}

func sizeByRule(x impl.Image) int {
	if !imageByRule(x) {
		return 0
	}
	var all []impl.Ins
	for _, f := range x.Funcs {
		all = slices.Concat(all, f.Code)
	}
	return len(all)
}

func checkConst(t *testing.T, c impl.Const, want bool) {
	t.Helper()
	if got := impl.ConstOk(c); got != want || got != constByRule(c) {
		t.Errorf("ConstOk(%+v) = %v, want %v", c, got, want)
	}
	// An image is as right as its constant, wherever that stands.
	none := impl.Const{Kind: impl.ConstNone}
	for _, consts := range [][]impl.Const{{c}, {c, none}, {none, c}, {none, c, none}} {
		x := smallImage()
		x.Consts = consts
		checkImage(t, x, want)
	}
}

// checkImage holds ImageOk and CodeSize against what is wanted, and that against the rule.
func checkImage(t *testing.T, x impl.Image, want bool) {
	t.Helper()
	if imageByRule(x) != want {
		t.Fatalf("the rule does not say %v of %s", want, toldOfImage(x))
	}
	if got := impl.ImageOk(x); got != want {
		t.Errorf("ImageOk is %v, want %v, of %s", got, want, toldOfImage(x))
	}
	if got, size := impl.CodeSize(x), sizeByRule(x); got != size {
		t.Errorf("CodeSize is %d, want %d, of %s", got, size, toldOfImage(x))
	}
}

// checkSize: the image is right and has so many instructions.
func checkSize(t *testing.T, x impl.Image, size int) {
	t.Helper()
	checkImage(t, x, true)
	if got := impl.CodeSize(x); got != size {
		t.Errorf("CodeSize is %d, want %d, of %s", got, size, toldOfImage(x))
	}
}

// toldOfImage: an image as text, of which but the beginning when it is long.
func toldOfImage(x impl.Image) string {
	told := strings.ToValidUTF8(fmt.Sprintf("%+v", x), "?")
	return told[:min(len(told), 600)]
}

func copyOfImage(x impl.Image) impl.Image {
	x.Consts, x.Funcs = slices.Clone(x.Consts), slices.Clone(x.Funcs)
	for i, f := range x.Funcs {
		f.Caps, f.Code, f.Handlers = slices.Clone(f.Caps), slices.Clone(f.Code), slices.Clone(f.Handlers)
		x.Funcs[i] = f
	}
	return x
}

func changedImage(x impl.Image, change func(x *impl.Image)) impl.Image {
	x = copyOfImage(x)
	change(&x)
	return x
}

// codeOfSize: so many instructions, whose ops and numbers are all there may be, by and by.
func codeOfSize(size int) []impl.Ins {
	var code []impl.Ins
	for i := range size {
		code = append(code, impl.Ins{Op: 1 + i%19, A: i * 7 % 301, B: i * 13 % 301})
	}
	return code
}

func capsOfSize(size int) []impl.Cap {
	var caps []impl.Cap
	for i := range size {
		caps = append(caps, impl.Cap{Reg: i%2 == 0, Index: i * 11 % 41})
	}
	return caps
}

func handlersOfSize(size int) []impl.Handler {
	var handlers []impl.Handler
	for i := range size {
		handlers = append(handlers, impl.Handler{From: i * 17 % 301, To: i * 29 % 301, Target: i * 31 % 301})
	}
	return handlers
}

func constsOfEachKind() []impl.Const {
	return []impl.Const{
		{Kind: impl.ConstNumber, Num: impl.FromInt(12)}, {Kind: impl.ConstText, Text: "a text"}, {Kind: impl.ConstTrue}, {Kind: impl.ConstFalse}, {Kind: impl.ConstNone},
	}
}

func constsOfSize(size int) []impl.Const {
	var consts []impl.Const
	for i := range size {
		consts = append(consts, constsOfEachKind()[i%5])
	}
	return consts
}

// smallImage: one Func of one instruction.
func smallImage() impl.Image {
	return impl.Image{Funcs: []impl.Func{{Code: []impl.Ins{{Op: impl.InsReturn}}}}}
}

// severalFuncs: four Funcs, the first of which has nothing but its code, the last all there is.
func severalFuncs() impl.Image {
	return impl.Image{
		Funcs: []impl.Func{
			{Code: codeOfSize(2)},
			{Params: 2, Regs: 2, Code: codeOfSize(20), Caps: capsOfSize(1)},
			{Params: 0, Regs: 9, Code: codeOfSize(1), Handlers: handlersOfSize(2)},
			{Params: 4, Regs: 7, Code: codeOfSize(5), Caps: capsOfSize(3), Handlers: handlersOfSize(4)},
		},
		Consts: constsOfSize(7),
	}
}

// greatestImage: as much of everything as there may be.
func greatestImage() impl.Image {
	x := impl.Image{Consts: constsOfSize(40)}
	for i := range 16 {
		f := impl.Func{Params: 4, Regs: 40, Caps: capsOfSize(20), Code: codeOfSize(300), Handlers: handlersOfSize(40)}
		if i == 0 {
			f.Params, f.Caps = 0, nil
		}
		x.Funcs = append(x.Funcs, f)
	}
	return x
}

func someImages() []impl.Image {
	return []impl.Image{smallImage(), severalFuncs(), greatestImage()}
}

func TestConstantsOfCode(t *testing.T) {
	got := []int{
		impl.MaxRegs, impl.MaxCode, impl.MaxFuncs, impl.MaxConsts, impl.MaxCaps,
		impl.InsConst, impl.InsGet, impl.InsPut, impl.InsNewCell, impl.InsGetCell, impl.InsPutCell, impl.InsGetCap, impl.InsPutCap, impl.InsBinary, impl.InsNot,
		impl.InsMinus, impl.InsJump, impl.InsIfNot, impl.InsIf, impl.InsFun, impl.InsCall, impl.InsReturn, impl.InsThrow, impl.InsPrint,
		impl.ConstNumber, impl.ConstText, impl.ConstTrue, impl.ConstFalse, impl.ConstNone,
	}
	want := []int{40, 300, 16, 40, 20, 1, 2, 3, 4, 5, 6, 7, 8, 9, 10, 11, 12, 13, 14, 15, 16, 17, 18, 19, 1, 2, 3, 4, 5}
	if !slices.Equal(got, want) {
		t.Errorf("the constants are %v, want %v", got, want)
	}
}

func TestConstsThatAreKnown(t *testing.T) {
	for _, c := range constsOfEachKind() {
		checkConst(t, c, true)
	}
	checkConst(t, impl.Const{Kind: impl.ConstNumber}, true)
	checkConst(t, impl.Const{Kind: impl.ConstText}, true)
	checkConst(t, impl.Const{}, false)
	checkConst(t, impl.Const{Kind: impl.ConstTrue, Num: 1}, false)
	checkConst(t, impl.Const{Kind: impl.ConstNumber, Num: 1, Text: "1"}, false)
	checkConst(t, impl.Const{Kind: impl.ConstText, Num: 1, Text: "1"}, false)
}

func TestKindsOfConstsThatAreNone(t *testing.T) {
	kinds := []int{-1, -2, -5, 0, 6, 7, 100, 255, 256, 257, 1<<16 + 2, 1<<32 + 3, -1<<32 + 4, 1<<62 + 5, math.MinInt, math.MinInt + 1, math.MaxInt, math.MaxInt - 1}
	for _, kind := range kinds {
		checkConst(t, impl.Const{Kind: kind}, false)
		checkConst(t, impl.Const{Kind: kind, Num: 1}, false)
		checkConst(t, impl.Const{Kind: kind, Text: "a"}, false)
	}
	for kind := -300; kind <= 300; kind++ {
		checkConst(t, impl.Const{Kind: kind}, 1 <= kind && kind <= 5)
	}
}

func TestNumbersOfConsts(t *testing.T) {
	right := []uint64{
		0, signOfNumber, 1, signOfNumber + 1, leastWithE1, greatestFinite, signOfNumber + greatestFinite, impl.Infinite, signOfNumber + impl.Infinite, impl.NaN,
	}
	wrong := []uint64{
		impl.NaN + 1, impl.NaN - 1, impl.Infinite + 1, signOfNumber + impl.NaN, signOfNumber + impl.NaN + 1, signOfNumber + impl.NaN - 1, signOfNumber + impl.Infinite + 1,
		signOfNumber - 1, math.MaxUint64,
	}
	for _, num := range right {
		checkConst(t, impl.Const{Kind: impl.ConstNumber, Num: num}, true)
		checkConst(t, impl.Const{Kind: impl.ConstNumber, Num: num, Text: "1"}, false)
	}
	for _, num := range wrong {
		checkConst(t, impl.Const{Kind: impl.ConstNumber, Num: num}, false)
	}
	for _, num := range slices.Concat(numbersOfEachKind(), numbersBySteps(5000)) {
		checkConst(t, impl.Const{Kind: impl.ConstNumber, Num: num}, num == impl.NaN || !math.IsNaN(math.Float64frombits(num)))
	}
}

// A constant that has no number has 0, in every bit.
func TestConstsWithNumbersTheyHaveNot(t *testing.T) {
	nums := slices.Concat([]uint64{2, 3, math.MaxUint64, impl.NaN, impl.FromInt(1), impl.FromInt(-1)}, bothInfinite())
	for bit := range 64 {
		nums = append(nums, 1<<bit)
	}
	for _, c := range constsOfEachKind()[1:] {
		for _, num := range nums {
			c.Num = num
			checkConst(t, c, false)
		}
	}
	checkConst(t, impl.Const{Kind: impl.ConstText, Num: signOfNumber}, false)
}

func TestTextsOfConsts(t *testing.T) {
	for size := range 100 {
		checkConst(t, impl.Const{Kind: impl.ConstText, Text: strings.Repeat("x", size)}, size <= 40)
		checkConst(t, impl.Const{Kind: impl.ConstText, Text: strings.Repeat("\x00", size)}, size <= 40)
	}
	for _, size := range []int{255, 256, 257, 296, 1000, 65536, 65576, 1 << 20} {
		checkConst(t, impl.Const{Kind: impl.ConstText, Text: strings.Repeat("x", size)}, false)
	}
	// Its bytes are counted, and may be any.
	for n := range 256 {
		one := string([]byte{byte(n)})
		for _, size := range []int{1, 39, 40, 41} {
			checkConst(t, impl.Const{Kind: impl.ConstText, Text: strings.Repeat(one, size)}, size <= 40)
		}
	}
	for _, runes := range []string{"é", "→", "𝄞"} {
		most := 40 / len(runes)
		checkConst(t, impl.Const{Kind: impl.ConstText, Text: strings.Repeat(runes, most)}, true)
		checkConst(t, impl.Const{Kind: impl.ConstText, Text: strings.Repeat(runes, most+1)}, false)
		checkConst(t, impl.Const{Kind: impl.ConstText, Text: strings.Repeat(runes, 40)}, false)
	}
}

func TestConstsWithTextsTheyHaveNot(t *testing.T) {
	texts := []string{"a", " ", "\x00", "0", "none", "true", "\xff", strings.Repeat("x", 40), strings.Repeat("x", 41)}
	for _, kind := range []int{impl.ConstNumber, impl.ConstTrue, impl.ConstFalse, impl.ConstNone} {
		for _, text := range texts {
			checkConst(t, impl.Const{Kind: kind, Text: text}, false)
		}
	}
}

func TestSizesThatAreKnown(t *testing.T) {
	checkSize(t, smallImage(), 1)
	checkSize(t, severalFuncs(), 28)
	checkSize(t, greatestImage(), 4800)
	for size := 1; size <= 300; size++ {
		checkSize(t, impl.Image{Funcs: []impl.Func{{Code: codeOfSize(size)}}}, size)
	}
	x := impl.Image{}
	for count := 1; count <= 16; count++ {
		x.Funcs = append(x.Funcs, impl.Func{Code: codeOfSize(count * count)})
		checkSize(t, x, count*(count+1)*(2*count+1)/6)
	}
}

// Each list may be there, or not, beside each other one; nil and an empty one are the same.
func TestImagesWithAndWithoutLists(t *testing.T) {
	for _, empty := range []bool{false, true} {
		none := impl.Func{Code: codeOfSize(3)}
		x := impl.Image{Funcs: []impl.Func{{Code: codeOfSize(2)}}}
		if empty {
			none.Caps, none.Handlers, x.Consts = []impl.Cap{}, []impl.Handler{}, []impl.Const{}
			x.Funcs[0].Caps, x.Funcs[0].Handlers = []impl.Cap{}, []impl.Handler{}
		}
		for lists := range 16 {
			y, f := copyOfImage(x), none
			if lists&1 > 0 {
				f.Caps = capsOfSize(2)
			}
			if lists&2 > 0 {
				f.Handlers = handlersOfSize(2)
			}
			if lists&4 > 0 {
				y.Consts = constsOfSize(2)
			}
			if lists&8 > 0 {
				y.Funcs[0].Handlers = handlersOfSize(3)
			}
			checkSize(t, y, 2)
			y.Funcs = append(y.Funcs, f)
			checkSize(t, y, 5)
			y.Funcs = append(y.Funcs, none, f)
			checkSize(t, y, 11)
		}
	}
}

func TestImagesOfNothing(t *testing.T) {
	checkImage(t, impl.Image{}, false)
	checkImage(t, impl.Image{Funcs: []impl.Func{}, Consts: []impl.Const{}}, false)
	checkImage(t, impl.Image{Consts: constsOfSize(5)}, false)
	checkImage(t, impl.Image{Funcs: []impl.Func{{}}}, false)
	checkImage(t, impl.Image{Funcs: []impl.Func{{Regs: 3, Code: []impl.Ins{}}}, Consts: constsOfSize(5)}, false)
	checkImage(t, impl.Image{Funcs: []impl.Func{{Code: []impl.Ins{{}}}}}, false)
	for _, x := range someImages() {
		checkImage(t, changedImage(x, func(x *impl.Image) { x.Funcs = nil }), false)
		for i := range x.Funcs {
			checkImage(t, changedImage(x, func(x *impl.Image) { x.Funcs[i] = impl.Func{} }), false)
		}
		if len(x.Funcs) < 16 {
			checkImage(t, changedImage(x, func(x *impl.Image) { x.Funcs = append(x.Funcs, impl.Func{}) }), false)
		}
	}
}

// knob: a number of an image, how it is set, and its bounds.
type knob struct {
	name        string
	least, most int
	set         func(x *impl.Image, n int)
}

// edges: the bounds met, and passed by one.
func (k knob) edges() []int { return []int{k.least - 1, k.least, k.most, k.most + 1} }

// values: numbers at the bounds, just beyond them, between and far away, among them such as are within when bits are lost.
func (k knob) values() []int {
	ns := []int{math.MinInt, math.MinInt + 1, math.MaxInt - 1, math.MaxInt, -1 << 32, 1 << 32, 1 << 31, -1 << 31, -256, -1}
	for _, at := range []int{k.least, k.most, (k.least + k.most) / 2} {
		for _, far := range []int{0, 256, 1 << 16, 1 << 32, 1 << 62, -256, -1 << 32} {
			ns = append(ns, at+far-1, at+far, at+far+1)
		}
		ns = append(ns, -at)
	}
	return ns
}

// checkKnob: the image is right just where the number is within its bounds.
func checkKnob(t *testing.T, x impl.Image, k knob, values []int) {
	t.Helper()
	for _, n := range values {
		checkImage(t, changedImage(x, func(x *impl.Image) { k.set(x, n) }), k.least <= n && n <= k.most)
		if t.Failed() {
			t.Fatalf("%s is %d", k.name, n)
		}
	}
}

// knobsOfIns: the numbers of one instruction.
func knobsOfIns(fun int, at int) []knob {
	ins := func(x *impl.Image) *impl.Ins { return &x.Funcs[fun].Code[at] }
	return []knob{
		{"Op", 1, 19, func(x *impl.Image, n int) { ins(x).Op = n }},
		{"A", 0, 300, func(x *impl.Image, n int) { ins(x).A = n }},
		{"B", 0, 300, func(x *impl.Image, n int) { ins(x).B = n }},
	}
}

func knobsOfHandler(fun int, at int) []knob {
	handler := func(x *impl.Image) *impl.Handler { return &x.Funcs[fun].Handlers[at] }
	return []knob{
		{"From", 0, 300, func(x *impl.Image, n int) { handler(x).From = n }},
		{"To", 0, 300, func(x *impl.Image, n int) { handler(x).To = n }},
		{"Target", 0, 300, func(x *impl.Image, n int) { handler(x).Target = n }},
	}
}

func knobOfCap(fun int, at int) knob {
	return knob{"Index", 0, 40, func(x *impl.Image, n int) { x.Funcs[fun].Caps[at].Index = n }}
}

// knobsOfFunc: the numbers of a Func itself. Its Regs are enough for any Params while these are set.
func knobsOfFunc(x impl.Image, fun int) []knob {
	mostParams := 4
	if fun == 0 {
		mostParams = 0
	}
	return []knob{
		{"Params", 0, mostParams, func(x *impl.Image, n int) { x.Funcs[fun].Params, x.Funcs[fun].Regs = n, 40 }},
		{"Regs", x.Funcs[fun].Params, 40, func(x *impl.Image, n int) { x.Funcs[fun].Regs = n }},
	}
}

// someOf: the first places of a list, one in the middle and the last ones.
func someOf(size int) []int {
	var places []int
	for _, at := range []int{0, 1, size / 2, size - 2, size - 1} {
		if 0 <= at && at < size && !slices.Contains(places, at) {
			places = append(places, at)
		}
	}
	return places
}

func knobsOf(x impl.Image) []knob {
	var knobs []knob
	for _, fun := range someOf(len(x.Funcs)) {
		f := x.Funcs[fun]
		knobs = append(knobs, knobsOfFunc(x, fun)...)
		for _, at := range someOf(len(f.Caps)) {
			knobs = append(knobs, knobOfCap(fun, at))
		}
		for _, at := range someOf(len(f.Code)) {
			knobs = append(knobs, knobsOfIns(fun, at)...)
		}
		for _, at := range someOf(len(f.Handlers)) {
			knobs = append(knobs, knobsOfHandler(fun, at)...)
		}
	}
	return knobs
}

func TestBoundsOfNumbersInImages(t *testing.T) {
	for _, x := range []impl.Image{smallImage(), severalFuncs()} {
		for _, k := range knobsOf(x) {
			checkKnob(t, x, k, k.values())
		}
	}
	greatest := greatestImage()
	for _, k := range knobsOf(greatest) {
		checkKnob(t, greatest, k, k.edges())
	}
}

// All numbers of a kind at their least, and at their most, at once.
func TestImagesAtTheirBounds(t *testing.T) {
	for _, x := range someImages() {
		least, most := copyOfImage(x), copyOfImage(x)
		for _, k := range knobsOf(x) {
			k.set(&least, k.least)
			k.set(&most, k.most)
		}
		checkImage(t, least, true)
		checkImage(t, most, true)
	}
}

func TestNumbersOfEveryInstruction(t *testing.T) {
	for op := -30; op <= 350; op++ {
		for _, n := range []int{-1, 0, 1, 299, 300, 301} {
			right := 1 <= op && op <= 19 && 0 <= n && n <= 300
			x := smallImage()
			x.Funcs[0].Code = []impl.Ins{{Op: op, A: n}}
			checkImage(t, x, right)
			x.Funcs[0].Code = []impl.Ins{{Op: op, B: n}}
			checkImage(t, x, right)
			x.Funcs[0].Code = []impl.Ins{{Op: op, A: n, B: n}}
			checkImage(t, x, right)
		}
	}
}

// Two numbers beyond their bounds on both sides do not make up for each other.
func TestNumbersBeyondOnBothSides(t *testing.T) {
	for _, one := range [][3]int{{-1, 301, 150}, {301, -1, 150}, {150, -1, 301}, {-1, -1, -1}, {301, 301, 301}, {-300, 300, 300}} {
		x := severalFuncs()
		x.Funcs[3].Handlers[1] = impl.Handler{From: one[0], To: one[1], Target: one[2]}
		checkImage(t, x, false)
	}
	for _, one := range [][3]int{{5, -1, 301}, {5, 301, -1}, {0, 1, 1}, {20, -1, 0}, {0, 300, 300}, {20, 0, 0}} {
		x := severalFuncs()
		x.Funcs[3].Code[1] = impl.Ins{Op: one[0], A: one[1], B: one[2]}
		checkImage(t, x, false)
	}
}

func TestRegsAreAtLeastParams(t *testing.T) {
	for params := -3; params <= 8; params++ {
		for regs := -5; regs <= 45; regs++ {
			x := severalFuncs()
			x.Funcs[2].Params, x.Funcs[2].Regs = params, regs
			checkImage(t, x, 0 <= params && params <= 4 && params <= regs && regs <= 40)
			y := smallImage()
			y.Funcs[0].Params, y.Funcs[0].Regs = params, regs
			checkImage(t, y, params == 0 && 0 <= regs && regs <= 40)
		}
	}
	for _, far := range []int{math.MinInt, math.MaxInt, 41, 40} {
		x := severalFuncs()
		x.Funcs[3].Params, x.Funcs[3].Regs = far, far
		checkImage(t, x, false)
	}
}

// Every part may be at its bound, and passes it by one, while all the others are within.
func TestCountsInImages(t *testing.T) {
	for count := range 60 {
		x := impl.Image{Consts: constsOfSize(3)}
		for range count {
			x.Funcs = append(x.Funcs, impl.Func{Code: codeOfSize(2)})
		}
		checkImage(t, x, 1 <= count && count <= 16)
		for _, x := range []impl.Image{smallImage(), severalFuncs()} {
			last := len(x.Funcs) - 1
			checkImage(t, changedImage(x, func(x *impl.Image) { x.Consts = constsOfSize(count) }), count <= 40)
			checkImage(t, changedImage(x, func(x *impl.Image) { x.Funcs[0].Handlers = handlersOfSize(count) }), count <= 40)
			checkImage(t, changedImage(x, func(x *impl.Image) { x.Funcs[last].Handlers = handlersOfSize(count) }), count <= 40)
			checkImage(t, changedImage(x, func(x *impl.Image) { x.Funcs[last].Caps = capsOfSize(count) }), count == 0 || last > 0 && count <= 20)
		}
	}
	for _, x := range []impl.Image{smallImage(), severalFuncs()} {
		for fun := range x.Funcs {
			for _, count := range []int{0, 1, 2, 255, 256, 299, 300, 301, 302, 512, 556, 1000, 1 << 16, 1<<16 + 1} {
				checkImage(t, changedImage(x, func(x *impl.Image) { x.Funcs[fun].Code = codeOfSize(count) }), 1 <= count && count <= 300)
			}
		}
	}
	for _, count := range []int{256, 257, 272, 1 << 16, 1<<16 + 1} {
		x := severalFuncs()
		x.Consts = constsOfSize(count)
		checkImage(t, x, false)
		y := severalFuncs()
		y.Funcs[3].Caps = capsOfSize(count)
		checkImage(t, y, false)
		z := severalFuncs()
		z.Funcs[3].Handlers = handlersOfSize(count)
		checkImage(t, z, false)
		checkImage(t, impl.Image{Funcs: slices.Repeat(smallImage().Funcs, count)}, false)
	}
}

// One more of anything than the greatest image has, anywhere, is too much.
func TestOneMoreThanTheGreatestImage(t *testing.T) {
	x := greatestImage()
	checkSize(t, x, 4800)
	checkImage(t, changedImage(x, func(x *impl.Image) { x.Funcs = append(x.Funcs, impl.Func{Code: codeOfSize(1)}) }), false)
	checkImage(t, changedImage(x, func(x *impl.Image) { x.Consts = append(x.Consts, impl.Const{Kind: impl.ConstNone}) }), false)
	for fun := range x.Funcs {
		checkImage(t, changedImage(x, func(x *impl.Image) { x.Funcs[fun].Code = codeOfSize(301) }), false)
		checkImage(t, changedImage(x, func(x *impl.Image) { x.Funcs[fun].Handlers = handlersOfSize(41) }), false)
		checkImage(t, changedImage(x, func(x *impl.Image) { x.Funcs[fun].Caps = capsOfSize(21) }), false)
		checkImage(t, changedImage(x, func(x *impl.Image) { x.Funcs[fun].Regs = 41 }), false)
		checkImage(t, changedImage(x, func(x *impl.Image) { x.Funcs[fun].Params = 5 }), false)
		checkSize(t, changedImage(x, func(x *impl.Image) { x.Funcs[fun].Code = codeOfSize(1) }), 4501)
		checkSize(t, changedImage(x, func(x *impl.Image) { x.Funcs[fun].Handlers = handlersOfSize(39) }), 4800)
	}
}

// The first Func has neither Params nor Caps, any other one may have them.
func TestFirstFunc(t *testing.T) {
	for params := range 5 {
		for caps := range 21 {
			one := impl.Func{Params: params, Regs: params + 1, Caps: capsOfSize(caps), Code: codeOfSize(2)}
			alone := params == 0 && caps == 0
			checkImage(t, impl.Image{Funcs: []impl.Func{one}}, alone)
			checkImage(t, impl.Image{Funcs: []impl.Func{one, smallImage().Funcs[0]}}, alone)
			checkImage(t, impl.Image{Funcs: []impl.Func{one, one}}, alone)
			checkSize(t, impl.Image{Funcs: []impl.Func{smallImage().Funcs[0], one}}, 3)
			checkSize(t, impl.Image{Funcs: []impl.Func{smallImage().Funcs[0], one, smallImage().Funcs[0], one}}, 6)
		}
	}
	// Registers and handlers of its own it may have.
	x := severalFuncs()
	x.Funcs[0].Regs, x.Funcs[0].Handlers = 40, handlersOfSize(40)
	checkSize(t, x, 28)
	x.Funcs[0], x.Funcs[3] = x.Funcs[3], x.Funcs[0]
	checkImage(t, x, false)
}

// What only the verifier asks for counts for nothing here.
func TestImagesThatAreRightButUnsound(t *testing.T) {
	one := func(change func(f *impl.Func)) impl.Image {
		return changedImage(severalFuncs(), func(x *impl.Image) { change(&x.Funcs[1]) })
	}
	images := []impl.Image{
		one(func(f *impl.Func) { f.Code[0] = impl.Ins{Op: impl.InsJump, A: 300} }),
		one(func(f *impl.Func) { f.Code[0] = impl.Ins{Op: impl.InsConst, A: 299} }),
		one(func(f *impl.Func) { f.Code[0] = impl.Ins{Op: impl.InsBinary, A: 12, B: 300} }),
		one(func(f *impl.Func) { f.Code[0] = impl.Ins{Op: impl.InsNot, A: 300, B: 300} }),
		one(func(f *impl.Func) { f.Code[0] = impl.Ins{Op: impl.InsFun, A: 0, B: 300} }),
		one(func(f *impl.Func) { f.Code[0] = impl.Ins{Op: impl.InsCall, A: 300, B: 300} }),
		one(func(f *impl.Func) { f.Code = f.Code[:1:1] }),
		one(func(f *impl.Func) { f.Handlers = []impl.Handler{{From: 300, To: 0, Target: 300}} }),
		one(func(f *impl.Func) {
			f.Handlers = []impl.Handler{{From: 5, To: 5, Target: 5}, {From: 5, To: 5, Target: 5}}
		}),
		one(func(f *impl.Func) { f.Caps = []impl.Cap{{Reg: true, Index: 40}, {Reg: false, Index: 40}} }),
		one(func(f *impl.Func) { f.Caps = []impl.Cap{{Reg: true}, {Reg: true}, {Reg: false}} }),
		one(func(f *impl.Func) { f.Params, f.Regs = 0, 0 }),
		changedImage(severalFuncs(), func(x *impl.Image) { x.Consts = nil }),
		changedImage(severalFuncs(), func(x *impl.Image) { x.Consts = slices.Repeat(x.Consts[:1], 40) }),
	}
	for i, x := range images {
		if checkImage(t, x, true); i != 6 {
			checkSize(t, x, 28)
		}
	}
	checkSize(t, images[6], 9)
}

// spoilersOf: all that spoils just one part of an image, in whatever place.
func spoilersOf(x impl.Image) []func(x *impl.Image) {
	var spoilers []func(x *impl.Image)
	for at := range x.Consts {
		spoilers = append(spoilers, func(x *impl.Image) { x.Consts[at].Kind = 6 - 6*(at%2) })
	}
	for fun, f := range x.Funcs {
		for at := range f.Caps {
			spoilers = append(spoilers, func(x *impl.Image) { x.Funcs[fun].Caps[at].Index = 42*(at%2) - 1 })
		}
		for at := range f.Code {
			k := knobsOfIns(fun, at)[(at+at/3)%3]
			spoilers = append(spoilers, func(x *impl.Image) { k.set(x, []int{k.least - 1, k.most + 1}[at%2]) })
		}
		for at := range f.Handlers {
			k := knobsOfHandler(fun, at)[(at+at/3)%3]
			spoilers = append(spoilers, func(x *impl.Image) { k.set(x, []int{k.least - 1, k.most + 1}[at%2]) })
		}
	}
	return spoilers
}

func TestOneSpoiledPartOfAnImage(t *testing.T) {
	for _, x := range someImages() {
		for i, spoil := range spoilersOf(x) {
			y := changedImage(x, spoil)
			if impl.ImageOk(y) || impl.CodeSize(y) != 0 {
				t.Fatalf("with part %d spoiled the image is right, or has a size of %d", i, impl.CodeSize(y))
			}
		}
	}
}

// Of an image only the last of its parts is not right.
func TestLastPartsOfImages(t *testing.T) {
	for _, x := range []impl.Image{severalFuncs(), greatestImage()} {
		last, consts := len(x.Funcs)-1, len(x.Consts)-1
		f := x.Funcs[last]
		knobs := slices.Concat(knobsOfFunc(x, last), knobsOfIns(last, len(f.Code)-1), knobsOfHandler(last, len(f.Handlers)-1), []knob{knobOfCap(last, len(f.Caps)-1)})
		for _, k := range knobs {
			for _, n := range []int{k.least - 1, k.most + 1} {
				y := changedImage(x, func(x *impl.Image) { k.set(x, n) })
				checkImage(t, y, false)
				if impl.CodeSize(y) != 0 {
					t.Errorf("with %s %d the size is not 0", k.name, n)
				}
			}
		}
		wrong := []impl.Const{{}, {Kind: 6}, {Kind: impl.ConstNone, Num: 1}, {Kind: impl.ConstFalse, Text: "a"}, {Kind: impl.ConstNumber, Num: impl.NaN + 1}, {Kind: impl.ConstText, Text: strings.Repeat("x", 41)}}
		for _, c := range wrong {
			checkImage(t, changedImage(x, func(x *impl.Image) { x.Consts[consts] = c }), false)
		}
	}
}

// dice gives numbers by steps.
type dice struct{ state uint64 }

func (d *dice) below(n int) int {
	d.state = d.state*6364136223846793005 + 1442695040888963407
	return int(d.state >> 33 % uint64(n))
}

// near: mostly a number within bounds, their ends often among them; one time out of `rare` one that is beyond.
func (d *dice) near(least int, most int, rare int) int {
	switch {
	case d.below(rare) == 0:
		return []int{least - 1, most + 1, least - 100, most + 100}[d.below(4)]
	case d.below(3) == 0:
		return []int{least, most}[d.below(2)]
	}
	return least + d.below(most-least+1)
}

func (d *dice) constant(rare int) impl.Const {
	c := constsOfEachKind()[d.below(5)]
	if d.below(rare) > 0 {
		return c
	}
	return []impl.Const{{Kind: d.below(9) - 1, Num: uint64(d.below(2)), Text: "aa"[:d.below(3)]}, {Kind: impl.ConstNumber, Num: impl.NaN + uint64(d.below(2))}}[d.below(2)]
}

func (d *dice) function(first bool, rare int) impl.Func {
	f := impl.Func{Params: d.near(0, 4, rare)}
	f.Regs = d.near(f.Params, 40, rare)
	caps := d.below(5)
	if first && d.below(rare) > 0 {
		f.Params, caps = 0, 0
	}
	for range caps {
		f.Caps = append(f.Caps, impl.Cap{Reg: d.below(2) == 0, Index: d.near(0, 40, rare)})
	}
	for range d.near(1, 12, rare) {
		f.Code = append(f.Code, impl.Ins{Op: d.near(1, 19, rare), A: d.near(0, 300, rare), B: d.near(0, 300, rare)})
	}
	for range d.below(4) {
		f.Handlers = append(f.Handlers, impl.Handler{From: d.near(0, 300, rare), To: d.near(0, 300, rare), Target: d.near(0, 300, rare)})
	}
	return f
}

func (d *dice) image(rare int) impl.Image {
	x := impl.Image{}
	for i := range max(d.near(1, 16, rare), 0) {
		x.Funcs = append(x.Funcs, d.function(i == 0, rare))
	}
	for range max(d.near(0, 40, rare), 0) {
		x.Consts = append(x.Consts, d.constant(rare))
	}
	return x
}

func TestImagesBySteps(t *testing.T) {
	right := 0
	const count = 6000
	for seed := range count {
		d := dice{state: uint64(seed) * 2654435761}
		x := d.image(50 << (seed % 8))
		want := imageByRule(x)
		checkImage(t, x, want)
		if want {
			right++
		}
	}
	if right < count/10 || right > count*9/10 {
		t.Errorf("of %d images %d are right", count, right)
	}
}

// roomyImage: a copy of the image with spare room behind each of its lists, filled; and what tells whether any of it was written into.
func roomyImage(x impl.Image) (impl.Image, func() string) {
	whole := copyOfImage(x)
	whole.Consts = append(whole.Consts, impl.Const{Kind: -1, Text: "spare"})
	whole.Funcs = append(whole.Funcs, impl.Func{Params: -2})
	var caps [][]impl.Cap
	var code [][]impl.Ins
	var handlers [][]impl.Handler
	for i := range x.Funcs {
		f := &whole.Funcs[i]
		f.Caps, f.Code, f.Handlers = append(f.Caps, impl.Cap{Index: -3}), append(f.Code, impl.Ins{Op: -4}), append(f.Handlers, impl.Handler{From: -5})
		caps, code, handlers = append(caps, f.Caps), append(code, f.Code), append(handlers, f.Handlers)
		f.Caps, f.Code, f.Handlers = f.Caps[:len(f.Caps)-1], f.Code[:len(f.Code)-1], f.Handlers[:len(f.Handlers)-1]
	}
	given := impl.Image{Funcs: whole.Funcs[:len(x.Funcs)], Consts: whole.Consts[:len(x.Consts)]}
	return given, func() string { return fmt.Sprintf("%+v %+v %+v %+v", whole, caps, code, handlers) }
}

func TestImagesAreNotChanged(t *testing.T) {
	images := append(someImages(), impl.Image{})
	for _, x := range []impl.Image{smallImage(), severalFuncs()} {
		for _, spoil := range spoilersOf(x) {
			images = append(images, changedImage(x, spoil))
		}
	}
	for _, x := range images {
		given, told := roomyImage(x)
		before := told()
		ok, size := impl.ImageOk(given), impl.CodeSize(given)
		if told() != before {
			t.Fatalf("%s was written into", toldOfImage(x))
		}
		if impl.CodeSize(greatestImage()) != 4800 || impl.ImageOk(impl.Image{}) {
			t.Fatal("something was kept")
		}
		if impl.ImageOk(given) != ok || impl.CodeSize(given) != size || ok != imageByRule(given) || size != sizeByRule(given) {
			t.Fatalf("%s: the second answer is another one", toldOfImage(x))
		}
	}
}
