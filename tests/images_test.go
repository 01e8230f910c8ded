package tests

import (
	"encoding/binary"
	"fmt"
	"math"
	"slices"
	"strings"
	"testing"

	"loop.example/g00115/impl"
)

// Promise 15: images come back from their bytes, which are one for each; a byte turned is refused.

// checkImageText holds ImageText against the rule, and what is read of its bytes against the image.
func checkImageText(t *testing.T, x impl.Image) (string, bool) {
	t.Helper()
	got, ok := impl.ImageText(x)
	want, right := imageTextByRule(x)
	if ok != right || got != want {
		t.Fatalf("ImageText is %q, %v, want %q, %v, of %s", got, ok, want, right, toldOfImage(x))
	}
	if !ok {
		return got, ok
	}
	back, ok := impl.ReadImage(got)
	if !ok || !sameImages(back, x) {
		t.Fatalf("ReadImage is %v and %s, want %s", ok, toldOfImage(back), toldOfImage(x))
	}
	if again, ok := impl.ImageText(back); !ok || again != got {
		t.Fatalf("what is read has other bytes: %q, %v, want %q", again, ok, got)
	}
	return got, ok
}

// imageTextOf: the bytes of an image that is right and not too long.
func imageTextOf(t *testing.T, x impl.Image) string {
	t.Helper()
	text, ok := checkImageText(t, x)
	if !ok {
		t.Fatalf("ImageText is false, of %s", toldOfImage(x))
	}
	return text
}

func checkNoImageText(t *testing.T, x impl.Image) {
	t.Helper()
	if text, ok := checkImageText(t, x); ok || text != "" {
		t.Fatalf("ImageText is %q, %v, of %s", text, ok, toldOfImage(x))
	}
}

// checkReadImage holds ReadImage against the rule, and the bytes of what it reads against those it was given.
func checkReadImage(t *testing.T, text string) bool {
	t.Helper()
	x, ok := impl.ReadImage(text)
	want, right := readImageByRule(text)
	if ok != right || !sameImages(x, want) {
		t.Fatalf("ReadImage of %q is %v and %s, want %v and %s", text, ok, toldOfImage(x), right, toldOfImage(want))
	}
	if again, told := impl.ImageText(x); ok && (!told || again != text) {
		t.Fatalf("of %q an image is read whose bytes are %q, %v", text, again, told)
	}
	return ok
}

// refusesToRead: false, and nothing.
func refusesToRead(t *testing.T, why string, text string) {
	t.Helper()
	if x, ok := impl.ReadImage(text); ok || len(x.Funcs) > 0 || len(x.Consts) > 0 {
		t.Fatalf("%s: ReadImage of %q is %v and %s", why, text, ok, toldOfImage(x))
	}
	checkReadImage(t, text)
}

// bytesOf: numbers as a byte each, and texts as they are.
func bytesOf(parts ...any) string {
	var out []byte
	for _, part := range parts {
		switch one := part.(type) {
		case int:
			out = append(out, byte(one))
		case string:
			out = append(out, one...)
		}
	}
	return string(out)
}

// checkBytes: whether these are the bytes of an image, ahead of its seal.
func checkBytes(t *testing.T, x impl.Image, parts ...any) {
	t.Helper()
	inner := bytesOf(parts...)
	if got, want := imageTextOf(t, x), inner+fourBytes(sumByRule(4294967295, inner)); got != want {
		t.Errorf("the bytes are %v, want %v", []byte(got), []byte(want))
	}
}

// allSorts: constants of each Kind, Funcs with and without anything, Caps of both sorts, Handlers, and numbers of one byte and of two.
func allSorts() impl.Image {
	return impl.Image{
		Consts: []impl.Const{
			{Kind: impl.ConstNone}, {Kind: impl.ConstNumber, Num: impl.FromInt(12)}, {Kind: impl.ConstText, Text: "a text"}, {Kind: impl.ConstFalse}, {Kind: impl.ConstTrue}, {Kind: impl.ConstText},
		},
		Funcs: []impl.Func{
			{Regs: 3, Code: []impl.Ins{{Op: impl.InsConst, A: 2}, {Op: impl.InsReturn}}},
			{
				Params: 2, Regs: 40, Caps: []impl.Cap{{Reg: true, Index: 7}, {Index: 40}, {Reg: true}},
				Code:     []impl.Ins{{Op: impl.InsBinary, A: 11, B: 127}, {Op: impl.InsJump, A: 128}, {Op: impl.InsPrint, A: 300, B: 255}},
				Handlers: []impl.Handler{{From: 1, To: 2, Target: 3}, {From: 299, To: 0, Target: 130}},
			},
			{Params: 4, Regs: 4, Caps: []impl.Cap{{}}, Code: []impl.Ins{{Op: impl.InsThrow}}},
		},
	}
}

func TestBytesThatAreKnown(t *testing.T) {
	checkBytes(t, smallImage(), "SC1", 0, 1, 0, 0, 0, 1, 17, 0, 0, 0)
	checkBytes(t, allSorts(),
		"SC1",
		6, 5, 1, 0x40, 0x28, 0, 0, 0, 0, 0, 0, 2, 6, "a text", 4, 3, 2, 0,
		3,
		0, 3, 0, 2, 1, 2, 0, 17, 0, 0, 0,
		2, 40, 3, 1, 7, 0, 40, 1, 0, 3, 9, 11, 127, 12, 0x80, 1, 0, 19, 0xac, 2, 0xff, 1, 2, 1, 2, 3, 0xab, 2, 0, 0x82, 1,
		4, 4, 1, 0, 0, 1, 18, 0, 0, 0,
	)
	checkBytes(t, compiled(t, parsedTree(t, "let a = 1; print a + 2;")),
		"SC1", 3, 1, 0x3f, 0xf0, 0, 0, 0, 0, 0, 0, 1, 0x40, 0, 0, 0, 0, 0, 0, 0, 5, 1,
		0, 2, 0, 9, 1, 0, 0, 3, 0, 0, 2, 0, 0, 3, 1, 0, 1, 1, 0, 9, 1, 1, 19, 0, 0, 1, 2, 0, 17, 0, 0, 0)
	checkBytes(t, compiled(t, parsedTree(t, `let a="b";(fun(c){try{}catch e{(fun(){a;c;});}});`)),
		"SC1", 2, 2, 1, "b", 5, 3,
		0, 1, 0, 5, 1, 0, 0, 4, 0, 0, 15, 1, 0, 1, 1, 0, 17, 0, 0, 0,
		1, 2, 1, 1, 0, 7, 2, 0, 0, 4, 0, 0, 12, 5, 0, 3, 1, 0, 15, 2, 0, 1, 1, 0, 17, 0, 0, 1, 2, 2, 3,
		0, 0, 2, 0, 0, 1, 0, 4, 7, 0, 0, 7, 1, 0, 1, 1, 0, 17, 0, 0, 0)
}

// The sum stands behind, its highest byte first.
func TestSealsOfImages(t *testing.T) {
	for _, c := range []struct {
		x    impl.Image
		seal string
	}{
		{smallImage(), "\x0aBn\x00"}, {allSorts(), "\xfc\xc3\xae\xb8"}, {compiled(t, parsedTree(t, "")), "q$\xfb\x1a"},
	} {
		if text := imageTextOf(t, c.x); text[len(text)-4:] != c.seal {
			t.Errorf("the seal is %q, want %q", text[len(text)-4:], c.seal)
		}
	}
}

func TestConstsComeBack(t *testing.T) {
	ahead, behind := []any{"SC1", 1}, []any{1, 0, 0, 0, 1, 17, 0, 0, 0}
	check := func(c impl.Const, parts ...any) {
		t.Helper()
		x := smallImage()
		x.Consts = []impl.Const{c}
		checkBytes(t, x, slices.Concat(ahead, parts, behind)...)
	}
	check(impl.Const{Kind: impl.ConstNumber}, 1, 0, 0, 0, 0, 0, 0, 0, 0)
	check(impl.Const{Kind: impl.ConstNumber, Num: 0x0102030405060708}, 1, 1, 2, 3, 4, 5, 6, 7, 8)
	check(impl.Const{Kind: impl.ConstNumber, Num: 0xfedcba9876543210}, 1, 0xfe, 0xdc, 0xba, 0x98, 0x76, 0x54, 0x32, 0x10)
	check(impl.Const{Kind: impl.ConstNumber, Num: impl.NaN}, 1, 0x7f, 0xf8, 0, 0, 0, 0, 0, 0)
	check(impl.Const{Kind: impl.ConstNumber, Num: impl.Infinite}, 1, 0x7f, 0xf0, 0, 0, 0, 0, 0, 0)
	check(impl.Const{Kind: impl.ConstNumber, Num: signOfNumber}, 1, 0x80, 0, 0, 0, 0, 0, 0, 0)
	check(impl.Const{Kind: impl.ConstText}, 2, 0)
	check(impl.Const{Kind: impl.ConstText, Text: "\x00"}, 2, 1, 0)
	check(impl.Const{Kind: impl.ConstText, Text: strings.Repeat("\xff", 40)}, 2, 40, strings.Repeat("\xff", 40))
	check(impl.Const{Kind: impl.ConstTrue}, 3)
	check(impl.Const{Kind: impl.ConstFalse}, 4)
	check(impl.Const{Kind: impl.ConstNone}, 5)
	for at := range 8 {
		for _, b := range []int{1, 0x10, 0x3a, 0xc0} {
			told := []any{1, 0, 0, 0, 0, 0, 0, 0, 0}
			told[1+at] = b
			check(impl.Const{Kind: impl.ConstNumber, Num: uint64(b) << (56 - 8*at)}, told...)
		}
	}
}

func TestNumbersOfConstsComeBack(t *testing.T) {
	right, wrong := 0, 0
	for _, num := range slices.Concat(numbersOfEachKind(), numbersBySteps(3000), []uint64{impl.NaN, impl.NaN + 1, impl.NaN - 1, signOfNumber + impl.NaN, math.MaxUint64}) {
		x := smallImage()
		x.Consts = []impl.Const{{Kind: impl.ConstTrue}, {Kind: impl.ConstNumber, Num: num}}
		if _, ok := checkImageText(t, x); ok {
			right++
			continue
		}
		wrong++
		refusesToRead(t, "a NaN that is not just NaN", sealedByRule(innerOf(piecesOf(x))))
	}
	if right < 1000 || wrong < 100 {
		t.Errorf("%d numbers are right, %d wrong", right, wrong)
	}
}

func TestTextsOfConstsComeBack(t *testing.T) {
	for size := range 300 {
		for _, text := range []string{strings.Repeat("x", size), strings.Repeat("\x00", size), strings.Repeat("é𝄞", size)[:size], strings.Repeat("\x80", size)} {
			x := smallImage()
			x.Consts = []impl.Const{{Kind: impl.ConstText, Text: text}, {Kind: impl.ConstNone}}
			if size <= 40 {
				imageTextOf(t, x)
				continue
			}
			checkNoImageText(t, x)
			refusesToRead(t, "a text of more than 40 bytes", sealedByRule(innerOf(piecesOf(x))))
		}
	}
	for n := range 256 {
		x := smallImage()
		x.Consts = []impl.Const{{Kind: impl.ConstText, Text: string([]byte{byte(n)})}, {Kind: impl.ConstText, Text: strings.Repeat(string([]byte{byte(n)}), 40)}}
		imageTextOf(t, x)
	}
}

// Each number of an instruction, a Handler, a Cap and a Func.
func TestNumbersComeBack(t *testing.T) {
	for n := range 301 {
		x := allSorts()
		f := &x.Funcs[1]
		f.Code[0].A, f.Code[1].B, f.Code[2].A = n, n, 300-n
		f.Handlers[0] = impl.Handler{From: n, To: (n + 100) % 301, Target: (n + 200) % 301}
		if n <= 40 {
			f.Caps[0].Index, f.Regs = n, max(2, n)
		}
		imageTextOf(t, x)
	}
	told := func(n int) []any {
		if n < 128 {
			return []any{n}
		}
		return []any{n%128 + 128, n / 128}
	}
	for _, n := range []int{0, 1, 126, 127, 128, 129, 255, 256, 257, 299, 300} {
		x := smallImage()
		x.Funcs[0].Code[0].A = n
		checkBytes(t, x, slices.Concat([]any{"SC1", 0, 1, 0, 0, 0, 1, 17}, told(n), []any{0, 0})...)
		x = smallImage()
		x.Funcs[0].Code[0].B = n
		checkBytes(t, x, slices.Concat([]any{"SC1", 0, 1, 0, 0, 0, 1, 17, 0}, told(n), []any{0})...)
		x = smallImage()
		x.Funcs[0].Handlers = []impl.Handler{{From: n, To: n, Target: n}}
		checkBytes(t, x, slices.Concat([]any{"SC1", 0, 1, 0, 0, 0, 1, 17, 0, 0, 1}, told(n), told(n), told(n))...)
		if n > 0 {
			x = smallImage()
			x.Funcs[0].Code = slices.Repeat(x.Funcs[0].Code, n)
			checkBytes(t, x, slices.Concat([]any{"SC1", 0, 1, 0, 0, 0}, told(n), []any{strings.Repeat("\x11\x00\x00", n), 0})...)
		}
	}
}

// countKnobs: how many of everything an image may have.
func countKnobs() []knob {
	last := func(x *impl.Image) *impl.Func { return &x.Funcs[len(x.Funcs)-1] }
	return []knob{
		{"Consts", 0, 40, func(x *impl.Image, n int) { x.Consts = constsOfSize(n) }},
		{"Funcs", 1, 16, func(x *impl.Image, n int) { x.Funcs = slices.Repeat(smallImage().Funcs, n) }},
		{"Caps", 0, 20, func(x *impl.Image, n int) { last(x).Caps = capsOfSize(n) }},
		{"Code", 1, 300, func(x *impl.Image, n int) { last(x).Code = codeOfSize(n) }},
		{"Code of the first Func", 1, 300, func(x *impl.Image, n int) { x.Funcs[0].Code = codeOfSize(n) }},
		{"Handlers", 0, 40, func(x *impl.Image, n int) { last(x).Handlers = handlersOfSize(n) }},
		{"Handlers of the first Func", 0, 40, func(x *impl.Image, n int) { x.Funcs[0].Handlers = handlersOfSize(n) }},
	}
}

func TestCountsComeBack(t *testing.T) {
	for _, x := range []impl.Image{allSorts(), severalFuncs()} {
		for _, k := range countKnobs() {
			for n := range k.most + 4 {
				y := changedImage(x, func(x *impl.Image) { k.set(x, n) })
				if k.least <= n && n <= k.most {
					imageTextOf(t, y)
					continue
				}
				checkNoImageText(t, y)
				refusesToRead(t, fmt.Sprint(n, " ", k.name), sealedByRule(innerOf(piecesOf(y))))
			}
		}
	}
	// Far more of anything than there may be, as long as they have place in a text.
	for _, k := range countKnobs() {
		for _, n := range []int{128, 256, 257, 512, 1000, 1025} {
			y := changedImage(allSorts(), func(x *impl.Image) { k.set(x, n) })
			if n <= k.most {
				continue
			}
			checkNoImageText(t, y)
			refusesToRead(t, fmt.Sprint(n, " ", k.name), sealedByRule(innerOf(piecesOf(y))))
		}
	}
}

// As much of everything as may be, but that the code is shorter: all of it would be too long.
func TestMostOfEverythingComesBack(t *testing.T) {
	x := greatestImage()
	checkNoImageText(t, x)
	for i := range x.Funcs {
		x.Funcs[i].Code = codeOfSize(60)
	}
	imageTextOf(t, x)
	y := impl.Image{Consts: slices.Repeat([]impl.Const{{Kind: impl.ConstText, Text: strings.Repeat("~", 40)}}, 40), Funcs: greatestImage().Funcs[:2]}
	imageTextOf(t, y)
}

// An empty list and nil are the same; so are their bytes.
func TestEmptyListsHaveOneForm(t *testing.T) {
	x := smallImage()
	y := impl.Image{Consts: []impl.Const{}, Funcs: []impl.Func{{Caps: []impl.Cap{}, Code: x.Funcs[0].Code, Handlers: []impl.Handler{}}}}
	if imageTextOf(t, x) != imageTextOf(t, y) {
		t.Error("an empty list has other bytes than nil")
	}
	for _, none := range []impl.Image{{}, {Funcs: []impl.Func{}, Consts: []impl.Const{}}, {Consts: constsOfSize(5)}, {Funcs: []impl.Func{{}}}} {
		checkNoImageText(t, none)
		refusesToRead(t, "an image of nothing", sealedByRule(innerOf(piecesOf(none))))
	}
}

// imageOfSize: an image whose bytes, without the seal, are so many, from 11783 to 19000.
func imageOfSize(size int) impl.Image {
	var x impl.Image
	for range 13 {
		x.Funcs = append(x.Funcs, impl.Func{Code: slices.Repeat([]impl.Ins{{Op: impl.InsReturn}}, 300)})
	}
	for i := range size - 11783 {
		x.Funcs[i%13].Code[i/13%300].A = 128 + i%173
		if i >= 3900 {
			x.Funcs[i%13].Code[i/13%300].B = 128 + i%171
		}
	}
	return x
}

// What is answered, the seal with it, may have MaxText bytes, and no more.
func TestImagesOfMostBytes(t *testing.T) {
	for size := 11783; size <= 12040; size++ {
		x := imageOfSize(size)
		inner := innerOf(piecesOf(x))
		if !imageByRule(x) || len(inner) != size {
			t.Fatalf("the image of %d bytes is not as it should be", size)
		}
		if size+4 <= impl.MaxText {
			if text := imageTextOf(t, x); len(text) != size+4 {
				t.Errorf("of %d bytes there are %d with the seal", size, len(text))
			}
			continue
		}
		checkNoImageText(t, x)
		refusesToRead(t, "an image that is too long", sealedByRule(inner))
	}
	for _, size := range []int{12100, 13000, 14000, 15600} {
		checkNoImageText(t, imageOfSize(size))
		refusesToRead(t, "an image that is too long", sealedByRule(innerOf(piecesOf(imageOfSize(size)))))
	}
	refusesToRead(t, "the greatest image", sealedByRule(innerOf(piecesOf(greatestImage()))))
}

// imageWithWide: 14 Funcs, with 300 instructions each, but the last with 69; its text has 11999 bytes, and one more for each
// of the last Func's instructions whose A takes two bytes.
func imageWithWide(wide int) impl.Image {
	var x impl.Image
	for i := range 14 {
		size := 300
		if i == 13 {
			size = 69
		}
		x.Funcs = append(x.Funcs, impl.Func{Code: slices.Repeat([]impl.Ins{{Op: impl.InsConst}}, size)})
	}
	for i := range wide {
		x.Funcs[13].Code[i].A = 128
	}
	return x
}

// Texts of just MaxText bytes, and of one more up to those whose bytes ahead of the seal are too many by themselves.
func TestTextsOfJustTheMostBytes(t *testing.T) {
	for wide := range 12 {
		x := imageWithWide(wide)
		sealed := sealedByRule(innerOf(piecesOf(x)))
		if !impl.ImageOk(x) || len(sealed) != 11999+wide {
			t.Fatalf("the image with %d has %d bytes", wide, len(sealed))
		}
		text, ok := impl.ImageText(x)
		back, read := impl.ReadImage(sealed)
		if wide <= 1 {
			if !ok || text != sealed || !read || !sameImages(back, x) {
				t.Errorf("of %d bytes ImageText is %v, ReadImage %v", len(sealed), ok, read)
			}
			continue
		}
		if ok || text != "" || read || len(back.Funcs) > 0 || len(back.Consts) > 0 {
			t.Errorf("of %d bytes ImageText is %v, ReadImage %v", len(sealed), ok, read)
		}
	}
}

func TestImagesThatAreNotRightHaveNoBytes(t *testing.T) {
	for _, x := range []impl.Image{smallImage(), severalFuncs(), allSorts()} {
		for _, spoil := range spoilersOf(x) {
			y := changedImage(x, spoil)
			checkNoImageText(t, y)
			checkReadImage(t, sealedByRule(innerOf(piecesOf(y))))
		}
		for _, k := range knobsOf(x) {
			for _, n := range k.values() {
				y := changedImage(x, func(x *impl.Image) { k.set(x, n) })
				if _, ok := checkImageText(t, y); ok != (k.least <= n && n <= k.most) {
					t.Fatalf("with %s %d ImageText is %v", k.name, n, ok)
				}
				checkReadImage(t, sealedByRule(innerOf(piecesOf(y))))
			}
			refusesToRead(t, k.name+" is too great", sealedByRule(innerOf(piecesOf(changedImage(x, func(x *impl.Image) { k.set(x, k.most+1) })))))
		}
		for _, c := range []impl.Const{{}, {Kind: 6}, {Kind: -1}, {Kind: 257}, {Kind: impl.ConstTrue, Num: 1}, {Kind: impl.ConstNone, Text: "a"}, {Kind: impl.ConstNumber, Text: "a"}, {Kind: impl.ConstText, Num: 1}} {
			checkNoImageText(t, changedImage(x, func(x *impl.Image) { x.Consts = append(x.Consts, c) }))
		}
	}
}

// The first Func of bytes has neither Params nor Caps.
func TestFirstFuncOfBytes(t *testing.T) {
	for _, x := range []impl.Image{smallImage(), allSorts()} {
		for _, change := range []func(f *impl.Func){
			func(f *impl.Func) { f.Params, f.Regs = 1, 1 },
			func(f *impl.Func) { f.Params, f.Regs = 4, 40 },
			func(f *impl.Func) { f.Caps = capsOfSize(1) },
			func(f *impl.Func) { f.Caps = capsOfSize(20) },
		} {
			y := changedImage(x, func(x *impl.Image) { change(&x.Funcs[0]) })
			checkNoImageText(t, y)
			refusesToRead(t, "a first Func that wants something", sealedByRule(innerOf(piecesOf(y))))
			z := changedImage(x, func(x *impl.Image) { x.Funcs = append(x.Funcs, impl.Func{Code: codeOfSize(1)}) })
			change(&z.Funcs[len(z.Funcs)-1])
			imageTextOf(t, z)
		}
	}
}

// What only the verifier asks for counts for nothing here.
func TestUnsoundImagesComeBack(t *testing.T) {
	for _, ins := range []impl.Ins{{Op: impl.InsJump, A: 300}, {Op: impl.InsConst, A: 300}, {Op: impl.InsBinary, A: 300, B: 300}, {Op: impl.InsNot, A: 1, B: 2}, {Op: impl.InsFun}, {Op: impl.InsCall, A: 300, B: 300}} {
		x := smallImage()
		x.Funcs[0].Code = []impl.Ins{ins}
		x.Funcs[0].Handlers = []impl.Handler{{From: 300, To: 0, Target: 300}, {From: 300, To: 0, Target: 300}}
		imageTextOf(t, x)
	}
	x := allSorts()
	x.Consts = slices.Repeat([]impl.Const{{Kind: impl.ConstNumber, Num: impl.NaN}, {Kind: impl.ConstText, Text: "twice"}}, 20)
	imageTextOf(t, x)
}

// samplesOfBytes: images whose bytes are spoiled in each place.
func samplesOfBytes(t *testing.T) []impl.Image {
	t.Helper()
	return []impl.Image{
		smallImage(), allSorts(), severalFuncs(), compiled(t, parsedTree(t, "")),
		compiled(t, parsedTree(t, `let a=1;let b="text";fun f(c,d){try{a=b;}catch e{c=d;(fun(){e;c;b;"text";});}}try{print f(0.1,true);}catch g{throw g;}`)),
	}
}

func TestByteOfAnImageTurned(t *testing.T) {
	for _, x := range samplesOfBytes(t) {
		text := []byte(imageTextOf(t, x))
		for at := range text {
			for turn := 1; turn < 256; turn++ {
				text[at] ^= byte(turn)
				refusesToRead(t, "a byte is turned", string(text))
				text[at] ^= byte(turn)
			}
		}
	}
}

func TestByteOfTheLongestImageTurned(t *testing.T) {
	text := []byte(imageTextOf(t, imageOfSize(11996)))
	for at := range text {
		turn := byte(1 << (at % 8))
		if at%3 == 0 {
			turn = byte(at%255 + 1)
		}
		text[at] ^= turn
		if x, ok := impl.ReadImage(string(text)); ok || len(x.Funcs) > 0 {
			t.Fatalf("byte %d is turned, and there is %s", at, toldOfImage(x))
		}
		text[at] ^= turn
	}
}

// A byte turned, and all sealed anew: it is read just where another image has these bytes.
func TestByteTurnedAndSealedAnew(t *testing.T) {
	right, wrong := 0, 0
	for _, x := range samplesOfBytes(t) {
		inner := []byte(innerOf(piecesOf(x)))
		for at, was := range inner {
			for b := range 256 {
				inner[at] = byte(b)
				if checkReadImage(t, sealedByRule(string(inner))) {
					right++
				} else {
					wrong++
				}
			}
			inner[at] = was
		}
	}
	if right < 1000 || wrong < 1000 {
		t.Errorf("%d are read, %d refused", right, wrong)
	}
}

func TestBytesThatAreLeft(t *testing.T) {
	for _, x := range samplesOfBytes(t) {
		inner := innerOf(piecesOf(x))
		for b := range 256 {
			one := string([]byte{byte(b)})
			refusesToRead(t, "a byte is left", sealedByRule(inner+one))
			refusesToRead(t, "two bytes are left", sealedByRule(inner+one+one))
			refusesToRead(t, "a nought and a byte are left", sealedByRule(inner+"\x00"+one))
			refusesToRead(t, "a byte behind the seal", sealedByRule(inner)+one)
		}
		for _, left := range []string{inner, "SC1", "\x00\x00\x00\x00", strings.Repeat("\x00", 300), fourBytes(impl.SumOf(inner)), "\x00\x00\x00\x01\x11\x00\x00\x00"} {
			refusesToRead(t, "bytes are left", sealedByRule(inner+left))
		}
		refusesToRead(t, "sealed twice", sealedByRule(sealedByRule(inner)))
		refusesToRead(t, "one image behind another", sealedByRule(inner)+sealedByRule(inner))
		room := strings.Repeat("\x00", 11996-len(inner))
		refusesToRead(t, "as many bytes are left as there may be", sealedByRule(inner+room))
		for size := 1; size <= 5; size++ {
			refusesToRead(t, "more bytes are left than there may be", sealedByRule(inner+room+strings.Repeat("\x00", size)))
		}
	}
}

func TestBytesThatEndTooSoon(t *testing.T) {
	for _, x := range append(samplesOfBytes(t), changedImage(greatestImage(), func(x *impl.Image) { x.Funcs = x.Funcs[:2] })) {
		inner := innerOf(piecesOf(x))
		for size := range inner {
			refusesToRead(t, "bytes end too soon", sealedByRule(inner[:size]))
			refusesToRead(t, "bytes end too soon, without a seal", inner[:size])
			refusesToRead(t, "bytes begin too late", sealedByRule(inner[size+1:]))
		}
		text := sealedByRule(inner)
		for size := range 5 {
			refusesToRead(t, "the seal ends too soon", text[:len(text)-1-size])
		}
	}
	refusesToRead(t, "nothing", "")
	refusesToRead(t, "nothing, sealed", sealedByRule(""))
}

// withPiece: the bytes, sealed, with one piece told in another way.
func withPiece(pieces []piece, at int, text string) string {
	return sealedByRule(innerOf(pieces[:at]) + text + innerOf(pieces[at+1:]))
}

// eachPiece calls for each piece of that sort, and tells how many there are.
func eachPiece(t *testing.T, what string, check func(pieces []piece, at int)) {
	t.Helper()
	count := 0
	for _, x := range samplesOfBytes(t) {
		pieces := piecesOf(x)
		for at, one := range pieces {
			if one.what == what {
				check(pieces, at)
				count++
			}
		}
	}
	if count < 4 {
		t.Fatalf("there are but %d of %q", count, what)
	}
}

func TestLongerFormsOfNumbers(t *testing.T) {
	eachPiece(t, "number", func(pieces []piece, at int) {
		goesOn := []byte(pieces[at].text)
		for range 12 {
			goesOn[len(goesOn)-1] |= 128
			refusesToRead(t, "a longer form of a number", withPiece(pieces, at, string(goesOn)+"\x00"))
			refusesToRead(t, "a number without its end", withPiece(pieces, at, string(goesOn)))
			goesOn = append(goesOn, 0)
		}
	})
}

func TestNumbersThatAreTooGreat(t *testing.T) {
	eachPiece(t, "number", func(pieces []piece, at int) {
		was, _ := binary.Uvarint([]byte(pieces[at].text))
		for _, n := range []uint64{41, 127, 128, 300, 301, 302, 1000, 16383, 16384, 1000000000, 1000000001, math.MaxInt32, math.MaxUint32, math.MaxInt64, math.MaxUint64} {
			if ok := checkReadImage(t, withPiece(pieces, at, string(binary.AppendUvarint(nil, n)))); ok && n > 300 {
				t.Fatalf("the number %d is read", n)
			}
		}
		for bit := 9; bit < 64; bit++ {
			refusesToRead(t, "a number that is right without its highest bit", withPiece(pieces, at, string(binary.AppendUvarint(nil, was+1<<bit))))
		}
		if was < 128 {
			for _, more := range []string{"\x80\x80\x80\x80\x80\x80\x80\x80\x80\x02", "\x80\x80\x80\x80\x80\x80\x80\x80\x80\x7f", "\x80\x80\x80\x80\x80\x80\x80\x80\x80\x80\x01"} {
				refusesToRead(t, "a number beyond 64 bits", withPiece(pieces, at, string([]byte{byte(was) | 128})+more[1:]))
			}
		}
	})
}

func TestBytesOfCaps(t *testing.T) {
	eachPiece(t, "cap", func(pieces []piece, at int) {
		for b := range 256 {
			text := withPiece(pieces, at, string([]byte{byte(b)}))
			if b > 1 {
				refusesToRead(t, "a byte of a Cap that is neither 0 nor 1", text)
			} else if !checkReadImage(t, text) {
				t.Fatalf("the byte %d of a Cap is refused", b)
			}
		}
	})
}

func TestKindsThatAreNoneInBytes(t *testing.T) {
	eachPiece(t, "kind", func(pieces []piece, at int) {
		behind := at + 1
		for behind < len(pieces) && pieces[behind-1].what != "text" && pieces[behind-1].what != "num" && pieces[behind].what != "kind" && pieces[at].text < "\x03" {
			behind++
		}
		whole := innerOf(pieces[at+1 : behind])
		others := slices.Concat(pieces[:at], []piece{{}}, pieces[behind:])
		for kind := range 256 {
			one := string([]byte{byte(kind)})
			if 3 <= kind && kind <= 5 {
				if !checkReadImage(t, withPiece(others, at, one)) {
					t.Fatalf("the Kind %d is refused", kind)
				}
				continue
			}
			refusesToRead(t, "a Kind without what it has, or that is none", withPiece(others, at, one))
			if kind == 0 || kind > 5 {
				refusesToRead(t, "a Kind that is none", withPiece(pieces, at, one))
				refusesToRead(t, "a Kind that is none, with a number", withPiece(others, at, one+"\x3f\xf0\x00\x00\x00\x00\x00\x00"))
				refusesToRead(t, "a Kind that is none, with a text", withPiece(others, at, one+"\x01a"))
				refusesToRead(t, "a Kind that is none, with what was there", withPiece(others, at, one+whole))
			}
		}
	})
}

func TestOpsThatAreNoneInBytes(t *testing.T) {
	eachPiece(t, "op", func(pieces []piece, at int) {
		for op := range 256 {
			text := withPiece(pieces, at, string([]byte{byte(op)}))
			if op < 1 || op > 19 {
				refusesToRead(t, "an Op that is none", text)
			} else if !checkReadImage(t, text) {
				t.Fatalf("the Op %d is refused", op)
			}
		}
	})
}

func TestNumbersOfConstsInBytes(t *testing.T) {
	eachPiece(t, "num", func(pieces []piece, at int) {
		for _, num := range numbersOfEachKind() {
			text := withPiece(pieces, at, string(binary.BigEndian.AppendUint64(nil, num)))
			if math.IsNaN(math.Float64frombits(num)) && num != impl.NaN {
				refusesToRead(t, "a NaN that is not just NaN", text)
			} else if !checkReadImage(t, text) {
				t.Fatalf("the number %d is refused", num)
			}
		}
		for size := range 12 {
			if size != 8 {
				checkReadImage(t, withPiece(pieces, at, strings.Repeat("\x01", size)))
			}
		}
	})
}

func TestOtherLetters(t *testing.T) {
	for _, x := range samplesOfBytes(t) {
		inner := innerOf(piecesOf(x))
		for at := range 3 {
			for b := range 256 {
				letters := []byte("SC1")
				if letters[at] == byte(b) {
					continue
				}
				letters[at] = byte(b)
				refusesToRead(t, "other letters", sealedByRule(string(letters)+inner[3:]))
			}
		}
		for _, letters := range []string{"", "S", "SC", "sc1", "Sc1", "SC2", "SC0", "1CS", "CS1", "SCI", "SC1 ", " SC1", "SC11", "SC1SC1", "SC\x01", "\x00\x00\x00"} {
			refusesToRead(t, "other letters", sealedByRule(letters+inner[3:]))
		}
	}
	for _, alone := range []string{"S", "SC", "SC1", "SC1\x00", "SC1\x00\x00", "SC1\x00\x01", "SC1\x01\x05\x00"} {
		refusesToRead(t, "letters alone", alone)
		refusesToRead(t, "letters alone, sealed", sealedByRule(alone))
	}
}

func TestSealsThatAreNotRight(t *testing.T) {
	for _, x := range samplesOfBytes(t) {
		inner := innerOf(piecesOf(x))
		sum := impl.SumOf(inner)
		for _, seal := range []uint32{0, 1, 0xffffffff, ^sum, sum + 1, sum - 1, sum<<8 | sum>>24, sum<<16 | sum>>16, impl.SumMore(0, inner), impl.SumOf(inner[3:]), impl.SumOf(inner + "\x00")} {
			if seal != sum {
				refusesToRead(t, "another seal", inner+fourBytes(seal))
			}
		}
		for bit := range 32 {
			refusesToRead(t, "a bit of the seal is turned", inner+fourBytes(sum^1<<bit))
		}
		told := fourBytes(sum)
		refusesToRead(t, "the lowest byte first", inner+string([]byte{told[3], told[2], told[1], told[0]}))
		refusesToRead(t, "no seal", inner)
		refusesToRead(t, "the seal ahead", told+inner)
		other := imageTextOf(t, impl.Image{Funcs: []impl.Func{{Code: codeOfSize(3)}}})
		refusesToRead(t, "the seal of another image", inner+other[len(other)-4:])
	}
}

// Bytes left out, put in, and moved; what is sealed anew is read just where it is an image's.
func TestBytesLeftOutAndPutIn(t *testing.T) {
	for _, x := range samplesOfBytes(t) {
		inner := innerOf(piecesOf(x))
		for at := range len(inner) + 1 {
			for _, b := range []string{"\x00", "\x01", "\x02", "\x05", "\x11", "\x7f", "\x80", "\xff", "S"} {
				checkReadImage(t, sealedByRule(inner[:at]+b+inner[at:]))
			}
			for size := 1; size <= 9 && at+size <= len(inner); size++ {
				checkReadImage(t, sealedByRule(inner[:at]+inner[at+size:]))
			}
		}
		pieces := piecesOf(x)
		for at := range len(pieces) - 1 {
			moved := slices.Clone(pieces)
			moved[at], moved[at+1] = moved[at+1], moved[at]
			checkReadImage(t, sealedByRule(innerOf(moved)))
		}
	}
	refusesToRead(t, "Funcs ahead of Consts", sealedByRule("SC1\x01\x00\x00\x00\x01\x11\x00\x00\x00\x00"))
}

// One text for each image, one image for each text.
func TestBytesAreOneForEach(t *testing.T) {
	images := []impl.Image{smallImage(), allSorts(), severalFuncs()}
	for _, x := range images[:3] {
		for _, k := range append(knobsOf(x), countKnobs()...) {
			for n := k.least; n <= k.most; n += 1 + (k.most-k.least)/9 {
				images = append(images, changedImage(x, func(x *impl.Image) { k.set(x, n) }))
			}
		}
		for fun := range x.Funcs {
			for at := range x.Funcs[fun].Caps {
				images = append(images, changedImage(x, func(x *impl.Image) { x.Funcs[fun].Caps[at].Reg = !x.Funcs[fun].Caps[at].Reg }))
			}
		}
		for at := range x.Consts {
			for _, c := range append(constsOfEachKind(), impl.Const{Kind: impl.ConstNumber}, impl.Const{Kind: impl.ConstNumber, Num: signOfNumber}, impl.Const{Kind: impl.ConstText}) {
				images = append(images, changedImage(x, func(x *impl.Image) { x.Consts[at] = c }))
			}
		}
	}
	imageOf := map[string]impl.Image{}
	for _, x := range images {
		if !imageByRule(x) {
			continue
		}
		text := imageTextOf(t, x)
		if other, found := imageOf[text]; found && !sameImages(other, x) {
			t.Fatalf("two images have the bytes %q: %s and %s", text, toldOfImage(other), toldOfImage(x))
		}
		if imageTextOf(t, copyOfImage(x)) != text {
			t.Fatalf("one image has two texts: %s", toldOfImage(x))
		}
		imageOf[text] = x
	}
	if len(imageOf) < 500 {
		t.Errorf("there are but %d images", len(imageOf))
	}
}

// compiledOrNone: the image of a tree whose names are mended; false when it would be too big.
func compiledOrNone(tree []impl.Node) (impl.Image, bool) {
	x, fault, _ := impl.Compile(withoutFaults(tree))
	return x, fault == 0
}

func TestProgramsComeBack(t *testing.T) {
	seen := tally{ops: map[int]int{}}
	check := func(tree []impl.Node) {
		t.Helper()
		if x, ok := compiledOrNone(tree); ok {
			imageTextOf(t, x)
			seen.count(x, 0)
		}
	}
	for _, source := range rightPrograms() {
		check(parsedTree(t, source))
	}
	for _, place := range placesForStatements() {
		for _, statement := range statementsOfChapter() {
			check(parsedTree(t, strings.ReplaceAll(place, "@", statement)))
		}
	}
	for _, place := range placesForE() {
		for _, e := range formsOfE() {
			check(parsedTree(t, strings.ReplaceAll(place, "@", "( "+e+" )")))
		}
	}
	for seed := range 700 {
		check(sownTree(6+seed*7%260, seed+51000))
	}
	for seed := range 80 {
		check(treeBySteps(20+seed*37%281, seed+52000))
	}
	var all []int
	for op := impl.InsConst; op <= impl.InsPrint; op++ {
		all = append(all, op)
	}
	seen.check(t, all, 1000, 0, 400, 50)
}

func TestImageTextsBySteps(t *testing.T) {
	right, wrong := 0, 0
	for seed := range 3000 {
		d := dice{state: uint64(seed)*2654435761 + 77}
		x := d.image(50 << (seed % 8))
		if _, ok := checkImageText(t, x); ok {
			right++
		} else {
			wrong++
			checkReadImage(t, sealedByRule(innerOf(piecesOf(x))))
		}
	}
	if right < 300 || wrong < 300 {
		t.Errorf("%d images have bytes, %d have none", right, wrong)
	}
}

// Bytes that are turned, left out or put in, several at once.
func TestBytesBySteps(t *testing.T) {
	right, wrong := 0, 0
	for seed := range 20000 {
		d := dice{state: uint64(seed)*2654435761 + 99}
		var inner []byte
		if seed%10 > 0 {
			inner = []byte(innerOf(piecesOf(samplesByRule()[seed%3])))
		} else {
			inner = []byte("SC1" + strings.Repeat("\x00", d.below(30)))
		}
		for range 1 + d.below(3) {
			at := d.below(len(inner))
			switch d.below(8) {
			case 0:
				inner = slices.Delete(inner, at, at+1)
			case 1:
				inner = slices.Insert(inner, at, byte(d.below(256)))
			case 2, 3:
				inner[at] = byte(d.below(256))
			default:
				inner[at] = byte(d.below(24))
			}
		}
		if checkReadImage(t, sealedByRule(string(inner))) {
			right++
		} else {
			wrong++
		}
	}
	if right < 1000 || wrong < 1000 {
		t.Errorf("%d are read, %d refused", right, wrong)
	}
}

func samplesByRule() []impl.Image { return []impl.Image{smallImage(), allSorts(), severalFuncs()} }

// Texts that are no images at all.
func TestReadImageOfAnything(t *testing.T) {
	for _, text := range append(textsForSizes(), textsOver("SC1\x00\x01", 5)...) {
		refusesToRead(t, "no image", text)
		refusesToRead(t, "no image, sealed", sealedByRule(text))
		refusesToRead(t, "no image, sealed", sealedByRule("SC1"+text))
	}
	for _, size := range []int{12001, 12004, 12005, 100000} {
		refusesToRead(t, "far too long", strings.Repeat("SC1\x00", size)[:size])
		refusesToRead(t, "far too long", sealedByRule(strings.Repeat("\x00", size)))
	}
	// Far more is told to follow than does.
	for _, count := range []string{"\x7f", "\xff\x7f", "\x80\x94\xeb\xdc\x03", "\xff\xff\xff\xff\x07", "\xff\xff\xff\xff\xff\xff\xff\xff\x7f"} {
		for _, ahead := range []string{"SC1", "SC1\x00", "SC1\x01\x02", "SC1\x00\x01\x00\x00", "SC1\x00\x01\x00\x00\x00", "SC1\x00\x01\x00\x00\x00\x01\x11\x00\x00"} {
			refusesToRead(t, "too many are told", sealedByRule(ahead+count))
			refusesToRead(t, "too many are told", sealedByRule(ahead+count+strings.Repeat("\x00", 11000)))
			refusesToRead(t, "too many are told", sealedByRule(ahead+count+strings.Repeat("\x01", 11000)))
			refusesToRead(t, "too many are told", sealedByRule(ahead+count+strings.Repeat("\x05", 11000)))
		}
	}
}

func TestImageTextChangesNothing(t *testing.T) {
	images := append(samplesOfBytes(t), greatestImage(), impl.Image{}, changedImage(allSorts(), func(x *impl.Image) { x.Funcs[1].Code[2].Op = 20 }))
	for _, x := range images {
		given, toldOfAll := roomyImage(x)
		before := toldOfAll()
		text, ok := impl.ImageText(given)
		if toldOfAll() != before {
			t.Fatalf("%s was written into", toldOfImage(x))
		}
		for _, other := range images {
			impl.ImageText(other)
		}
		if again, right := impl.ImageText(given); again != text || right != ok {
			t.Fatalf("%s: the second answer is another one", toldOfImage(x))
		}
		for _, c := range given.Consts {
			if within(text, c.Text) || within(c.Text, text) {
				t.Errorf("the bytes share memory with %+v", c)
			}
		}
	}
}

func TestReadImagesAreNewMemory(t *testing.T) {
	samples := samplesOfBytes(t)
	x := allSorts()
	x.Consts[5].Text = "another text"
	for _, x := range append(samples, x, imageOfSize(11996)) {
		text := imageTextOf(t, x)
		kept := strings.Clone(text)
		first, _ := impl.ReadImage(text)
		for i, c := range first.Consts {
			if within(c.Text, text) {
				t.Errorf("%+v shares memory with the bytes", c)
			}
			for _, other := range first.Consts[:i] {
				if within(c.Text, other.Text) {
					t.Errorf("%+v shares memory with %+v", c, other)
				}
			}
		}
		writeInto(t, first)
		for _, other := range samples {
			impl.ReadImage(imageTextOf(t, other))
		}
		if second, ok := impl.ReadImage(text); !ok || text != kept || !sameImages(second, x) {
			t.Errorf("the second answer is %v and %s, want %s", ok, toldOfImage(second), toldOfImage(x))
		}
	}
}
