package tests

import (
	"bytes"
	"encoding/binary"
	"hash/crc32"
	"io"
	"strings"

	"loop.example/g00115/impl"
)

// The bytes of images by other means: an image is laid out in pieces, each of which has a name, by the library's numbers and sums;
// bytes are read without asking anything, and are those of an image when that is laid out in just them.

// piece: bytes of an image that stand together, and what they tell.
type piece struct{ what, text string }

// layer lays out an image, right or not, piece by piece.
type layer struct{ pieces []piece }

func (l *layer) numbers(all ...int) {
	for _, n := range all {
		l.pieces = append(l.pieces, piece{"number", string(binary.AppendUvarint(nil, uint64(n)))})
	}
}

func (l *layer) single(what string, n int) {
	l.pieces = append(l.pieces, piece{what, string([]byte{byte(n)})})
}

func (l *layer) constant(c impl.Const) {
	l.single("kind", c.Kind)
	if c.Kind == 1 {
		l.pieces = append(l.pieces, piece{"num", string(binary.BigEndian.AppendUint64(nil, c.Num))})
	}
	if c.Kind == 2 {
		l.numbers(len(c.Text))
		l.pieces = append(l.pieces, piece{"text", c.Text})
	}
}

func (l *layer) function(f impl.Func) {
	l.numbers(f.Params, f.Regs, len(f.Caps))
	for _, c := range f.Caps {
		l.single("cap", map[bool]int{true: 1}[c.Reg])
		l.numbers(c.Index)
	}
	l.numbers(len(f.Code))
	for _, i := range f.Code {
		l.single("op", i.Op)
		l.numbers(i.A, i.B)
	}
	l.numbers(len(f.Handlers))
	for _, h := range f.Handlers {
		l.numbers(h.From, h.To, h.Target)
	}
}

func piecesOf(x impl.Image) []piece {
	l := layer{[]piece{{"letters", "SC1"}}}
	l.numbers(len(x.Consts))
	for _, c := range x.Consts {
		l.constant(c)
	}
	l.numbers(len(x.Funcs))
	for _, f := range x.Funcs {
		l.function(f)
	}
	return l.pieces
}

// innerOf: the bytes of pieces, without a seal.
func innerOf(pieces []piece) string {
	var out strings.Builder
	for _, one := range pieces {
		out.WriteString(one.text)
	}
	return out.String()
}

var tableOfSums = crc32.MakeTable(3558460437)

// sealedByRule: a text of whatever length, and its sum.
func sealedByRule(inner string) string {
	return inner + fourBytes(^crc32.Checksum([]byte(inner), tableOfSums))
}

func imageTextByRule(x impl.Image) (string, bool) {
	text := sealedByRule(innerOf(piecesOf(x)))
	if !imageByRule(x) || len(text) > 12000 {
		return "", false
	}
	return text, true
}

// taker takes bytes for whatever they may be; it panics at their end.
type taker struct{ left *bytes.Reader }

func (l taker) several(size int) string {
	if size < 0 || size > l.left.Len() {
		panic(io.ErrUnexpectedEOF)
	}
	out := make([]byte, size)
	l.left.Read(out)
	return string(out)
}

func (l taker) single() int { return int(l.several(1)[0]) }

func (l taker) number() int {
	n, err := binary.ReadUvarint(l.left)
	if err != nil {
		panic(err)
	}
	return int(n)
}

func (l taker) constant() impl.Const {
	c := impl.Const{Kind: l.single()}
	if c.Kind == 1 {
		c.Num = binary.BigEndian.Uint64([]byte(l.several(8)))
	}
	if c.Kind == 2 {
		c.Text = l.several(l.number())
	}
	return c
}

func (l taker) function() impl.Func {
	var f impl.Func
	f.Params, f.Regs = l.number(), l.number()
	for range l.number() {
		reg := l.single() != 0
		f.Caps = append(f.Caps, impl.Cap{Reg: reg, Index: l.number()})
	}
	for range l.number() {
		op, a, b := l.single(), l.number(), l.number()
		f.Code = append(f.Code, impl.Ins{Op: op, A: a, B: b})
	}
	for range l.number() {
		from, to, target := l.number(), l.number(), l.number()
		f.Handlers = append(f.Handlers, impl.Handler{From: from, To: to, Target: target})
	}
	return f
}

// imageTaken: what bytes tell, whatever is left behind it; nothing when they end too soon.
func imageTaken(text string) (x impl.Image) {
	defer func() {
		if recover() != nil {
			x = impl.Image{}
		}
	}()
	l := taker{bytes.NewReader([]byte(text))}
	l.several(3)
	for range l.number() {
		x.Consts = append(x.Consts, l.constant())
	}
	for range l.number() {
		x.Funcs = append(x.Funcs, l.function())
	}
	return x
}

func readImageByRule(text string) (impl.Image, bool) {
	x := imageTaken(text)
	if told, ok := imageTextByRule(x); !ok || told != text {
		return impl.Image{}, false
	}
	return x, true
}
