package tests

import (
	"fmt"
	"math"
	"strings"
	"testing"
	"unsafe"

	"loop.example/g00115/impl"
)

// Promise 1: what VarText, ShortText, Hex and Decimal write is read back.

// numbersAtEdges: where a number gets one byte or figure more, and the bounds.
func numbersAtEdges() []int {
	ns := []int{0, 1, 2, 126, 300, impl.MaxNumber - 1, impl.MaxNumber}
	for unit := 128; unit < impl.MaxNumber; unit *= 128 {
		ns = append(ns, unit-1, unit, unit+1, 2*unit-1, 2*unit)
	}
	for unit := 10; unit < impl.MaxNumber; unit *= 10 {
		ns = append(ns, unit-1, unit, unit+1)
	}
	return ns
}

// textsOver: each text of up to longest bytes of these.
func textsOver(alphabet string, longest int) []string {
	all := []string{""}
	for from := 0; longest > 0; longest-- {
		to := len(all)
		for _, ahead := range all[from:to] {
			for i := 0; i < len(alphabet); i++ {
				all = append(all, ahead+alphabet[i:i+1])
			}
		}
		from = to
	}
	return all
}

func allBytes() string {
	out := make([]byte, 256)
	for i := range out {
		out[i] = byte(i)
	}
	return string(out)
}

// within: whether a piece lies in the memory of whole.
func within(piece string, whole string) bool {
	if piece == "" || whole == "" {
		return false
	}
	p := uintptr(unsafe.Pointer(unsafe.StringData(piece)))
	w := uintptr(unsafe.Pointer(unsafe.StringData(whole)))
	return p >= w && p < w+uintptr(len(whole))
}

func TestLimitsOfWords(t *testing.T) {
	if impl.MaxText != 12000 || impl.MaxNumber != 1000000000 || impl.MaxWords != 300 || impl.MaxParts != 8 {
		t.Error("a limit is not the document's")
	}
}

func TestVarTextWritesBytes(t *testing.T) {
	for _, c := range []struct {
		n    int
		want string
	}{
		{0, "\x00"}, {1, "\x01"}, {127, "\x7f"}, {128, "\x80\x01"}, {129, "\x81\x01"},
		{255, "\xff\x01"}, {256, "\x80\x02"}, {300, "\xac\x02"},
		{16383, "\xff\x7f"}, {16384, "\x80\x80\x01"},
		{2097151, "\xff\xff\x7f"}, {2097152, "\x80\x80\x80\x01"},
		{268435455, "\xff\xff\xff\x7f"}, {268435456, "\x80\x80\x80\x80\x01"},
		{impl.MaxNumber, "\x80\x94\xeb\xdc\x03"},
	} {
		if s, ok := impl.VarText(c.n); !ok || s != c.want {
			t.Errorf("VarText(%d) = %q, %v, want %q", c.n, s, ok, c.want)
		}
	}
}

func TestVarTextRefuses(t *testing.T) {
	for _, n := range []int{-1, -128, impl.MaxNumber + 1, 1 << 32, math.MaxInt, math.MinInt} {
		if s, ok := impl.VarText(n); ok || s != "" {
			t.Errorf("VarText(%d) = %q, %v", n, s, ok)
		}
	}
}

func TestVarTextIsReadBack(t *testing.T) {
	ns := numbersAtEdges()
	for n := 0; n < 40000; n++ {
		ns = append(ns, n)
	}
	for n := 1; n < impl.MaxNumber; n += 99991 {
		ns = append(ns, n)
	}
	for _, n := range ns {
		s, ok := impl.VarText(n)
		if !ok {
			t.Fatalf("VarText(%d) is refused", n)
		}
		for _, ahead := range []string{"", "\x80", "ab\xff"} {
			for _, behind := range []string{"", "\x00", "\xff\x01"} {
				got, end, right := impl.ReadVar(ahead+s+behind, len(ahead))
				if !right || got != n || end != len(ahead)+len(s) {
					t.Fatalf("ReadVar(%q, %d) = %d, %d, %v, want %d", ahead+s+behind, len(ahead), got, end, right, n)
				}
			}
		}
		for cut := 0; cut < len(s); cut++ {
			if _, _, right := impl.ReadVar(s[:cut], 0); right {
				t.Fatalf("ReadVar reads %q, which ends too early", s[:cut])
			}
		}
	}
}

// numberAt reads by the document's words: bytes up to the first one below 128, which are a number's only form.
func numberAt(text string) (int, int, bool) {
	last := 0
	for last < len(text) && text[last] >= 128 {
		last++
	}
	if last >= len(text) || last > 4 || last > 0 && text[last] == 0 {
		return 0, 0, false
	}
	n := 0
	for i := last; i >= 0; i-- {
		n = n*128 + int(text[i]%128)
	}
	if n > impl.MaxNumber {
		return 0, 0, false
	}
	return n, last + 1, true
}

func TestReadVarOfAnyBytes(t *testing.T) {
	texts := append(textsOver(allBytes(), 2), textsOver("\x00\x01\x03\x7f\x80\x94\xff", 6)...)
	for _, text := range texts {
		want, wantEnd, wantOk := numberAt(text)
		n, end, ok := impl.ReadVar(text, 0)
		if n != want || end != wantEnd || ok != wantOk {
			t.Fatalf("ReadVar(%q, 0) = %d, %d, %v, want %d, %d, %v", text, n, end, ok, want, wantEnd, wantOk)
		}
	}
}

func TestReadVarRefuses(t *testing.T) {
	for _, text := range []string{
		"", "\x80", "\xff\xff",
		"\x80\x00", "\xff\x00", "\xac\x82\x00", "\x80\x80\x00", "\x80\x80\x80\x80\x00", "\x80\x94\xeb\xdc\x83\x00",
		"\x81\x94\xeb\xdc\x03", "\x80\x94\xeb\xdc\x04", "\xff\xff\xff\xff\x07", "\x80\x80\x80\x80\x10", "\xff\xff\xff\xff\x7f",
	} {
		if n, end, ok := impl.ReadVar(text, 0); n != 0 || end != 0 || ok {
			t.Errorf("ReadVar(%q, 0) = %d, %d, %v", text, n, end, ok)
		}
	}
	for size := 5; size < 80; size++ {
		for _, lead := range []string{"\x80", "\x81", "\xff"} {
			for _, last := range []string{"\x00", "\x01", "\x02", "\x7f", "\x80"} {
				text := strings.Repeat(lead, size) + last
				if n, end, ok := impl.ReadVar(text, 0); n != 0 || end != 0 || ok {
					t.Errorf("ReadVar of %d bytes %q and %q = %d, %d, %v", size, lead, last, n, end, ok)
				}
			}
		}
	}
}

func TestPlacesOfReading(t *testing.T) {
	text := "\x01a\x00"
	for _, at := range []int{-1, -2, 3, 4, 5, 1000, math.MaxInt, math.MinInt} {
		if n, end, ok := impl.ReadVar(text, at); n != 0 || end != 0 || ok {
			t.Errorf("ReadVar(%q, %d) = %d, %d, %v", text, at, n, end, ok)
		}
		if s, end, ok := impl.ReadShort(text, at); s != "" || end != 0 || ok {
			t.Errorf("ReadShort(%q, %d) = %q, %d, %v", text, at, s, end, ok)
		}
	}
	if n, end, ok := impl.ReadVar(text, 1); n != 'a' || end != 2 || !ok {
		t.Errorf("ReadVar(%q, 1) = %d, %d, %v", text, n, end, ok)
	}
	if s, end, ok := impl.ReadShort(text, 0); s != "a" || end != 2 || !ok {
		t.Errorf("ReadShort(%q, 0) = %q, %d, %v", text, s, end, ok)
	}
	if s, end, ok := impl.ReadShort(text, 2); s != "" || end != 3 || !ok {
		t.Errorf("ReadShort(%q, 2) = %q, %d, %v", text, s, end, ok)
	}
}

func textsForSizes() []string {
	texts := []string{"", "a", "\x00", "\xff\x80", "\"line\"\n", allBytes()}
	for _, size := range []int{126, 127, 128, 129, 255, 256, impl.MaxText - 1, impl.MaxText} {
		texts = append(texts, strings.Repeat("\xfez", size)[:size])
	}
	return texts
}

func TestShortTextIsReadBack(t *testing.T) {
	for _, want := range textsForSizes() {
		s, ok := impl.ShortText(want)
		size, _ := impl.VarText(len(want))
		if !ok || s != size+want {
			t.Fatalf("ShortText of %d bytes is not their number and they", len(want))
		}
		for _, ahead := range []string{"", "\x80\x7f"} {
			for _, behind := range []string{"", "z\x00"} {
				got, end, right := impl.ReadShort(ahead+s+behind, len(ahead))
				if !right || got != want || end != len(ahead)+len(s) {
					t.Fatalf("ReadShort of %d bytes: %d bytes, %d, %v", len(want), len(got), end, right)
				}
			}
		}
		for _, cut := range []int{0, len(s) / 2, len(s) - 1} {
			if got, end, right := impl.ReadShort(s[:cut], 0); got != "" || end != 0 || right {
				t.Fatalf("ReadShort reads %d bytes of %d", cut, len(s))
			}
		}
	}
}

func TestShortTextRefuses(t *testing.T) {
	long := strings.Repeat("a", impl.MaxText+1)
	if s, ok := impl.ShortText(long); s != "" || ok {
		t.Errorf("ShortText of %d bytes is %d bytes, %v", len(long), len(s), ok)
	}
	size, _ := impl.VarText(len(long))
	most, _ := impl.VarText(impl.MaxNumber)
	for name, text := range map[string]string{
		"nothing":                   "",
		"one byte too few":          "\x03ab",
		"a number without its end":  "\x80",
		"a longer form of a number": "\x81\x00a",
		"a longer form of 0":        "\x80\x00",
		"one byte above MaxText":    size + long,
		"MaxNumber bytes told":      most + long,
		"a number above MaxNumber":  "\x81\x94\xeb\xdc\x03" + long,
	} {
		if s, end, ok := impl.ReadShort(text, 0); s != "" || end != 0 || ok {
			t.Errorf("%s: ReadShort gives %d bytes, %d, %v", name, len(s), end, ok)
		}
	}
}

func TestHexIsReadBack(t *testing.T) {
	for _, c := range []struct{ text, want string }{
		{"", ""}, {"\x00", "00"}, {"\x0f\xf0", "0ff0"}, {"\x9a\xbc\xde", "9abcde"}, {"\xff", "ff"}, {"Az", "417a"},
	} {
		if s, ok := impl.Hex(c.text); !ok || s != c.want {
			t.Errorf("Hex(%q) = %q, %v, want %q", c.text, s, ok, c.want)
		}
	}
	for _, text := range textsForSizes() {
		s, ok := impl.Hex(text)
		if !ok || s != fmt.Sprintf("%x", text) {
			t.Fatalf("Hex of %d bytes is wrong", len(text))
		}
		if got, right := impl.Unhex(s); !right || got != text {
			t.Fatalf("Unhex of Hex of %d bytes: %d bytes, %v", len(text), len(got), right)
		}
	}
}

func TestHexRefuses(t *testing.T) {
	if s, ok := impl.Hex(strings.Repeat("a", impl.MaxText+1)); s != "" || ok {
		t.Errorf("Hex of MaxText and one more bytes is %d bytes, %v", len(s), ok)
	}
	for _, text := range []string{
		"0", "abc", "0A", "A0", "FF", "0g", "g0", " 0", "0 ", "0x", "00\n", "00\n0", "-1", "0/", "0:", "0`", "0\x80", "00ff0G", "é",
		strings.Repeat("0", 2*impl.MaxText+2), strings.Repeat("0", 2*impl.MaxText+1), strings.Repeat("0", 2*impl.MaxText-1),
	} {
		if s, ok := impl.Unhex(text); s != "" || ok {
			t.Errorf("Unhex(%.20q) = %q, %v", text, s, ok)
		}
	}
}

func TestUnhexOfAnyTwoBytes(t *testing.T) {
	const figures = "0123456789abcdef"
	for _, text := range textsOver(allBytes(), 2) {
		want, wantOk := "", text == ""
		if len(text) == 2 {
			high, low := strings.IndexByte(figures, text[0]), strings.IndexByte(figures, text[1])
			if high >= 0 && low >= 0 {
				want, wantOk = string([]byte{byte(16*high + low)}), true
			}
		}
		if s, ok := impl.Unhex(text); s != want || ok != wantOk {
			t.Fatalf("Unhex(%q) = %q, %v, want %q, %v", text, s, ok, want, wantOk)
		}
	}
}

func TestDecimalIsReadBack(t *testing.T) {
	for n := -2000; n < 30000; n++ {
		checkDecimal(t, n)
	}
	for _, n := range numbersAtEdges() {
		checkDecimal(t, n)
		checkDecimal(t, -n)
	}
	for _, n := range []int{impl.MaxNumber + 1, -impl.MaxNumber - 1, 1 << 40, math.MaxInt, math.MinInt, math.MinInt + 1} {
		checkDecimal(t, n)
	}
	if s := impl.Decimal(math.MinInt); s != "-9223372036854775808" {
		t.Errorf("Decimal of the least int is %q", s)
	}
}

func checkDecimal(t *testing.T, n int) {
	t.Helper()
	s := impl.Decimal(n)
	if s != fmt.Sprint(n) {
		t.Fatalf("Decimal(%d) = %q", n, s)
	}
	want, wantOk := n, n >= 0 && n <= impl.MaxNumber
	if !wantOk {
		want = 0
	}
	if got, ok := impl.ReadDecimal(s); got != want || ok != wantOk {
		t.Fatalf("ReadDecimal(%q) = %d, %v", s, got, ok)
	}
}

func TestReadDecimalRefuses(t *testing.T) {
	for _, text := range []string{
		"", "-", "-0", "-1", "+0", "+1", "00", "01", "007", "0000000000", "01000000000", " 1", "1 ", "1\n", "1.0", "1e3", "0x1", "1_000", "1,0", "a", "1a", "/", ":", "\x00", "1\x80", "１",
		"1000000001", "1000000010", "2000000000", "9999999999", "10000000000", "4294967296", "4294967297",
		"9223372036854775807", "9223372036854775808", "18446744073709551616", "18446744073709551617", "-9223372036854775808",
		strings.Repeat("9", 400), "1" + strings.Repeat("0", 400), strings.Repeat("0", 400),
	} {
		if n, ok := impl.ReadDecimal(text); n != 0 || ok {
			t.Errorf("ReadDecimal(%.30q) = %d, %v", text, n, ok)
		}
	}
}

func TestReadDecimalOfAnyBytes(t *testing.T) {
	known := map[string]int{}
	for n := range 100000 {
		known[fmt.Sprint(n)] = n
	}
	texts := append(textsOver(allBytes(), 2), textsOver("0129-+ /:a", 5)...)
	for _, text := range texts {
		want, wantOk := known[text]
		if n, ok := impl.ReadDecimal(text); n != want || ok != wantOk {
			t.Fatalf("ReadDecimal(%q) = %d, %v, want %d, %v", text, n, ok, want, wantOk)
		}
	}
}

func samePartsAs(t *testing.T, line string, want ...string) {
	t.Helper()
	parts, ok := impl.PartsOf(line)
	same := ok && len(parts) == len(want)
	for i := 0; same && i < len(want); i++ {
		same = parts[i] == want[i]
	}
	if !same {
		t.Errorf("PartsOf(%q) = %q, %v, want %q", line, parts, ok, want)
	}
}

func TestPartsOfLines(t *testing.T) {
	samePartsAs(t, "")
	samePartsAs(t, " ")
	samePartsAs(t, "     ")
	samePartsAs(t, strings.Repeat(" ", impl.MaxWords))
	samePartsAs(t, "a", "a")
	samePartsAs(t, " a", "a")
	samePartsAs(t, "a ", "a")
	samePartsAs(t, "   a   ", "a")
	samePartsAs(t, "run 1", "run", "1")
	samePartsAs(t, " run  1 ", "run", "1")
	samePartsAs(t, "! ~  !~", "!", "~", "!~")
	samePartsAs(t, "b a b a", "b", "a", "b", "a")
	samePartsAs(t, "1 2 3 4 5 6 7 8", "1", "2", "3", "4", "5", "6", "7", "8")
	samePartsAs(t, "  1 2 3 4  5 6 7 8  ", "1", "2", "3", "4", "5", "6", "7", "8")
	long := strings.Repeat("x", impl.MaxWords)
	samePartsAs(t, long, long)
	samePartsAs(t, long[:impl.MaxWords-2]+" y", long[:impl.MaxWords-2], "y")
}

func TestPartsOfRefuses(t *testing.T) {
	lines := []string{
		"1 2 3 4 5 6 7 8 9", " 1 2 3 4 5 6 7 8 9 ", "1 2 3 4 5 6 7 8 9 10", strings.Repeat("a ", impl.MaxWords/2),
		strings.Repeat(" ", impl.MaxWords+1), strings.Repeat("x", impl.MaxWords+1), "a" + strings.Repeat(" ", impl.MaxWords),
	}
	for b := 0; b < 256; b++ {
		if b >= 32 && b <= 126 {
			continue
		}
		odd := string([]byte{byte(b)})
		lines = append(lines, odd, odd+"a b", "a"+odd+"b", "a "+odd+" b", "a b"+odd, " "+odd)
	}
	lines = append(lines, "é", "a\u00a0b", "a\u2003b")
	for _, line := range lines {
		if parts, ok := impl.PartsOf(line); len(parts) != 0 || ok {
			t.Errorf("PartsOf(%.30q) = %q, %v", line, parts, ok)
		}
	}
}

func TestPartsOfEachPlainByte(t *testing.T) {
	for b := 33; b <= 126; b++ {
		s := string([]byte{byte(b)})
		samePartsAs(t, s, s)
		samePartsAs(t, s+" a"+s+" ", s, "a"+s)
	}
}

func TestPartsOfAnyLine(t *testing.T) {
	for _, line := range textsOver("a~ ", 8) {
		var want []string
		for _, part := range strings.Split(line, " ") {
			if part != "" {
				want = append(want, part)
			}
		}
		samePartsAs(t, line, want...)
	}
}

func TestAnswersOfWordsAreNewMemory(t *testing.T) {
	line := strings.Repeat("word ", 3)
	parts, _ := impl.PartsOf(line)
	for _, part := range parts {
		if within(part, line) {
			t.Error("a part shares memory with its line")
		}
	}
	parts[0] = "other"
	if again, _ := impl.PartsOf(line); again[0] != "word" {
		t.Error("an answer is kept for the next call")
	}
	text, _ := impl.ShortText(line)
	if s, _, _ := impl.ReadShort(text, 0); s != line || within(s, text) {
		t.Error("a text that is read shares memory with what it is read from")
	}
}
