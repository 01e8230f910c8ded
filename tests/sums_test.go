package tests

import (
	"hash/crc32"
	"strings"
	"sync"
	"testing"

	"loop.example/g00115/impl"
)

// Promise 2: a text with one byte turned is never Unsealed as sealed; SumMore goes on where SumOf stopped.

// sumByRule takes the document's rule word for word, with numbers instead of bits.
func sumByRule(sum uint32, text string) uint32 {
	for i := 0; i < len(text); i++ {
		sum ^= uint32(text[i])
		for step := 0; step < 8; step++ {
			odd := sum%2 == 1
			sum /= 2
			if odd {
				sum ^= 3558460437
			}
		}
	}
	return sum
}

func sumsToStartFrom() []uint32 {
	sums := []uint32{0, 3, 255, 256, 3558460437, 0x01020304, 0x80000001, 0x7fffffff, 0xfffffffe, 0xffffffff}
	for bit := uint32(1); bit != 0; bit *= 2 {
		sums = append(sums, bit)
	}
	return sums
}

func TestSumsThatAreKnown(t *testing.T) {
	for _, c := range []struct {
		sum  uint32
		text string
		want uint32
	}{
		{0, "", 0}, {7, "", 7}, {0xffffffff, "", 0xffffffff},
		{0, "\x00", 0}, {0, "\x80", 3558460437}, {0, "\x80\x00\x00\x00\x00", sumByRule(3558460437, "\x00\x00\x00\x00")},
		{0x80, "\x80", 0}, {0x12345600, "\x00", 0x123456}, {0x12345678, "\x78", 0x123456},
	} {
		if got := impl.SumMore(c.sum, c.text); got != c.want {
			t.Errorf("SumMore(%#x, %q) = %#x, want %#x", c.sum, c.text, got, c.want)
		}
	}
	if got := impl.SumOf(""); got != 4294967295 {
		t.Errorf("SumOf of nothing is %d", got)
	}
	// The check of this sum that is published is told with every bit turned.
	if got := impl.SumOf("123456789"); ^got != 0x87315576 {
		t.Errorf("SumOf(123456789) = %#x", got)
	}
}

func TestSumMoreIsByTheRule(t *testing.T) {
	texts := append(textsForSizes(), "a", "abc", "\x01", "\x80", "\x00\x00", "\xff\xff\xff\xff", "\x00\x00\x00\x00", "line\n")
	for _, sum := range sumsToStartFrom() {
		for _, text := range texts {
			if got, want := impl.SumMore(sum, text), sumByRule(sum, text); got != want {
				t.Fatalf("SumMore(%#x, %.20q) = %#x, want %#x", sum, text, got, want)
			}
		}
		for b := 0; b < 256; b++ {
			text := string([]byte{byte(b)})
			if got, want := impl.SumMore(sum, text), sumByRule(sum, text); got != want {
				t.Fatalf("SumMore(%#x, %q) = %#x, want %#x", sum, text, got, want)
			}
		}
	}
}

func TestSumOfIsByTheRule(t *testing.T) {
	table := crc32.MakeTable(3558460437)
	for _, text := range append(textsForSizes(), textsOver(allBytes(), 2)...) {
		got := impl.SumOf(text)
		if want := sumByRule(4294967295, text); got != want {
			t.Fatalf("SumOf(%.20q) = %#x, want %#x", text, got, want)
		}
		if want := ^crc32.Checksum([]byte(text), table); got != want {
			t.Fatalf("SumOf(%.20q) = %#x, the library's is %#x", text, got, want)
		}
	}
}

// Sums have no limit of length: only what is sealed has one.
func TestSumsOfLongTexts(t *testing.T) {
	for _, size := range []int{impl.MaxText + 1, 3*impl.MaxText + 5, 200000} {
		text := strings.Repeat("\x9aq\x00", size)[:size]
		if got, want := impl.SumOf(text), sumByRule(4294967295, text); got != want {
			t.Errorf("SumOf of %d bytes is %#x, want %#x", size, got, want)
		}
		if got, want := impl.SumMore(5, text), sumByRule(5, text); got != want {
			t.Errorf("SumMore of %d bytes is %#x, want %#x", size, got, want)
		}
	}
}

func TestSumMoreGoesOnWhereSumOfStopped(t *testing.T) {
	for _, text := range []string{"", "a", "abc", "\x00\x00\x00", "function f(x) { return x; }", allBytes()} {
		for cut := 0; cut <= len(text); cut++ {
			if got, want := impl.SumMore(impl.SumOf(text[:cut]), text[cut:]), impl.SumOf(text); got != want {
				t.Fatalf("%.20q cut at %d sums to %#x, whole to %#x", text, cut, got, want)
			}
			for _, sum := range sumsToStartFrom() {
				if got, want := impl.SumMore(impl.SumMore(sum, text[:cut]), text[cut:]), impl.SumMore(sum, text); got != want {
					t.Fatalf("%.20q cut at %d from %#x on sums to %#x, whole to %#x", text, cut, sum, got, want)
				}
			}
		}
	}
	long := strings.Repeat("\xfez", impl.MaxText)[:impl.MaxText]
	for _, cut := range []int{0, 1, 2, 5999, 6000, impl.MaxText - 1, impl.MaxText} {
		if got, want := impl.SumMore(impl.SumOf(long[:cut]), long[cut:]), impl.SumOf(long); got != want {
			t.Fatalf("MaxText bytes cut at %d sum to %#x, whole to %#x", cut, got, want)
		}
	}
	bytewise := impl.SumOf("")
	for i := range long {
		bytewise = impl.SumMore(bytewise, long[i:i+1])
	}
	if want := impl.SumOf(long); bytewise != want {
		t.Errorf("byte by byte the sum is %#x, whole %#x", bytewise, want)
	}
}

func TestSumsFromManySides(t *testing.T) {
	var group sync.WaitGroup
	got := make([]uint32, 16)
	for i := range got {
		group.Go(func() { got[i] = impl.SumMore(impl.SumOf("1234"), "56789") })
	}
	group.Wait()
	for i, sum := range got {
		if ^sum != 0x87315576 {
			t.Errorf("the sum from side %d is %#x", i, sum)
		}
	}
}

func fourBytes(n uint32) string {
	return string([]byte{byte(n / 16777216), byte(n / 65536 % 256), byte(n / 256 % 256), byte(n % 256)})
}

func TestSealedIsTextAndSum(t *testing.T) {
	for _, c := range []struct{ text, want string }{
		{"", "\xff\xff\xff\xff"}, {"123456789", "123456789\x78\xce\xaa\x89"},
	} {
		if s, ok := impl.Sealed(c.text); !ok || s != c.want {
			t.Errorf("Sealed(%q) = %q, %v, want %q", c.text, s, ok, c.want)
		}
	}
	for _, text := range textsForSizes() {
		s, ok := impl.Sealed(text)
		if !ok || s != text+fourBytes(sumByRule(4294967295, text)) {
			t.Fatalf("Sealed of %d bytes is not they and their sum", len(text))
		}
		if got, right := impl.Unsealed(s); !right || got != text {
			t.Fatalf("Unsealed of Sealed of %d bytes: %d bytes, %v", len(text), len(got), right)
		}
	}
}

func TestSealedMoreThanOnce(t *testing.T) {
	once, _ := impl.Sealed("abc")
	twice, ok := impl.Sealed(once)
	if got, right := impl.Unsealed(twice); !ok || !right || got != once {
		t.Errorf("what is sealed twice is Unsealed as %q, %v", got, right)
	}
	most, _ := impl.Sealed(strings.Repeat("a", impl.MaxText))
	if s, ok := impl.Sealed(most); s != "" || ok {
		t.Errorf("Sealed of MaxText and four bytes is %d bytes, %v", len(s), ok)
	}
}

func refusesToUnseal(t *testing.T, why string, text string) {
	t.Helper()
	if s, ok := impl.Unsealed(text); s != "" || ok {
		t.Errorf("%s: Unsealed(%.20q) of %d bytes = %.20q, %v", why, text, len(text), s, ok)
	}
}

func TestSealedAtItsLimit(t *testing.T) {
	for _, byteOfText := range []string{"a", "\x00", "\xff"} {
		most := strings.Repeat(byteOfText, impl.MaxText)
		s, ok := impl.Sealed(most)
		if !ok || len(s) != impl.MaxText+4 {
			t.Fatalf("Sealed of MaxText bytes is %d bytes, %v", len(s), ok)
		}
		if got, right := impl.Unsealed(s); !right || got != most {
			t.Errorf("Unsealed of MaxText and four bytes is %d bytes, %v", len(got), right)
		}
		over := most + byteOfText
		if s, ok := impl.Sealed(over); s != "" || ok {
			t.Errorf("Sealed of MaxText bytes and one more is %d bytes, %v", len(s), ok)
		}
		refusesToUnseal(t, "a right sum behind one byte too many", over+fourBytes(sumByRule(4294967295, over)))
		refusesToUnseal(t, "a text far too long", over+over+fourBytes(sumByRule(4294967295, over+over)))
	}
}

func TestUnsealedOfFewerThanFourBytes(t *testing.T) {
	for _, text := range textsOver(allBytes(), 2) {
		refusesToUnseal(t, "fewer than four bytes", text)
	}
	for _, text := range textsOver("\x00\x01\x7f\x80\xff", 3) {
		refusesToUnseal(t, "fewer than four bytes", text)
	}
	if s, ok := impl.Unsealed("\xff\xff\xff\xff"); s != "" || !ok {
		t.Errorf("Unsealed of four bytes 255 = %q, %v", s, ok)
	}
	for _, text := range textsOver("\x00\x01\x7f\x80\xfe\xff", 4) {
		if len(text) == 4 && text != "\xff\xff\xff\xff" {
			refusesToUnseal(t, "four bytes that are no sum of nothing", text)
		}
	}
}

func sealedToSpoil(t *testing.T) []string {
	var out []string
	for _, text := range []string{"", "a", "abc", "123456789", "\x00\x00\x00\x00\x00", "\xff\xff\xff\xff", "function f(x) { return x; }", allBytes()} {
		s, ok := impl.Sealed(text)
		if !ok {
			t.Fatalf("Sealed(%.20q) is refused", text)
		}
		out = append(out, s)
	}
	return out
}

func TestByteTurnedIsRefused(t *testing.T) {
	for _, s := range sealedToSpoil(t) {
		for i := range len(s) {
			for turn := 1; turn < 256; turn++ {
				spoiled := []byte(s)
				spoiled[i] ^= byte(turn)
				refusesToUnseal(t, "a byte is turned", string(spoiled))
			}
		}
	}
}

func TestByteTurnedOfTheLongestIsRefused(t *testing.T) {
	s, _ := impl.Sealed(strings.Repeat("\xfez", impl.MaxText)[:impl.MaxText])
	spoiled := []byte(s)
	for i := 0; i < len(s); i += 211 {
		for bit := 1; bit < 256; bit *= 2 {
			spoiled[i] ^= byte(bit)
			refusesToUnseal(t, "a bit of the longest is turned", string(spoiled))
			spoiled[i] ^= byte(bit)
		}
	}
	for i := impl.MaxText - 2; i < len(s); i++ {
		spoiled[i] ^= 255
		refusesToUnseal(t, "a byte at the end of the longest is turned", string(spoiled))
		spoiled[i] ^= 255
	}
}

func TestSumInAnotherOrderIsRefused(t *testing.T) {
	for _, s := range sealedToSpoil(t) {
		text, sum := s[:len(s)-4], s[len(s)-4:]
		for _, order := range textsOver("\x00\x01\x02\x03", 4) {
			if len(order) < 4 {
				continue
			}
			other := ""
			for i := range 4 {
				other += sum[order[i] : order[i]+1]
			}
			if other != sum {
				refusesToUnseal(t, "the sum's bytes are in another order", text+other)
			}
		}
		if sum+text != s {
			refusesToUnseal(t, "the sum is ahead", sum+text)
		}
		refusesToUnseal(t, "the sum's bits are turned", text+fourBytes(^impl.SumOf(text)))
		refusesToUnseal(t, "the sum of a start at 0", text+"z"+fourBytes(sumByRule(0, text+"z")))
	}
}

func TestByteTooManyOrTooFewIsRefused(t *testing.T) {
	for _, s := range sealedToSpoil(t) {
		for cut := 1; cut <= len(s); cut++ {
			refuseUnlessSealed(t, "the end is left out", s[:len(s)-cut])
			refuseUnlessSealed(t, "the beginning is left out", s[cut:])
		}
		for at := 0; at <= len(s); at++ {
			for b := 0; b < 256; b++ {
				refuseUnlessSealed(t, "a byte is put in", s[:at]+string([]byte{byte(b)})+s[at:])
			}
			if at < len(s) {
				refuseUnlessSealed(t, "a byte is left out", s[:at]+s[at+1:])
			}
		}
	}
}

// A byte put in or left out may, by chance, give what is sealed again: the rule tells.
func refuseUnlessSealed(t *testing.T, why string, text string) {
	t.Helper()
	if size := len(text) - 4; size >= 0 && text[size:] == fourBytes(sumByRule(4294967295, text[:size])) {
		if s, ok := impl.Unsealed(text); s != text[:size] || !ok {
			t.Errorf("%s, and what is left is sealed: Unsealed(%.20q) = %.20q, %v", why, text, s, ok)
		}
		return
	}
	refusesToUnseal(t, why, text)
}

func TestSealsAreNewMemory(t *testing.T) {
	text := strings.Repeat("ab", 50)
	s, _ := impl.Sealed(text)
	if within(s, text) {
		t.Error("Sealed shares memory with its text")
	}
	if got, _ := impl.Unsealed(s); within(got, s) {
		t.Error("Unsealed shares memory with its text")
	}
}
