package impl

import (
	"strconv"
	"strings"
)

const (
	MaxText   = 12000
	MaxNumber = 1000000000
	MaxWords  = 300
	MaxParts  = 8
)

// varStep is both what a byte of a number counts in and the mark that another byte follows.
const varStep = 128

const hexFigures = "0123456789abcdef"

func VarText(n int) (string, bool) {
	if n < 0 || n > MaxNumber {
		return "", false
	}
	var out []byte
	for n >= varStep {
		out = append(out, byte(n%varStep+varStep))
		n /= varStep
	}
	return string(append(out, byte(n))), true
}

func ReadVar(text string, at int) (int, int, bool) {
	if at < 0 || at > len(text) {
		return 0, 0, false
	}
	n, unit := 0, 1
	// A byte whose unit is above MaxNumber makes the number too great, or is a 0 and so a longer form;
	// stopping ahead of it keeps unit from wrapping round.
	for i := at; i < len(text) && unit <= MaxNumber; i++ {
		b := int(text[i])
		n += b % varStep * unit
		if b < varStep {
			longer := b == 0 && i > at
			if longer || n > MaxNumber {
				return 0, 0, false
			}
			return n, i + 1, true
		}
		unit *= varStep
	}
	return 0, 0, false
}

func ShortText(s string) (string, bool) {
	if len(s) > MaxText {
		return "", false
	}
	size, ok := VarText(len(s))
	return size + s, ok
}

func ReadShort(text string, at int) (string, int, bool) {
	size, begin, ok := ReadVar(text, at)
	if !ok || size > MaxText || size > len(text)-begin {
		return "", 0, false
	}
	end := begin + size
	// A piece of text would share its memory.
	return strings.Clone(text[begin:end]), end, true
}

func Hex(text string) (string, bool) {
	if len(text) > MaxText {
		return "", false
	}
	out := make([]byte, 0, 2*len(text))
	for i := 0; i < len(text); i++ {
		out = append(out, hexFigures[text[i]>>4], hexFigures[text[i]&15])
	}
	return string(out), true
}

func Unhex(text string) (string, bool) {
	if len(text)%2 != 0 || len(text) > 2*MaxText {
		return "", false
	}
	out := make([]byte, len(text)/2)
	read := 0
figures:
	for read < len(text) {
		b := text[read]
		switch {
		case b >= '0' && b <= '9':
			b -= '0'
		case b >= 'a' && b <= 'f':
			b -= 'a' - 10
		default:
			break figures
		}
		out[read/2] = out[read/2]<<4 | b
		read++
	}
	if read < len(text) {
		return "", false
	}
	return string(out), true
}

func Decimal(n int) string { return strconv.Itoa(n) }

func ReadDecimal(text string) (int, bool) {
	n, read := 0, 0
figures:
	for read < len(text) {
		b := text[read]
		needless := read > 0 && n == 0
		switch {
		case b < '0' || b > '9' || needless:
			break figures
		case n*10+int(b-'0') > MaxNumber:
			break figures
		}
		n = n*10 + int(b-'0')
		read++
	}
	if read == 0 || read < len(text) {
		return 0, false
	}
	return n, true
}

func PartsOf(line string) ([]string, bool) {
	if len(line) > MaxWords || !plainLine(line) {
		return nil, false
	}
	// Pieces of line would share its memory.
	// Fields parts at other bytes, too, but none of them is in a plain line.
	parts := strings.Fields(strings.Clone(line))
	if len(parts) > MaxParts {
		return nil, false
	}
	return parts, true
}

func plainLine(line string) bool {
	for i := 0; i < len(line); i++ {
		if line[i] < ' ' || line[i] > '~' {
			return false
		}
	}
	return true
}
