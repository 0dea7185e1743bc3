package impl

import (
	"strconv"
	"strings"
)

const (
	MaxText   = 20000
	MaxNumber = 1000000000
	MaxWords  = 600
	MaxParts  = 10
)

const hexFigures = "0123456789abcdef"

func VarText(n int) (string, bool) {
	if n < 0 || n > MaxNumber {
		return "", false
	}
	out := []byte{}
	for n > 127 {
		out = append(out, byte(n%128+128))
		n /= 128
	}
	out = append(out, byte(n))
	return string(out), true
}

func ReadVar(text string, at int) (int, int, bool) {
	if at < 0 || at > len(text) {
		return 0, 0, false
	}
	n := 0
	// A byte that counts more than MaxNumber is of no number, so n stays far from wrapping round.
	for i, unit := at, 1; i < len(text) && unit <= MaxNumber; i, unit = i+1, unit*128 {
		b := int(text[i])
		n += b % 128 * unit
		if b > 127 {
			continue
		}
		// A last byte of 0 adds nothing: VarText would have stopped ahead of it.
		longer := b == 0 && i > at
		if longer || n > MaxNumber {
			return 0, 0, false
		}
		return n, i + 1, true
	}
	return 0, 0, false
}

func ShortText(s string) (string, bool) {
	if len(s) > MaxText {
		return "", false
	}
	head, ok := VarText(len(s))
	return head + s, ok
}

func ReadShort(text string, at int) (string, int, bool) {
	length, from, ok := ReadVar(text, at)
	if !ok || length > MaxText || length > len(text)-from {
		return "", 0, false
	}
	behind := from + length
	// A piece of text would share its memory.
	return strings.Clone(text[from:behind]), behind, true
}

func Hex(text string) (string, bool) {
	if len(text) > MaxText {
		return "", false
	}
	out := make([]byte, 0, 2*len(text))
	for i := 0; i < len(text); i++ {
		out = append(out, hexFigures[text[i]/16], hexFigures[text[i]%16])
	}
	return string(out), true
}

func Unhex(text string) (string, bool) {
	if len(text)%2 != 0 || len(text) > 2*MaxText {
		return "", false
	}
	out := make([]byte, len(text)/2)
figures:
	for i := 0; i < len(text); i++ {
		for value := 0; value < len(hexFigures); value++ {
			if text[i] == hexFigures[value] {
				out[i/2] = out[i/2]*16 + byte(value)
				continue figures
			}
		}
		return "", false
	}
	return string(out), true
}

func Decimal(n int) string {
	return strconv.Itoa(n)
}

func ReadDecimal(text string) (int, bool) {
	n := 0
figures:
	for i := 0; i < len(text); i++ {
		switch c := text[i]; {
		case c < '0', c > '9', n > MaxNumber:
			break figures
		default:
			n = n*10 + int(c-'0')
		}
	}
	// Only a number's own Decimal is written again just so: this refuses signs, needless noughts and the empty text.
	if n > MaxNumber || Decimal(n) != text {
		return 0, false
	}
	return n, true
}

func PartsOf(line string) ([]string, bool) {
	if len(line) > MaxWords || !isPrintable(line) {
		return []string{}, false
	}
	// Of printable bytes the blank alone is white space to Fields; the clone keeps the parts out of line's memory.
	parts := strings.Fields(strings.Clone(line))
	if len(parts) > MaxParts {
		return []string{}, false
	}
	return parts, true
}

func isPrintable(line string) bool {
	for i := 0; i < len(line); i++ {
		if line[i] < 32 || line[i] > 126 {
			return false
		}
	}
	return true
}
