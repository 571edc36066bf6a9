package impl

import (
	"strconv"
	"strings"
)

const (
	MaxText   = 20000
	MaxNumber = 1000000000
	MaxWords  = 600
	MaxParts  = 12
)

const hexDigits = "0123456789abcdef"

func Hex(text string) (string, bool) {
	if len(text) > MaxText {
		return "", false
	}
	out := make([]byte, 0, 2*len(text))
	for i := range len(text) {
		out = append(out, hexDigits[text[i]/16], hexDigits[text[i]%16])
	}
	return string(out), true
}

func Unhex(text string) (string, bool) {
	if len(text)%2 != 0 || len(text) > 2*MaxText {
		return "", false
	}
	out := make([]byte, 0, len(text)/2)
	for i := 0; i < len(text); i += 2 {
		high := strings.IndexByte(hexDigits, text[i])
		low := strings.IndexByte(hexDigits, text[i+1])
		if high < 0 || low < 0 {
			return "", false
		}
		out = append(out, byte(16*high+low))
	}
	return string(out), true
}

func Decimal(n int) string {
	return strconv.Itoa(n)
}

func ReadDecimal(text string) (int, bool) {
	n, err := strconv.Atoi(text)
	// Atoi also accepts signs and leading zeros, which Decimal never writes.
	if err != nil || n < 0 || n > MaxNumber || Decimal(n) != text {
		return 0, false
	}
	return n, true
}

func PartsOf(line string) ([]string, bool) {
	if len(line) > MaxWords {
		return nil, false
	}
	parts := []string{}
	field := []byte{}
	valid := true
scan:
	for i := range len(line) {
		switch b := line[i]; {
		case b < ' ' || b > '~':
			valid = false
			break scan
		case b == ' ':
			parts = withField(parts, field)
			field = field[:0]
		default:
			field = append(field, b)
		}
	}
	parts = withField(parts, field)
	if !valid || len(parts) > MaxParts {
		return nil, false
	}
	return parts, true
}

// withField skips an empty field, because spaces may be repeated and may stand at both ends of a line.
func withField(parts []string, field []byte) []string {
	if len(field) == 0 {
		return parts
	}
	return append(parts, string(field))
}

func Brought(n int, least int, most int) int {
	// The outer max lets least win when most is less than least.
	return max(least, min(n, most))
}
