package tests

import (
	"encoding/hex"
	"math"
	"slices"
	"strconv"
	"strings"
	"testing"

	"loop.example/g00975/impl"
)

func TestWordLimits(t *testing.T) {
	if impl.MaxText != 20000 || impl.MaxNumber != 1000000000 || impl.MaxWords != 600 || impl.MaxParts != 12 {
		t.Error("limits differ from chapter 1:", impl.MaxText, impl.MaxNumber, impl.MaxWords, impl.MaxParts)
	}
}

// checkHexPair fails unless Hex maps text to code and Unhex maps it back.
func checkHexPair(t *testing.T, text, code string) {
	t.Helper()
	if got, ok := impl.Hex(text); !ok || got != code {
		t.Errorf("Hex(%.40q) = %.40q, %v; want %.40q, true", text, got, ok, code)
	}
	if got, ok := impl.Unhex(code); !ok || got != text {
		t.Errorf("Unhex(%.40q) = %.40q, %v; want %.40q, true", code, got, ok, text)
	}
}

func TestHexAndUnhexAreInverse(t *testing.T) {
	checkHexPair(t, "", "")
	checkHexPair(t, "az", "617a")
	checkHexPair(t, "\x00\x0f\xf0\xff", "000ff0ff")
	checkHexPair(t, "é\n", "c3a90a")
	all := make([]byte, 0, 256)
	for b := range 256 {
		one := string([]byte{byte(b)})
		checkHexPair(t, one, hex.EncodeToString([]byte(one)))
		all = append(all, byte(b))
	}
	checkHexPair(t, string(all), hex.EncodeToString(all))
}

func TestHexLimit(t *testing.T) {
	checkHexPair(t, strings.Repeat("k", impl.MaxText-1), strings.Repeat("6b", impl.MaxText-1))
	checkHexPair(t, strings.Repeat("k", impl.MaxText), strings.Repeat("6b", impl.MaxText))
	if got, ok := impl.Hex(strings.Repeat("k", impl.MaxText+1)); ok || got != "" {
		t.Errorf("Hex of MaxText+1 bytes = %.40q, %v", got, ok)
	}
	for _, n := range []int{2*impl.MaxText + 1, 2*impl.MaxText + 2} {
		if got, ok := impl.Unhex(strings.Repeat("6", n)); ok || got != "" {
			t.Errorf("Unhex of %d digits = %.40q, %v", n, got, ok)
		}
	}
}

func TestUnhexRejects(t *testing.T) {
	for _, text := range []string{"6", "617", "6A", "A6", "FF", "0x61", "g0", "0g", " 61", "61 ", "6 1 ", "-1", "+1", "/0", "0/", ":0", "0:", "`0", "0`", "61zz", "zz61", "\x00\x00", "é"} {
		if got, ok := impl.Unhex(text); ok || got != "" {
			t.Errorf("Unhex(%q) = %q, %v; want \"\", false", text, got, ok)
		}
	}
}

func TestUnhexOfEveryPairOfBytes(t *testing.T) {
	for high := range 256 {
		for low := range 256 {
			text := string([]byte{byte(high), byte(low)})
			got, ok := impl.Unhex(text)
			back, err := hex.DecodeString(text)
			want := err == nil && hex.EncodeToString(back) == text
			if ok != want || ok && got != string(back) || !ok && got != "" {
				t.Fatalf("Unhex(%q) = %q, %v", text, got, ok)
			}
		}
	}
}

func TestDecimal(t *testing.T) {
	cases := map[int]string{
		0: "0", 1: "1", -1: "-1", 9: "9", 10: "10", -5: "-5", -10: "-10", 907: "907",
		impl.MaxNumber: "1000000000", impl.MaxNumber + 1: "1000000001", -impl.MaxNumber: "-1000000000",
		math.MaxInt: "9223372036854775807", math.MinInt: "-9223372036854775808",
	}
	for n, want := range cases {
		if got := impl.Decimal(n); got != want {
			t.Errorf("Decimal(%d) = %q; want %q", n, got, want)
		}
	}
}

// checkNumberPair fails unless n, within the limit, is read back from Decimal(n).
func checkNumberPair(t *testing.T, n int) {
	t.Helper()
	text := impl.Decimal(n)
	if got, ok := impl.ReadDecimal(text); !ok || got != n {
		t.Errorf("ReadDecimal(Decimal(%d)) = %d, %v", n, got, ok)
	}
}

func TestDecimalAndReadDecimalAreInverse(t *testing.T) {
	for n := range 12000 {
		checkNumberPair(t, n)
		checkNumberPair(t, impl.MaxNumber-n)
	}
	for n := 1; n <= impl.MaxNumber; n *= 10 {
		checkNumberPair(t, n-1)
		checkNumberPair(t, n)
	}
	for _, n := range []int{-1, -7, impl.MaxNumber + 1, math.MaxInt, math.MinInt} {
		if got, ok := impl.ReadDecimal(impl.Decimal(n)); ok || got != 0 {
			t.Errorf("ReadDecimal(Decimal(%d)) = %d, %v; want 0, false", n, got, ok)
		}
	}
}

func TestReadDecimalRejects(t *testing.T) {
	for _, text := range []string{
		"", "00", "01", "007", "0000000001", "01000000000", "-0", "-01", "-1", "-1000000000", "+0", "+1", "--1", "-", "+",
		" ", " 1", "1 ", "1 2", "\t1", "1\n", "1.0", "1.", ".1", "1e3", "0x1", "0b1", "1_000", "1,000", "ten", "1a", "a1", "/", ":", "1\x00", "٣", "１",
		"1000000001", "1999999999", "10000000000", "4294967296", "9223372036854775808", "18446744073709551616", "18446744073709551617",
		strings.Repeat("0", 50), strings.Repeat("9", 5000),
	} {
		if got, ok := impl.ReadDecimal(text); ok || got != 0 {
			t.Errorf("ReadDecimal(%.40q) = %d, %v; want 0, false", text, got, ok)
		}
	}
}

// TestReadDecimalOfShortTexts compares every short text over some bytes with the set of all numbers that Decimal writes as briefly.
func TestReadDecimalOfShortTexts(t *testing.T) {
	written := map[string]int{}
	for n := range 1000 {
		written[strconv.Itoa(n)] = n
	}
	texts := []string{""}
	for range 3 {
		for _, text := range slices.Clone(texts) {
			for _, b := range "0159-+ _x" {
				texts = append(texts, text+string(b))
			}
		}
	}
	for _, text := range texts {
		want, in := written[text]
		if got, ok := impl.ReadDecimal(text); ok != in || got != want {
			t.Errorf("ReadDecimal(%q) = %d, %v; want %d, %v", text, got, ok, want, in)
		}
	}
}

func TestPartsOf(t *testing.T) {
	cases := []struct {
		line string
		want []string
	}{
		{"", nil},
		{" ", nil},
		{"     ", nil},
		{"step", []string{"step"}},
		{"a", []string{"a"}},
		{"step 0 1", []string{"step", "0", "1"}},
		{" step  1 ", []string{"step", "1"}},
		{"   set   0 1  2 ", []string{"set", "0", "1", "2"}},
		{"a b a", []string{"a", "b", "a"}},
		{"! ~ !~", []string{"!", "~", "!~"}},
		{"#x,y\"z\\", []string{"#x,y\"z\\"}},
	}
	for _, c := range cases {
		if got, ok := impl.PartsOf(c.line); !ok || !slices.Equal(got, c.want) {
			t.Errorf("PartsOf(%q) = %q, %v; want %q, true", c.line, got, ok, c.want)
		}
	}
}

func TestPartsOfEveryByte(t *testing.T) {
	for b := range 256 {
		text := string([]byte{byte(b)})
		for _, line := range []string{text, text + "ab", "ab" + text, "a " + text + " b", "ab " + text} {
			got, ok := impl.PartsOf(line)
			if b < 32 || b > 126 {
				if ok || len(got) != 0 {
					t.Errorf("PartsOf(%q) = %q, %v; want none, false", line, got, ok)
				}
			} else if !ok || !slices.Equal(got, strings.Fields(line)) {
				t.Errorf("PartsOf(%q) = %q, %v; want %q, true", line, got, ok, strings.Fields(line))
			}
		}
	}
}

func TestPartsOfLimits(t *testing.T) {
	full := strings.Repeat("x", impl.MaxWords)
	if got, ok := impl.PartsOf(full); !ok || !slices.Equal(got, []string{full}) {
		t.Errorf("PartsOf of MaxWords bytes = %d fields, %v", len(got), ok)
	}
	if got, ok := impl.PartsOf(strings.Repeat(" ", impl.MaxWords)); !ok || len(got) != 0 {
		t.Errorf("PartsOf of MaxWords spaces = %q, %v", got, ok)
	}
	most := slices.Repeat([]string{"p"}, impl.MaxParts)
	for _, line := range []string{strings.Join(most, " "), "  " + strings.Join(most, "  ") + "  "} {
		if got, ok := impl.PartsOf(line); !ok || !slices.Equal(got, most) {
			t.Errorf("PartsOf(%q) = %q, %v; want MaxParts fields", line, got, ok)
		}
	}
	for _, line := range []string{
		full + "x", full + " ", " " + full, strings.Repeat(" ", impl.MaxWords+1),
		strings.Join(most, " ") + " p", " " + strings.Join(most, "  ") + "  p ", strings.Repeat("p ", impl.MaxWords/2),
	} {
		if got, ok := impl.PartsOf(line); ok || len(got) != 0 {
			t.Errorf("PartsOf(%.40q) = %q, %v; want none, false", line, got, ok)
		}
	}
}

func TestBrought(t *testing.T) {
	cases := []struct{ n, least, most, want int }{
		{3, 1, 5, 3}, {1, 1, 5, 1}, {5, 1, 5, 5}, {0, 1, 5, 1}, {6, 1, 5, 5}, {9, 1, 5, 5}, {-9, 1, 5, 1},
		{-3, -5, -1, -3}, {-6, -5, -1, -5}, {0, -5, -1, -1},
		{3, 4, 4, 4}, {4, 4, 4, 4}, {5, 4, 4, 4},
		{3, 5, 1, 5}, {0, 5, 1, 5}, {9, 5, 1, 5}, {1, 5, 1, 5}, {5, 5, 1, 5}, {5, 5, 4, 5},
		{math.MinInt, 0, 24, 0}, {math.MaxInt, 0, 24, 24},
		{7, math.MinInt, math.MaxInt, 7}, {7, math.MaxInt, math.MinInt, math.MaxInt},
		{math.MinInt, math.MinInt, math.MaxInt, math.MinInt}, {math.MaxInt, math.MinInt, math.MaxInt, math.MaxInt},
	}
	for _, c := range cases {
		if got := impl.Brought(c.n, c.least, c.most); got != c.want {
			t.Errorf("Brought(%d, %d, %d) = %d; want %d", c.n, c.least, c.most, got, c.want)
		}
	}
}

func TestBroughtStaysInRange(t *testing.T) {
	for n := -9; n <= 9; n++ {
		for least := -6; least <= 6; least++ {
			for most := least; most <= 6; most++ {
				got := impl.Brought(n, least, most)
				inside := least <= n && n <= most
				if got < least || got > most || inside && got != n {
					t.Errorf("Brought(%d, %d, %d) = %d", n, least, most, got)
				}
			}
		}
	}
}
