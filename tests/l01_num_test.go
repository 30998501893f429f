package tests

import (
	"fmt"
	"math"
	"math/rand"
	"slices"
	"strings"
	"testing"

	"loop.example/g00585/impl"
)

// Promise 1: integers are parsed from their decimal representation, and
// splitting and joining are inverse.

const (
	numberMax = 999999
	intMax    = 999999999999
)

type intParser struct {
	name      string
	parse     func(string) (int, bool)
	low, high int
}

func intParsers() []intParser {
	return []intParser{
		{"ParseNumber", impl.ParseNumber, 0, numberMax},
		{"ParseInt", impl.ParseInt, -intMax, intMax},
	}
}

// checkParse compares both results: a rejected text must give 0.
func checkParse(t *testing.T, p intParser, s string, want int, wantOK bool) {
	t.Helper()
	if n, ok := p.parse(s); n != want || ok != wantOK {
		t.Errorf("%s(%q) = %d, %v, want %d, %v", p.name, s, n, ok, want, wantOK)
	}
}

func checkRange(t *testing.T, n int) {
	t.Helper()
	for _, p := range intParsers() {
		if n >= p.low && n <= p.high {
			checkParse(t, p, fmt.Sprint(n), n, true)
		} else {
			checkParse(t, p, fmt.Sprint(n), 0, false)
		}
	}
}

func TestFormatInt(t *testing.T) {
	for n, want := range map[int]string{
		0:             "0",
		7:             "7",
		10:            "10",
		42:            "42",
		100:           "100",
		-1:            "-1",
		-5:            "-5",
		-10:           "-10",
		-70:           "-70",
		1000000:       "1000000",
		-intMax:       "-999999999999",
		math.MaxInt:   "9223372036854775807",
		-math.MaxInt:  "-9223372036854775807",
		math.MinInt:   "-9223372036854775808",
		math.MaxInt32: "2147483647",
		math.MinInt32: "-2147483648",
	} {
		if got := impl.FormatInt(n); got != want {
			t.Errorf("FormatInt(%d) = %q, want %q", n, got, want)
		}
	}
}

func TestFormatIntAtPowersOfTen(t *testing.T) {
	for n := 1; n <= math.MaxInt/10; n *= 10 {
		for _, m := range []int{n - 1, n, n + 1, -n + 1, -n, -n - 1} {
			if got, want := impl.FormatInt(m), fmt.Sprint(m); got != want {
				t.Errorf("FormatInt(%d) = %q", m, got)
			}
		}
	}
}

func TestParseOrdinary(t *testing.T) {
	for _, n := range []int{0, 1, 9, 10, 12, 99, 100, 1234, 40506, 654321} {
		checkRange(t, n)
		checkRange(t, -n)
	}
	for n := 1; n <= math.MaxInt/10; n *= 10 {
		for _, m := range []int{n - 1, n, n + 1, -n + 1, -n, -n - 1} {
			checkRange(t, m)
		}
	}
}

func TestParseRangeEnds(t *testing.T) {
	number, integer := intParsers()[0], intParsers()[1]
	checkParse(t, number, "0", 0, true)
	checkParse(t, number, "999999", 999999, true)
	checkParse(t, number, "1000000", 0, false)
	checkParse(t, number, "-1", 0, false)
	checkParse(t, integer, "999999999999", 999999999999, true)
	checkParse(t, integer, "1000000000000", 0, false)
	checkParse(t, integer, "-999999999999", -999999999999, true)
	checkParse(t, integer, "-1000000000000", 0, false)
}

// A parser that let the value wrap around would accept some of these.
func TestParseBeyondIntegers(t *testing.T) {
	for _, p := range intParsers() {
		for _, s := range []string{
			"9223372036854775807", "-9223372036854775808",
			"9223372036854775808", "-9223372036854775809",
			"18446744073709551615", "18446744073709551616", "18446744073709551617",
			"-18446744073709551617", "340282366920938463463374607431768211457",
			strings.Repeat("9", 400), "1" + strings.Repeat("0", 100000),
		} {
			checkParse(t, p, s, 0, false)
		}
	}
}

func TestParseMalformed(t *testing.T) {
	for _, p := range intParsers() {
		for _, s := range []string{
			"", "-", "+", "--1", "-+1", "+-1", "1-", "1-1",
			"007", "00", "01", "-01", "-007", "-00", "-0", "+0", "+1", "+999",
			" 1", "1 ", " ", "1 2", "\t1", "1\n", "1\x00", "\x001",
			"a", "1a", "a1", "1e3", "0x10", "0b1", "0o7", "1_000", "1,000",
			"1.0", "1.", ".1", "NaN", "Inf", "true",
			"\u0661", "\uff11", "\u22121", "\xff", "1\xff", "\xb21",
			strings.Repeat("0", 1000) + "1",
		} {
			checkParse(t, p, s, 0, false)
		}
	}
}

// Every text of at most three of these bytes is accepted exactly if it is the
// representation of an integer.
func TestParseShortTexts(t *testing.T) {
	known := map[string]int{}
	for n := -99; n <= 999; n++ {
		known[fmt.Sprint(n)] = n
	}
	texts := []string{""}
	for from := 0; len(texts[from]) < 3; from++ {
		for _, c := range []byte("0123456789-+ _.x/:\x00\xff") {
			texts = append(texts, texts[from]+string([]byte{c}))
		}
	}
	for _, s := range texts {
		for _, p := range intParsers() {
			n, ok := known[s]
			if ok = ok && n >= p.low; !ok {
				n = 0
			}
			checkParse(t, p, s, n, ok)
		}
	}
}

func TestParseNumberAll(t *testing.T) {
	for n := 0; n <= numberMax; n++ {
		if m, ok := impl.ParseNumber(impl.FormatInt(n)); m != n || !ok {
			t.Fatalf("ParseNumber(FormatInt(%d)) = %d, %v", n, m, ok)
		}
	}
}

func TestParseIntRandom(t *testing.T) {
	r := rand.New(rand.NewSource(1))
	for range 20000 {
		checkRange(t, r.Intn(2*intMax+1)-intMax)
		checkRange(t, int(r.Uint64()))
	}
}

func TestSplitByte(t *testing.T) {
	for _, c := range []struct {
		s    string
		by   byte
		want []string
	}{
		{"", ',', []string{""}},
		{"", 0, []string{""}},
		{"a", ',', []string{"a"}},
		{"abc", ',', []string{"abc"}},
		{"a,b", ',', []string{"a", "b"}},
		{"a,b,c", ',', []string{"a", "b", "c"}},
		{"one two", ' ', []string{"one", "two"}},
		{",", ',', []string{"", ""}},
		{",,", ',', []string{"", "", ""}},
		{",a", ',', []string{"", "a"}},
		{"a,", ',', []string{"a", ""}},
		{",a,", ',', []string{"", "a", ""}},
		{"a,,b", ',', []string{"a", "", "b"}},
		{" a , b ", ',', []string{" a ", " b "}},
		{"a\x00b", 0, []string{"a", "b"}},
		{"a\xffb\xff", 0xff, []string{"a", "b", ""}},
		{"\xff\xfe", 0xfe, []string{"\xff", ""}},
		{"\u00e9", 0xa9, []string{"\xc3", ""}},
		{"\u00e9", 0xe9, []string{"\u00e9"}},
		{"\u00e9", 0xc3, []string{"", "\xa9"}},
		{"\ufffd", 0xff, []string{"\ufffd"}},
	} {
		if got := impl.SplitByte(c.s, c.by); !slices.Equal(got, c.want) {
			t.Errorf("SplitByte(%q, %q) = %q, want %q", c.s, c.by, got, c.want)
		}
	}
}

func TestJoin(t *testing.T) {
	for _, c := range []struct {
		list []string
		by   string
		want string
	}{
		{nil, ",", ""},
		{[]string{}, ",", ""},
		{[]string{""}, ",", ""},
		{[]string{"a"}, ",", "a"},
		{[]string{"a", "b"}, "-", "a-b"},
		{[]string{"a", "b", "c"}, "; ", "a; b; c"},
		{[]string{"", ""}, ",", ","},
		{[]string{"", "", ""}, "ab", "abab"},
		{[]string{"a", "", "b"}, ",", "a,,b"},
		{[]string{"a", "b", "c"}, "", "abc"},
		{[]string{"\xff", "\x00"}, "\xfe", "\xff\xfe\x00"},
		{[]string{"a,b", "c"}, ",", "a,b,c"},
	} {
		if got := impl.Join(c.list, c.by); got != c.want {
			t.Errorf("Join(%q, %q) = %q, want %q", c.list, c.by, got, c.want)
		}
	}
}

// checkSplit holds the parts of a string against what they are to be, without
// an expected value: their number, no separator in them, and the way back.
func checkSplit(t *testing.T, s string, by byte) {
	t.Helper()
	parts := impl.SplitByte(s, by)
	if want := strings.Count(s, string([]byte{by})) + 1; len(parts) != want {
		t.Errorf("SplitByte(%q, %q) has %d elements, want %d", s, by, len(parts), want)
	}
	for _, p := range parts {
		if strings.IndexByte(p, by) >= 0 {
			t.Errorf("SplitByte(%q, %q) leaves the separator in %q", s, by, p)
		}
	}
	if got := impl.Join(parts, string([]byte{by})); got != s {
		t.Errorf("Join of SplitByte(%q, %q) = %q", s, by, got)
	}
}

func TestJoinOfSplit(t *testing.T) {
	r := rand.New(rand.NewSource(2))
	for by := range 256 {
		for size := range 20 {
			s := make([]byte, size)
			for i := range s {
				s[i] = byte(by + r.Intn(3))
			}
			checkSplit(t, string(s), byte(by))
		}
	}
}

func TestSplitOfJoin(t *testing.T) {
	r := rand.New(rand.NewSource(3))
	for by := range 256 {
		for size := 1; size < 8; size++ {
			list := make([]string, size)
			for i := range list {
				list[i] = strings.Repeat(string([]byte{byte(by + 1 + r.Intn(255))}), r.Intn(3))
			}
			sep := string([]byte{byte(by)})
			if got := impl.SplitByte(impl.Join(list, sep), byte(by)); !slices.Equal(got, list) {
				t.Errorf("SplitByte of Join(%q, %q) = %q", list, sep, got)
			}
		}
	}
}

func TestSplitAndJoinKeepTheirArguments(t *testing.T) {
	room := []string{"a", "b", "kept", "kept"}
	list := room[:2]
	joined := impl.Join(list, ",")
	parts := impl.SplitByte(joined, ',')
	parts[0] = "changed"
	_ = append(parts, "changed")
	if !slices.Equal(room, []string{"a", "b", "kept", "kept"}) {
		t.Errorf("an argument of Join was changed: %q", room)
	}
	if joined != "a,b" || !slices.Equal(impl.SplitByte(joined, ','), []string{"a", "b"}) {
		t.Error("a result of SplitByte is shared with a later one")
	}
}
