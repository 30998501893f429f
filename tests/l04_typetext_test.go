package tests

import (
	"math/rand"
	"strings"
	"testing"

	"loop.example/g00585/impl"
)

// Promise 4: types are parsed from their representation.

// checkTypeText requires that s is the representation of x.
func checkTypeText(t *testing.T, x impl.Type, s string) {
	t.Helper()
	if got := impl.FormatType(x); got != s {
		t.Fatalf("FormatType gives %q, want %q", got, s)
	}
	got, ok := impl.ParseType(s)
	if !ok || typeWords(got) != s {
		t.Fatalf("ParseType(%q) = %s, %v", s, typeWords(got), ok)
	}
}

func checkNoType(t *testing.T, s string) {
	t.Helper()
	if got, ok := impl.ParseType(s); ok || got.Kind != 0 || len(got.Args) > 0 {
		t.Errorf("ParseType(%.60q) = %.60s, %v", s, typeWords(got), ok)
	}
}

func TestTypeTexts(t *testing.T) {
	checkTypeText(t, unknown(), "?")
	checkTypeText(t, number(), "N")
	checkTypeText(t, truth(), "B")
	checkTypeText(t, arrow(number(), truth()), "(N>B)")
	checkTypeText(t, couple(truth(), unknown()), "(B*?)")
	checkTypeText(t, arrow(arrow(number(), unknown()), couple(truth(), number())), "((N>?)>(B*N))")
	checkTypeText(t, couple(unknown(), couple(unknown(), arrow(unknown(), unknown()))), "(?*(?*(?>?)))")
	for _, x := range allTypes(3) {
		checkTypeText(t, x, typeWords(x))
	}
}

func TestTypeTextsAtTheLimits(t *testing.T) {
	for depth := 1; depth <= impl.MaxTypeDepth; depth++ {
		checkTypeText(t, chainType(depth, truth()), typeWords(chainType(depth, truth())))
	}
	checkNoType(t, typeWords(chainType(impl.MaxTypeDepth+1, truth())))
	for size := 1; size < impl.MaxTypeSize; size += 2 {
		checkTypeText(t, largeType(size), typeWords(largeType(size)))
	}
	checkNoType(t, typeWords(largeType(impl.MaxTypeSize+1)))
	checkNoType(t, typeWords(fullType(10)))
}

// The depth counts on both sides, also where the other side stays small.
func TestTypeTextDepthOnEachSide(t *testing.T) {
	for _, c := range []struct{ open, end string }{{"(N>", ")"}, {"(", "*B)"}, {"(?*", ")"}, {"(", ">N)"}} {
		for depth := range 40 {
			s := strings.Repeat(c.open, depth) + "?" + strings.Repeat(c.end, depth)
			if depth >= impl.MaxTypeDepth {
				checkNoType(t, s)
			} else if x, ok := impl.ParseType(s); !ok || impl.DepthOfType(x) != depth+1 || impl.FormatType(x) != s {
				t.Errorf("ParseType(%q) fails", s)
			}
		}
	}
}

func TestTextsOfNoType(t *testing.T) {
	for _, s := range []string{
		"", " ", "X", "n", "b", "?1", "??", "NN", "NB", "N ", " N", "N\n", "N\x00", "\x00", "\xff", "N\xff", "\uff1f",
		"(", ")", "()", "(N)", "(N>)", "(>N)", "(>)", "(N>B", "(N>B))", "((N>B)", "N>B", "N>B)", "(N B)", "(NB)", "(N>>B)",
		"(N>B) ", " (N>B)", "( N>B)", "(N >B)", "(N> B)", "(N>B )", "(N>B)N", "(N>B)(N>B)", "(N>B)>N",
		"(N*B>N)", "(N>B>N)", "(N*B*N)", "(N,B)", "(N-B)", "(N+B)", "(N=B)", "(N<B)", "(N?B)", "[N>B]", "{N>B}", "(n>B)",
		"(?>(N>))", "((N>B)*)", "(N\x00B)", "(N>B\x00", "(N>\x00)", "0", "1", "2", "#t", "if",
	} {
		checkNoType(t, s)
	}
}

func TestVeryLongAndDeepTypeTexts(t *testing.T) {
	for _, part := range []string{"(", ")", "(N>", "((", "(?*(N>", "?", "N", ">", "(N>B)", "*"} {
		checkNoType(t, strings.Repeat(part, 1000000))
	}
	many := 1000000
	checkNoType(t, strings.Repeat("(", many)+"N"+strings.Repeat(">B)", many))
	checkNoType(t, strings.Repeat("(N>", many)+"N"+strings.Repeat(")", many))
	checkNoType(t, "(N>B)"+strings.Repeat(" ", many))
	checkNoType(t, typeWords(fullType(17)))
}

func TestFormatOfWrongTypes(t *testing.T) {
	for what, x := range wrongTypes() {
		if got := impl.FormatType(x); got != "" {
			t.Errorf("%s: FormatType gives %q", what, got)
		}
		if got := impl.FormatType(arrow(x, number())); got != "" {
			t.Errorf("%s as a part: FormatType gives %q", what, got)
		}
	}
}

// Every text of at most seven of these bytes is accepted exactly if it is the
// representation of a type.
func TestShortTypeTexts(t *testing.T) {
	known := map[string]bool{}
	for _, x := range allTypes(3) {
		known[typeWords(x)] = true
	}
	texts := []string{""}
	for from := 0; len(texts[from]) < 7; from++ {
		for _, b := range []byte("(N?>*)") {
			texts = append(texts, texts[from]+string([]byte{b}))
		}
	}
	for _, s := range texts {
		x, ok := impl.ParseType(s)
		if ok != known[s] || ok && typeWords(x) != s || !ok && x.Kind != 0 {
			t.Fatalf("ParseType(%q) = %s, %v", s, typeWords(x), ok)
		}
	}
}

// A text in which one byte was changed is accepted only if it is the
// representation of what it is parsed to.
func TestChangedTypeTexts(t *testing.T) {
	r := rand.New(rand.NewSource(9))
	for range 20000 {
		s := []byte(typeWords(randomType(r, 6)))
		at := r.Intn(len(s))
		switch r.Intn(3) {
		case 0:
			s[at] = "(NB?>*) x"[r.Intn(9)]
		case 1:
			s = append(s[:at], s[at+1:]...)
		case 2:
			s = append(s[:at], append([]byte{"(NB?>*) x"[r.Intn(9)]}, s[at:]...)...)
		}
		if x, ok := impl.ParseType(string(s)); ok && typeWords(x) != string(s) {
			t.Fatalf("ParseType(%q) = %s", s, typeWords(x))
		}
	}
}

func TestTypeTextsShareNoMemory(t *testing.T) {
	x := roomyType(arrow(number(), couple(truth(), unknown())))
	before := wholeType(x)
	s := impl.FormatType(x)
	if wholeType(x) != before {
		t.Error("FormatType changes its argument")
	}
	parsed, _ := impl.ParseType(s)
	spoilType(parsed)
	if again, ok := impl.ParseType(s); !ok || typeWords(again) != s {
		t.Error("a result of ParseType is shared with a later one")
	}
}
