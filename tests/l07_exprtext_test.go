package tests

import (
	"math/rand"
	"strings"
	"testing"

	"loop.example/g00585/impl"
)

// Promise 7: expressions are parsed from their representation.

// checkExprText requires that s is the representation of e.
func checkExprText(t *testing.T, e impl.Expr, s string) {
	t.Helper()
	if got := impl.FormatExpr(e); got != s {
		t.Fatalf("FormatExpr gives %q, want %q", got, s)
	}
	got, ok := impl.ParseExpr(s)
	if !ok || exactExpr(got) != exactExpr(e) {
		t.Fatalf("ParseExpr(%q) = %s, %v", s, exactExpr(got), ok)
	}
}

func checkNoExpr(t *testing.T, s string) {
	t.Helper()
	if got, ok := impl.ParseExpr(s); ok || exactExpr(got) != exactExpr(impl.Expr{}) {
		t.Errorf("ParseExpr(%.60q) = %.60s, %v", s, exactExpr(got), ok)
	}
}

func TestExprTexts(t *testing.T) {
	x, one := variable("x"), constant(1)
	for s, e := range map[string]impl.Expr{
		"?1":                  hole(1),
		"?10":                 hole(10),
		"?99":                 hole(99),
		"x":                   x,
		"x1y2z":               variable("x1y2z"),
		"ifx":                 variable("ifx"),
		"0":                   constant(0),
		"12":                  constant(12),
		"999":                 constant(999),
		"#t":                  boolean(1),
		"#f":                  boolean(0),
		`(\x:N.x)`:            function("x", number(), x),
		`(\f:((N>?)*B).?1)`:   function("f", couple(arrow(number(), unknown()), truth()), hole(1)),
		`(\x:?.?1)`:           function("x", unknown(), hole(1)),
		"(f x)":               ex(impl.ExAp, variable("f"), x),
		"((f x) 1)":           ex(impl.ExAp, ex(impl.ExAp, variable("f"), x), one),
		"(ifx 1)":             ex(impl.ExAp, variable("ifx"), one),
		"(fst1 1)":            ex(impl.ExAp, variable("fst1"), one),
		"(1 2)":               ex(impl.ExAp, one, constant(2)),
		"(x+1)":               ex(impl.ExAdd, x, one),
		"(1<2)":               ex(impl.ExLess, one, constant(2)),
		"(if #t 1 x)":         ex(impl.ExIf, boolean(1), one, x),
		"(if ?1 (1 2) ?2)":    ex(impl.ExIf, hole(1), ex(impl.ExAp, one, constant(2)), hole(2)),
		"(1,x)":               ex(impl.ExPair, one, x),
		"(fst x)":             ex(impl.ExFst, x),
		"(snd (1,x))":         ex(impl.ExSnd, ex(impl.ExPair, one, x)),
		"(fst (snd (fst x)))": ex(impl.ExFst, ex(impl.ExSnd, ex(impl.ExFst, x))),
		"(1:?)":               stated(one, unknown()),
		"(?1:?)":              stated(hole(1), unknown()),
		"((1:N):(N>B))":       stated(stated(one, number()), arrow(number(), truth())),
		"{3 (1+#t)}":          mark(3, ex(impl.ExAdd, one, boolean(1))),
		"{99 ?1}":             mark(99, hole(1)),
		"({1 x} {1 x})":       ex(impl.ExAp, mark(1, x), mark(1, x)),
		"{1 (fst {2 x})}":     mark(1, ex(impl.ExFst, mark(2, x))),
		"({1 x}:N)":           stated(mark(1, x), number()),
	} {
		checkExprText(t, e, s)
		if exprWords(e) != s {
			t.Errorf("the test writes %q as %q", s, exprWords(e))
		}
	}
	for _, e := range oneOfEach() {
		checkExprText(t, e, exprWords(e))
	}
}

func TestRandomExprTexts(t *testing.T) {
	r := rand.New(rand.NewSource(19))
	for i := range 5000 {
		e := randomExpr(r, i%2 == 1)
		checkExprText(t, e, exprWords(e))
	}
}

func TestExprTextNumbers(t *testing.T) {
	for n := -5; n <= 1100; n++ {
		s := decimal(n)
		if n >= 0 && n <= impl.MaxNumber {
			checkExprText(t, constant(n), s)
		} else {
			checkNoExpr(t, s)
		}
		if n >= 1 && n <= impl.MaxHole {
			checkExprText(t, hole(n), "?"+s)
			checkExprText(t, mark(n, variable("x")), "{"+s+" x}")
		} else {
			checkNoExpr(t, "?"+s)
			checkNoExpr(t, "{"+s+" x}")
		}
		for _, wrong := range []string{"0" + s, "?0" + s, "{0" + s + " x}", "+" + s, "?+" + s, s + "x", "?" + s + "x", s + " ", "? " + s} {
			checkNoExpr(t, wrong)
		}
	}
	for _, digits := range []string{"1000000", "18446744073709551617", "00", "007", strings.Repeat("9", 100000), strings.Repeat("0", 100000)} {
		for _, s := range []string{digits, "?" + digits, "{" + digits + " x}", "(1+" + digits + ")"} {
			checkNoExpr(t, s)
		}
	}
}

func TestTextsOfNoExpr(t *testing.T) {
	for _, s := range []string{
		"", " ", "?", "#", "##", "#T", "#x", "#tt", "#t ", "# t", "t#", "\\", "\x00", "\xff", "x\xff", "x\x00", "\u00e9", "\u0661",
		"X", "if", "fst", "snd", "abcdef", "1x", "x y", "x+1", "1 2", "1<2", "1,2", "1:N", "fst x", "if 1 2 3", `\x:N.x`,
		"()", "(", ")", "(x", "x)", "((x))", "(x)", "(1)", "(?1)", "(#t)", "({1 x})", "( x)", "(x )", "(x 1", "(x 1))", "((x 1)", "(x  1)",
		"(x 1) ", " (x 1)", "(x 1)x", "(x 1)(x 1)", "(x 1 2)", "( )", "(+)", "(x+)", "(+x)", "(x++1)", "(x +1)", "(x+ 1)", "(x + 1)",
		"(1+2+3)", "(1<2<3)", "(1,2,3)", "(1<)", "(<1)", "(1>2)", "(1*2)", "(1-2)", "(1=2)", "(1.2)", "(1;2)", "(1|2)", "(1\n2)", "(1\t2)", "(1\x002)",
		"(1+2", "(1<2", "(1,2", "(1:N", "(1:)", "(:N)", "(1:Q)", "(1:n)", "(1: N)", "(1:N )", "(1 :N)", "(1:N:N)", "(1:(N))", "(1:(N>B)", "(1:1)", "(1:?1)",
		"(if)", "(if )", "(if 1)", "(if 1 2)", "(if 1 2 3 4)", "(if 1 2 3", "(if  1 2 3)", "(if 1 2 3 )", "(if1 2 3)", "(if 1,2,3)", "(if+1)", "(if:N)", "(if(1)2 3)",
		"(fst)", "(fst )", "(fst 1 2)", "(fst  1)", "(fst 1 )", "(fst 1", "(fst1)", "(fst+1)", "(fst,1)", "(snd)", "(snd 1 2)", "(snd<1)", "(snd:N)", "(fst(1,2))",
		"(x if)", "(x fst)", "(1+snd)", "(if if 1 2)", "(fst fst)", "(fst fst 1)", "(fst snd x)",
		`(\x:N.x`, `(\x:N.)`, `(\x:N)`, `(\x.x)`, `(\x:.x)`, `(\:N.x)`, `(\x:N x)`, `(\x:N,x)`, `(\x N.x)`, `(\ x:N.x)`, `(\x :N.x)`, `(\x: N.x)`, `(\x:N .x)`, `(\x:N. x)`, `(\x:N.x )`,
		`(\if:N.1)`, `(\fst:N.1)`, `(\X:N.1)`, `(\1:N.1)`, `(\1x:N.1)`, `(\abcdef:N.1)`, `(\x:Q.1)`, `(\x:N.x x)`, `(\x:N.x+1)`, `(x\y)`, `(/x:N.x)`, `\(x:N.x)`, `(\\x:N.x)`,
		"{}", "{1}", "{1 }", "{ x}", "{x}", "{1x}", "{1  x}", "{1 x }", "{1 x", "1 x}", "{1,x}", "{x 1}", "{1 x} ", "{1 x}x", "{-1 x}", "{1 {2 x}}", "{1 {1 x}}", "{1 {2 {3 x}}}", "(1+{1 {2 x}})", "[1 x]",
		"?-1", "?x", "??1", "?1?", "?1 ", "?#t", "-1", "+1", "1_0", "0x1", "1e1", "1.0",
	} {
		checkNoExpr(t, s)
	}
}

func TestExprTextsAtTheLimits(t *testing.T) {
	for depth := 1; depth <= 30; depth++ {
		for _, c := range []struct{ open, end string }{
			{"(fst ", ")"}, {"(1+", ")"}, {"(", " 1)"}, {"(", ":N)"}, {"(if 1 ", " 1)"}, {"(if 1 1 ", ")"}, {"(if ", " 1 1)"},
			{`(\x:N.`, ")"}, {"{1 (fst ", ")}"}, {"(fst {1 ", "})"},
		} {
			s := strings.Repeat(c.open, depth-1) + "x" + strings.Repeat(c.end, depth-1)
			if depth > impl.MaxDepth {
				checkNoExpr(t, s)
			} else if e, ok := impl.ParseExpr(s); !ok || exprWords(e) != s || impl.DepthOf(e) != depth {
				t.Errorf("ParseExpr(%q) fails", s)
			}
		}
	}
	for size := 1; size <= 61; size += 2 {
		s := exprWords(sumOf(size))
		if size <= impl.MaxSize {
			checkExprText(t, sumOf(size), s)
		} else {
			checkNoExpr(t, s)
		}
	}
	checkExprText(t, ex(impl.ExFst, sumOf(39)), exprWords(ex(impl.ExFst, sumOf(39))))
	for _, c := range []struct {
		note impl.Type
		ok   bool
	}{
		{fullType(4), true}, {largeType(15), true}, {largeType(17), false}, {chainType(5, truth()), true},
		{chainType(6, truth()), false}, {chainType(24, truth()), false}, {chainType(25, truth()), false}, {largeType(801), false},
	} {
		for _, e := range []impl.Expr{stated(hole(1), c.note), function("x", c.note, hole(1))} {
			if c.ok {
				checkExprText(t, e, exprWords(e))
			} else {
				checkNoExpr(t, exprWords(e))
			}
		}
	}
}

func TestVeryLongAndDeepExprTexts(t *testing.T) {
	const many = 1000000
	for _, part := range []string{"(", ")", "((", "(fst ", "(if ", "(x ", "(1+", "{1 ", "{1 (fst ", `(\x:N.`, `(\x:(N>`, "(1:", "x", "1", "?1", "?", "#", "#t", " ", "x ", "(1,2)", "{", "}", "\\", "\x00"} {
		checkNoExpr(t, strings.Repeat(part, many))
	}
	checkNoExpr(t, strings.Repeat("(", many)+"x"+strings.Repeat(" 1)", many))
	checkNoExpr(t, strings.Repeat("(fst ", many)+"x"+strings.Repeat(")", many))
	checkNoExpr(t, strings.Repeat("{1 ", many)+"x"+strings.Repeat("}", many))
	checkNoExpr(t, "(x 1)"+strings.Repeat(" ", many))
	checkNoExpr(t, "(1:"+strings.Repeat("(", many)+"N"+strings.Repeat(">N)", many)+")")
	checkNoExpr(t, `(\x:`+typeWords(fullType(15))+".x)")
	checkNoExpr(t, "(x "+strings.Repeat("y", many)+")")
}

func TestFormatOfWrongExprs(t *testing.T) {
	for what, e := range wrongExprs() {
		for _, whole := range []impl.Expr{e, ex(impl.ExFst, e), ex(impl.ExAdd, constant(1), e)} {
			if got := impl.FormatExpr(whole); got != "" {
				t.Errorf("%s: FormatExpr gives %q", what, got)
			}
		}
	}
}

// Every text of at most five of these bytes is accepted exactly if it is the
// representation of an expression.
func TestShortExprTexts(t *testing.T) {
	known := map[string]bool{}
	leaves := []impl.Expr{variable("x"), constant(1), constant(11), constant(111), hole(1), hole(11), boolean(1),
		variable("x1"), variable("xx"), variable("t"), variable("tx"), variable("xt"), variable("t1"), variable("tt")}
	for _, a := range leaves {
		known[exprWords(a)] = true
		known[exprWords(mark(1, a))] = true
		known[exprWords(stated(a, unknown()))] = true
		for _, b := range leaves {
			for _, kind := range []int{impl.ExAp, impl.ExAdd, impl.ExPair} {
				known[exprWords(ex(kind, a, b))] = true
			}
		}
	}
	texts := []string{""}
	for from := 0; len(texts[from]) < 5; from++ {
		for _, b := range []byte("(x1?+ ,#t:){}") {
			texts = append(texts, texts[from]+string([]byte{b}))
		}
	}
	for _, s := range texts {
		word := strings.Trim(s, "xt1") == "" && s != "" && s[0] != '1'
		e, ok := impl.ParseExpr(s)
		if ok != (known[s] || word) || ok && exprWords(e) != s || !ok && e.Kind != 0 {
			t.Fatalf("ParseExpr(%q) = %s, %v", s, exactExpr(e), ok)
		}
	}
}

// A text in which one byte was changed is accepted only if it is the
// representation of what it is parsed to, and this is valid.
func TestChangedExprTexts(t *testing.T) {
	const bytes = `(\x1:N.)?+< ,#tfB>*{}ifsnd0`
	r := rand.New(rand.NewSource(20))
	for range 30000 {
		s := []byte(exprWords(randomExpr(r, true)))
		at, b := r.Intn(len(s)), bytes[r.Intn(len(bytes))]
		switch r.Intn(3) {
		case 0:
			s[at] = b
		case 1:
			s = append(s[:at], s[at+1:]...)
		case 2:
			s = append(s[:at], append([]byte{b}, s[at:]...)...)
		}
		if e, ok := impl.ParseExpr(string(s)); ok && (!impl.IsValidExpr(e) || exprWords(e) != string(s)) {
			t.Fatalf("ParseExpr(%q) = %s", s, exactExpr(e))
		}
	}
}

func TestExprTextsShareNoMemory(t *testing.T) {
	r := rand.New(rand.NewSource(21))
	for range 200 {
		e := roomyExpr(randomExpr(r, true))
		before := wholeExpr(e)
		s := impl.FormatExpr(e)
		if wholeExpr(e) != before {
			t.Fatal("FormatExpr changes its argument")
		}
		parsed, _ := impl.ParseExpr(s)
		spoilExpr(parsed)
		if again, ok := impl.ParseExpr(s); !ok || exprWords(again) != s {
			t.Fatal("a result of ParseExpr is shared with a later one")
		}
	}
}
