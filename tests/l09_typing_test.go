package tests

import (
	"math/rand"
	"strings"
	"testing"

	"loop.example/g00585/impl"
)

// Promise 9: what synthesizes a type can be analyzed against every consistent
// one, and stays well-typed with less precise types.

// checkSynth requires a type, or that there is none if want is empty.
func checkSynth(t *testing.T, ctx []impl.Typing, e impl.Expr, want string) {
	t.Helper()
	if want == "" {
		want = "<0>"
	}
	got, ok := impl.SynthType(ctx, e)
	if typeWords(got) != want || ok != (want != "<0>") {
		t.Errorf("SynthType(%s) = %s, %v, want %s", exactExpr(e), typeWords(got), ok, want)
	}
	if impl.IsWellTyped(ctx, e) != ok {
		t.Errorf("IsWellTyped(%s) is %v", exactExpr(e), !ok)
	}
}

func scopeForTyping() []impl.Typing {
	return typings("n", "B", "n", "N", "b", "B", "u", "?", "f", "(N>B)", "g", "(?>N)", "p", "(N*B)", "h", "((N>N)>N)")
}

func TestSynthTypeRules(t *testing.T) {
	ctx := scopeForTyping()
	for s, want := range map[string]string{
		// leaves
		"?1": "?", "0": "N", "999": "N", "#t": "B", "#f": "B", "n": "N", "b": "B", "u": "?", "p": "(N*B)", "q": "",
		// functions
		`(\x:N.x)`: "(N>N)", `(\x:?.1)`: "(?>N)", `(\x:(N*B).(fst x))`: "((N*B)>N)", `(\x:N.?1)`: "(N>?)", `(\x:N.q)`: "",
		`(\x:N.(\y:B.x))`: "(N>(B>N))", `(\x:N.(\x:B.x))`: "(N>(B>B))", `(\n:B.n)`: "(B>B)", `(\n:B.(n+1))`: "", `(\x:B.(x+1))`: "",
		// applications
		"(f 1)": "B", "(f n)": "B", "(f u)": "B", "(f ?1)": "B", "(f #t)": "", "(f q)": "", "(q 1)": "", "(g #t)": "N", "(g (1,#t))": "N",
		"(u 1)": "?", "(u (u u))": "?", "(?1 2)": "?", "(1 2)": "", "(b 2)": "", "(p 1)": "", "((1,2) 1)": "", `((\x:N.x) 1)`: "N", `((\x:N.x) #t)`: "",
		`((\x:?.x) #t)`: "?", "({1 1} 2)": "?", "(h f)": "", `(h (\x:N.x))`: "N", `(h (\x:?.x))`: "N", `(h (\x:B.1))`: "", "(h u)": "N", "(h g)": "N",
		// sums and comparisons
		"(1+2)": "N", "(n+u)": "N", "(?1+?2)": "N", "(1+#t)": "", "(#t+1)": "", "(1+q)": "", "(b+1)": "", "(1+f)": "", "(1+(1,2))": "", "((fst p)+1)": "N", "((snd p)+1)": "",
		"(1<2)": "B", "(n<u)": "B", "(#t<1)": "", "(1<#f)": "", "((1<2)<3)": "", "((1<2)+3)": "", "(1+(1<2))": "", "({1 #t}<1)": "B", "((if b 1 u)<1)": "B",
		// choices
		"(if b 1 2)": "N", "(if u 1 2)": "N", "(if ?1 1 2)": "N", "(if 1 1 2)": "", "(if q 1 2)": "", "(if b 1 #t)": "", "(if b 1 u)": "N", "(if b u 1)": "N",
		"(if b ?1 ?2)": "?", "(if b (?1,#t) (1,?2))": "(N*B)", `(if b (\x:?.#t) f)`: "(N>B)", `(if b (\x:?.x) f)`: "(N>B)", `(if b (\x:B.x) f)`: "",
		"(if b q 1)": "", "(if b 1 q)": "", "(if b f p)": "", "(if b f 1)": "", "(if (if b b u) 1 2)": "N", "(if (if b b 1) 1 2)": "", "(if b (if b 1 u) (if b u 2))": "N",
		"(if {1 2} 1 2)": "N", "(if b (if b 1 #t) u)": "",
		// pairs and their parts
		"(1,#t)": "(N*B)", "(?1,u)": "(?*?)", "((1,2),f)": "((N*N)*(N>B))", "(1,q)": "", "(q,1)": "", "((if b 1 #t),1)": "", "(1,(if b 1 #t))": "",
		"(fst p)": "N", "(snd p)": "B", "(fst u)": "?", "(snd ?1)": "?", "(fst 1)": "", "(snd b)": "", "(fst f)": "", "(fst q)": "", "(snd (1,(2,#t)))": "(N*B)",
		"(fst {1 2})": "?", "(snd (snd u))": "?",
		// stated types
		"(1:N)": "N", "(1:?)": "?", "(1:B)": "", "(u:B)": "B", "(q:?)": "", "(f:(N>?))": "(N>?)", "(f:(B>?))": "", "((1:?):B)": "B", "((1:N):B)": "", "((1,#t):(?*B))": "(?*B)",
		`((\x:N.x):(?>N))`: "(?>N)", `((\x:N.x):(B>N))`: "", `((\x:N.x):N)`: "", `((\x:N.x):?)`: "?", `((if b 1 #t):?)`: "?", `((if b 1 #t):N)`: "", "((1,2):?)": "?", "((1,2):N)": "",
		// marks
		"{1 1}": "?", "{1 q}": "?", "{1 n}": "?", "{1 (fst q)}": "", "{1 (q 1)}": "", "{1 (1+#t)}": "", "{1 (1,{2 q})}": "?", `{1 (\x:N.{2 y})}`: "?", `{1 (\x:N.y)}`: "",
		"{1 (if b 1 #t)}": "", "(1+{1 #t})": "N", "({1 q}+{2 q})": "N", "(if b 1 {1 #t})": "N", "{1 ((if b 1 #t):?)}": "?",
	} {
		checkSynth(t, ctx, readExpr(s), want)
	}
}

func TestCheckTypeRules(t *testing.T) {
	ctx := scopeForTyping()
	for s, types := range map[string]struct{ fits, not string }{
		// other expressions synthesize a consistent type
		"1":         {"N ?", "B (N>N) (?*?)"},
		"?1":        {"N ? B (N>(B*?))", ""},
		"u":         {"N ? B (N>(B*?))", ""},
		"q":         {"", "? N"},
		"f":         {"(N>B) (?>B) (?>?) ?", "(B>B) (N>N) N (N*B)"},
		"(f 1)":     {"B ?", "N"},
		"(1+n)":     {"N ?", "B"},
		"(1<n)":     {"B ?", "N"},
		"(fst p)":   {"N ?", "B"},
		"(u 1)":     {"N B ?", ""},
		"(1 2)":     {"", "? N"},
		"(1:?)":     {"N B ?", ""},
		"(1:N)":     {"N ?", "B"},
		"{1 1}":     {"N B ? (N>N)", ""},
		"{1 q}":     {"N B ?", ""},
		"{1 (1 2)}": {"", "? N"},
		"(1+#t)":    {"", "? N"},
		"(fst 1)":   {"", "? N"},
		"((1,2):N)": {"", "? N"},
		// functions
		`(\x:N.x)`:                  {"(N>N) (?>N) (N>?) (?>?) ?", "(B>N) (N>B) (B>?) N B (N*N)"},
		`(\x:?.x)`:                  {"(N>N) (B>N) (N>B) ?", "N (?*?)"},
		`(\x:?.(x+1))`:              {"(N>N) (B>N) (?>?) ?", "(N>B) B"},
		`(\x:(?>B).(x 1))`:          {"((N>B)>B) (?>B) ((N>?)>?) ?", "((N>N)>B) (N>B) ((N>B)>N)"},
		`(\x:N.(if b 1 #t))`:        {"(N>?) (?>?) ?", "(N>N) (N>B) (B>?)"},
		`(\x:N.(\y:B.(if b 1 #t)))`: {"(N>(B>?)) (N>?) ?", "(N>(B>N)) (N>(N>?)) (N>N)"},
		`(\x:N.q)`:                  {"", "? (N>N)"},
		`(\x:N.(1,2))`:              {"(N>(N*?)) (N>?) ?", "(N>N) (N>(N*B))"},
		`(\n:B.n)`:                  {"(B>B) ?", "(B>N) (N>B)"},
		// choices
		"(if b 1 2)":                {"N ?", "B"},
		"(if b 1 #t)":               {"?", "N B (?*?)"},
		"(if b 1 u)":                {"N ?", "B"},
		"(if b u ?1)":               {"N B ?", ""},
		"(if u 1 2)":                {"N ?", "B"},
		"(if 1 1 2)":                {"", "N ?"},
		"(if (if b b 1) 1 2)":       {"", "N ?"},
		"(if q 1 2)":                {"", "N ?"},
		"(if b q 2)":                {"", "N ?"},
		"(if b 1 q)":                {"", "N ?"},
		`(if b (\x:N.x) g)`:         {"(N>N) (?>N) ?", "(B>N) N"},
		"(if b (if b 1 #t) (1,2))":  {"?", "N (N*N)"},
		"(if b (1,#t) (#t,1))":      {"(?*?) ?", "(N*B) (N*?) N"},
		`(if b (\x:N.1) (\x:B.1))`:  {"(?>N) (?>?) ?", "(N>N) (B>N) (?>B)"},
		`(if b (\x:N.1) (\x:N.#t))`: {"(N>?) ?", "(N>N) (N>B)"},
		// pairs
		"(1,#t)":          {"(N*B) (?*B) (N*?) (?*?) ?", "(B*B) (N*N) N (N>B)"},
		"((if b 1 #t),1)": {"(?*N) ?", "(N*N) (B*N)"},
		"(1,(if b 1 #t))": {"(N*?) (?*?) ?", "(N*N) (B*?)"},
		"(1,(#t,u))":      {"(N*(B*N)) (N*?) (N*(?*B)) ?", "(N*B) (N*(N*N)) (B*?)"},
		"(q,1)":           {"", "? (?*N)"},
		"(1,q)":           {"", "? (N*?)"},
		`(1,(\x:N.x))`:    {"(N*(N>N)) (?*?) (N*(?>?)) ?", "(N*(B>N)) (N*N)"},
	} {
		checkAgainst(t, ctx, readExpr(s), types.fits, true)
		checkAgainst(t, ctx, readExpr(s), types.not, false)
	}
}

func checkAgainst(t *testing.T, ctx []impl.Typing, e impl.Expr, types string, want bool) {
	t.Helper()
	for _, text := range strings.Fields(types) {
		if impl.CheckType(ctx, e, readType(text)) != want {
			t.Errorf("CheckType(%s, %s) is %v", exprWords(e), text, !want)
		}
	}
}

// A choice in which a type of its own would be missing fits where something
// else states the type, also the unknown one, and nowhere else.
func TestChoicesInBothDirections(t *testing.T) {
	const choice = "(if #t 1 #f)"
	for s, want := range map[string]string{
		choice:                             "",
		"(" + choice + ":?)":               "?",
		"(" + choice + ":N)":               "",
		`(\x:N.` + choice + ")":            "",
		`((\x:N.` + choice + "):?)":        "?",
		`((\x:N.` + choice + "):(N>?))":    "(N>?)",
		"(" + choice + ",1)":               "",
		"((" + choice + ",1):?)":           "?",
		"((" + choice + ",1):(?*N))":       "(?*N)",
		"(?1 " + choice + ")":              "?",
		`((\x:?.1) ` + choice + ")":        "N",
		`((\x:N.1) ` + choice + ")":        "",
		`((\x:?.` + choice + ") 1)":        "",
		"(1+" + choice + ")":               "",
		"(if " + choice + " 1 2)":          "",
		"(if #t " + choice + " ?1)":        "",
		"((if #t " + choice + " ?1):?)":    "?",
		"{1 " + choice + "}":               "",
		"({1 " + choice + "}:?)":           "",
		"(fst (" + choice + ",1))":         "",
		"(fst ((" + choice + ",1):(?*?)))": "?",
		"(" + choice + " 1)":               "",
		"((" + choice + ":?) 1)":           "?",
	} {
		checkSynth(t, nil, readExpr(s), want)
	}
}

// Where one part does not fit in itself, the whole does not, whatever type the
// part states.
func TestMisfitsInEveryPlace(t *testing.T) {
	for _, c := range []struct{ before, stated, after string }{
		{"(", "(N>N)", " 1)"}, {"(", "?", " 1)"}, {"(f ", "N", ")"}, {"(?1 ", "?", ")"},
		{"(", "N", "+1)"}, {"(1+", "N", ")"}, {"(", "N", "<1)"}, {"(1<", "N", ")"},
		{"(if ", "B", " 1 2)"}, {"(if #t ", "N", " 2)"}, {"(if #t 1 ", "N", ")"}, {"((if #t ", "N", " 1):N)"}, {"((if #t 1 ", "N", "):?)"},
		{"(", "N", ",1)"}, {"(1,", "N", ")"}, {"((", "N", ",1):?)"}, {"((1,", "N", "):(N*N))"},
		{"(fst ", "(N*N)", ")"}, {"(snd ", "(N*N)", ")"}, {"(fst ", "?", ")"}, {"(", "N", ":N)"}, {"(", "N", ":?)"},
		{`(\x:N.`, "N", ")"}, {`((\x:N.`, "N", "):(N>?))"}, {"{1 ", "N", "}"}, {"{1 (fst ", "(N*N)", ")}"},
	} {
		for _, part := range []string{"u", "q"} {
			e := readExpr(c.before + "(" + part + ":" + c.stated + ")" + c.after)
			if got := impl.IsWellTyped(scopeForTyping(), e); got != (part == "u") {
				t.Errorf("IsWellTyped(%s) is %v", exprWords(e), got)
			}
		}
	}
}

func TestTypingInFullContexts(t *testing.T) {
	full := typings("a", "N", "b", "B", "c", "N", "d", "N", "e", "N", "g", "N", "h", "N", "i", "(N>B)")
	checkSynth(t, full, readExpr(`(\x:N.(i (a+x)))`), "(N>B)")
	checkSynth(t, full, readExpr(`(\a:B.(if a (i c) b))`), "(B>B)")
	deep, want := "i", "(N>B)"
	for _, name := range strings.Split("qrstuvwxyz", "") {
		deep = `(\` + name + ":?." + deep + ")"
		want = "(?>" + want + ")"
	}
	checkSynth(t, full, readExpr(deep), want)
	if !impl.CheckType(full, readExpr(deep), readType(want)) || !impl.CheckType(full, readExpr(deep), unknown()) {
		t.Error("a function in a full context cannot be analyzed")
	}
	more := append(full, impl.Typing{Name: "x", Type: number()})
	checkSynth(t, more, readExpr("1"), "")
	if impl.CheckType(more, readExpr("1"), number()) {
		t.Error("a context of nine typings is accepted")
	}
}

func TestTypingOfWrongArguments(t *testing.T) {
	one := constant(1)
	for what, e := range wrongExprs() {
		checkSynth(t, nil, e, "")
		if impl.CheckType(nil, e, unknown()) || impl.CheckType(typings("x", "?"), e, number()) {
			t.Errorf("%s can be analyzed", what)
		}
	}
	for what, x := range wrongTypes() {
		for _, e := range []impl.Expr{one, hole(1), function("x", unknown(), hole(1)), ex(impl.ExPair, hole(1), hole(2)), ex(impl.ExIf, hole(1), hole(2), hole(3))} {
			if impl.CheckType(nil, e, x) || impl.CheckType(nil, e, arrow(x, unknown())) || impl.CheckType(nil, e, couple(unknown(), x)) {
				t.Errorf("%s can be analyzed against %s", exprWords(e), what)
			}
		}
		checkSynth(t, []impl.Typing{{Name: "x", Type: x}}, one, "")
		if impl.CheckType([]impl.Typing{{Name: "y", Type: number()}, {Name: "x", Type: x}}, one, number()) {
			t.Errorf("a context with %s is accepted", what)
		}
	}
	for _, name := range []string{"", "if", "X", "abcdef"} {
		checkSynth(t, []impl.Typing{{Name: name, Type: number()}}, one, "")
	}
	checkSynth(t, []impl.Typing{{Name: "x", Type: largeType(17)}}, variable("x"), "")
}

func TestTypingAgainstLargeTypes(t *testing.T) {
	large := arrow(number(), largeType(797))
	deep := chainType(impl.MaxTypeDepth, unknown())
	for _, e := range []string{"?1", `(\x:N.?1)`, `(\x:?.(if ?1 ?2 {3 x}))`} {
		if !impl.CheckType(nil, readExpr(e), large) {
			t.Errorf("%s cannot be analyzed against a large type", e)
		}
	}
	if impl.CheckType(nil, readExpr(`(\x:B.?1)`), large) || impl.CheckType(nil, readExpr("(?1,?2)"), large) || impl.CheckType(nil, constant(1), large) {
		t.Error("something is analyzed against a large type that does not fit")
	}
	if !impl.CheckType(nil, hole(1), deep) || impl.CheckType(nil, hole(1), arrow(deep, number())) {
		t.Error("a hole against a deep type")
	}
	// Every type that an expression synthesizes is within the limits.
	note := readType("((N>(N>N))>((N>N)>(N>(N>N))))")
	e := hole(1)
	for range 11 {
		e = function("x", note, e)
	}
	if got, ok := impl.SynthType(nil, e); !ok || !impl.IsValidType(got) || impl.SizeOfType(got) != 11*16+1 {
		t.Error("a function of many notes")
	}
}

// typedExpr makes an expression that can be analyzed against a type, in most
// cases.
func typedExpr(r *rand.Rand, ctx []impl.Typing, want impl.Type, depth int) impl.Expr {
	if depth == 1 {
		return typedLeaf(r, ctx, want)
	}
	next := func(t impl.Type) impl.Expr { return typedExpr(r, ctx, t, depth-1) }
	part := randomType(r, 2)
	switch r.Intn(9) {
	case 0:
		return ex(impl.ExIf, next(truth()), next(want), next(want))
	case 1:
		if r.Intn(2) == 0 {
			return stated(next(want), want)
		}
		return stated(next(unknown()), unknown())
	case 2:
		return ex(impl.ExAp, stated(next(arrow(part, want)), arrow(part, want)), next(part))
	case 3:
		return ex(impl.ExFst, stated(next(couple(want, part)), couple(want, part)))
	case 4:
		return mark(1+r.Intn(9), stated(next(part), part))
	}
	switch want.Kind {
	case impl.TyNum:
		return ex(impl.ExAdd, next(number()), next(number()))
	case impl.TyBool:
		return ex(impl.ExLess, next(number()), next(number()))
	case impl.TyArrow:
		name := []string{"x", "y", "z"}[r.Intn(3)]
		inner := append(append([]impl.Typing{}, ctx...), impl.Typing{Name: name, Type: want.Args[0]})
		return function(name, want.Args[0], typedExpr(r, inner, want.Args[1], depth-1))
	case impl.TyPair:
		return ex(impl.ExPair, next(want.Args[0]), next(want.Args[1]))
	}
	return next(part)
}

func typedLeaf(r *rand.Rand, ctx []impl.Typing, want impl.Type) impl.Expr {
	for range 4 {
		if len(ctx) > 0 {
			v := ctx[r.Intn(len(ctx))]
			if typeWords(v.Type) == typeWords(want) {
				return variable(v.Name)
			}
		}
	}
	switch want.Kind {
	case impl.TyNum:
		return constant(r.Intn(20))
	case impl.TyBool:
		return boolean(r.Intn(2))
	}
	if r.Intn(3) == 0 {
		return mark(1+r.Intn(9), variable("q"))
	}
	return hole(1 + r.Intn(9))
}

// blurredExpr makes the types in an expression less precise.
func blurredExpr(r *rand.Rand, e impl.Expr) impl.Expr {
	if e.Kind == impl.ExLam || e.Kind == impl.ExAsc {
		e.Type = blurred(r, e.Type)
	}
	var args []impl.Expr
	for _, arg := range e.Args {
		args = append(args, blurredExpr(r, arg))
	}
	e.Args = args
	return e
}

func TestPromiseOfTyping(t *testing.T) {
	r := rand.New(rand.NewSource(28))
	ctx := typings("x", "N", "y", "B", "z", "?", "w", "(N>N)", "v", "(N*B)")
	types := allTypes(2)
	typed := 0
	for range 20000 {
		e := typedExpr(r, ctx, randomType(r, 3), 1+r.Intn(5))
		own, ok := impl.SynthType(ctx, e)
		if !ok {
			continue
		}
		typed++
		directions := e.Kind == impl.ExLam || e.Kind == impl.ExIf || e.Kind == impl.ExPair
		for _, other := range append(types, blurred(r, own), own) {
			consistent := impl.Consistent(own, other)
			if fits := impl.CheckType(ctx, e, other); consistent && !fits || !directions && fits && !consistent {
				t.Fatalf("%s of the type %s: CheckType against %s is %v", exprWords(e), typeWords(own), typeWords(other), fits)
			}
		}
		var less []impl.Typing
		for _, typing := range ctx {
			less = append(less, impl.Typing{Name: typing.Name, Type: blurred(r, typing.Type)})
		}
		got, ok := impl.SynthType(less, blurredExpr(r, e))
		if !ok || !impl.LessPrecise(got, own) || !impl.IsWellTyped(less, e) {
			t.Fatalf("%s of the type %s has the type %s with less precise types", exprWords(e), typeWords(own), typeWords(got))
		}
	}
	if typed < 5000 {
		t.Error("too few expressions are well-typed", typed)
	}
}

func TestTypingSharesNoMemory(t *testing.T) {
	r := rand.New(rand.NewSource(29))
	ctx := roomyCtx(typings("x", "N", "y", "B", "z", "?", "w", "(N>N)", "v", "((N*B)>(B>N))"))
	beforeCtx := wholeCtx(ctx)
	for range 2000 {
		want := roomyType(randomType(r, 4))
		e := roomyExpr(typedExpr(r, ctx, want, 1+r.Intn(5)))
		before, beforeType := wholeExpr(e), wholeType(want)
		first, _ := impl.SynthType(ctx, e)
		text := typeWords(first)
		second, _ := impl.SynthType(ctx, e)
		_, _ = impl.CheckType(ctx, e, want), impl.IsWellTyped(ctx, e)
		spoilType(second)
		if typeWords(first) != text {
			t.Fatal("two results of SynthType share memory")
		}
		spoilType(first)
		if wholeExpr(e) != before || wholeType(want) != beforeType || wholeCtx(ctx) != beforeCtx {
			t.Fatal("an argument was changed")
		}
	}
	for _, s := range []string{"v", `(\x:(N>N).v)`, "(1:?)", "({1 x}:((N*B)>N))", `(\x:(N>N).x)`, "(v,v)", "(if y v z)", "(z v)", "(v z)"} {
		e := roomyExpr(readExpr(s))
		before := wholeExpr(e)
		got, ok := impl.SynthType(ctx, e)
		if !ok {
			t.Error(s)
		}
		spoilType(got)
		if wholeExpr(e) != before || wholeCtx(ctx) != beforeCtx {
			t.Errorf("the type of %s shares memory with an argument", s)
		}
	}
}
