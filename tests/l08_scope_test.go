package tests

import (
	"math/rand"
	"slices"
	"strings"
	"testing"

	"loop.example/g00585/impl"
)

// Promise 8: a variable that was replaced is not free any more.

// readExpr reads an expression that is known to be written correctly.
func readExpr(s string) impl.Expr {
	e, ok := impl.ParseExpr(s)
	if !ok || exprWords(e) != s {
		panic("no expression: " + s)
	}
	return e
}

func typings(ctx ...string) []impl.Typing {
	var list []impl.Typing
	for i := 0; i < len(ctx); i += 2 {
		list = append(list, impl.Typing{Name: ctx[i], Type: readType(ctx[i+1])})
	}
	return list
}

func TestIsCtx(t *testing.T) {
	if impl.MaxCtx != 8 {
		t.Error(impl.MaxCtx)
	}
	for size := range 20 {
		var ctx, same []impl.Typing
		for n := range size {
			ctx = append(ctx, impl.Typing{Name: "x" + decimal(n), Type: fullType(1 + n%4)})
			same = append(same, impl.Typing{Name: "x", Type: unknown()})
		}
		if got := impl.IsCtx(ctx); got != (size <= 8) {
			t.Errorf("IsCtx of %d typings is %v", size, got)
		}
		if got := impl.IsCtx(same); got != (size <= 8) {
			t.Errorf("IsCtx of %d typings of one name is %v", size, got)
		}
		for n := range min(size, 8) {
			for _, wrong := range []impl.Typing{{}, {Name: "x"}, {Type: number()}, {Name: "if", Type: number()}, {Name: "abcdef", Type: number()},
				{Name: "X", Type: number()}, {Name: "x", Type: fullType(5)}, {Name: "x", Type: chainType(6, number())}, {Name: "x", Type: largeType(17)}, {Name: "x", Type: ty(6)}} {
				kept := ctx[n]
				ctx[n] = wrong
				if impl.IsCtx(ctx) {
					t.Errorf("a context with %q at %d is accepted", wrong.Name, n)
				}
				ctx[n] = kept
			}
		}
	}
}

func TestLookupCtx(t *testing.T) {
	ctx := typings("x", "N", "y", "(N>B)", "x", "B", "z", "?", "x", "(?*?)", "y", "N")
	for name, want := range map[string]string{"x": "(?*?)", "y": "N", "z": "?", "": "<0>", "q": "<0>", "xy": "<0>", "X": "<0>"} {
		got, ok := impl.LookupCtx(ctx, name)
		if typeWords(got) != want || ok != (want != "<0>") {
			t.Errorf("LookupCtx(%q) = %s, %v", name, typeWords(got), ok)
		}
	}
	if got, ok := impl.LookupCtx(nil, "x"); ok || typeWords(got) != "<0>" {
		t.Error("a type in no context")
	}
	// A context that is not valid is looked through like any other one.
	long := append(typings("a", "N", "b", "B", "c", "N", "d", "N", "e", "N", "g", "N", "h", "N", "i", "N"), impl.Typing{Name: "if"}, impl.Typing{Name: "", Type: ty(9)})
	if got, ok := impl.LookupCtx(long, "b"); !ok || typeWords(got) != "B" {
		t.Error("LookupCtx in a long context")
	}
	if got, ok := impl.LookupCtx(long, "if"); !ok || typeWords(got) != "<0>" {
		t.Error("LookupCtx of a word")
	}
	if got, ok := impl.LookupCtx(long, ""); !ok || typeWords(got) != "<9>" {
		t.Error("LookupCtx of the empty name")
	}
}

// nameless writes an expression with the distances of the functions in place
// of the variables that refer to them. Each free occurrence of name becomes
// by, which has no variables that could be captured in this form.
func nameless(e impl.Expr, scope []string, name, by string) string {
	if e.Kind == impl.ExVar {
		for up := len(scope) - 1; up >= 0; up-- {
			if scope[up] == e.Name {
				return "#" + decimal(len(scope)-1-up)
			}
		}
		if e.Name == name {
			return by
		}
	}
	shown := e.Name
	if e.Kind == impl.ExLam {
		scope = append(slices.Clone(scope), e.Name)
		shown = "parameter"
	}
	text := "[" + decimal(e.Kind) + " " + shown + " " + decimal(e.N) + " " + typeWords(e.Type)
	for _, arg := range e.Args {
		text += " " + nameless(arg, scope, name, by)
	}
	return text + "]"
}

const noName = "\x00 no name"

func freeByScope(e impl.Expr, scope []string) []string {
	if e.Kind == impl.ExVar {
		if slices.Contains(scope, e.Name) {
			return nil
		}
		return []string{e.Name}
	}
	if e.Kind == impl.ExLam {
		scope = append(slices.Clone(scope), e.Name)
	}
	var free []string
	for _, arg := range e.Args {
		for _, name := range freeByScope(arg, scope) {
			if !slices.Contains(free, name) {
				free = append(free, name)
			}
		}
	}
	return free
}

func TestFreeVars(t *testing.T) {
	for s, want := range map[string]string{
		"x":                              "x",
		"1":                              "",
		"?1":                             "",
		"((x y) (y x))":                  "x y",
		"((y x) (x y))":                  "y x",
		`(\x:N.x)`:                       "",
		`(\x:N.y)`:                       "y",
		`((\x:N.x) x)`:                   "x",
		`(x (\x:N.x))`:                   "x",
		`((\x:N.(x y)) x)`:               "y x",
		`(\x:N.(\y:N.((x y) z)))`:        "z",
		`(\x:N.(\x:N.x))`:                "",
		`(\x:N.((\x:N.x) x))`:            "",
		`(\x:N.((\y:N.x) y))`:            "y",
		`(((\y:N.(\x:N.y)) x) y)`:        "x y",
		`{1 (z+{2 y})}`:                  "z y",
		`(if a (fst b) (snd (c:(N>N))))`: "a b c",
		`(\x:N.((\x:N.1) (x+(y<x))))`:    "y",
	} {
		if got := impl.FreeVars(readExpr(s)); strings.Join(got, " ") != want {
			t.Errorf("FreeVars(%s) = %q, want %q", s, got, want)
		}
	}
	r := rand.New(rand.NewSource(22))
	for range 5000 {
		e := randomExpr(r, true)
		if got := impl.FreeVars(e); !slices.Equal(got, freeByScope(e, nil)) {
			t.Fatalf("FreeVars(%s) = %q", exprWords(e), got)
		}
	}
}

func TestFreeVarsOfWrongExpressions(t *testing.T) {
	x, y := variable("x"), variable("y")
	for _, c := range []struct {
		e    impl.Expr
		want []string
	}{
		{impl.Expr{Kind: impl.ExVar, Name: "x", Args: []impl.Expr{y}}, []string{"x"}},
		{impl.Expr{Kind: impl.ExLam, Name: "x", Args: []impl.Expr{{Kind: impl.ExVar, Name: "x", Args: []impl.Expr{y}}}}, nil},
		{impl.Expr{Kind: impl.ExLam, Name: "x"}, nil},
		{impl.Expr{Kind: impl.ExLam, Name: "x", Args: []impl.Expr{x, y, x}}, []string{"y"}},
		{ex(impl.ExNum, y, x), []string{"y", "x"}},
		{ex(99, y, ex(0, x)), []string{"y", "x"}},
		{impl.Expr{Kind: impl.ExNum, Name: "x"}, nil},
		{variable(""), []string{""}},
		{variable("if"), []string{"if"}},
		{impl.Expr{Kind: impl.ExLam, Args: []impl.Expr{variable("")}}, nil},
		{mark(1, mark(2, x)), []string{"x"}},
	} {
		if got := impl.FreeVars(c.e); !slices.Equal(got, c.want) {
			t.Errorf("FreeVars(%s) = %q, want %q", exactExpr(c.e), got, c.want)
		}
	}
}

func TestFreshHole(t *testing.T) {
	for s, want := range map[string]int{
		"x": 1, "5": 1, "?1": 2, "?2": 1, "{1 x}": 2, "{2 x}": 1, "(?1+?3)": 2, "(?3+?1)": 2, "(?2+{1 ?3})": 4,
		"(?1+?1)": 2, "{1 (?2,(?3,?5))}": 4, "(?99,?98)": 1,
	} {
		if got := impl.FreshHole(readExpr(s)); got != want {
			t.Errorf("FreshHole(%s) = %d, want %d", s, got, want)
		}
	}
	all := hole(1)
	for n := 2; n <= 150; n++ {
		all = ex(impl.ExPair, hole(n), all)
		if got := impl.FreshHole(all); got != n+1 {
			t.Errorf("FreshHole of 1 to %d is %d", n, got)
		}
	}
	if got := impl.FreshHole(ex(impl.ExPair, hole(0), hole(-3))); got != 1 {
		t.Error("FreshHole of numbers below 1", got)
	}
	r := rand.New(rand.NewSource(23))
	for range 3000 {
		e := randomExpr(r, true)
		holes, n := impl.HolesIn(e), 1
		for slices.Contains(holes, n) {
			n++
		}
		if got := impl.FreshHole(e); got != n {
			t.Fatalf("FreshHole(%s) = %d", exprWords(e), got)
		}
	}
}

func TestSubstExpr(t *testing.T) {
	for _, c := range []struct{ e, name, by, want string }{
		{"x", "x", "5", "5"},
		{"y", "x", "5", "y"},
		{"x", "x", "x", "x"},
		{"?1", "x", "5", "?1"},
		{"((x+x)<{3 x})", "x", "(y y)", "(((y y)+(y y))<{3 (y y)})"},
		{"(if x (fst x) (snd (x:?)))", "x", "?7", "(if ?7 (fst ?7) (snd (?7:?)))"},
		{`(\x:N.x)`, "x", "1", `(\x:N.x)`},
		{`(\x:N.(\y:N.x))`, "x", "y", `(\x:N.(\y:N.x))`},
		{`((\x:N.x) x)`, "x", "1", `((\x:N.x) 1)`},
		{`(\y:N.x)`, "x", "1", `(\y:N.1)`},
		{`(\y:N.x)`, "x", "z", `(\y:N.z)`},
		{`(\y:N.x)`, "x", `(\y:N.y)`, `(\y:N.(\y:N.y))`},
		// A parameter is replaced only where it would capture.
		{`(\y:N.(x+y))`, "x", "y", `(\y1:N.(y+y1))`},
		{`(\y:N.y)`, "x", "y", `(\y:N.y)`},
		{`(\y:N.z)`, "x", "y", `(\y:N.z)`},
		{`(\y:N.(\x:N.x))`, "x", "y", `(\y:N.(\x:N.x))`},
		{`(\y:N.(\x:N.(x y)))`, "x", "y", `(\y:N.(\x:N.(x y)))`},
		{`(\y:(N>?).(\z:B.(x (y z))))`, "x", "(z y)", `(\y1:(N>?).(\z1:B.((z y) (y1 z1))))`},
		// The first fresh names are taken.
		{`(\y:N.(x+(y+y1)))`, "x", "y", `(\y2:N.(y+(y2+y1)))`},
		{`(\y:N.(x+y))`, "x", "(y y1)", `(\y2:N.((y y1)+y2))`},
		{`(\y:N.((x+y)+y2))`, "x", "(y y1)", `(\y3:N.(((y y1)+y3)+y2))`},
		{`(\y:N.(y1+y))`, "y1", "y", `(\y2:N.(y+y2))`},
		{`(\x1:N.(x+x1))`, "x", "x1", `(\x11:N.(x1+x11))`},
		// What a function inside has as a parameter is not free in the body.
		{`(\y:N.(x (\y1:N.y1)))`, "x", "y", `(\y1:N.(y (\y1:N.y1)))`},
		{`(\y:N.(x (\y1:N.y)))`, "x", "y", `(\y1:N.(y (\y11:N.y1)))`},
		{`(\y:N.(\y:N.(x y)))`, "x", "y", `(\y1:N.(\y1:N.(y y1)))`},
		{`(\y:N.((\y:N.y) x))`, "x", "y", `(\y1:N.((\y:N.y) y))`},
		{`(\y:N.(\y1:N.((x y) y1)))`, "x", "y", `(\y1:N.(\y11:N.((y y1) y11)))`},
		{`(\y:N.x)`, "x", "y", `(\y1:N.y)`},
		{`(\y:N.{1 x})`, "x", `(\z:N.y)`, `(\y1:N.{1 (\z:N.y)})`},
		{`(\y:N.(x+y))`, "y", "x", `(\y:N.(x+y))`},
		{`(\x:N.(x+y))`, "y", "(x+y)", `(\x1:N.(x1+(x+y)))`},
	} {
		if got := impl.SubstExpr(readExpr(c.e), c.name, readExpr(c.by)); exprWords(got) != c.want {
			t.Errorf("SubstExpr(%s, %s, %s) = %s, want %s", c.e, c.name, c.by, exprWords(got), c.want)
		}
	}
}

func TestSubstExprMayLeaveTheLimits(t *testing.T) {
	if got := impl.SubstExpr(readExpr(`(\abcde:N.x)`), "x", variable("abcde")); exprWords(got) != `(\abcde1:N.abcde)` {
		t.Error(exprWords(got))
	}
	large := impl.SubstExpr(sumOf(1), "x", sumOf(39))
	if exprWords(large) != "1" {
		t.Error(exprWords(large))
	}
	large = impl.SubstExpr(ex(impl.ExAdd, variable("x"), variable("x")), "x", sumOf(39))
	if impl.SizeOf(large) != 79 || impl.IsValidExpr(large) {
		t.Error("the result has not the size 79")
	}
	if got := impl.SubstExpr(mark(1, variable("x")), "x", mark(2, constant(3))); exprWords(got) != "{1 {2 3}}" {
		t.Error(exprWords(got))
	}
	if got := impl.SubstExpr(variable("x"), "x", impl.Expr{}); exactExpr(got) != exactExpr(impl.Expr{}) {
		t.Error(exactExpr(got))
	}
}

func TestSubstExprInWrongExpressions(t *testing.T) {
	x, y, five := variable("x"), variable("y"), constant(5)
	oddX := impl.Expr{Kind: impl.ExVar, Name: "x", N: 3, Args: []impl.Expr{y}}
	oddY := impl.Expr{Kind: impl.ExVar, Name: "y", N: 3, Args: []impl.Expr{x}}
	lam := func(name string, args ...impl.Expr) impl.Expr {
		return impl.Expr{Kind: impl.ExLam, Name: name, Args: args}
	}
	for _, c := range []struct{ e, by, want impl.Expr }{
		{ex(0, x, ex(77, x)), five, ex(0, five, ex(77, five))},
		{impl.Expr{}, five, impl.Expr{}},
		{oddX, five, five},
		{oddY, five, oddY},
		{lam("x"), five, lam("x")},
		{lam("y"), y, lam("y")},
		{lam("y", x, x), five, lam("y", five, five)},
		{lam("y", x), oddY, lam("y1", oddY)},
		{lam("x", x, x), five, lam("x", x, x)},
		{lam("", variable("")), five, lam("", variable(""))},
		{impl.Expr{Kind: impl.ExNum, Name: "x", N: -4, Type: ty(9)}, five, impl.Expr{Kind: impl.ExNum, Name: "x", N: -4, Type: ty(9)}},
	} {
		if got := impl.SubstExpr(c.e, "x", c.by); exactExpr(got) != exactExpr(c.want) {
			t.Errorf("SubstExpr(%s, x, %s) = %s", exactExpr(c.e), exactExpr(c.by), exactExpr(got))
		}
	}
	if got := impl.SubstExpr(lam("a", variable("")), "", variable("a")); exactExpr(got) != exactExpr(lam("a1", variable("a"))) {
		t.Errorf("the empty name: %s", exactExpr(got))
	}
}

// scopedExpr has few names and many functions, so that variables are captured
// often.
func scopedExpr(r *rand.Rand, depth int) impl.Expr {
	names := []string{"x", "y", "y1", "z"}
	if depth == 1 || r.Intn(8) == 0 {
		return variable(names[r.Intn(4)])
	}
	switch r.Intn(4) {
	case 0:
		return ex(impl.ExAp, scopedExpr(r, depth-1), scopedExpr(r, depth-1))
	case 1:
		return ex(impl.ExFst, scopedExpr(r, depth-1))
	}
	return function(names[r.Intn(4)], number(), scopedExpr(r, depth-1))
}

func TestSubstExprCapturesNothing(t *testing.T) {
	r := rand.New(rand.NewSource(24))
	for range 20000 {
		e, by := scopedExpr(r, 6), scopedExpr(r, 3)
		for _, name := range []string{"x", "y", "y1", "q"} {
			got := impl.SubstExpr(e, name, by)
			want := nameless(e, nil, name, nameless(by, nil, noName, ""))
			if nameless(got, nil, noName, "") != want {
				t.Fatalf("SubstExpr(%s, %s, %s) = %s", exprWords(e), name, exprWords(by), exprWords(got))
			}
			free, before := impl.FreeVars(got), impl.FreeVars(e)
			expected := slices.DeleteFunc(slices.Clone(before), func(s string) bool { return s == name })
			if slices.Contains(before, name) {
				expected = append(expected, impl.FreeVars(by)...)
			}
			slices.Sort(free)
			slices.Sort(expected)
			if !slices.Equal(free, slices.Compact(expected)) {
				t.Fatalf("SubstExpr(%s, %s, %s) has the free variables %q", exprWords(e), name, exprWords(by), free)
			}
		}
	}
}

// A parameter is renamed only if it is free in by and the variable is free in
// its body, and the new one is the first that is not taken.
func TestSubstExprParameters(t *testing.T) {
	r := rand.New(rand.NewSource(25))
	for range 20000 {
		body, by := scopedExpr(r, 4), scopedExpr(r, 3)
		for _, old := range []string{"y", "y1", "z"} {
			got := impl.SubstExpr(function(old, truth(), body), "x", by)
			want := old
			inBody := freeByScope(body, nil)
			if slices.Contains(freeByScope(by, nil), old) && slices.Contains(inBody, "x") {
				taken := append(append(freeByScope(by, nil), inBody...), "x")
				for n := 1; slices.Contains(taken, want); n++ {
					want = old + decimal(n)
				}
			}
			if got.Name != want || got.Kind != impl.ExLam || typeWords(got.Type) != "B" {
				t.Fatalf("in SubstExpr of %s and x by %s, %s becomes %s", exprWords(body), exprWords(by), old, got.Name)
			}
		}
	}
}

func TestAlphaEqual(t *testing.T) {
	for _, c := range []struct {
		a, b string
		want bool
	}{
		{"x", "x", true},
		{"x", "y", false},
		{`(\x:N.x)`, `(\y:N.y)`, true},
		{`(\x:N.y)`, `(\y:N.y)`, false},
		{`(\y:N.y)`, `(\x:N.y)`, false},
		{`(\x:N.x)`, `(\y:B.y)`, false},
		{`(\x:N.y)`, `(\z:N.y)`, true},
		{`(\x:N.(\y:N.x))`, `(\y:N.(\x:N.y))`, true},
		{`(\x:N.(\y:N.x))`, `(\y:N.(\x:N.x))`, false},
		{`(\x:N.(\y:N.y))`, `(\x:N.(\x:N.x))`, true},
		{`(\x:N.(\y:N.x))`, `(\x:N.(\x:N.x))`, false},
		{`(\x:N.(\x:N.x))`, `(\y:N.(\x:N.y))`, false},
		{`((\x:N.x) x)`, `((\y:N.y) x)`, true},
		{`((\x:N.x) x)`, `((\y:N.y) y)`, false},
		{`(x (\x:N.x))`, `(x (\y:N.y))`, true},
		{`((\x:N.1) x)`, `((\y:N.1) x)`, true},
		{`(\x:N.((\x:N.x) x))`, `(\y:N.((\x:N.x) y))`, true},
		{`(\x:N.((\x:N.x) x))`, `(\y:N.((\x:N.y) y))`, false},
		{`(\x:N.((\y:N.y) x))`, `(\x:N.((\x:N.x) x))`, true},
		{`(\x:N.(\y:N.(x y)))`, `(\y:N.(\x:N.(x y)))`, false},
		{`(\x:N.z)`, `(\x:N.x)`, false},
		{"1", "2", false},
		{"?1", "?2", false},
		{"#t", "1", false},
		{"(x+y)", "(x<y)", false},
		{"(1:N)", "(1:?)", false},
		{"{1 x}", "{1 x}", true},
		{"{1 x}", "{2 x}", false},
		{"{1 x}", "x", false},
		{"(fst x)", "(snd x)", false},
	} {
		a, b := readExpr(c.a), readExpr(c.b)
		if impl.AlphaEqual(a, b) != c.want || impl.AlphaEqual(b, a) != c.want {
			t.Errorf("AlphaEqual(%s, %s) is %v", c.a, c.b, !c.want)
		}
	}
}

// renamed gives parameters other names, by themselves or by a wrong hand.
func renamed(r *rand.Rand, e impl.Expr) impl.Expr {
	if e.Kind == impl.ExLam && r.Intn(2) == 0 {
		fresh := impl.FreshName(append(impl.FreeVars(e.Args[0]), e.Name), []string{"x", "y", "y1", "z"}[r.Intn(4)])
		e = function(fresh, e.Type, impl.SubstExpr(e.Args[0], e.Name, variable(fresh)))
	}
	if e.Kind == impl.ExVar && r.Intn(12) == 0 {
		e.Name = []string{"x", "y", "y1", "z"}[r.Intn(4)]
	}
	var args []impl.Expr
	for _, arg := range e.Args {
		args = append(args, renamed(r, arg))
	}
	e.Args = args
	return e
}

func TestAlphaEqualIsThatWithoutNames(t *testing.T) {
	r := rand.New(rand.NewSource(26))
	equal, different := 0, 0
	for range 30000 {
		a := scopedExpr(r, 5)
		b := renamed(r, a)
		want := nameless(a, nil, noName, "") == nameless(b, nil, noName, "")
		if exprWords(a) != exprWords(b) && want {
			equal++
		} else if !want {
			different++
		}
		if impl.AlphaEqual(a, b) != want || impl.AlphaEqual(b, a) != want || !impl.AlphaEqual(a, a) {
			t.Fatalf("AlphaEqual(%s, %s) is not %v", exprWords(a), exprWords(b), want)
		}
	}
	if equal < 1000 || different < 1000 {
		t.Error("too few pairs of one sort", equal, different)
	}
}

func TestAlphaEqualOfWrongExpressions(t *testing.T) {
	for what, a := range wrongExprs() {
		if impl.SizeOf(a) > 100 {
			continue
		}
		if !impl.AlphaEqual(a, a) || !impl.AlphaEqual(function("x", number(), a), function("x", number(), a)) {
			t.Errorf("%s is not equal to itself", what)
		}
		for other, b := range wrongExprs() {
			if impl.SizeOf(b) > 100 {
				continue
			}
			want := nameless(a, nil, noName, "") == nameless(b, nil, noName, "") && exactExpr(a) == exactExpr(b)
			if impl.AlphaEqual(a, b) != want && a.Kind != impl.ExLam {
				t.Errorf("AlphaEqual of %s and %s is %v", what, other, !want)
			}
		}
	}
	numberOf := func(name string) impl.Expr { return impl.Expr{Kind: impl.ExNum, Name: name} }
	if impl.AlphaEqual(function("x", number(), numberOf("x")), function("y", number(), numberOf("y"))) {
		t.Error("the name of a number is taken for a variable")
	}
	if !impl.AlphaEqual(impl.Expr{Kind: impl.ExLam, Name: "x"}, impl.Expr{Kind: impl.ExLam, Name: "y"}) {
		t.Error("functions without a body differ")
	}
}

func TestScopeOfDeepExpressions(t *testing.T) {
	deep := chainExpr(200000, ex(impl.ExAdd, variable("x"), hole(1)))
	got := impl.SubstExpr(deep, "x", variable("y"))
	if free := impl.FreeVars(got); !slices.Equal(free, []string{"y"}) || !impl.AlphaEqual(got, got) || impl.AlphaEqual(got, deep) {
		t.Error("a deep expression")
	}
	if impl.FreshHole(deep) != 2 {
		t.Error("the holes of a deep expression")
	}
}

func TestScopeSharesNoMemory(t *testing.T) {
	r := rand.New(rand.NewSource(27))
	for range 2000 {
		e, by := roomyExpr(scopedExpr(r, 5)), roomyExpr(stated(scopedExpr(r, 2), arrow(number(), truth())))
		beforeE, beforeBy := wholeExpr(e), wholeExpr(by)
		got := impl.SubstExpr(e, "x", by)
		text := exactExpr(got)
		spoilExpr(impl.SubstExpr(e, "x", by))
		_, _, _ = impl.AlphaEqual(e, got), impl.FreeVars(e), impl.FreshHole(e)
		if exactExpr(got) != text {
			t.Fatal("two results of SubstExpr share memory")
		}
		spoilExpr(got)
		if wholeExpr(e) != beforeE || wholeExpr(by) != beforeBy {
			t.Fatal("an argument of SubstExpr was changed")
		}
	}
	twice := impl.SubstExpr(readExpr("(x,x)"), "x", readExpr("(1+2)"))
	spoilExpr(twice.Args[0])
	if exprWords(twice.Args[1]) != "(1+2)" {
		t.Error("both copies of an expression share memory")
	}
	ctx := roomyCtx(typings("x", "(N>B)"))
	before := wholeCtx(ctx)
	x, _ := impl.LookupCtx(ctx, "x")
	spoilType(x)
	if !impl.IsCtx(ctx) || wholeCtx(ctx) != before {
		t.Error("LookupCtx shares memory with the context")
	}
}
