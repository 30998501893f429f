package tests

import (
	"math/rand"
	"slices"
	"strings"
	"testing"

	"loop.example/g00585/impl"
)

// Promise 30: refactorings keep types and answers.

// checkRefactored requires the result of a refactoring, or that the expression
// stays unchanged if want is empty.
func checkRefactored(t *testing.T, what string, e, got impl.Expr, ok bool, want string) {
	t.Helper()
	expected := exactExpr(e)
	if want != "" {
		expected = exactExpr(readExpr(want))
	}
	if ok != (want != "") || exactExpr(got) != expected {
		t.Errorf("%s of %s is %s, %v, want %s", what, exactExpr(e), exactExpr(got), ok, want)
	}
}

func TestRenameAt(t *testing.T) {
	for _, c := range []struct{ e, path, name, want string }{
		{`(\x:N.(x+y))`, "-", "z", `(\z:N.(z+y))`},
		{`(\x:N.1)`, "-", "z", `(\z:N.1)`},
		{`(\x:(N>?).(x ?3))`, "-", "abcde", `(\abcde:(N>?).(abcde ?3))`},
		{`(x (\x:N.x))`, "1", "z", `(x (\z:N.z))`},
		{`(1+(fst (\x:N.(x,(\x:B.x)))))`, "1.0", "z", `(1+(fst (\z:N.(z,(\x:B.x)))))`},
		{`(\x:N.(\y:N.(x+y)))`, "0", "z", `(\x:N.(\z:N.(x+z)))`},
		{`(\x:N.(x+{1 (x+{2 y})}))`, "-", "z", `(\z:N.(z+{1 (z+{2 y})}))`},
		{`{1 (\x:N.x)}`, "0", "z", `{1 (\z:N.z)}`},
		// the name that it has already
		{`(\x:N.(x+y))`, "-", "x", `(\x:N.(x+y))`},
		{`(\x:N.(\x:N.x))`, "-", "x", `(\x:N.(\x:N.x))`},
		{`(\x:N.(\y:N.(x y)))`, "-", "x", `(\x:N.(\y:N.(x y)))`},
		// names that are free in the body
		{`(\x:N.(x+y))`, "-", "y", ""},
		{`(\x:N.y)`, "-", "y", ""},
		{`(\x:N.(\z:N.y))`, "-", "y", ""},
		{`(\y:N.(\x:N.(x+y)))`, "0", "y", ""},
		{`(\y:N.(\x:N.x))`, "0", "y", `(\y:N.(\y:N.y))`},
		// names that are bound in the body
		{`(\x:N.(\y:N.(x+y)))`, "-", "y", `(\y:N.(\y1:N.(y+y1)))`},
		{`(\x:N.(\y:N.y))`, "-", "y", `(\y:N.(\y:N.y))`},
		{`(\x:N.(x (\y:N.y)))`, "-", "y", `(\y:N.(y (\y:N.y)))`},
		{`(\x:N.(\y:N.(\y1:N.(x+(y+y1)))))`, "-", "y", `(\y:N.(\y1:N.(\y11:N.(y+(y1+y11)))))`},
		{`(\x:N.(\y:N.((\z:N.x) y)))`, "-", "z", `(\z:N.(\y:N.((\z1:N.z) y)))`},
		{`(\x:N.(\abcde:N.(x abcde)))`, "-", "abcde", ""},
		{`(\x:N.(\abcd:N.(x abcd)))`, "-", "abcd", `(\abcd:N.(\abcd1:N.(abcd abcd1)))`},
		// inner parameters of the same name
		{`(\x:N.(x+((\x:N.x) x)))`, "-", "y", `(\y:N.(y+((\x:N.x) y)))`},
		{`(\x:N.(\x:N.(x+x)))`, "0", "y", `(\x:N.(\y:N.(y+y)))`},
		{`(\x:N.(\x:N.(x+x)))`, "-", "y", `(\y:N.(\x:N.(x+x)))`},
		// names that are none
		{`(\x:N.x)`, "-", "", ""},
		{`(\x:N.x)`, "-", "if", ""},
		{`(\x:N.x)`, "-", "fst", ""},
		{`(\x:N.x)`, "-", "X", ""},
		{`(\x:N.x)`, "-", "1x", ""},
		{`(\x:N.x)`, "-", "abcdef", ""},
		{`(\x:N.1)`, "-", "a b", ""},
		// what is no function
		{`x`, "-", "z", ""},
		{`((\x:N.x) 1)`, "-", "z", ""},
		{`(\x:N.x)`, "0", "z", ""},
		{`{1 (\x:N.x)}`, "-", "z", ""},
		{`((\x:N.x):?)`, "-", "z", ""},
		{`(\x:N.x)`, "0.0", "z", ""},
		{`(\x:N.x)`, "1", "z", ""},
		{`(\x:N.x)`, "-1", "z", ""},
		{`((\x:N.x),1)`, "2", "z", ""},
	} {
		got, ok := impl.RenameAt(readExpr(c.e), readPath(c.path), c.name)
		checkRefactored(t, "RenameAt "+c.path+" "+c.name, readExpr(c.e), got, ok, c.want)
	}
}

func TestInlineAt(t *testing.T) {
	for _, c := range []struct{ e, path, want string }{
		{`((\x:N.(x+x)) 2)`, "-", "((2:N)+(2:N))"},
		{`((\x:N.5) 2)`, "-", "5"},
		{`((\x:?.x) #t)`, "-", "(#t:?)"},
		{`((\x:(N>N).(x (x 1))) (\y:N.y))`, "-", `(((\y:N.y):(N>N)) (((\y:N.y):(N>N)) 1))`},
		{`((\x:N.?3) ?7)`, "-", "?3"},
		{`((\x:N.(x,?3)) ?7)`, "-", "((?7:N),?3)"},
		{`((\x:N.(\x:N.x)) 1)`, "-", `(\x:N.x)`},
		{`((\x:N.(x+((\x:N.x) x))) 1)`, "-", `((1:N)+((\x:N.x) (1:N)))`},
		{`(((\x:N.(\y:N.(x+y))) 1) 2)`, "0", `((\y:N.((1:N)+y)) 2)`},
		{`(1+(fst ((\x:N.(x,x)) y)))`, "1.0", "(1+(fst ((y:N),(y:N))))"},
		{`((\x:N.(x+1)) ((\y:N.y) 2))`, "1", `((\x:N.(x+1)) (2:N))`},
		{`((\x:N.(x+1)) ((\y:N.y) 2))`, "-", `((((\y:N.y) 2):N)+1)`},
		// variables that would be captured
		{`(\y:N.((\x:N.(\y:N.(x+y))) y))`, "0", `(\y:N.(\y1:N.((y:N)+y1)))`},
		{`((\x:N.(\y:N.(\y1:N.(x+(y+y1))))) (y+y1))`, "-", `(\y2:N.(\y11:N.(((y+y1):N)+(y2+y11))))`},
		{`((\x:N.(\y:N.y)) y)`, "-", `(\y:N.y)`},
		{`((\x:N.(\x:N.x)) x)`, "-", `(\x:N.x)`},
		{`((\x:N.(x+x)) x)`, "-", "((x:N)+(x:N))"},
		{`((\x:N.(\abcde:N.x)) abcde)`, "-", ""},
		{`((\x:N.(\abcde:N.1)) abcde)`, "-", `(\abcde:N.1)`},
		// marks
		{`((\x:N.{1 x}) 2)`, "-", "{1 (2:N)}"},
		{`((\x:N.(x+1)) {3 #t})`, "-", "(({3 #t}:N)+1)"},
		{`{1 ((\x:N.x) 2)}`, "0", "{1 (2:N)}"},
		{`{1 ((\x:N.{2 x}) 2)}`, "0", ""},
		// what is no application of a function
		{"(f 1)", "-", ""},
		{"(?1 1)", "-", ""},
		{`({1 (\x:N.x)} 1)`, "-", ""},
		{`(((\x:N.x):(N>N)) 1)`, "-", ""},
		{`((if #t (\x:N.x) (\x:N.x)) 1)`, "-", ""},
		{`(((\x:N.(\y:N.x)) 1) 2)`, "-", ""},
		{`((\x:N.x),1)`, "-", ""},
		{`(\x:N.x)`, "-", ""},
		{"5", "-", ""},
		{`{1 ((\x:N.x) 2)}`, "-", ""},
		{`((\x:N.x) 1)`, "0", ""},
		{`((\x:N.x) 1)`, "2", ""},
		{`((\x:N.x) 1)`, "-1", ""},
		{`((\x:N.x) 1)`, "0.0.0", ""},
	} {
		got, ok := impl.InlineAt(readExpr(c.e), readPath(c.path))
		checkRefactored(t, "InlineAt "+c.path, readExpr(c.e), got, ok, c.want)
	}
}

// plainInline is by the document's words for an application at the root.
func plainInline(e impl.Expr) string {
	f := e.Args[0]
	return exprWords(impl.SubstExpr(f.Args[0], f.Name, stated(e.Args[1], f.Type)))
}

func TestEtaAt(t *testing.T) {
	ctx := typings("f", "(N>B)", "u", "?", "x", "((N*?)>N)", "p", "((B>N)*N)", "h", "((N>N)>(N>N))")
	for _, c := range []struct{ e, path, want string }{
		{`(\x:N.x)`, "-", `(\x:N.((\x:N.x) x))`},
		{"f", "-", `(\x:N.(f x))`},
		{"x", "-", `(\x1:(N*?).(x x1))`},
		{"h", "-", `(\x:(N>N).(h x))`},
		{"(fst p)", "-", `(\x:B.((fst p) x))`},
		{`(if #t f ?1)`, "-", `(\x:N.((if #t f ?1) x))`},
		{"(h f)", "-", ""},
		{`(h (\y:N.y))`, "-", `(\x:N.((h (\y:N.y)) x))`},
		{`(h (\y:N.y))`, "1", `(h (\x:N.((\y:N.y) x)))`},
		{`(h (\y:N.y))`, "0", `((\x:(N>N).(h x)) (\y:N.y))`},
		{"(f 1)", "0", `((\x:N.(f x)) 1)`},
		{`(\x:N.(\x1:N.(\y:N.(x+x1))))`, "0.0", `(\x:N.(\x1:N.(\x2:N.((\y:N.(x+x1)) x2))))`},
		{`(\x:N.(\x1:N.(\y:N.(x1+y))))`, "0.0", `(\x:N.(\x1:N.(\x:N.((\y:N.(x1+y)) x))))`},
		{`(?1:(?>?))`, "-", `(\x:?.((?1:(?>?)) x))`},
		{`(\y:?.(y x))`, "-", `(\x1:?.((\y:?.(y x)) x1))`},
		{`{1 f}`, "0", `{1 (\x:N.(f x))}`},
		{`(f:(?>?))`, "0", `((\x:N.(f x)):(?>?))`},
		// what has no function type
		{"5", "-", ""},
		{"u", "-", ""},
		{"?1", "-", ""},
		{"p", "-", ""},
		{"q", "-", ""},
		{"(f 1)", "-", ""},
		{"(f 1)", "1", ""},
		{"{1 f}", "-", ""},
		{"(f #t)", "-", ""},
		{"(5 1)", "0", ""},
		{"(f q)", "0", `((\x:N.(f x)) q)`},
		{"f", "0", ""},
		{"(f 1)", "2", ""},
		{"(f 1)", "-1", ""},
	} {
		got, ok := impl.EtaAt(ctx, readExpr(c.e), readPath(c.path))
		checkRefactored(t, "EtaAt "+c.path, readExpr(c.e), got, ok, c.want)
	}
	for what, wrong := range wrongContexts() {
		got, ok := impl.EtaAt(wrong, readExpr(`(\x:N.x)`), nil)
		checkRefactored(t, "EtaAt in a context with "+what, readExpr(`(\x:N.x)`), got, ok, "")
	}
	// The context of a place may be longer than MaxCtx.
	e := function("g", readType("(N>N)"), variable("g"))
	want := `(\g:(N>N).(\x:N.(g x)))`
	path := []int{0}
	for i := range 9 {
		got, ok := impl.EtaAt(nil, e, path)
		checkRefactored(t, "EtaAt in functions", e, got, ok, want)
		e = function("a"+decimal(i), number(), e)
		want = `(\a` + decimal(i) + ":N." + want + ")"
		path = append(path, 0)
	}
	got, ok := impl.EtaAt(nil, e, path)
	checkRefactored(t, "EtaAt that makes the expression too deep", e, got, ok, "")
}

// A meet of notes may be no note.
func TestEtaOfLargeTypes(t *testing.T) {
	for _, c := range []struct{ a, b, argument string }{
		{"(((N>N)>(N>N))>(?>?))", "(?>((B*B)>(B*B)))", "(((N>N)>(N>N))>((B*B)>(B*B)))"},
		{"((N>N)>?)", "(?>(B*B))", "((N>N)>(B*B))"},
		{"N", "?", "N"},
		{"((((N>N)>(N>N))>((N>N)>N))>?)", "(?>B)", "((((N>N)>(N>N))>((N>N)>N))>B)"},
		{"((((N>N)>(N>N))>((N>N)>N))>?)", "?", "((((N>N)>(N>N))>((N>N)>N))>?)"},
		{"((((N>N)>(N>N))>((N>N)>N))>?)", "(?>(N>N))", ""},
		{"((((N>N)>(N>N))>((N>N)>N))*?)", "(?*(((N>N)>(N>N))>((N>N)>N)))", ""},
	} {
		// The result of the function is no note.
		body := `.(\g:((((N>N)>(N>N))>((N>N)>N))>?).1)) `
		text := `(if #t (\f:` + c.a + body + `(\f:` + c.b + strings.TrimSpace(body) + ")"
		want := ""
		if c.argument != "" {
			want = `(\x:` + c.argument + `.(` + text + ` x))`
		}
		got, ok := impl.EtaAt(nil, readExpr(text), nil)
		checkRefactored(t, "EtaAt", readExpr(text), got, ok, want)
	}
}

func TestRefactoringAtTheLimits(t *testing.T) {
	inline := func(e impl.Expr) (impl.Expr, bool) { return impl.InlineAt(e, nil) }
	eta := func(e impl.Expr) (impl.Expr, bool) { return impl.EtaAt(nil, e, nil) }
	double := func(size int) impl.Expr {
		return ex(impl.ExAp, readExpr(`(\x:N.(fst (x,x)))`), sumOf(size))
	}
	wide := func(size int) impl.Expr { return function("x", number(), sumOf(size-1)) }
	atDepth := func(depth int) impl.Expr {
		return ex(impl.ExAp, function("x", number(), chainExpr(depth, variable("x"))), constant(1))
	}
	for what, c := range map[string]struct {
		do   func(e impl.Expr) (impl.Expr, bool)
		e    impl.Expr
		fits bool
	}{
		"inlined to 40 nodes":    {inline, double(17), true},
		"inlined to 42 nodes":    {inline, double(19), false},
		"inlined to a depth":     {inline, atDepth(10), true},
		"expanded to 39 nodes":   {eta, wide(36), true},
		"expanded to 40 nodes":   {eta, ex(impl.ExFst, ex(impl.ExPair, function("x", number(), sumOf(33)), constant(1))), true},
		"expanded to 41 nodes":   {eta, wide(38), false},
		"expanded to 43 nodes":   {eta, wide(40), false},
		"expanded to a depth":    {eta, function("x", number(), chainExpr(9, hole(1))), true},
		"expanded to 13 levels":  {eta, function("x", number(), chainExpr(10, hole(1))), false},
		"expanded to 13, deeper": {eta, function("x", number(), chainExpr(11, hole(1))), false},
	} {
		got, ok := c.do(c.e)
		if !impl.IsValidExpr(c.e) || ok != c.fits || !ok && exactExpr(got) != exactExpr(c.e) || ok && !impl.IsValidExpr(got) {
			t.Errorf("%s: %s becomes %s, %v", what, exactExpr(c.e), exactExpr(got), ok)
		}
	}
	// The argument takes one level more than the variable.
	for depth := 9; depth <= 12; depth++ {
		e := ex(impl.ExAp, function("x", number(), chainExpr(depth-2, variable("x"))), chainExpr(4, hole(1)))
		got, ok := inline(e)
		if want := depth-2+4 <= 12; ok != want || impl.IsValidExpr(e) && !ok && exactExpr(got) != exactExpr(e) {
			t.Errorf("a body of the depth %d with an argument of the depth 4: %v", depth-2, ok)
		}
	}
	// New names that get too long by a number.
	long := readExpr(`(\x:N.(\ab123:N.(x+ab123)))`)
	got, ok := impl.RenameAt(long, nil, "ab123")
	checkRefactored(t, "RenameAt with a name that gets too long", long, got, ok, "")
}

func TestRefactoringOfWrongExprs(t *testing.T) {
	for what, wrong := range wrongExprs() {
		for _, c := range []struct {
			e    impl.Expr
			path string
		}{{wrong, "-"}, {ex(impl.ExPair, function("x", number(), variable("x")), wrong), "0"}, {ex(impl.ExPair, ex(impl.ExAp, function("x", number(), constant(1)), wrong), constant(2)), "0"}, {function("x", number(), wrong), "-"}} {
			got, ok := impl.RenameAt(c.e, readPath(c.path), "z")
			checkRefactored(t, "RenameAt in "+what, c.e, got, ok, "")
			got, ok = impl.EtaAt(nil, c.e, readPath(c.path))
			checkRefactored(t, "EtaAt in "+what, c.e, got, ok, "")
			got, ok = impl.InlineAt(c.e, readPath(c.path))
			checkRefactored(t, "InlineAt in "+what, c.e, got, ok, "")
		}
	}
	deep := ex(impl.ExAp, function("x", number(), variable("x")), chainExpr(100000, variable("x")))
	for _, do := range []func() (impl.Expr, bool){
		func() (impl.Expr, bool) { return impl.RenameAt(deep, []int{0}, "z") },
		func() (impl.Expr, bool) { return impl.InlineAt(deep, nil) },
		func() (impl.Expr, bool) { return impl.EtaAt(nil, deep, []int{0}) },
	} {
		if got, ok := do(); ok || impl.SizeOf(got) != 100003 {
			t.Error("a deep expression is changed")
		}
	}
}

// An expression is well-typed before and after, with the same type and, where
// there is one, the same answer.
func checkKept(t *testing.T, what string, e, got impl.Expr, path []int) bool {
	t.Helper()
	own, typed := impl.SynthType(nil, e)
	if !typed {
		return false
	}
	if after, ok := impl.SynthType(nil, got); !ok || typeWords(after) != typeWords(own) {
		t.Fatalf("%s: %s of the type %s becomes %s of the type %s", what, exprWords(e), typeWords(own), exprWords(got), typeWords(after))
	}
	one, two := impl.RunExpr(e, impl.MaxFuel), impl.RunExpr(got, impl.MaxFuel)
	if one.Status == impl.EvDone && two.Status == impl.EvDone && plainAnswer(one.Value) != plainAnswer(two.Value) {
		t.Fatalf("%s at %s: %s is %s, and %s is %s", what, pathWords(path), exprWords(e), coreWords(one.Value), exprWords(got), coreWords(two.Value))
	}
	return plainAnswer(one.Value) != ""
}

func TestPromiseOfRefactoring(t *testing.T) {
	r := rand.New(rand.NewSource(300))
	changed, answers := map[string]int{}, 0
	for range 2500 {
		e, _, _ := runnableOf(r, []impl.Type{number(), truth(), randomType(r, 3)}[r.Intn(3)], 2+r.Intn(4))
		if r.Intn(2) == 0 {
			e = withFewHoles(r, e)
		}
		if r.Intn(3) == 0 {
			e = ex(impl.ExAp, function("y", number(), e), constant(r.Intn(5)))
		}
		for _, path := range impl.AllPaths(e) {
			node, _ := impl.SubtermAt(e, path)
			name := []string{"x", "y", "z", "w"}[r.Intn(4)]
			for what, do := range map[string]func() (impl.Expr, bool){
				"RenameAt": func() (impl.Expr, bool) { return impl.RenameAt(e, path, name) },
				"InlineAt": func() (impl.Expr, bool) { return impl.InlineAt(e, path) },
				"EtaAt":    func() (impl.Expr, bool) { return impl.EtaAt(nil, e, path) },
			} {
				got, ok := do()
				if !ok {
					if exactExpr(got) != exactExpr(e) {
						t.Fatalf("%s fails and changes %s", what, exprWords(e))
					}
					continue
				}
				changed[what]++
				if checkKept(t, what, e, got, path) {
					answers++
				}
				if what == "RenameAt" && (nameless(got, nil, noName, "") != nameless(e, nil, noName, "") || node.Kind != impl.ExLam) {
					t.Fatalf("RenameAt %s of %s is %s", pathWords(path), exprWords(e), exprWords(got))
				}
				after, _ := impl.SubtermAt(got, path)
				if what == "RenameAt" && after.Name != name || what == "EtaAt" && (after.Kind != impl.ExLam || exprWords(after.Args[0].Args[0]) != exprWords(node)) || what == "InlineAt" && exprWords(after) != plainInline(node) {
					t.Fatalf("%s %s of %s is %s", what, pathWords(path), exprWords(e), exprWords(got))
				}
			}
		}
	}
	if changed["RenameAt"] < 500 || changed["InlineAt"] < 100 || changed["EtaAt"] < 500 || answers < 500 {
		t.Error("too few refactorings", changed, answers)
	}
}

// A function gets a new name unless it is free in the body or no name fits.
func TestRandomRenaming(t *testing.T) {
	r := rand.New(rand.NewSource(301))
	renamed := 0
	for range 5000 {
		e := scopedExpr(r, 6)
		for _, path := range impl.AllPaths(e) {
			node, _ := impl.SubtermAt(e, path)
			for _, name := range []string{"x", "y", "y1", "q"} {
				got, ok := impl.RenameAt(e, path, name)
				want := impl.IsValidExpr(e) && node.Kind == impl.ExLam && (name == node.Name || !slices.Contains(freeByScope(node, nil), name))
				if ok != want {
					t.Fatalf("RenameAt(%s, %s, %s) = %s, %v", exprWords(e), pathWords(path), name, exprWords(got), ok)
				}
				if ok {
					renamed++
					if nameless(got, nil, noName, "") != nameless(e, nil, noName, "") {
						t.Fatalf("RenameAt(%s, %s, %s) = %s", exprWords(e), pathWords(path), name, exprWords(got))
					}
				}
			}
		}
	}
	if renamed < 5000 {
		t.Error("too few functions are renamed", renamed)
	}
}

func TestRefactoringSharesNoMemory(t *testing.T) {
	ctx := roomyCtx(typings("f", "((N*B)>N)", "x", "(N>N)"))
	beforeCtx := wholeCtx(ctx)
	for _, c := range []struct{ e, path string }{
		{`(\y:(N>N).(y (y 1)))`, "-"}, {`((\y:(N*B).((y,y),(\z:N.y))) (1,#t))`, "-"}, {`((\y:(N*B).((y,y),(\z:N.y))) (1,z))`, "-"}, {"(f (1,#t))", "0"}, {`(x ((\y:N.(y+y)) 2))`, "1"}, {"5", "-"}, {"(1,2)", "7"}, {"{1 {2 3}}", "0"}, {`(\y:N.(f y))`, "-"},
	} {
		var e impl.Expr
		if c.e == "{1 {2 3}}" {
			e = mark(1, mark(2, constant(3)))
		} else {
			e = readExpr(c.e)
		}
		e, path := roomyExpr(e), roomyPath(readPath(c.path))
		before, beforePath := wholeExpr(e), wholePath(path)
		for _, do := range []func() impl.Expr{
			func() impl.Expr { got, _ := impl.RenameAt(e, path, "z"); return got },
			func() impl.Expr { got, _ := impl.InlineAt(e, path); return got },
			func() impl.Expr { got, _ := impl.EtaAt(ctx, e, path); return got },
		} {
			one := do()
			text := exactExpr(one)
			if exprPartsShare(one) {
				t.Fatalf("parts of a result for %s share memory", exactExpr(e))
			}
			spoilExpr(do())
			if exactExpr(one) != text {
				t.Fatal("two results share memory")
			}
			spoilExpr(one)
			if wholeExpr(e) != before || wholeCtx(ctx) != beforeCtx || wholePath(path) != beforePath {
				t.Fatal("an argument was changed")
			}
		}
	}
}

// exprPartsShare reports whether two slices within an expression share memory.
func exprPartsShare(e impl.Expr) bool {
	var asCore func(e impl.Expr) impl.Core
	seen := map[*impl.Expr]bool{}
	shared := false
	asCore = func(e impl.Expr) impl.Core {
		d := impl.Core{Type: e.Type}
		for i := range e.Args[:cap(e.Args)] {
			p := &e.Args[:cap(e.Args)][i]
			shared = shared || seen[p]
			seen[p] = true
			d.Args = append(d.Args, asCore(*p))
		}
		return d
	}
	return partsShare(asCore(e)) || shared
}
