package tests

import (
	"math/rand"
	"slices"
	"strings"
	"testing"

	"loop.example/g00585/impl"
)

// Promise 13: what can be analyzed against the type of a hole fits into it.

// infoWords writes infos as "?N" or "{N}", "@" and the path, and the place.
func infoWords(infos []impl.HoleInfo) string {
	var words []string
	for _, info := range infos {
		word := "?" + decimal(info.N)
		if info.Mark {
			word = "{" + decimal(info.N) + "}"
		}
		words = append(words, word+" @"+pathWords(info.Path)+" "+placeWords(info.Place))
	}
	return strings.Join(words, "; ")
}

func TestHolesOf(t *testing.T) {
	ctx := typings("n", "N", "f", "(N>B)")
	for s, want := range map[string]string{
		"1":                       "",
		`(\x:N.(x+n))`:            "",
		"?7":                      "?7 @- |synth",
		"{7 q}":                   "{7} @- |synth",
		"(?2+{1 #t})":             "?2 @0 |N; {1} @1 |N",
		"({1 #t}+?2)":             "{1} @0 |N; ?2 @1 |N",
		"(?1+?1)":                 "?1 @0 |N; ?1 @1 |N",
		"{1 ?1}":                  "{1} @- |synth; ?1 @0 |synth",
		"{3 ({2 q}+(f ?3))}":      "{3} @- |synth; {2} @0.0 |N; ?3 @0.1.1 |N",
		`(\x:B.(if ?5 ?4 {3 x}))`: "?5 @0.0 x:B|B; ?4 @0.1 x:B|synth; {3} @0.2 x:B|synth",
		`((\x:N.?1):(?>(B*?)))`:   "?1 @0.0 x:N|(B*?)",
		`((\x:N.(\y:?.?2)) ?1)`:   "?2 @0.0.0 x:N y:?|synth; ?1 @1 |N",
		"((?1,(fst ?2)):(N*B))":   "?1 @0.0 |N; ?2 @0.1.0 |synth",
		"(?9 (1+#t))":             "?9 @0 |synth",
		"((1 2) ?3)":              "?3 @1 |?",
	} {
		around := strings.NewReplacer(" |", " "+ctxWords(ctx)+"|", " x:", " "+ctxWords(ctx)+" x:")
		if got := infoWords(impl.HolesOf(ctx, readExpr(s))); got != around.Replace(want) {
			t.Errorf("HolesOf(%s) = %s, want %s", s, got, want)
		}
	}
	for what, wrong := range wrongExprs() {
		if got := impl.HolesOf(ctx, wrong); len(got) != 0 {
			t.Errorf("HolesOf of %s = %s", what, infoWords(got))
		}
	}
	for what, wrong := range wrongContexts() {
		if got := impl.HolesOf(wrong, hole(1)); len(got) != 0 {
			t.Errorf("HolesOf in a context with %s = %s", what, infoWords(got))
		}
	}
}

func TestHolesOfAreThoseOfTheExpression(t *testing.T) {
	r := rand.New(rand.NewSource(130))
	ctx := typings("x", "N", "y", "B", "f", "(N>(B>N))")
	for range 3000 {
		e := randomExpr(r, true)
		var want []impl.HoleInfo
		for _, path := range impl.AllPaths(e) {
			node, _ := impl.SubtermAt(e, path)
			if node.Kind == impl.ExHole || node.Kind == impl.ExMark {
				place, _ := impl.PlaceAt(ctx, e, path)
				want = append(want, impl.HoleInfo{N: node.N, Mark: node.Kind == impl.ExMark, Path: path, Place: place})
			}
		}
		got := impl.HolesOf(ctx, e)
		var numbers []int
		for _, info := range got {
			numbers = append(numbers, info.N)
		}
		if infoWords(got) != infoWords(want) || !slices.Equal(numbers, impl.HolesIn(e)) {
			t.Fatalf("HolesOf(%s) = %s", exprWords(e), infoWords(got))
		}
	}
}

func TestRenumberHoles(t *testing.T) {
	for s, want := range map[string]string{
		"1":                           "1",
		"?1":                          "?1",
		"?42":                         "?1",
		"{42 x}":                      "{1 x}",
		"(?2+{1 #t})":                 "(?1+{2 #t})",
		"(?5+?5)":                     "(?1+?2)",
		"{3 ({3 ?3}+?3)}":             "{1 ({2 ?3}+?4)}",
		"(if ?9 {8 (?7,8)} (fst ?1))": "(if ?1 {2 (?3,8)} (fst ?4))",
		`((\x:N.?2) {1 ?1})`:          `((\x:N.?1) {2 ?3})`,
	} {
		if got := impl.RenumberHoles(readExpr(s)); exprWords(got) != want {
			t.Errorf("RenumberHoles(%s) = %s", s, exprWords(got))
		}
	}
	odd := ex(99, hole(-4), impl.Expr{Kind: impl.ExMark, N: 0, Args: []impl.Expr{hole(0), {Kind: impl.ExNum, N: -7}, ex(impl.ExMark)}}, impl.Expr{Kind: impl.ExHole, N: 1000, Args: []impl.Expr{hole(5)}})
	want := ex(99, hole(1), impl.Expr{Kind: impl.ExMark, N: 2, Args: []impl.Expr{hole(3), {Kind: impl.ExNum, N: -7}, {Kind: impl.ExMark, N: 4}}}, impl.Expr{Kind: impl.ExHole, N: 5, Args: []impl.Expr{hole(6)}})
	if got := impl.RenumberHoles(odd); exactExpr(got) != exactExpr(want) {
		t.Errorf("RenumberHoles of a wrong expression = %s", exactExpr(got))
	}
	many := hole(3)
	for range 150 {
		many = ex(impl.ExPair, hole(3), many)
	}
	if got := impl.RenumberHoles(many); !slices.Equal(impl.HolesIn(got), upTo(151)) {
		t.Error("RenumberHoles of 151 holes")
	}
	r := rand.New(rand.NewSource(131))
	for range 3000 {
		e := randomExpr(r, true)
		got := impl.RenumberHoles(e)
		if !slices.Equal(impl.HolesIn(got), upTo(len(impl.HolesIn(e)))) || shapeWords(got) != shapeWords(e) || !impl.HasUniqueHoles(got) {
			t.Fatalf("RenumberHoles(%s) = %s", exprWords(e), exprWords(got))
		}
	}
}

// shapeWords is exactExpr without the numbers of holes and marks.
func shapeWords(e impl.Expr) string {
	if e.Kind == impl.ExHole || e.Kind == impl.ExMark {
		e.N = 0
	}
	text := "[" + decimal(e.Kind) + " " + e.Name + " " + decimal(e.N) + " " + typeWords(e.Type)
	for _, arg := range e.Args {
		text += " " + shapeWords(arg)
	}
	return text + "]"
}

func TestHasUniqueHoles(t *testing.T) {
	for s, want := range map[string]bool{
		"1": true, "?1": true, "{1 x}": true, "(?1+?2)": true, "(?1+?1)": false, "{1 ?1}": false, "{1 ?2}": true, "({1 x}+{1 x})": false,
		"({1 x}+{2 x})": true, "(1+1)": true, "(?1+(2+{1 #t}))": false, "(?1,(?2,(?3,?1)))": false, "(?1,(?2,(?3,?4)))": true, "{5 (?1,{2 (?3,?2)})}": false,
		"(?1+1)": true,
	} {
		if got := impl.HasUniqueHoles(readExpr(s)); got != want {
			t.Errorf("HasUniqueHoles(%s) is %v", s, got)
		}
	}
	for _, c := range []struct {
		e    impl.Expr
		want bool
	}{
		{impl.Expr{}, true},
		{ex(impl.ExPair, hole(0), hole(0)), false},
		{ex(impl.ExPair, hole(0), ex(impl.ExMark)), false},
		{ex(impl.ExPair, hole(-1), constant(-1)), true},
		{impl.Expr{Kind: impl.ExHole, N: 1, Args: []impl.Expr{hole(1)}}, false},
	} {
		if got := impl.HasUniqueHoles(c.e); got != c.want {
			t.Errorf("HasUniqueHoles(%s) is %v", exactExpr(c.e), got)
		}
	}
}

func TestSameShape(t *testing.T) {
	for _, c := range []struct {
		a, b string
		want bool
	}{
		{"?1", "?1", true}, {"?1", "?2", true}, {"(?1+?1)", "(?3+?4)", true}, {"{1 x}", "{9 x}", true}, {"{1 ?2}", "{2 ?2}", true},
		{"?1", "x", false}, {"?1", "{1 x}", false}, {"{1 x}", "{1 y}", false}, {"{1 x}", "x", false}, {"{1 ?1}", "?1", false},
		{"1", "2", false}, {"#t", "#f", false}, {"x", "y", false}, {`(\x:N.x)`, `(\y:N.y)`, false}, {`(\x:N.?1)`, `(\x:B.?1)`, false},
		{"(1:N)", "(1:?)", false}, {"(?1+?2)", "(?1<?2)", false}, {"(?1,(?2,?3))", "((?1,?2),?3)", false}, {"(fst ?1)", "(snd ?1)", false},
		{"(?1+1)", "(?1+2)", false}, {"(?1+?2)", "(?1+1)", false}, {"(1+?2)", "(?1+?2)", false}, {"(if ?1 ?2 ?3)", "(if ?3 ?3 ?3)", true},
	} {
		a, b := readExpr(c.a), readExpr(c.b)
		if impl.SameShape(a, b) != c.want || impl.SameShape(b, a) != c.want {
			t.Errorf("SameShape(%s, %s) is %v", c.a, c.b, !c.want)
		}
	}
	var list []impl.Expr
	for _, e := range oneOfEach() {
		list = append(list, e)
	}
	for _, e := range wrongExprs() {
		if impl.SizeOf(e) < 30 {
			list = append(list, e)
		}
	}
	for _, a := range list {
		for _, b := range list {
			if got := impl.SameShape(a, b); got != (shapeWords(a) == shapeWords(b)) {
				t.Errorf("SameShape(%s, %s) is %v", exactExpr(a), exactExpr(b), got)
			}
		}
	}
	r := rand.New(rand.NewSource(132))
	for range 5000 {
		a := randomExpr(r, true)
		b := roomyExpr(a)
		n := anyNode(r, &b)
		switch r.Intn(4) {
		case 0:
			n.N++
		case 1:
			n.Kind++
		case 2:
			n.Name += "q"
		case 3:
			n.Args = append(n.Args, hole(1))
		}
		if got := impl.SameShape(a, b); got != (shapeWords(a) == shapeWords(b)) {
			t.Fatalf("SameShape(%s, %s) is %v", exactExpr(a), exactExpr(b), got)
		}
	}
}

// checkFill requires the result, or that the expression stays unchanged if
// want is empty.
func checkFill(t *testing.T, e impl.Expr, u int, by impl.Expr, want string) {
	t.Helper()
	fits := want != ""
	if !fits {
		want = exactExpr(e)
	}
	got, ok := impl.FillExpr(e, u, by)
	if ok != fits || exactExpr(got) != want {
		t.Errorf("FillExpr(%s, %d, %s) = %s, %v", exactExpr(e), u, exactExpr(by), exactExpr(got), ok)
	}
}

func TestFillExpr(t *testing.T) {
	for _, c := range []struct {
		e        string
		u        int
		by, want string
	}{
		{"?1", 1, "5", "5"},
		{"?1", 2, "5", ""},
		{"x", 1, "5", ""},
		{"1", 1, "5", ""},
		{"{1 x}", 1, "5", "5"},
		{"{1 x}", 2, "5", ""},
		{"(?1+(?1+?2))", 1, "5", "(5+(5+?2))"},
		{"(?1+(?1+?2))", 2, "5", "(?1+(?1+5))"},
		{"(?1+(?1+?2))", 3, "5", ""},
		{"(?1+{1 #t})", 1, "5", "(5+5)"},
		{"(?2+{1 #t})", 1, "5", "(?2+5)"},
		// what stands in a mark goes with it
		{"{1 (?1+?2)}", 1, "5", "5"},
		{"{1 (?1+?2)}", 2, "5", "{1 (?1+5)}"},
		{"{1 (?2+{3 ?2})}", 2, "x", "{1 (x+{3 x})}"},
		{"{1 (?2+{3 ?2})}", 3, "x", "{1 (?2+x)}"},
		{"{1 (?2+{3 ?2})}", 1, "?1", "?1"},
		// holes of the filling stay there
		{"?1", 1, "?1", "?1"},
		{"?1", 1, "(?1+?1)", "(?1+?1)"},
		{"(?1,?2)", 1, "(?2,{1 ?1})", "((?2,{1 ?1}),?2)"},
		{"(?1,?2)", 2, "(?2,?1)", "(?1,(?2,?1))"},
		{"(if ?1 ?2 ?1)", 1, "(fst ?1)", "(if (fst ?1) ?2 (fst ?1))"},
		// variables that are bound around the hole
		{`(\x:N.?1)`, 1, "x", `(\x:N.x)`},
		{`(\x:N.(\y:B.(?1 ?2)))`, 1, `(\z:N.(x y))`, `(\x:N.(\y:B.((\z:N.(x y)) ?2)))`},
		{`(\x:N.((\x:B.?1) ?1))`, 1, "(x,y)", `(\x:N.((\x:B.(x,y)) (x,y)))`},
		// a mark directly in a mark
		{"{1 ?2}", 2, "{3 x}", ""},
		{"{1 ?2}", 2, "(fst {3 x})", "{1 (fst {3 x})}"},
		{"(?1,{2 ?1})", 1, "{3 x}", ""},
		{"(?1,{2 x})", 1, "{3 x}", "({3 x},{2 x})"},
	} {
		want := ""
		if c.want != "" {
			want = exactExpr(readExpr(c.want))
		}
		checkFill(t, readExpr(c.e), c.u, readExpr(c.by), want)
	}
	for _, u := range []int{0, -1, 100, -9223372036854775808, 9223372036854775807} {
		checkFill(t, readExpr("(?1+{2 3})"), u, constant(5), "")
	}
	checkFill(t, readExpr("(?98+?99)"), 99, constant(5), exactExpr(readExpr("(?98+5)")))
	// A number of another form is none of a hole.
	checkFill(t, readExpr("(1+?2)"), 1, constant(5), "")
	checkFill(t, readExpr("(if #t ?2 ?3)"), 1, constant(5), "")
}

func TestFillExprAtTheLimits(t *testing.T) {
	twice := ex(impl.ExPair, hole(1), ex(impl.ExPair, hole(1), constant(0)))
	checkFill(t, twice, 1, sumOf(17), exactExpr(ex(impl.ExPair, sumOf(17), ex(impl.ExPair, sumOf(17), constant(0)))))
	checkFill(t, twice, 1, sumOf(19), "")
	once := ex(impl.ExPair, hole(1), hole(2))
	checkFill(t, once, 1, ex(impl.ExFst, sumOf(37)), exactExpr(ex(impl.ExPair, ex(impl.ExFst, sumOf(37)), hole(2))))
	checkFill(t, once, 1, sumOf(39), "")
	deep := chainExpr(6, hole(1))
	checkFill(t, deep, 1, chainExpr(7, hole(1)), exactExpr(chainExpr(12, hole(1))))
	checkFill(t, deep, 1, chainExpr(8, hole(1)), "")
	checkFill(t, mark(1, chainExpr(6, hole(2))), 2, chainExpr(7, hole(1)), exactExpr(mark(1, chainExpr(12, hole(1)))))
}

func TestFillWrongExpressions(t *testing.T) {
	for what, wrong := range wrongExprs() {
		if impl.SizeOf(wrong) > 1000 {
			continue
		}
		checkFill(t, hole(1), 1, wrong, "")
		checkFill(t, ex(impl.ExAdd, constant(1), mark(2, hole(1))), 2, wrong, "")
		checkFill(t, ex(impl.ExPair, wrong, hole(77)), 77, constant(1), "")
		// What is not valid may go away.
		checkFill(t, ex(impl.ExAdd, mark(77, wrong), hole(1)), 77, constant(1), exactExpr(ex(impl.ExAdd, constant(1), hole(1))))
		if _, ok := impl.FillExpr(wrong, 78, constant(1)); ok {
			t.Errorf("a hole was filled that %s does not have", what)
		}
	}
	checkFill(t, hole(0), 0, constant(1), exactExpr(constant(1)))
	checkFill(t, hole(100), 100, constant(1), exactExpr(constant(1)))
	checkFill(t, hole(-5), -5, constant(1), exactExpr(constant(1)))
	checkFill(t, ex(impl.ExMark), 0, constant(1), exactExpr(constant(1)))
	checkFill(t, impl.Expr{Kind: impl.ExHole, N: 3, Args: []impl.Expr{hole(4)}}, 3, constant(1), exactExpr(constant(1)))
	checkFill(t, impl.Expr{}, 0, constant(1), "")
	checkFill(t, impl.Expr{Kind: impl.ExVar, Name: "x", Args: []impl.Expr{hole(1)}}, 1, constant(1), "")
}

func TestHolesOfDeepExpressions(t *testing.T) {
	deep := chainExpr(200000, ex(impl.ExAdd, hole(4), hole(4)))
	if !slices.Equal(impl.HolesIn(impl.RenumberHoles(deep)), []int{1, 2}) || impl.HasUniqueHoles(deep) || !impl.SameShape(deep, deep) || impl.HolesOf(nil, deep) != nil {
		t.Error("the holes of a deep expression")
	}
	if _, ok := impl.FillExpr(deep, 4, constant(1)); ok {
		t.Error("a deep expression is filled")
	}
}

func TestPromiseOfHoles(t *testing.T) {
	r := rand.New(rand.NewSource(131))
	ctx := typings("x", "N", "y", "B", "z", "?", "w", "(N>N)", "v", "(N*B)")
	filled := 0
	for range 20000 {
		e := impl.RenumberHoles(typedExpr(r, ctx, randomType(r, 3), 1+r.Intn(4)))
		own, ok := impl.SynthType(ctx, e)
		if !ok {
			continue
		}
		for _, info := range impl.HolesOf(ctx, e) {
			if !info.Place.Ana || !impl.IsCtx(info.Place.Ctx) {
				continue
			}
			by := typedExpr(r, info.Place.Ctx, info.Place.Type, 1+r.Intn(3))
			if !impl.CheckType(info.Place.Ctx, by, info.Place.Type) {
				continue
			}
			got, ok := impl.FillExpr(e, info.N, by)
			if !ok {
				continue
			}
			filled++
			replaced, _ := impl.ReplaceAt(e, info.Path, by)
			now, fits := impl.SynthType(ctx, got)
			if exprWords(got) != exprWords(replaced) || !fits || typeWords(now) != typeWords(own) {
				t.Fatalf("FillExpr(%s, %d, %s) = %s", exprWords(e), info.N, exprWords(by), exprWords(got))
			}
		}
	}
	if filled < 5000 {
		t.Error("too few holes were filled", filled)
	}
}

func TestHolesShareNoMemory(t *testing.T) {
	r := rand.New(rand.NewSource(133))
	ctx := roomyCtx(typings("x", "(N>N)", "y", "((N*B)>(B>N))"))
	beforeCtx := wholeCtx(ctx)
	for range 1000 {
		e, by := roomyExpr(randomExpr(r, true)), roomyExpr(randomExpr(r, true))
		before, beforeBy := wholeExpr(e), wholeExpr(by)
		infos := impl.HolesOf(ctx, e)
		for i := range infos {
			rest := infoWords(infos[i+1:])
			spoilPath(infos[i].Path)
			spoilCtx(infos[i].Place.Ctx)
			spoilType(infos[i].Place.Type)
			if infoWords(infos[i+1:]) != rest {
				t.Fatal("two infos share memory")
			}
		}
		got := impl.RenumberHoles(e)
		text := exactExpr(got)
		spoilExpr(impl.RenumberHoles(e))
		_, _ = impl.HasUniqueHoles(e), impl.SameShape(e, by)
		if exactExpr(got) != text {
			t.Fatal("two results of RenumberHoles share memory")
		}
		spoilExpr(got)
		for _, u := range append(impl.HolesIn(e), 1) {
			filled, _ := impl.FillExpr(e, u, by)
			spoilExpr(filled)
		}
		if wholeExpr(e) != before || wholeExpr(by) != beforeBy || wholeCtx(ctx) != beforeCtx {
			t.Fatal("an argument was changed")
		}
	}
	twice, _ := impl.FillExpr(readExpr("(?1,?1)"), 1, readExpr("(1+2)"))
	spoilExpr(twice.Args[0])
	if exprWords(twice.Args[1]) != "(1+2)" {
		t.Error("both copies of a filling share memory")
	}
}
