package tests

import (
	"math"
	"math/rand"
	"slices"
	"strings"
	"testing"

	"loop.example/g00585/impl"
)

// Promise 26: filling a hole in a result and going on gives the answer of the
// filled program.

func checkFillCore(t *testing.T, d impl.Core, u int, by impl.Core, want string) {
	t.Helper()
	if got := impl.FillCore(d, u, by); exactCore(got) != want {
		t.Errorf("FillCore(%s, %d, %s) = %s", exactCore(d), u, exactCore(by), exactCore(got))
	}
}

func TestFillCore(t *testing.T) {
	for _, c := range []struct {
		d    string
		u    int
		by   string
		want string
	}{
		{"?1[]", 1, "5", "5"},
		{"?1[]", 2, "5", "?1[]"},
		{"5", 1, "6", "5"},
		{"?1[x=3]", 1, "(x+x)", "(3+3)"},
		{"?1[x=3]", 1, "y", "y"},
		{"?1[x=3,y=4]", 1, "(y,(x,z))", "(4,(3,z))"},
		{"?1[x=y,y=x]", 1, "(x,y)", "(y,x)"},
		{"?1[x=3]", 1, `((\x:N.x) x)`, `((\x:N.x) 3)`},
		{"?1[x=3]", 1, "?1[x=x]", "?1[x=3]"},
		{"?1[x=3]", 1, "?2[y=?1[x=x]]", "?2[y=?1[x=3]]"},
		{`(\x:N.?1[x=x])`, 1, "(x+1)", `(\x:N.(x+1))`},
		{`(\x:N.?1[])`, 1, "x", `(\x:N.x)`},
		// marks
		{"{1 (1+2)}[]", 1, "5", "5"},
		{"{1 ?1[]}[x=7]", 1, "x", "7"},
		{"{1 ?2[]}[]", 2, "5", "{1 5}[]"},
		{"{1 x}[x=?2[]]", 2, "5", "{1 x}[x=5]"},
		{"{1 {1 2}[x=3]}[x=4]", 1, "x", "4"},
		{"{2 {1 2}[x=3]}[x=4]", 1, "x", "{2 3}[x=4]"},
		// several ones
		{"(?1[],?1[])", 1, "5", "(5,5)"},
		{"(?1[x=1],(?2[x=2],{1 3}[x=4]))", 1, "x", "(1,(?2[x=2],4))"},
		{"(if ?1[] ?1[] (fst ?1[]))", 1, "?3[]", "(if ?3[] ?3[] (fst ?3[]))"},
		{`((\x:N.(?1[]+(?2[]<?1[]))) (snd <?1[]:?=>N>))`, 1, "8", `((\x:N.(8+(?2[]<8))) (snd <8:?=>N>))`},
		{"<?1[]:N!B>", 1, "8", "<8:N!B>"},
		{"(?1[] ?1[])", 1, `(\x:N.x)`, `((\x:N.x) (\x:N.x))`},
		// environments
		{"?2[x=?1[]]", 1, "5", "?2[x=5]"},
		{"?1[x=?1[x=3]]", 1, "(x+1)", "((3+1)+1)"},
		{"?1[x=?1[x=?1[x=3]]]", 1, "(x,x)", "(((3,3),(3,3)),((3,3),(3,3)))"},
		{"?1[x=?2[x=?1[x=3]]]", 1, "(x+1)", "(?2[x=(3+1)]+1)"},
		{"?1[x=?2[x=?1[x=3]]]", 2, "(x+1)", "?1[x=(?1[x=3]+1)]"},
		{"?1[x={1 9}[x=3],y=?1[x=4]]", 1, "(x,y)", "((3,y),(4,y))"},
		{"{1 ?1[x=1]}[x=?1[x=(2,x)]]", 1, "x", "(2,x)"},
		{"?1[x=?1[]]", 1, "x", "x"},
		{"?1[x=?1[y=3],y=4]", 1, "(x,y)", "((x,3),4)"},
	} {
		checkFillCore(t, readCore(c.d), c.u, readCore(c.by), exactCore(readCore(c.want)))
	}
}

func TestFillWrongCores(t *testing.T) {
	five := coreNum(5)
	odd := impl.Core{Kind: impl.CoHole, N: -5, Name: "x", Args: []impl.Core{coreHole(2)}, Env: []impl.CoreBind{bind("x", coreNum(3)), bind("x", coreNum(4)), bind("", coreHole(-5))}}
	for _, c := range []struct {
		d    impl.Core
		u    int
		by   impl.Core
		want impl.Core
	}{
		{impl.Core{}, 0, five, impl.Core{}},
		{co(77, coreHole(1)), 1, five, co(77, five)},
		{odd, -5, co(impl.CoPair, coreVar("x"), coreVar("")), co(impl.CoPair, coreNum(3), co(impl.CoPair, coreVar("x"), coreVar("")))},
		{odd, 2, five, impl.Core{Kind: impl.CoHole, N: -5, Name: "x", Args: []impl.Core{five}, Env: odd.Env}},
		{coreHole(1), 1, impl.Core{}, impl.Core{}},
		{co(impl.CoMark), 0, five, five},
		{co(impl.CoMark, coreHole(1), coreHole(1)), 1, five, co(impl.CoMark, five, five)},
		{impl.Core{Kind: impl.CoNum, N: 1, Args: []impl.Core{coreHole(1)}, Env: []impl.CoreBind{bind("q", coreHole(1))}}, 1, five, impl.Core{Kind: impl.CoNum, N: 1, Args: []impl.Core{five}, Env: []impl.CoreBind{bind("q", five)}}},
		{impl.Core{Kind: impl.CoVar, Name: "x", Args: []impl.Core{coreHole(1)}}, 1, five, impl.Core{Kind: impl.CoVar, Name: "x", Args: []impl.Core{five}}},
	} {
		checkFillCore(t, c.d, c.u, c.by, exactCore(c.want))
	}
	if got := impl.FillCore(coreChain(100000, coreHole(1)), 1, five); impl.SizeOfCore(got) != 100000 || len(impl.ClosuresOf(got)) != 0 {
		t.Error("a deep core expression")
	}
	// Values that are not used in by would be far too large.
	deep := coreNum(1)
	for range 200 {
		deep = coreHole(1, bind("x", coreNum(2)), bind("y", deep))
	}
	checkFillCore(t, coreHole(1, bind("x", deep), bind("y", coreNum(3))), 1, readCore("(y,y)"), exactCore(readCore("(3,3)")))
	checkFillCore(t, deep, 1, five, exactCore(five))
}

// filledPlainly does by its own what FillCore does.
func filledPlainly(d impl.Core, u int, by impl.Core) impl.Core {
	args, env := slices.Clone(d.Args), slices.Clone(d.Env)
	for i := range args {
		args[i] = filledPlainly(args[i], u, by)
	}
	values := map[string]impl.Core{}
	for i := range env {
		env[i].Value = filledPlainly(env[i].Value, u, by)
		values[env[i].Name] = env[i].Value
	}
	if d.N == u && (d.Kind == impl.CoHole || d.Kind == impl.CoMark) {
		return substituted(by, values)
	}
	d.Args, d.Env = args, env
	return d
}

func TestRandomFilling(t *testing.T) {
	r := rand.New(rand.NewSource(260))
	filled := 0
	for range 8000 {
		d, by := randomCore(r, 40), randomCore(r, 12)
		fewNumbers(r, &d)
		u := 1 + r.Intn(4)
		want := filledPlainly(d, u, by)
		if exactCore(want) != exactCore(d) {
			filled++
		}
		checkFillCore(t, d, u, by, exactCore(want))
	}
	if filled < 1500 {
		t.Error("too little is filled", filled)
	}
}

func checkFiller(t *testing.T, e impl.Expr, u int, by impl.Expr, want string) {
	t.Helper()
	got, ok := impl.FillerOf(e, u, by)
	if want == "" {
		want = exactCore(impl.Core{})
	} else {
		want = exactCore(readCore(want))
	}
	if exactCore(got) != want || ok != (want != exactCore(impl.Core{})) {
		t.Errorf("FillerOf(%s, %d, %s) = %s, %v", exactExpr(e), u, exactExpr(by), exactCore(got), ok)
	}
}

func TestFillerOf(t *testing.T) {
	for _, c := range []struct {
		e    string
		u    int
		by   string
		want string
	}{
		{"?1", 1, "5", "<5:N=>?>"},
		{"?1", 1, "#t", "<#t:B=>?>"},
		{"?1", 1, "?1", "?1[]"},
		{"?1", 1, "?2", "?2[]"},
		{"?1", 1, `(\x:N.x)`, `<(\x:N.<x:N=>?>):(N>?)=>?>`},
		{"?1", 1, "(1,?2)", "<(<1:N=>?>,?2[]):(?*?)=>?>"},
		{"?1", 1, "(if #t 1 #f)", "(if #t <1:N=>?> <#f:B=>?>)"},
		{"?1", 1, "{7 q}", "?7[]"},
		{"?1", 1, "({7 #t}+1)", "<(<{7 #t}[]:?=>N>+1):N=>?>"},
		// the place of the first one
		{`(\x:N.(?1+x))`, 1, "(x+x)", "<(x+x):N=>?>"},
		{`(\x:?.(?1+x))`, 1, "x", "x"},
		{`(\x:N.(\x:B.?1))`, 1, "x", "<x:B=>?>"},
		{`(\x:N.(\y:B.?1))`, 1, "?2", "?2[x=x,y=y]"},
		{`((\x:N.?1),(\y:B.?1))`, 1, "x", "<x:N=>?>"},
		{`((\x:N.?1),(\y:B.?1))`, 1, "y", ""},
		{`((\x:N.?1),(\y:B.?2))`, 2, "y", "<y:B=>?>"},
		{`((\x:N.{1 2}),(\y:B.?1))`, 1, "x", "<x:N=>?>"},
		{`((\x:N.?2),(\y:B.{1 #t}))`, 1, "y", "<y:B=>?>"},
		{`{1 (\x:N.?1)}`, 1, "5", "<5:N=>?>"},
		{`{1 (\x:N.?1)}`, 1, "x", ""},
		{`{1 (\x:N.?2)}`, 2, "x", "<x:N=>?>"},
		{`{1 q}`, 1, "5", "<5:N=>?>"},
		// what is not well-typed elsewhere does not matter
		{"((1+#t),?1)", 1, "5", "<5:N=>?>"},
		// no such holes
		{"?1", 2, "5", ""},
		{"?1", 0, "5", ""},
		{"?1", -1, "5", ""},
		{"?1", math.MaxInt, "5", ""},
		{"5", 1, "5", ""},
		// what does not fit
		{"?1", 1, "x", ""},
		{"?1", 1, "(1+#t)", ""},
		{"?1", 1, "(1 2)", ""},
		{`((\x:N.1) ?1)`, 1, "x", ""},
	} {
		checkFiller(t, readExpr(c.e), c.u, readExpr(c.by), c.want)
	}
	for what, wrong := range wrongExprs() {
		if got, ok := impl.FillerOf(ex(impl.ExPair, hole(1), wrong), 1, constant(5)); ok || exactCore(got) != exactCore(impl.Core{}) {
			t.Errorf("FillerOf in %s", what)
		}
		if got, ok := impl.FillerOf(hole(1), 1, wrong); ok || exactCore(got) != exactCore(impl.Core{}) {
			t.Errorf("FillerOf with %s", what)
		}
	}
	// The context of a place may be too long.
	e := hole(1)
	for n := range 10 {
		want := "<5:N=>?>"
		if n > impl.MaxCtx {
			want = ""
		}
		checkFiller(t, e, 1, constant(5), want)
		e = function("x", number(), e)
	}
}

func checkBothWays(t *testing.T, e impl.Expr, u int, by impl.Expr, fuel int, fill, resume string) {
	t.Helper()
	if got := impl.FillAndRun(e, u, by, fuel); resultWords(got) != fill {
		t.Errorf("FillAndRun(%s, %d, %s, %d) is %s, want %s", exactExpr(e), u, exactExpr(by), fuel, resultWords(got), fill)
	}
	if got := impl.RunAndResume(e, u, by, fuel); resultWords(got) != resume {
		t.Errorf("RunAndResume(%s, %d, %s, %d) is %s, want %s", exactExpr(e), u, exactExpr(by), fuel, resultWords(got), resume)
	}
}

func TestBothWaysOfFilling(t *testing.T) {
	for _, c := range []struct {
		e            string
		u            int
		by           string
		fuel         int
		fill, resume string
	}{
		{`((\x:N.(?1+(x+1))) 3)`, 1, "(x+x)", 60, "done 1 10", "done 1 10"},
		{`((\x:N.(?1+(x+1))) 3)`, 1, "#t", 60, "done 1 (<#t:B!N>+4)", "done 1 (<#t:B!N>+4)"},
		{`((\x:N.(?1+(x+1))) 3)`, 1, "?1", 60, "done 1 (<?1[x=3]:?=>N>+4)", "done 1 (<?1[x=3]:?=>N>+4)"},
		{`((\x:N.(?1+(x+1))) 3)`, 1, "?7", 60, "done 1 (<?7[x=3]:?=>N>+4)", "done 1 (<?7[x=3]:?=>N>+4)"},
		{"(1+{1 #t})", 1, "5", 60, "done 0 6", "done 0 6"},
		{"({1 q}+{2 #t})", 1, "5", 60, "done 0 (5+<{2 #t}[]:?=>N>)", "done 0 (5+<{2 #t}[]:?=>N>)"},
		{"({1 q}+{2 #t})", 2, "5", 60, "done 0 (<?1[]:?=>N>+5)", "done 0 (<?1[]:?=>N>+5)"},
		{"{1 (?2+1)}", 2, "5", 60, "done 0 {1 6}[]", "done 0 {1 6}[]"},
		{"{1 (?2+1)}", 1, "5", 60, "done 0 <5:N=>?>", "done 0 <5:N=>?>"},
		// steps of both evaluations
		{`(if ?1 ((\x:N.x) 1) ((\x:N.x) 2))`, 1, "#f", 60, "done 1 2", "done 1 2"},
		{`((\x:N.(if ?1 ((\y:N.(x+y)) 1) 2)) 5)`, 1, "(x<9)", 60, "done 2 6", "done 2 6"},
		{`((\x:N.(if ?1 ((\y:N.(x+y)) 1) 2)) 5)`, 1, `((\z:N.(z<9)) x)`, 60, "done 3 6", "done 3 6"},
		{`((\x:N.(x+x)) ?1)`, 1, `((\z:N.z) 4)`, 60, "done 2 8", "done 3 8"},
		{`((\x:N.(1,1)) ?1)`, 1, `((\z:N.z) 4)`, 60, "done 2 (1,1)", "done 1 (1,1)"},
		{`((\f:(N>N).((f 1)+(f 2))) (\x:N.?1))`, 1, "(x+x)", 60, "done 3 6", "done 3 6"},
		{`((\f:(N>N).((f 1)+(f (f 2)))) (\x:N.?1))`, 1, "(x+x)", 60, "done 4 10", "done 4 10"},
		{`((\f:(?>?).(f (f 3))) (\x:?.?1))`, 1, "(x,x)", 60, "done 3 <(<(<3:N=>?>,<3:N=>?>):(?*?)=>?>,<(<3:N=>?>,<3:N=>?>):(?*?)=>?>):(?*?)=>?>", "done 3 <(<(<3:N=>?>,<3:N=>?>):(?*?)=>?>,<(<3:N=>?>,<3:N=>?>):(?*?)=>?>):(?*?)=>?>"},
		// fuel for the first evaluation, and MaxFuel for the second one
		{`((\x:N.(x+x)) ?1)`, 1, `((\z:N.z) 4)`, 1, "fuel 1", "done 3 8"},
		{`((\x:N.(x+x)) ?1)`, 1, `((\z:N.z) 4)`, 2, "done 2 8", "done 3 8"},
		{`((\x:N.(x+x)) ?1)`, 1, `((\z:N.z) 4)`, 0, "fuel 0", "fuel 0"},
		{`(?1+1)`, 1, omega, 7, "fuel 7", "fuel 300"},
		{`((\x:N.(x+1)) ?1)`, 1, omega, 7, "fuel 7", "fuel 301"},
		{`((\y:?.?1) ` + omega + `)`, 1, "5", 60, "fuel 60", "fuel 60"},
		{`((\x:N.?1) 3)`, 1, "x", 300, "done 1 <3:N=>?>", "done 1 <3:N=>?>"},
		{`((\x:N.?1) 3)`, 1, "x", 301, "bad 0", "bad 0"},
		{`((\x:N.?1) 3)`, 1, "x", -1, "bad 0", "bad 0"},
		{`((\x:N.?1) 3)`, 1, "x", math.MinInt, "bad 0", "bad 0"},
		// what can't be filled
		{`((\x:N.?1) 3)`, 2, "x", 60, "bad 0", "bad 0"},
		{`((\x:N.?1) 3)`, 1, "y", 60, "bad 0", "bad 0"},
		{`((\x:N.?1) 3)`, 1, "(x+#t)", 60, "bad 0", "bad 0"},
		{"(?1+(1+#t))", 1, "5", 60, "bad 0", "bad 0"},
		{"(?1+q)", 1, "5", 60, "bad 0", "bad 0"},
		{"(?1+?1)", 1, "5", 60, "bad 0", "bad 0"},
		{"(?1+(?2+?2))", 1, "5", 60, "bad 0", "bad 0"},
		{"(?1+{1 #t})", 1, "5", 60, "bad 0", "bad 0"},
		{"(?1+?2)", 1, "(?2+?2)", 60, "done 0 ((<?2[]:?=>N>+<?2[]:?=>N>)+<?2[]:?=>N>)", "done 0 ((<?2[]:?=>N>+<?2[]:?=>N>)+<?2[]:?=>N>)"},
		{"5", 1, "5", 60, "bad 0", "bad 0"},
	} {
		if exprWords(readExpr(c.e)) != c.e {
			t.Fatal(c.e)
		}
		checkBothWays(t, readExpr(c.e), c.u, readExpr(c.by), c.fuel, c.fill, c.resume)
	}
	for what, wrong := range wrongExprs() {
		for _, e := range []impl.Expr{ex(impl.ExPair, hole(1), wrong), wrong} {
			if resultWords(impl.FillAndRun(e, 1, constant(5), 60)) != "bad 0" || resultWords(impl.RunAndResume(e, 1, constant(5), 60)) != "bad 0" {
				t.Errorf("%s is filled", what)
			}
		}
		if resultWords(impl.FillAndRun(hole(1), 1, wrong, 60)) != "bad 0" || resultWords(impl.RunAndResume(hole(1), 1, wrong, 60)) != "bad 0" {
			t.Errorf("something is filled by %s", what)
		}
	}
}

// A function that calls itself puts a hole into its own environment again and
// again, so that the size of what is filled doubles each time.
func TestFillingNestedEnvironments(t *testing.T) {
	text := `((\h:(?>?).((\f:?.(((f f) 0) 5)) (\f:?.(\n:N.(\a:?.(if (n<N) (((f f) (n+1)) (h a)) a)))))) (\x:?.?1))`
	e := readExpr(strings.ReplaceAll(text, "(n<N)", "(n<30)"))
	first := impl.RunExpr(e, impl.MaxFuel)
	if first.Status != impl.EvDone || len(impl.ClosuresOf(first.Value)) != 30 {
		t.Fatal("the first evaluation", resultWords(first))
	}
	for by, want := range map[string]string{
		"(x,x)": "bad " + decimal(first.Steps), "((x,1),(x,x))": "bad " + decimal(first.Steps), "x": "done " + decimal(first.Steps) + " <5:N=>?>", "7": "done " + decimal(first.Steps) + " <7:N=>?>", "(x+1)": "done " + decimal(first.Steps) + " <35:N=>?>",
	} {
		if got := impl.RunAndResume(e, 1, readExpr(by), impl.MaxFuel); resultWords(got) != want {
			t.Errorf("RunAndResume with %s is %s, want %s", by, resultWords(got), want)
		}
	}
	for _, wrapped := range []impl.Expr{ex(impl.ExPair, e, constant(1)), ex(impl.ExPair, constant(1), e), mark(2, e), stated(e, unknown())} {
		first := impl.RunExpr(wrapped, impl.MaxFuel)
		if got := impl.RunAndResume(wrapped, 1, readExpr("(x,x)"), impl.MaxFuel); first.Status != impl.EvDone || resultWords(got) != "bad "+decimal(first.Steps) {
			t.Errorf("RunAndResume of %s is %s", exprWords(wrapped), resultWords(got))
		}
	}
	// Just small enough, and just too large.
	sum := readExpr("((((x+x)+(x+x))+((x+x)+(x+x)))+(((x+x)+(x+x))+((x+x)+x)))")
	nine := readExpr("((((1,2),(3,4)),(5,6)),((7,8),(9,10)))")
	e = ex(impl.ExAp, readExpr(`(\x:?.?1)`), nine)
	for _, c := range []struct {
		e    impl.Expr
		size int
	}{{e, 600}, {mark(2, e), 601}, {ex(impl.ExPair, e, constant(1)), 602}} {
		d, _, _ := impl.Elaborate(nil, c.e)
		filler, _ := impl.FillerOf(c.e, 1, sum)
		filled := impl.FillCore(impl.EvalCore(d, 1).Value, 1, filler)
		got := impl.RunAndResume(c.e, 1, sum, 1)
		if impl.SizeOfCore(filled) != c.size || (got.Status == impl.EvDone) != (c.size == 600) || got.Status != impl.EvDone && resultWords(got) != "bad 1" {
			t.Errorf("a result of %d nodes is filled: %s", impl.SizeOfCore(filled), briefly(got))
		}
	}
	for n := range 12 {
		e := readExpr(strings.ReplaceAll(text, "(n<N)", "(n<"+decimal(n)+")"))
		d, _, _ := impl.Elaborate(nil, e)
		filler, _ := impl.FillerOf(e, 1, readExpr("(x,x)"))
		first := impl.EvalCore(d, impl.MaxFuel)
		want := impl.EvalCore(filledPlainly(first.Value, 1, filler), impl.MaxFuel)
		want.Steps += first.Steps
		if got := impl.RunAndResume(e, 1, readExpr("(x,x)"), impl.MaxFuel); resultWords(got) != resultWords(want) || (got.Status == impl.EvDone) != (n < 8) {
			t.Errorf("%d environments: %s, want %s", n, briefly(got), briefly(want))
		}
	}
}

// withFewHoles replaces all holes and marks but some first ones by numbers and
// booleans, so that more results are answers.
func withFewHoles(r *rand.Rand, e impl.Expr) impl.Expr {
	keep := 1 + r.Intn(2)
	for {
		holes := impl.HolesOf(nil, e)
		if len(holes) <= keep {
			return e
		}
		last := holes[len(holes)-1]
		leaf := constant(r.Intn(9))
		if last.Place.Type.Kind == impl.TyBool {
			leaf = boolean(r.Intn(2))
		}
		e, _ = impl.ReplaceAt(e, last.Path, leaf)
	}
}

func TestPromiseOfFilling(t *testing.T) {
	r := rand.New(rand.NewSource(261))
	answers, resumed := 0, 0
	for range 10000 {
		e, _, _ := runnable(r, 1+r.Intn(6))
		if r.Intn(4) > 0 {
			e, _, _ = runnableOf(r, []impl.Type{number(), truth(), couple(number(), truth())}[r.Intn(3)], 2+r.Intn(5))
			e = withFewHoles(r, e)
		}
		holes := impl.HolesOf(nil, e)
		d, _, ok := impl.Elaborate(nil, e)
		if len(holes) == 0 || !ok {
			continue
		}
		info := holes[r.Intn(len(holes))]
		by := typedExpr(r, info.Place.Ctx, info.Place.Type, 1+r.Intn(3))
		fuel := []int{impl.MaxFuel, 60, r.Intn(6)}[r.Intn(3)]
		fill, resume := impl.FillAndRun(e, info.N, by, fuel), impl.RunAndResume(e, info.N, by, fuel)
		filler, ok := impl.FillerOf(e, info.N, by)
		if want, fits := impl.ElaborateTo(info.Place.Ctx, by, unknown()); fits != ok || exactCore(filler) != exactCore(want) {
			t.Fatalf("FillerOf(%s, %d, %s) = %s", exprWords(e), info.N, exprWords(by), exactCore(filler))
		}
		if !ok {
			checkBothWays(t, e, info.N, by, fuel, "bad 0", "bad 0")
			continue
		}
		wantFill := impl.EvalCore(filledPlainly(d, info.N, filler), fuel)
		wantResume := impl.EvalCore(d, fuel)
		if first := wantResume; first.Status == impl.EvDone {
			wantResume = impl.EvalCore(filledPlainly(first.Value, info.N, filler), impl.MaxFuel)
			wantResume.Steps += first.Steps
			resumed++
		}
		checkBothWays(t, e, info.N, by, fuel, resultWords(wantFill), resultWords(wantResume))
		if impl.IsAnswer(fill.Value) && resume.Status == impl.EvDone {
			answers++
			if coreWords(resume.Value) != coreWords(fill.Value) {
				t.Fatalf("%s with %s for %d is %s, and %s when it goes on", exprWords(e), exprWords(by), info.N, coreWords(fill.Value), coreWords(resume.Value))
			}
		}
	}
	if answers < 300 || resumed < 3000 {
		t.Error("too few answers", answers, resumed)
	}
}

func TestFillingSharesNoMemory(t *testing.T) {
	r := rand.New(rand.NewSource(262))
	for range 500 {
		d, by := randomCore(r, 40), roomyCore(randomCore(r, 10))
		fewNumbers(r, &d)
		d = roomyCore(d)
		before, beforeBy := wholeCore(d), wholeCore(by)
		for u := range 4 {
			got := impl.FillCore(d, u, by)
			text := exactCore(got)
			if partsShare(got) {
				t.Fatal("parts of a filled core expression share memory")
			}
			spoilCore(impl.FillCore(d, u, by))
			if exactCore(got) != text {
				t.Fatal("two results share memory")
			}
			spoilCore(got)
			if wholeCore(d) != before || wholeCore(by) != beforeBy {
				t.Fatal("an argument was changed")
			}
		}
	}
	for range 500 {
		e, _, _ := runnable(r, 5)
		e = roomyExpr(e)
		before := wholeExpr(e)
		for _, info := range impl.HolesOf(nil, e) {
			by := roomyExpr(typedExpr(r, info.Place.Ctx, info.Place.Type, 2))
			beforeBy := wholeExpr(by)
			filler, _ := impl.FillerOf(e, info.N, by)
			one, two := impl.FillAndRun(e, info.N, by, 60), impl.RunAndResume(e, info.N, by, 60)
			if partsShare(filler) || partsShare(one.Value) || partsShare(two.Value) {
				t.Fatal("parts of a result share memory")
			}
			text := exactCore(two.Value)
			spoilCore(filler)
			spoilCore(one.Value)
			if exactCore(two.Value) != text {
				t.Fatal("two results share memory")
			}
			spoilCore(two.Value)
			if wholeExpr(e) != before || wholeExpr(by) != beforeBy {
				t.Fatal("an argument was changed")
			}
		}
	}
}
