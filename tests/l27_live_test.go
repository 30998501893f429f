package tests

import (
	"math"
	"math/rand"
	"slices"
	"strings"
	"testing"

	"loop.example/g00585/impl"
)

// Promise 27: a test that passes has the answer that is wanted.

func testOf(arg, want string) impl.Test {
	return impl.Test{Arg: readExpr(arg), Want: readExpr(want)}
}

// testsOf reads tests that are written "A = B", separated by "; ".
func testsOf(text string) []impl.Test {
	var list []impl.Test
	for _, one := range strings.Split(text, "; ") {
		if arg, want, ok := strings.Cut(one, " = "); ok {
			list = append(list, testOf(arg, want))
		}
	}
	return list
}

func TestTestExpr(t *testing.T) {
	for _, c := range []struct{ f, arg, want, result string }{
		{`(\x:N.x)`, "1", "2", `((\x:N.x) 1)`},
		{`(\x:N.x)`, "#t", "2", `((\x:N.x) {1 #t})`},
		{`(\x:N.(if (x<2) 0 ?1))`, "#t", "0", `((\x:N.(if (x<2) 0 ?1)) {2 #t})`},
		{`(\x:N.(if (x<2) 0 ?2))`, "#t", "0", `((\x:N.(if (x<2) 0 ?2)) {1 #t})`},
		{`(\x:N.{7 y})`, "?3", "?1", `((\x:N.{1 y}) ?3)`},
		{`{1 (\x:N.x)}`, "{2 1}", "0", `((\x:N.x) 1)`},
		{"5", "1", "0", "({1 5} 1)"},
		{"{9 5}", "{9 q}", "0", "({1 5} {2 q})"},
		{"f", "1", "0", "({1 f} 1)"},
		{"?1", "?1", "0", "(?1 ?1)"},
		{`(\x:?.x)`, "(1+#t)", "q", `((\x:?.x) (1+{1 #t}))`},
	} {
		if got := impl.TestExpr(readExpr(c.f), testOf(c.arg, c.want)); exactExpr(got) != exactExpr(readExpr(c.result)) {
			t.Errorf("TestExpr(%s, %s = %s) = %s", c.f, c.arg, c.want, exactExpr(got))
		}
	}
}

// The marks are those of Remark for the application.
func TestMarksOfTestExpr(t *testing.T) {
	r := rand.New(rand.NewSource(270))
	small := 0
	for range 3000 {
		f, arg, want := randomExpr(r, true), randomExpr(r, true), randomExpr(r, true)
		application := ex(impl.ExAp, f, arg)
		expected := impl.Expr{}
		if impl.IsValidExpr(application) {
			small++
			expected = impl.Remark(nil, application)
		}
		if got := impl.TestExpr(f, impl.Test{Arg: arg, Want: want}); exactExpr(got) != exactExpr(expected) {
			t.Fatalf("TestExpr(%s, %s) = %s", exprWords(f), exprWords(arg), exactExpr(got))
		}
	}
	if small < 500 || small > 2900 {
		t.Error("too few applications of one sort", small)
	}
}

func TestWrongTests(t *testing.T) {
	zero := exactExpr(impl.Expr{})
	f, one := readExpr(`(\x:N.x)`), constant(1)
	check := func(what string, f impl.Expr, x impl.Test) {
		t.Helper()
		if got := impl.TestExpr(f, x); exactExpr(got) != zero {
			t.Errorf("%s: TestExpr gives %s", what, exactExpr(got))
		}
		if got := impl.RunTest(f, x, 60); got != impl.LvStop {
			t.Errorf("%s: the status is %d", what, got)
		}
		if got := impl.RunTests(f, []impl.Test{x}, 60); !slices.Equal(got, []int{impl.LvStop}) || impl.PassesAll(f, []impl.Test{x}, 60) {
			t.Errorf("%s: the statuses are %v", what, got)
		}
	}
	for what, wrong := range wrongExprs() {
		check(what+" as a function", wrong, impl.Test{Arg: one, Want: one})
		check(what+" as an argument", f, impl.Test{Arg: wrong, Want: one})
		check(what+" as a Want", f, impl.Test{Arg: one, Want: wrong})
	}
	// Applications at the limits.
	wide := func(size int) impl.Expr { return function("x", number(), sumOf(size-1)) }
	for _, c := range []struct {
		f, arg impl.Expr
		fits   bool
	}{
		{wide(38), one, true}, {wide(40), one, false}, {wide(20), sumOf(19), true}, {wide(20), sumOf(21), false}, {f, sumOf(37), true}, {f, sumOf(39), false},
		{chainExpr(11, f), one, false}, {chainExpr(10, f), one, true}, {f, chainExpr(11, one), true}, {f, chainExpr(12, one), false},
	} {
		got := impl.TestExpr(c.f, impl.Test{Arg: c.arg, Want: one})
		if (exactExpr(got) != zero) != c.fits {
			t.Errorf("TestExpr(%s, %s) = %s", exprWords(c.f), exprWords(c.arg), exactExpr(got))
		}
		if !c.fits && impl.RunTest(c.f, impl.Test{Arg: c.arg, Want: one}, 60) != impl.LvStop {
			t.Errorf("%s is applied to %s", exprWords(c.f), exprWords(c.arg))
		}
	}
}

func TestRunTest(t *testing.T) {
	if impl.LvPass != 1 || impl.LvFail != 2 || impl.LvOpen != 3 || impl.LvStop != 4 || impl.MaxTests != 8 {
		t.Error("the constants of live tests")
	}
	for f, tests := range map[string]map[string]string{
		`(\x:N.(if (x<2) 0 ?1))`: {"1 = 0": "p", "1 = 5": "f", "3 = 0": "o", "#t = 0": "o", "1 = ?1": "o", "3 = ?1": "o", "?1 = 0": "o", "(0+1) = (0+0)": "p", "1 = #f": "f"},
		`(\x:N.x)`:               {"1 = 1": "p", "1 = 2": "f", "1 = (fst (1,2))": "p", "1 = (\\x:N.x)": "o", "1 = ((\\x:N.x) 1)": "p", "1 = {1 1}": "p", "1 = (1+{3 #t})": "o", "1 = q": "o", "1 = (1+#t)": "o", "{4 1} = 1": "p", "#t = #t": "o", "q = 1": "o"},
		`(\x:?.x)`:               {"1 = 1": "o", "1 = (1:?)": "o", "(1,2) = (1,2)": "o", "(\\x:N.x) = 1": "o"},
		`(\x:(N*B).x)`:           {"(1,#t) = (1,#t)": "p", "(1,#t) = (1,#f)": "f", "(1,#t) = (#t,1)": "f", "(1,#t) = 1": "f", "(1,?1) = (1,#t)": "o", "(1,#t) = (1,?1)": "o", "((1,#t):?) = (1,#t)": "o"},
		`(\x:?.(x+1))`:           {"1 = 2": "p", "1 = 1": "f", "#t = 2": "o", "(\\x:N.x) = 1": "o", "?1 = 2": "o"},
		`(\x:N.(\y:N.y))`:        {"1 = 1": "o", "1 = (\\y:N.y)": "o"},
		`(\x:N.(x<5))`:           {"4 = #t": "p", "5 = #t": "f", "5 = #f": "p", "5 = 0": "f", "4 = 1": "f"},
		"5":                      {"1 = 5": "o", "1 = 1": "o"},
		"?1":                     {"1 = 1": "o", "?1 = ?1": "o"},
		"(f:(N>N))":              {"1 = 1": "o"},
		"{1 (\\x:N.x)}":          {"1 = 1": "p"},
		`(if #t (\x:N.7) ?1)`:    {"1 = 7": "p", "1 = 8": "f"},
		`((\x:?.x):(N>N))`:       {"1 = 1": "p", "1 = 2": "f"},
		`(\x:N.((x+x)+{1 #t}))`:  {"1 = 2": "o"},
		`(\x:N.999)`:             {"1 = 999": "p", "0 = (998+1)": "p", "0 = (999+1)": "f"},
		`(\x:?.(x x))`:           {"(\\x:?.(x x)) = 1": "s", "1 = 1": "o", "1 = ((\\x:?.(x x)) (\\x:?.(x x)))": "s", "(\\x:?.3) = 3": "o", "(\\x:?.3) = ((\\x:?.x) 3)": "o"},
	} {
		for text, want := range tests {
			x := testsOf(text)[0]
			status := 1 + strings.Index("pfos", want)
			if got := impl.RunTest(readExpr(f), x, 60); got != status {
				t.Errorf("RunTest(%s, %s) is %d, want %d", f, text, got, status)
			}
			if got := impl.PassesAll(readExpr(f), []impl.Test{x}, 60); got != (want == "p") {
				t.Errorf("PassesAll(%s, %s) is %v", f, text, got)
			}
		}
	}
}

func TestFuelOfTests(t *testing.T) {
	f := readExpr(`(\x:N.((\y:N.y) ((\z:N.z) x)))`)
	want := `((\x:N.x) ((\x:N.x) 1))`
	for fuel := -2; fuel <= 5; fuel++ {
		for text, steps := range map[string]int{"1 = 1": 3, "1 = " + want: 3, "1 = 2": 3} {
			expected := impl.LvStop
			if fuel >= steps {
				expected = map[bool]int{true: impl.LvPass, false: impl.LvFail}[text != "1 = 2"]
			}
			if got := impl.RunTest(f, testsOf(text)[0], fuel); got != expected {
				t.Errorf("RunTest(%s) with the fuel %d is %d", text, fuel, got)
			}
		}
		// One that needs more fuel than the function.
		expected := impl.LvStop
		if fuel >= 2 {
			expected = impl.LvPass
		}
		if got := impl.RunTest(readExpr(`(\x:N.x)`), testOf("1", want), fuel); got != expected {
			t.Errorf("a Want of two steps with the fuel %d: %d", fuel, got)
		}
	}
	for fuel, expected := range map[int]int{300: impl.LvPass, 301: impl.LvStop, math.MaxInt: impl.LvStop, math.MinInt: impl.LvStop} {
		if got := impl.RunTest(f, testOf("1", "1"), fuel); got != expected {
			t.Errorf("the fuel %d: %d", fuel, got)
		}
	}
	// A result that is too large.
	pairs := readExpr(`(\x:?.(((\a:?.(a,a)) ((\a:?.(a,a)) ((\a:?.(a,a)) ((\a:?.(a,a)) ((\a:?.(a,a)) x))))),1))`)
	large := testOf("((1,2),((3,4),5))", "1")
	if got := impl.RunExpr(impl.TestExpr(pairs, large), 300); got.Status != impl.EvLarge || impl.RunTest(pairs, large, 300) != impl.LvStop {
		t.Error("a result that is too large", briefly(got), impl.RunTest(pairs, large, 300))
	}
}

func TestRunTests(t *testing.T) {
	f := readExpr(`(\x:N.(if (x<2) 0 ?1))`)
	three := testsOf("1 = 0; 3 = 0; 1 = 5")
	if got := impl.RunTests(f, three, 60); !slices.Equal(got, []int{impl.LvPass, impl.LvOpen, impl.LvFail}) {
		t.Error(got)
	}
	if got := impl.RunTests(f, three, 0); !slices.Equal(got, []int{impl.LvStop, impl.LvStop, impl.LvStop}) {
		t.Error(got)
	}
	pass, fail := testOf("1", "0"), testOf("1", "5")
	for count := range 12 {
		list := slices.Repeat([]impl.Test{pass}, count)
		want := slices.Repeat([]int{impl.LvPass}, count)
		if count > 8 {
			want = nil
		}
		if got := impl.RunTests(f, list, 60); !slices.Equal(got, want) {
			t.Errorf("RunTests of %d tests: %v", count, got)
		}
		if got := impl.PassesAll(f, list, 60); got != (count <= 8) {
			t.Errorf("PassesAll of %d tests is %v", count, got)
		}
		for at := range list {
			changed := slices.Clone(list)
			for _, x := range []impl.Test{fail, testOf("3", "0"), {}} {
				changed[at] = x
				if impl.PassesAll(f, changed, 60) {
					t.Errorf("PassesAll of %d tests with one that does not pass at %d", count, at)
				}
			}
		}
	}
	// Without tests, nothing is asked of the function or of the fuel.
	for _, f := range []impl.Expr{f, {}, sumOf(61), constant(1)} {
		for _, fuel := range []int{60, -1, 301} {
			if !impl.PassesAll(f, nil, fuel) || len(impl.RunTests(f, nil, fuel)) != 0 || !impl.PassesAll(f, []impl.Test{}, fuel) {
				t.Error("no tests for", exactExpr(f))
			}
		}
	}
}

func TestStatusText(t *testing.T) {
	for want, list := range map[string][]int{"": nil, "p": {1}, "f": {2}, "o": {3}, "s": {4}, "?": {0}, "pfos": {1, 2, 3, 4}, "sofp": {4, 3, 2, 1}, "?p?": {5, 1, -1}, "??": {math.MaxInt, math.MinInt}, "pppppppppp": {1, 1, 1, 1, 1, 1, 1, 1, 1, 1}, "f?": {2, 6}} {
		if got := impl.StatusText(list); got != want {
			t.Errorf("StatusText(%v) is %q", list, got)
		}
	}
}

// plainAnswer writes an answer, or "" for other results.
func plainAnswer(d impl.Core) string {
	switch d.Kind {
	case impl.CoNum, impl.CoBool:
		return coreWords(d)
	case impl.CoPair:
		a, b := plainAnswer(d.Args[0]), plainAnswer(d.Args[1])
		if a != "" && b != "" {
			return "(" + a + "," + b + ")"
		}
	}
	return ""
}

func TestPromiseOfTests(t *testing.T) {
	r := rand.New(rand.NewSource(271))
	counts := map[int]int{}
	types := []impl.Type{number(), truth(), couple(number(), truth())}
	for range 8000 {
		from, to := types[r.Intn(3)], types[r.Intn(3)]
		arg, f := typedExpr(r, nil, from, 1+r.Intn(3)), typedExpr(r, nil, arrow(from, to), 1+r.Intn(5))
		want := typedExpr(r, nil, to, 1+r.Intn(3))
		if r.Intn(2) == 0 {
			arg, f = withFewHoles(r, arg), withFewHoles(r, f)
		}
		application := ex(impl.ExAp, f, arg)
		if !impl.IsValidExpr(application) || !impl.IsValidExpr(want) {
			continue
		}
		fuel := r.Intn(10)
		got := impl.RunExpr(impl.Remark(nil, application), fuel)
		if text := plainAnswer(got.Value); text != "" && r.Intn(2) == 0 && strings.Count(text, "-") == 0 && len(text) < 12 {
			if e, ok := impl.ParseExpr(text); ok {
				want = e
			}
		}
		wanted := impl.RunExpr(impl.Remark(nil, want), fuel)
		a, b := plainAnswer(got.Value), plainAnswer(wanted.Value)
		expected := impl.LvOpen
		switch {
		case got.Status != impl.EvDone || wanted.Status != impl.EvDone:
			expected = impl.LvStop
		case a != "" && a == b:
			expected = impl.LvPass
		case a != "" && b != "":
			expected = impl.LvFail
		}
		counts[expected]++
		if status := impl.RunTest(f, impl.Test{Arg: arg, Want: want}, fuel); status != expected {
			t.Fatalf("RunTest(%s, %s = %s) is %d: %s and %s", exprWords(f), exprWords(arg), exprWords(want), status, resultWords(got), resultWords(wanted))
		}
	}
	for status := 1; status <= 4; status++ {
		if counts[status] < 100 {
			t.Error("too few tests of one status", counts)
		}
	}
}

func roomyTest(x impl.Test) impl.Test {
	return impl.Test{Arg: roomyExpr(x.Arg), Want: roomyExpr(x.Want)}
}

func wholeTests(list []impl.Test) string {
	text := ""
	for _, x := range list[:cap(list)] {
		text += wholeExpr(x.Arg) + " = " + wholeExpr(x.Want) + "; "
	}
	return text
}

func roomyTests(list []impl.Test) []impl.Test {
	roomy := make([]impl.Test, 0, len(list)+2)
	for _, x := range list {
		roomy = append(roomy, roomyTest(x))
	}
	_ = append(roomy, impl.Test{Arg: ex(77)}, impl.Test{Want: ex(77)})
	return roomy
}

func TestLiveTestsShareNoMemory(t *testing.T) {
	r := rand.New(rand.NewSource(272))
	for range 500 {
		f := roomyExpr(randomExpr(r, true))
		var list []impl.Test
		for range r.Intn(10) {
			list = append(list, impl.Test{Arg: randomExpr(r, true), Want: randomExpr(r, true)})
		}
		list = roomyTests(append(list, testOf("(1,2)", "(1,2)")))
		before, beforeTests := wholeExpr(f), wholeTests(list)
		one, two := impl.TestExpr(f, list[0]), impl.TestExpr(f, list[0])
		text := exactExpr(one)
		spoilExpr(two)
		if exactExpr(one) != text {
			t.Fatal("two results of TestExpr share memory")
		}
		spoilExpr(one)
		statuses, again := impl.RunTests(f, list, 60), impl.RunTests(f, list, 60)
		spoilPath(again)
		_, _ = impl.PassesAll(f, list, 60), impl.StatusText(statuses)
		if len(statuses) > 0 && statuses[0] < 0 || wholeExpr(f) != before || wholeTests(list) != beforeTests {
			t.Fatal("an argument was changed")
		}
	}
}
