package tests

import (
	"math"
	"math/rand"
	"slices"
	"strings"
	"testing"

	"loop.example/g00585/impl"
)

// Promise 29: a completion has no holes and passes all tests.

func TestFirstHole(t *testing.T) {
	for s, want := range map[string]string{
		"?1": "-", "(?1+?2)": "0", "(1+?2)": "1", "({1 #t}+?2)": "1", "({1 ?3}+?2)": "0.0", "{1 ?2}": "0", "(if 1 (x ?9) ?1)": "1.1", `(\x:N.(fst (\y:B.?4)))`: "0.0.0", "((1,(2,?1)),?2)": "0.1.1", "(snd (?1:N))": "0.0", "((1<2) ?1)": "1", "(if 1 2 ?3)": "2",
	} {
		got, ok := impl.FirstHole(readExpr(s))
		if !ok || pathWords(got) != want {
			t.Errorf("FirstHole(%s) = %s, %v", s, pathWords(got), ok)
		}
	}
	for _, e := range []impl.Expr{readExpr("1"), readExpr("x"), readExpr("{1 x}"), readExpr(`(\x:N.({1 x}+{2 #t}))`), {}, ex(77, constant(1)), ex(impl.ExMark)} {
		if got, ok := impl.FirstHole(e); ok || len(got) != 0 {
			t.Errorf("FirstHole(%s) = %s", exactExpr(e), pathWords(got))
		}
	}
	for _, c := range []struct {
		e    impl.Expr
		want string
	}{{ex(77, constant(1), ex(0, hole(-5))), "1.0"}, {ex(impl.ExHole, hole(1)), "-"}, {ex(impl.ExNum, hole(1)), "0"}, {ex(impl.ExMark, constant(1), constant(1), constant(1), hole(0)), "3"}} {
		if got, ok := impl.FirstHole(c.e); !ok || pathWords(got) != c.want {
			t.Errorf("FirstHole(%s) = %s, %v", exactExpr(c.e), pathWords(got), ok)
		}
	}
	if got, ok := impl.FirstHole(chainExpr(100000, hole(1))); !ok || len(got) != 99999 {
		t.Error("the first hole of a deep expression")
	}
}

func TestCountHoles(t *testing.T) {
	for s, want := range map[string]int{"1": 0, "?1": 1, "{1 x}": 0, "{1 ?2}": 1, "({1 ?3}+?2)": 2, "(?1,?1)": 2, `(\x:N.(if ?1 {9 ?2} (?3 {4 5})))`: 3} {
		if got := impl.CountHoles(readExpr(s)); got != want {
			t.Errorf("CountHoles(%s) = %d", s, got)
		}
	}
	for _, c := range []struct {
		e    impl.Expr
		want int
	}{{impl.Expr{}, 0}, {ex(77, hole(0), hole(-1)), 2}, {ex(impl.ExHole, hole(1), ex(impl.ExMark, hole(1))), 3}, {chainExpr(100000, hole(1)), 1}} {
		if got := impl.CountHoles(c.e); got != c.want {
			t.Errorf("CountHoles of a wrong expression is %d, not %d", got, c.want)
		}
	}
}

func checkSolve(t *testing.T, f impl.Expr, list []impl.Test, tries int, want string) {
	t.Helper()
	e, n, ok := impl.SolveTests(f, list, tries)
	got := decimal(n)
	if ok {
		got += " " + exprWords(e)
	} else if exactExpr(e) != exactExpr(impl.Expr{}) {
		got += " without success " + exactExpr(e)
	}
	if got != want {
		t.Errorf("SolveTests(%s) of %d tests in %d tries is %s, want %s", exactExpr(f), len(list), tries, got, want)
	}
}

// checkSolved requires a completion with just that many tries, and none with
// one less.
func checkSolved(t *testing.T, f, tests, want string) {
	t.Helper()
	n := readPath(strings.SplitN(want, " ", 2)[0])[0]
	for _, tries := range []int{impl.MaxTries, n + 1, n} {
		if tries <= impl.MaxTries {
			checkSolve(t, readExpr(f), testsOf(tests), tries, want)
		}
	}
	for _, tries := range []int{n - 1, 0} {
		checkSolve(t, readExpr(f), testsOf(tests), tries, decimal(tries))
	}
}

func TestSolveTests(t *testing.T) {
	if impl.MaxTries != 60 {
		t.Error(impl.MaxTries)
	}
	for _, c := range []struct{ f, tests, want string }{
		{`(\x:N.?1)`, "3 = 3; 5 = 5", `2 (\x:N.x)`},
		{`(\x:N.?1)`, "0 = 1; 1 = 2", `26 (\x:N.(x+1))`},
		{`(\x:N.?1)`, "3 = 0", `3 (\x:N.0)`},
		{`(\x:N.?1)`, "3 = 1", `4 (\x:N.1)`},
		{`(\x:N.?1)`, "3 = #f", `5 (\x:N.#f)`},
		{`(\x:N.?1)`, "3 = #t", `6 (\x:N.#t)`},
		{`(\x:N.(x+?1))`, "3 = 6", `2 (\x:N.(x+x))`},
		{`(\x:N.(?1+x))`, "0 = 1", `4 (\x:N.(1+x))`},
		{`(\x:B.(if ?1 0 1))`, "#t = 0; #f = 1", `2 (\x:B.(if x 0 1))`},
		{`(\x:B.(if x ?1 ?2))`, "#t = 1; #f = 0", ""},
		{`(\x:(N*B).(fst ?1))`, "(7,#t) = 7", `2 (\x:(N*B).(fst x))`},
		{`(\x:N.((\f:(N>N).(f ?1)) (\y:N.(y+y))))`, "2 = 4; 3 = 6", `2 (\x:N.((\f:(N>N).(f x)) (\y:N.(y+y))))`},
		// functions that pass, or don't, as they are
		{`(\x:N.x)`, "3 = 3", `1 (\x:N.x)`},
		{`(\x:N.x)`, "", `1 (\x:N.x)`},
		{`5`, "", "1 5"},
		{`(1+#t)`, "", "1 (1+#t)"},
		// without tests, the first completion
		{`?1`, "", "2 0"},
		{`(\x:N.?1)`, "", `2 (\x:N.x)`},
		{`(?1+?2)`, "", "6 (0+0)"},
		{`(\x:N.(?1+?2))`, "", `7 (\x:N.(x+x))`},
		{`(\x:N.(?2,?1))`, "1 = (1,1)", ""},
		// errors that stay
		{`(\x:N.((1+#t)+?1))`, "", `2 (\x:N.((1+#t)+x))`},
		{`(1+(\x:N.?1))`, "", `2 (1+(\x:N.x))`},
	} {
		if c.want == "" {
			c.want = plainSolution(c.f, testsOf(c.tests))
		}
		checkSolved(t, c.f, c.tests, c.want)
	}
}

func TestSolveWithoutSuccess(t *testing.T) {
	for _, tries := range []int{1, 2, 30, 60} {
		// The queue is empty.
		checkSolve(t, readExpr(`(\x:N.x)`), testsOf("0 = 1"), tries, "1")
		checkSolve(t, readExpr("5"), testsOf("0 = 1"), tries, "1")
		checkSolve(t, readExpr("(1+#t)"), testsOf("0 = 1"), tries, "1")
		// All tries were made.
		checkSolve(t, readExpr(`(\x:N.?1)`), testsOf("0 = 7; 1 = 9"), tries, decimal(tries))
		checkSolve(t, readExpr("?1"), testsOf("q = 0"), tries, decimal(tries))
	}
	checkSolve(t, readExpr(`(\x:N.x)`), testsOf("0 = 1"), 0, "0")
	checkSolve(t, readExpr(`(\x:N.x)`), testsOf("1 = 1"), 0, "0")
	// The queue is empty after several tries: at the greatest depth, only
	// variables, numbers and booleans fit.
	tail := ex(impl.ExAdd, constant(1), hole(1))
	for range impl.MaxDepth - 2 {
		tail = stated(tail, number())
	}
	for _, tries := range []int{3, 4, 60} {
		checkSolve(t, tail, testsOf("0 = 1"), tries, "3")
	}
	checkSolve(t, tail, testsOf("0 = 1"), 2, "2")
	if e, n, ok := impl.SolveTests(tail, nil, 2); !ok || n != 2 || impl.CountHoles(e) != 0 {
		t.Error("the first number at the greatest depth", n)
	}
}

func TestSolveLimits(t *testing.T) {
	f, test := readExpr(`(\x:N.?1)`), testOf("3", "3")
	for _, tries := range []int{-1, 61, math.MinInt, math.MaxInt} {
		checkSolve(t, f, nil, tries, "0")
		checkSolve(t, readExpr("5"), nil, tries, "0")
	}
	for count := range 12 {
		want := `2 (\x:N.x)`
		if count > impl.MaxTests {
			want = "0"
		}
		checkSolve(t, f, slices.Repeat([]impl.Test{test}, count), 60, want)
		checkSolve(t, f, slices.Repeat([]impl.Test{test}, count), 2, want)
	}
	for what, wrong := range wrongExprs() {
		if e, n, ok := impl.SolveTests(wrong, nil, 60); ok || n != 0 || exactExpr(e) != exactExpr(impl.Expr{}) {
			t.Errorf("%s is completed in %d tries", what, n)
		}
		checkSolve(t, f, []impl.Test{{Arg: wrong, Want: constant(1)}}, 5, "5")
	}
	for _, s := range []string{"{1 x}", "(1+{1 #t})", `(\x:N.{1 ?2})`, `(\x:N.(?1+{2 #t}))`} {
		checkSolve(t, readExpr(s), nil, 60, "0")
	}
	// Tests have the fuel 60.
	loop := `(((\f:?.((f f) 0)) (\f:?.(\n:N.(if (n<18) ((f f) (n+1)) n))))+0)`
	for _, steps := range []int{59, 60, 61} {
		f := readExpr(`(\x:N.` + loop + ")")
		got := impl.RunExpr(ex(impl.ExAp, f, constant(1)), impl.MaxFuel)
		if got.Steps != steps || coreWords(got.Value) != "18" {
			t.Fatalf("%d steps: %s", steps, resultWords(got))
		}
		want := "1"
		if steps <= 60 {
			want = "1 " + exprWords(f)
		}
		checkSolve(t, f, []impl.Test{testOf("1", "18")}, 60, want)
		loop = `((\y:N.y) ` + loop + ")"
	}
}

// plainSolution searches by texts, with a slice as the queue.
func plainSolution(f string, list []impl.Test) string {
	queue := []string{f}
	for n := 1; n <= impl.MaxTries && len(queue) > 0; n++ {
		e := readExpr(queue[0])
		queue = queue[1:]
		if !strings.Contains(plainHoles(e), "?") {
			if impl.PassesAll(e, list, 60) {
				return decimal(n) + " " + exprWords(e)
			}
			continue
		}
		for _, path := range impl.AllPaths(e) {
			if node, _ := impl.SubtermAt(e, path); node.Kind == impl.ExHole {
				for _, s := range impl.RankedAt(nil, e, path) {
					next, _ := impl.ReplaceAt(e, path, s)
					queue = append(queue, exprWords(next))
				}
				break
			}
		}
	}
	return ""
}

// plainHoles has "?" for each hole.
func plainHoles(e impl.Expr) string {
	text := ""
	if e.Kind == impl.ExHole {
		text = "?"
	}
	for _, arg := range e.Args {
		text += plainHoles(arg)
	}
	return text
}

func TestPromiseOfCompletions(t *testing.T) {
	r := rand.New(rand.NewSource(290))
	solved := 0
	for range 300 {
		f := function("x", number(), impl.EraseMarks(typedExpr(r, typings("x", "N"), number(), 1+r.Intn(4))))
		if !impl.IsValidExpr(f) {
			continue
		}
		for _, path := range impl.AllPaths(f) {
			if r.Intn(6) == 0 && len(path) > 0 {
				if dug, ok := impl.ReplaceAt(f, path, hole(1+r.Intn(3))); ok {
					f = dug
				}
			}
		}
		list := testsOf([]string{"", "1 = 1", "2 = 3", "0 = 1; 1 = 0", "0 = 0; 3 = 6", "5 = 7"}[r.Intn(6)])
		tries := r.Intn(61)
		e, n, ok := impl.SolveTests(f, list, tries)
		want := plainSolution(exprWords(f), list)
		if ok {
			solved++
			if decimal(n)+" "+exprWords(e) != want || n > tries || plainHoles(e) != "" || !impl.PassesAll(e, list, 60) || !impl.IsRaw(e) {
				t.Fatalf("SolveTests(%s) is %d %s, want %s", exprWords(f), n, exprWords(e), want)
			}
		} else if want != "" && readPath(strings.SplitN(want, " ", 2)[0])[0] <= tries {
			t.Fatalf("SolveTests(%s) in %d tries finds nothing, want %s", exprWords(f), tries, want)
		}
	}
	if solved < 50 {
		t.Error("too few completions", solved)
	}
}

func TestSearchSharesNoMemory(t *testing.T) {
	for _, s := range []string{`(\x:(N>N).((x 1)+?1))`, `(\x:(N>N).x)`, `(\x:N.?1)`, "{1 ?2}", "((1,2),?1)", "(1,2)", "?1"} {
		f := roomyExpr(readExpr(s))
		list := roomyTests(testsOf("(\\y:N.y) = 1; 3 = (1+2)"))
		before, beforeTests := wholeExpr(f), wholeTests(list)
		for _, tests := range [][]impl.Test{list, list[:0], list[1:]} {
			one, _, _ := impl.SolveTests(f, tests, 20)
			text := exactExpr(one)
			two, _, _ := impl.SolveTests(f, tests, 20)
			spoilExpr(two)
			if exactExpr(one) != text {
				t.Fatal("two completions share memory")
			}
			spoilExpr(one)
			path, _ := impl.FirstHole(f)
			spoilPath(path)
			_ = impl.CountHoles(f)
			if again, _ := impl.FirstHole(f); len(again) > 0 && again[0] < 0 {
				t.Fatal("two paths share memory")
			}
			if wholeExpr(f) != before || wholeTests(list) != beforeTests {
				t.Fatal("an argument was changed")
			}
		}
	}
}
