package tests

import (
	"math/rand"
	"slices"
	"strings"
	"testing"

	"loop.example/g00585/impl"
)

// Promise 33: a sound merge has only errors that one side has.

func checkMarkPaths(t *testing.T, ctx []impl.Typing, e, want string) {
	t.Helper()
	if got := strings.Join(pathList(impl.MarkPaths(ctx, readExpr(e))), " "); got != want {
		t.Errorf("MarkPaths(%s) = %s, want %s", e, got, want)
	}
}

func TestMarkPaths(t *testing.T) {
	ctx := typings("n", "N", "f", "(N>B)")
	for e, want := range map[string]string{
		"1": "", "?1": "", "(n+?1)": "", `(\x:N.x)`: "",
		"q": "-", "(1+#t)": "1", "(#t+1)": "0", "(#t+#f)": "0 1", "(f #t)": "1", "(5 1)": "0", "(5 q)": "0 1", "(fst 1)": "0", "(if 1 2 3)": "0", "(if #t 1 #f)": "2", "(1:B)": "0", `(\x:N.y)`: "0", `(1+(\x:N.x))`: "1",
		"((1+#t)+q)": "0.1 1", "(q+(1+#t))": "0 1.1",
		// marks within marks, whose paths pass over both
		`(1+(\x:N.(x+#t)))`: "1 1.0.1", "(fst (if #t 1 #f))": "0 0.2", "(5 (1+#t))": "0 1.1", `(if #t 1 (#t,(q+1)))`: "2 2.1.0", `(1+(#t,(2+(#t,q))))`: "1 1.1.1 1.1.1.1", "((fst 5) (fst #t))": "0.0 1.0",
		`(1+(\x:N.((fst x) ((5 6)+#t))))`: "1 1.0.0.0 1.0.1.0.0 1.0.1.1",
		// marks that do not belong there, and missing ones
		"{1 1}": "", "({1 n}+{2 2})": "", "({1 n}+#t)": "1", "(1+{7 #t})": "1", "{1 ({2 1}+{3 #t})}": "1", "{5 q}": "-", `{1 (1+{2 (\x:N.{3 (x+#t)})})}`: "1 1.0.1", "(fst {1 (1,q)})": "0.1", "({1 f} {2 #t})": "1",
	} {
		checkMarkPaths(t, ctx, e, want)
	}
	checkMarkPaths(t, nil, "(n+(f 1))", "0 1.0")
	checkMarkPaths(t, typings("n", "B"), "(n+1)", "0")
	for what, wrong := range wrongExprs() {
		if got := impl.MarkPaths(ctx, wrong); len(got) != 0 {
			t.Errorf("MarkPaths of %s = %v", what, got)
		}
	}
	for what, wrong := range wrongContexts() {
		if got := impl.MarkPaths(wrong, readExpr("(1+#t)")); len(got) != 0 {
			t.Errorf("MarkPaths in a context with %s = %v", what, got)
		}
	}
}

// sounds has a base, two sides, the new errors, and the text of the merge.
var sounds = []struct{ base, a, b, errors, text string }{
	{"(if #t ?1 ?2)", "(if #t 1 ?2)", "(if #t ?1 #t)", "2", "(if #t 1 {1 #t}) error 2"},
	{"(if #t ?1 ?2)", "(if #t 1 ?2)", "(if #t 5 ?2)", "", "(if #t 1 ?2) conflict 1/1"},
	{"(if #t ?1 ?2)", "(if #t 1 ?2)", "(if #t ?1 ?2)", "", "(if #t 1 ?2)"},
	{"(?1+?2)", "(1+?2)", "(?1+2)", "", "(1+2)"},
	// errors that one side has, or both
	{"(?1+?2)", "(#t+?2)", "(?1+2)", "", "({1 #t}+2)"},
	{"(?1+?2)", "(1+?2)", "(?1+#t)", "", "(1+{1 #t})"},
	{"(?1+?2)", "(#t+?2)", "(?1+q)", "", "({1 #t}+{2 q})"},
	{"(?1+(1+#t))", "(?1+(1+#t))", "(2+(1+#t))", "", "(2+(1+{1 #t}))"},
	{"(?1+#t)", "(1+#t)", "(1+#t)", "", "(1+{1 #t})"},
	{"(?1+#t)", "(1+#t)", "(?1+2)", "", "(1+2)"},
	// errors that neither side has
	{`(\x:N.?1)`, `(\y:N.?1)`, `(\x:N.x)`, "", `(\y:N.?1) conflict -/0`},
	{`((\f:(N>N).?1) ?2)`, `((\f:(N>N).(f 1)) ?2)`, `((\f:(N>N).?1) 5)`, "", `((\f:(N>N).(f 1)) {1 5})`},
	{`(?1 ?2)`, `((\x:N.x) ?2)`, `(?1 #t)`, "1", `((\x:N.x) {1 #t}) error 1`},
	{`((?1 ?2),(?3 ?4))`, `(((\x:N.x) ?2),(5 ?4))`, `((?1 #t),(?3 (1,q)))`, "0.1", `(((\x:N.x) {1 #t}),({2 5} (1,{3 q}))) error 0.1`},
	{`((?1 ?2),(?3 ?4))`, `(((\x:N.x) ?2),((\y:B.y) ?4))`, `((?1 #t),(?3 1))`, "0.1 1.1", `(((\x:N.x) {1 #t}),((\y:B.y) {2 1})) error 0.1 error 1.1`},
	{"(if #t (if #f ?1 ?2) ?3)", "(if #t (if #f 1 ?2) ?3)", "(if #t (if #f ?1 (#t,#f)) #t)", "1.2", "(if #t (if #f 1 {1 (#t,#f)}) {2 #t}) error 1.2"},
	// conflicts and errors
	{"((?1 ?2),(?3,?4))", `(((\x:N.x) ?2),(1,2))`, "((?1 #t),(3,4))", "0.1", `(((\x:N.x) {1 #t}),(1,2)) conflict 1.0/1.0 conflict 1.1/1.1 error 0.1`},
	{"((?1 ?2),(?3,?4))", `(((\x:N.x) ?2),5)`, "((?1 #t),(3,4))", "0.1", `(((\x:N.x) {1 #t}),5) conflict 1/1.0 conflict 1/1.1 error 0.1`},
	{"(1+2)", "x", "(3+4)", "", "{1 x} conflict -/0 conflict -/1"},
	{"(1+2)", "(3+4)", "x", "", "(3+4) conflict 0/- conflict 1/-"},
	{"1", "2", "3", "", "2 conflict -/-"},
	// marks in the arguments
	{"(1+{1 #t})", "(2+{1 #t})", "(1+{1 #t})", "", "(2+{1 #t})"},
	{"({1 1}+2)", "({1 3}+2)", "({1 1}+{2 2})", "", "(3+2)"},
	{"({1 1}+?1)", "({1 #t}+?1)", "({1 1}+2)", "", "({1 #t}+2)"},
	{"(?1 {3 ?2})", `((\x:N.x) {3 ?2})`, "(?1 {3 #t})", "1", `((\x:N.x) {1 #t}) error 1`},
	{"({2 ?1} ?2)", `({2 (\x:N.x)} ?2)`, "({2 ?1} #t)", "1", `((\x:N.x) {1 #t}) error 1`},
}

func TestNewMarks(t *testing.T) {
	for _, c := range sounds {
		base, a, b := readExpr(c.base), readExpr(c.a), readExpr(c.b)
		if got := strings.Join(pathList(impl.NewMarks(nil, base, a, b)), " "); got != c.errors {
			t.Errorf("NewMarks(%s, %s, %s) = %s, want %s", c.base, c.a, c.b, got, c.errors)
		}
		want := c.errors == "" && !strings.Contains(c.text, "conflict")
		if got := impl.IsSound(nil, base, a, b); got != want {
			t.Errorf("IsSound(%s, %s, %s) is %v", c.base, c.a, c.b, got)
		}
		if got := impl.MergeText(nil, base, a, b); got != c.text {
			t.Errorf("MergeText(%s, %s, %s) = %s, want %s", c.base, c.a, c.b, got, c.text)
		}
	}
	// A root that has an error only in the merge.
	ctx := typings("f", "(N>N)", "g", "(B>N)")
	if got := impl.MergeText(ctx, readExpr("(?1 ?2)"), readExpr("(f ?2)"), readExpr("(?1 #t)")); got != "(f {1 #t}) error 1" {
		t.Error("a merge in a context", got)
	}
	if got := impl.MergeText(ctx, readExpr("(?1 ?2)"), readExpr("(g ?2)"), readExpr("(?1 #t)")); got != "(g #t)" {
		t.Error("a merge in a context", got)
	}
}

func checkNotSound(t *testing.T, what string, ctx []impl.Typing, base, a, b impl.Expr) {
	t.Helper()
	if got := impl.NewMarks(ctx, base, a, b); len(got) != 0 {
		t.Errorf("%s: NewMarks = %v", what, got)
	}
	if impl.IsSound(ctx, base, a, b) {
		t.Errorf("%s: the merge is sound", what)
	}
	if got := impl.MergeText(ctx, base, a, b); got != "invalid" {
		t.Errorf("%s: MergeText = %s", what, got)
	}
}

func TestMergesThatAreNotSound(t *testing.T) {
	base, a, b := readExpr("(?1 ?2)"), readExpr(`((\x:N.x) ?2)`), readExpr("(?1 #t)")
	for what, wrong := range wrongExprs() {
		checkNotSound(t, what+" as the base", nil, wrong, a, b)
		checkNotSound(t, what+" as a side", nil, base, wrong, b)
		checkNotSound(t, what+" as the other side", nil, base, a, wrong)
	}
	for what, wrong := range wrongContexts() {
		checkNotSound(t, "a context with "+what, wrong, base, a, b)
		checkNotSound(t, "equal sides in a context with "+what, wrong, base, base, base)
	}
	one := constant(1)
	pair := func(a, b int) impl.Expr { return ex(impl.ExFst, ex(impl.ExPair, sumOf(a), sumOf(b))) }
	checkNotSound(t, "a result that is too large", nil, pair(1, 1), pair(19, 1), pair(1, 21))
	if !impl.IsSound(nil, pair(1, 1), pair(19, 1), pair(1, 19)) || !impl.IsSound(nil, one, one, one) {
		t.Error("merges that are sound")
	}
}

// markedPaths finds the nodes that have a mark around them.
func markedPaths(ctx []impl.Typing, e impl.Expr) []string {
	raw := impl.EraseMarks(e)
	marked := impl.Remark(ctx, e)
	var list []string
	for _, path := range impl.AllPaths(raw) {
		over := overMarks(marked, raw, path)
		if len(over) == 0 {
			continue
		}
		if around, _ := impl.SubtermAt(marked, over[:len(over)-1]); around.Kind == impl.ExMark {
			list = append(list, pathWords(path))
		}
	}
	return list
}

func TestPromiseOfSoundness(t *testing.T) {
	r := rand.New(rand.NewSource(330))
	contexts := [][]impl.Typing{nil, typings("x", "N", "y", "B", "z", "?", "f", "(N>(B>N))"), typings("x", "(N*B)", "f", "(B>N)", "x1", "N")}
	sound, unsound, marked := 0, 0, 0
	for range 6000 {
		ctx := contexts[r.Intn(3)]
		base := randomExpr(r, r.Intn(2) == 0)
		if r.Intn(2) == 0 {
			base = typedExpr(r, ctx, randomType(r, 3), 1+r.Intn(4))
		}
		if !impl.IsValidExpr(base) {
			continue
		}
		a, b := varied(r, base), varied(r, base)
		for _, path := range impl.AllPaths(base) {
			if r.Intn(6) == 0 {
				a, _ = impl.ReplaceAt(a, path, typedExpr(r, ctx, randomType(r, 2), 1))
			} else if r.Intn(6) == 0 {
				b, _ = impl.ReplaceAt(b, path, typedExpr(r, ctx, randomType(r, 2), 1))
			}
		}
		if r.Intn(3) == 0 {
			base = readExpr([]string{"(?1 ?2)", "(if ?3 ?1 ?2)", "((?1 3) ?2)", `(1+((\x:N.(?1 x)) ?2))`, "(if #t (?1,?2) (3,#t))", `((\x:?.(?1 ?2)):(N>N))`}[r.Intn(6)])
			a, _ = impl.FillExpr(base, 1, typedExpr(r, ctx, randomType(r, 3), 1+r.Intn(3)))
			b, _ = impl.FillExpr(base, 2, typedExpr(r, ctx, randomType(r, 2), 1+r.Intn(3)))
		}
		merged, ok := impl.MergeExpr(base, a, b)
		if !ok {
			checkNotSound(t, "random expressions", ctx, base, a, b)
			continue
		}
		known := append(markedPaths(ctx, a), markedPaths(ctx, b)...)
		var fresh []string
		text := exprWords(impl.Remark(ctx, merged))
		all := markedPaths(ctx, merged)
		if got := pathList(impl.MarkPaths(ctx, merged)); !slices.Equal(got, all) {
			t.Fatalf("MarkPaths(%s) = %s, want %s", exprWords(merged), got, all)
		}
		conflicts, _ := plainConflicts(base, a, b)
		for _, c := range conflicts {
			text += " conflict " + conflictWords([]impl.Conflict{c})
		}
		for _, path := range all {
			marked++
			if !slices.Contains(known, path) {
				fresh = append(fresh, path)
				text += " error " + path
			}
		}
		if got := pathList(impl.NewMarks(ctx, base, a, b)); !slices.Equal(got, fresh) {
			t.Fatalf("NewMarks(%s, %s, %s) = %s, want %s", exprWords(base), exprWords(a), exprWords(b), got, fresh)
		}
		want := len(fresh) == 0 && len(conflicts) == 0
		if impl.IsSound(ctx, base, a, b) != want || impl.MergeText(ctx, base, a, b) != text {
			t.Fatalf("the merge of %s, %s and %s: %s, want %s", exprWords(base), exprWords(a), exprWords(b), impl.MergeText(ctx, base, a, b), text)
		}
		if want {
			sound++
		}
		if len(fresh) > 0 {
			unsound++
		}
	}
	if sound < 500 || unsound < 100 || marked < 3000 {
		t.Error("too few merges of one sort", sound, unsound, marked)
	}
}

func TestSemanticConflictsShareNoMemory(t *testing.T) {
	ctx := roomyCtx(typings("x", "(N>N)", "y", "((N*B)>N)"))
	beforeCtx := wholeCtx(ctx)
	for _, c := range sounds {
		base, a, b := roomyExpr(readExpr(c.base)), roomyExpr(readExpr(c.a)), roomyExpr(readExpr(c.b))
		before := wholeExpr(base) + wholeExpr(a) + wholeExpr(b)
		for _, find := range []func() [][]int{
			func() [][]int { return impl.MarkPaths(ctx, a) },
			func() [][]int { return impl.MarkPaths(ctx, b) },
			func() [][]int { return impl.NewMarks(ctx, base, a, b) },
		} {
			one, two := find(), find()
			texts := pathList(one)
			for i, path := range two {
				rest := pathList(two[i+1:])
				spoilPath(path)
				if !slices.Equal(pathList(two[i+1:]), rest) || !slices.Equal(pathList(one), texts) {
					t.Fatal("two paths share memory")
				}
			}
			_, _ = impl.IsSound(ctx, base, a, b), impl.MergeText(ctx, base, a, b)
			if wholeExpr(base)+wholeExpr(a)+wholeExpr(b) != before || wholeCtx(ctx) != beforeCtx {
				t.Fatal("an argument was changed")
			}
		}
	}
}
