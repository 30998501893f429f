package tests

import (
	"math"
	"math/rand"
	"slices"
	"strings"
	"testing"

	"loop.example/g00585/impl"
)

// Promise 31: differences lead from one expression to the other one.

// changeWords writes any changes, so that different ones have different texts.
func changeWords(list []impl.Change) string {
	var words []string
	for _, c := range list {
		words = append(words, pathWords(c.Path)+":"+exactExpr(c.To))
	}
	return strings.Join(words, "; ")
}

// readChanges reads changes that are written as in the document.
func readChanges(s string) []impl.Change {
	var list []impl.Change
	if s == "" {
		return nil
	}
	for _, one := range strings.Split(s, "; ") {
		path, to, _ := strings.Cut(one, ":")
		list = append(list, impl.Change{Path: readPath(path), To: readExpr(to)})
	}
	return list
}

func checkDiff(t *testing.T, a, b impl.Expr, want []impl.Change) {
	t.Helper()
	if got := impl.DiffExpr(a, b); changeWords(got) != changeWords(want) {
		t.Errorf("DiffExpr(%s, %s) = %s, want %s", exactExpr(a), exactExpr(b), changeWords(got), changeWords(want))
	}
}

func TestDiffExpr(t *testing.T) {
	for _, c := range []struct{ a, b, want string }{
		{"((1+2),(x<3))", "((1+y),(x<4))", "0.1:y; 1.1:4"},
		// equal expressions
		{"x", "x", ""}, {"?1", "?1", ""}, {"(1+2)", "(1+2)", ""}, {`(\x:(N>?).{1 (if x ?1 (x,2))})`, `(\x:(N>?).{1 (if x ?1 (x,2))})`, ""},
		// different roots
		{"x", "y", "-:y"}, {"x", "1", "-:1"}, {"1", "2", "-:2"}, {"?1", "?2", "-:?2"}, {"#t", "#f", "-:#f"}, {"#t", "1", "-:1"}, {"(1+2)", "(1<2)", "-:(1<2)"}, {"(fst x)", "(snd x)", "-:(snd x)"}, {"(1,2)", "1", "-:1"}, {"1", "(1,2)", "-:(1,2)"},
		{"(1+2)", "(fst 1)", "-:(fst 1)"}, {"{1 x}", "{2 x}", "-:{2 x}"}, {"{1 x}", "x", "-:x"}, {"x", "{1 x}", "-:{1 x}"}, {"(x 1)", "(if x 1 2)", "-:(if x 1 2)"},
		{`(\x:N.x)`, `(\y:N.x)`, `-:(\y:N.x)`}, {`(\x:N.x)`, `(\x:B.x)`, `-:(\x:B.x)`}, {"(1:N)", "(1:?)", "-:(1:?)"}, {`(\x:N.x)`, `(\x:(N>N).x)`, `-:(\x:(N>N).x)`}, {"(1:(N>B))", "(1:(N>N))", "-:(1:(N>N))"},
		// different parts
		{`(\x:N.x)`, `(\x:N.1)`, "0:1"}, {"(1:N)", "(2:N)", "0:2"}, {"{1 x}", "{1 y}", "0:y"}, {"(fst 1)", "(fst 2)", "0:2"}, {"(1+2)", "(3+4)", "0:3; 1:4"}, {"(if 1 2 3)", "(if 4 2 5)", "0:4; 2:5"}, {"(if (1,2) (1,2) (1,2))", "(if (1,3) (4,2) (5,6))", "0.1:3; 1.0:4; 2.0:5; 2.1:6"},
		{"((1+2)+(1+2))", "((1<2)+(1+3))", "0:(1<2); 1.1:3"}, {"(x (fst (snd 1)))", "(x (fst (snd 2)))", "1.0.0:2"}, {"((1,2),3)", "((2,1),3)", "0.0:2; 0.1:1"}, {`(\x:N.(\y:N.x))`, `(\x:N.(\z:N.x))`, `0:(\z:N.x)`},
	} {
		checkDiff(t, readExpr(c.a), readExpr(c.b), readChanges(c.want))
	}
	one, two := constant(1), constant(2)
	named := impl.Expr{Kind: impl.ExPair, Name: "x", Args: []impl.Expr{one, two}}
	for _, c := range []struct {
		a, b impl.Expr
		want []impl.Change
	}{
		{impl.Expr{}, impl.Expr{}, nil},
		{impl.Expr{}, one, []impl.Change{{To: one}}},
		{one, impl.Expr{}, []impl.Change{{}}},
		{ex(impl.ExPair, one), ex(impl.ExPair, one, two), []impl.Change{{To: ex(impl.ExPair, one, two)}}},
		{ex(impl.ExPair, one, two), ex(impl.ExPair, one), []impl.Change{{To: ex(impl.ExPair, one)}}},
		{ex(impl.ExPair, one, two), named, []impl.Change{{To: named}}},
		{ex(77, one, one, one, one, one), ex(77, one, one, one, one, two), []impl.Change{{Path: []int{4}, To: two}}},
		{impl.Expr{Kind: 1, Type: ty(0, number())}, impl.Expr{Kind: 1}, []impl.Change{{To: impl.Expr{Kind: 1}}}},
		{impl.Expr{Kind: 2, N: 1, Args: []impl.Expr{one}}, impl.Expr{Kind: 2, N: 2, Args: []impl.Expr{one}}, []impl.Change{{To: impl.Expr{Kind: 2, N: 2, Args: []impl.Expr{one}}}}},
	} {
		checkDiff(t, c.a, c.b, c.want)
	}
	if got := impl.DiffExpr(chainExpr(100000, one), chainExpr(100000, two)); len(got) != 1 || len(got[0].Path) != 99999 || exprWords(got[0].To) != "2" {
		t.Error("the difference of deep expressions")
	}
	wide, other := ex(77), ex(77)
	for n := range 5000 {
		wide.Args, other.Args = append(wide.Args, constant(n)), append(other.Args, constant(n%7))
	}
	if got := impl.DiffExpr(wide, other); len(got) != 4993 || got[4992].Path[0] != 4999 {
		t.Error("many changes", len(got))
	}
}

func checkApply(t *testing.T, e impl.Expr, list []impl.Change, want impl.Expr, applied int) {
	t.Helper()
	if got, n := impl.ApplyChanges(e, list); n != applied || exactExpr(got) != exactExpr(want) {
		t.Errorf("ApplyChanges(%s, %s) = %s, %d, want %s, %d", exactExpr(e), changeWords(list), exactExpr(got), n, exactExpr(want), applied)
	}
}

func TestApplyChanges(t *testing.T) {
	for _, c := range []struct {
		e, changes, want string
		applied          int
	}{
		{"((1+2),(x<3))", "0.1:y; 1.1:4", "((1+y),(x<4))", 2},
		{"(1+2)", "", "(1+2)", 0},
		{"(1+2)", "-:x", "x", 1},
		{"(1+2)", "0:1", "(1+2)", 1},
		// no such nodes
		{"1", "0.1:y; 1.1:4", "1", 0},
		{"(1+2)", "2:x; -1:x; 0.0:x; 1.0:x; 1:x; 9:x", "(1+x)", 1},
		{"(1+2)", "0.-1:x; 0:3; 0.1:x; -5.0:x", "(3+2)", 1},
		{"(fst 1)", "0.0.0.0:x; 1:x", "(fst 1)", 0},
		// changes of what was changed
		{"(1+2)", "0:x; 0:y", "(y+2)", 2},
		{"(1+2)", "0:(x,y); 0.1:z", "((x,z)+2)", 2},
		{"(1+2)", "0.1:z; 0:(x,y)", "((x,y)+2)", 1},
		{"((1,2)+3)", "0:x; 0.1:z", "(x+3)", 1},
		{"(1+2)", "-:x; 0:y; 1:z", "x", 1},
		{"x", "-:(1,2); 0:(3,4); 0.1:(5,6); 0.1.0:7", "((3,(7,6)),2)", 4},
		{"{1 x}", "0:y", "{1 y}", 1},
	} {
		checkApply(t, readExpr(c.e), readChanges(c.changes), readExpr(c.want), c.applied)
	}
	// Results that are not valid.
	one := constant(1)
	at := func(to impl.Expr, path ...int) []impl.Change { return []impl.Change{{Path: path, To: to}} }
	checkApply(t, one, at(impl.Expr{}), impl.Expr{}, 1)
	checkApply(t, mark(1, one), at(mark(2, one), 0), mark(1, mark(2, one)), 1)
	checkApply(t, ex(impl.ExPair, one, one), at(constant(-7), 1), ex(impl.ExPair, one, constant(-7)), 1)
	checkApply(t, ex(impl.ExPair, one, one), at(sumOf(41), 1), ex(impl.ExPair, one, sumOf(41)), 1)
	checkApply(t, chainExpr(12, one), at(chainExpr(12, one), slices.Repeat([]int{0}, 11)...), chainExpr(23, one), 1)
	checkApply(t, ex(77, one, one, one, one), at(constant(5), 3), ex(77, one, one, one, constant(5)), 1)
	checkApply(t, impl.Expr{}, at(one, 0), impl.Expr{}, 0)
	checkApply(t, impl.Expr{}, at(one), one, 1)
	for _, k := range []int{-1, 2, math.MaxInt, math.MinInt} {
		checkApply(t, ex(impl.ExPair, one, one), at(constant(5), k), ex(impl.ExPair, one, one), 0)
		checkApply(t, ex(impl.ExPair, one, ex(impl.ExPair, one, one)), at(constant(5), 1, k), ex(impl.ExPair, one, ex(impl.ExPair, one, one)), 0)
	}
}

func TestInvertChanges(t *testing.T) {
	for _, c := range []struct{ e, changes, want string }{
		{"((1+2),(x<3))", "0.1:y; 1.1:4", "0.1:2; 1.1:3"},
		{"(1+2)", "", ""},
		{"(1+2)", "-:x", "-:(1+2)"},
		{"(1+2)", "1:x; 0:y; 1:z", "1:2; 0:1; 1:2"},
		{"((1+2)+3)", "0:x; 0.1:y", "0:(1+2); 0.1:2"},
		{"{1 (fst x)}", "0:1; 0.0:2", "0:(fst x); 0.0:x"},
	} {
		if got := impl.InvertChanges(readExpr(c.e), readChanges(c.changes)); changeWords(got) != changeWords(readChanges(c.want)) {
			t.Errorf("InvertChanges(%s, %s) = %s", c.e, c.changes, changeWords(got))
		}
	}
	// The zero expression where there is no such node.
	list := []impl.Change{{Path: []int{2}, To: constant(1)}, {Path: []int{0, 0}}, {Path: []int{-1}}, {Path: []int{1}, To: impl.Expr{Kind: 77}}, {Path: []int{math.MaxInt}}}
	want := []impl.Change{{Path: []int{2}}, {Path: []int{0, 0}}, {Path: []int{-1}}, {Path: []int{1}, To: constant(2)}, {Path: []int{math.MaxInt}}}
	if got := impl.InvertChanges(readExpr("(1+2)"), list); changeWords(got) != changeWords(want) {
		t.Errorf("InvertChanges = %s", changeWords(got))
	}
	if got := impl.InvertChanges(impl.Expr{Kind: 77}, []impl.Change{{To: constant(1)}}); changeWords(got) != changeWords([]impl.Change{{To: impl.Expr{Kind: 77}}}) {
		t.Errorf("InvertChanges of a wrong expression = %s", changeWords(got))
	}
}

func TestEqualChanges(t *testing.T) {
	lists := [][]impl.Change{nil, readChanges("0:x"), readChanges("1:x"), readChanges("0:y"), readChanges("0.0:x"), readChanges("-:x"), readChanges("0:x; 1:y"), readChanges("1:y; 0:x"), readChanges("0:x; 0:x"), readChanges("0:(1:N)"), readChanges("0:(1:B)"), readChanges("0:(x,y)"),
		{{}}, {{}, {}}, {{To: impl.Expr{Kind: 77}}}, {{Path: []int{-1}}}, {{Path: []int{0}}}}
	for i, a := range lists {
		for j, b := range lists {
			if got := impl.EqualChanges(a, b); got != (i == j) {
				t.Errorf("EqualChanges(%s, %s) is %v", changeWords(a), changeWords(b), got)
			}
		}
		if !impl.EqualChanges(a, roomyChanges(a)) {
			t.Errorf("%s is not equal to a copy", changeWords(a))
		}
	}
	if !impl.EqualChanges(nil, []impl.Change{}) || !impl.EqualChanges([]impl.Change{{Path: []int{}}}, []impl.Change{{}}) {
		t.Error("empty slices are not equal to nil")
	}
}

func TestChangesText(t *testing.T) {
	for _, s := range []string{"", "0.1:y; 1.1:4", "-:(1<2)", `0.0.0:(\x:(N>?).{1 x}); 2:?99`, "1:(x:N)", "7.-1.12:#f"} {
		if got := impl.ChangesText(readChanges(s)); got != s {
			t.Errorf("ChangesText(%s) = %s", s, got)
		}
	}
	for _, c := range []struct {
		list []impl.Change
		want string
	}{
		{[]impl.Change{{}}, "-:"},
		{[]impl.Change{{}, {}}, "-:; -:"},
		{[]impl.Change{{Path: []int{0, -3}, To: constant(1000)}, {Path: []int{math.MinInt}, To: constant(999)}}, "0.-3:; -9223372036854775808:999"},
		{[]impl.Change{{Path: []int{1}, To: sumOf(41)}}, "1:"},
	} {
		if got := impl.ChangesText(c.list); got != c.want {
			t.Errorf("ChangesText(%s) = %s", changeWords(c.list), got)
		}
	}
}

// varied changes some nodes of an expression.
func varied(r *rand.Rand, e impl.Expr) impl.Expr {
	e = roomyExpr(e)
	for range r.Intn(4) {
		n := anyNode(r, &e)
		switch r.Intn(5) {
		case 0:
			*n = randomExpr(r, true)
		case 1:
			*n = variable("q")
		case 2:
			*n = constant(r.Intn(3))
		case 3:
			if n.Kind == impl.ExLam || n.Kind == impl.ExAsc {
				n.Type = randomType(r, 2)
			}
		case 4:
			if n.Kind == impl.ExAdd {
				n.Kind = impl.ExLess
			}
		}
	}
	return e
}

// Neither of the paths of a difference is within another one.
func apart(list []impl.Change) bool {
	for i, a := range list {
		for _, b := range list[i+1:] {
			if impl.IsWithin(a.Path, b.Path) || impl.IsWithin(b.Path, a.Path) {
				return false
			}
		}
	}
	return true
}

func TestPromiseOfDifferences(t *testing.T) {
	r := rand.New(rand.NewSource(310))
	several := 0
	for range 15000 {
		a := randomExpr(r, true)
		b := varied(r, a)
		if r.Intn(10) == 0 {
			b = randomExpr(r, true)
		}
		list := impl.DiffExpr(a, b)
		if len(list) > 1 {
			several++
		}
		got, n := impl.ApplyChanges(a, list)
		if n != len(list) || exactExpr(got) != exactExpr(b) {
			t.Fatalf("from %s to %s by %s", exactExpr(a), exactExpr(b), changeWords(list))
		}
		back, n := impl.ApplyChanges(b, impl.InvertChanges(a, list))
		if n != len(list) || exactExpr(back) != exactExpr(a) || changeWords(impl.DiffExpr(b, a)) != changeWords(impl.InvertChanges(a, list)) {
			t.Fatalf("from %s back to %s by %s", exactExpr(b), exactExpr(a), changeWords(list))
		}
		if len(list) == 0 != (exactExpr(a) == exactExpr(b)) || !apart(list) {
			t.Fatalf("the difference of %s and %s: %s", exactExpr(a), exactExpr(b), changeWords(list))
		}
		// No change is of a node that could be kept.
		for _, c := range list {
			before, _ := impl.SubtermAt(a, c.Path)
			before.Args, c.To.Args = slices.Repeat([]impl.Expr{{}}, len(before.Args)), slices.Repeat([]impl.Expr{{}}, len(c.To.Args))
			if exactExpr(before) == exactExpr(c.To) {
				t.Fatalf("the difference of %s and %s changes %s", exactExpr(a), exactExpr(b), pathWords(c.Path))
			}
		}
	}
	if several < 500 {
		t.Error("too few differences of several changes", several)
	}
}

func roomyChanges(list []impl.Change) []impl.Change {
	roomy := make([]impl.Change, 0, len(list)+2)
	for _, c := range list {
		roomy = append(roomy, impl.Change{Path: roomyPath(c.Path), To: roomyExpr(c.To)})
	}
	_ = append(roomy, impl.Change{Path: []int{-77}}, impl.Change{Path: []int{-77}})
	return roomy
}

func wholeChanges(list []impl.Change) string {
	text := ""
	for _, c := range list[:cap(list)] {
		text += wholePath(c.Path) + ":" + wholeExpr(c.To) + "; "
	}
	return text
}

func spoilChanges(t *testing.T, list []impl.Change) {
	t.Helper()
	for i, c := range list {
		rest, to := changeWords(list[i+1:]), exactExpr(c.To)
		spoilPath(c.Path)
		if exactExpr(c.To) != to {
			t.Fatal("the parts of a change share memory")
		}
		spoilExpr(c.To)
		if changeWords(list[i+1:]) != rest {
			t.Fatal("two changes share memory")
		}
	}
	for i := range list[:cap(list)] {
		list[:cap(list)][i] = impl.Change{Path: []int{-99}}
	}
}

func TestDifferencesShareNoMemory(t *testing.T) {
	r := rand.New(rand.NewSource(311))
	for range 500 {
		a := roomyExpr(randomExpr(r, true))
		b := roomyExpr(varied(r, a))
		list := impl.DiffExpr(a, b)
		if r.Intn(3) == 0 {
			list = append(list, impl.Change{Path: []int{5}}, impl.Change{To: randomExpr(r, true)}, impl.Change{Path: []int{0}, To: randomExpr(r, true)})
		}
		list = roomyChanges(list)
		before, beforeB, beforeList := wholeExpr(a), wholeExpr(b), wholeChanges(list)
		for _, do := range []func() []impl.Change{
			func() []impl.Change { return impl.DiffExpr(a, b) },
			func() []impl.Change { return impl.InvertChanges(a, list) },
			func() []impl.Change { got, _ := impl.ApplyChanges(a, list); return []impl.Change{{To: got}} },
		} {
			one := do()
			text := changeWords(one)
			spoilChanges(t, do())
			if changeWords(one) != text {
				t.Fatal("two results share memory")
			}
			spoilChanges(t, one)
			_, _ = impl.EqualChanges(list, list), impl.ChangesText(list)
			if wholeExpr(a) != before || wholeExpr(b) != beforeB || wholeChanges(list) != beforeList {
				t.Fatal("an argument was changed")
			}
		}
	}
}
