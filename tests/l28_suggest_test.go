package tests

import (
	"math/rand"
	"slices"
	"strings"
	"testing"

	"loop.example/g00585/impl"
)

// Promise 28: suggestions add no marks.

// listWords writes expressions as the document shows them, separated by "; ".
func listWords(list []impl.Expr) string {
	var words []string
	for _, e := range list {
		words = append(words, exprWords(e))
	}
	return strings.Join(words, "; ")
}

func checkCandidates(t *testing.T, ctx []impl.Typing, e, path, want string) {
	t.Helper()
	if got := listWords(impl.CandidatesAt(ctx, readExpr(e), readPath(path))); got != want {
		t.Errorf("CandidatesAt(%s, %s) = %s, want %s", e, path, got, want)
	}
}

func TestCandidatesOfKinds(t *testing.T) {
	const all = "0; 1; (?1+?2); #f; #t; (?1<?2); (if ?1 ?2 ?3)"
	checkCandidates(t, nil, "?1", "-", all)
	checkCandidates(t, nil, "(?1+1)", "0", "0; 1; (?1+?2); (if ?1 ?2 ?3)")
	checkCandidates(t, nil, "(if ?1 2 3)", "0", "#f; #t; (?1<?2); (if ?1 ?2 ?3)")
	checkCandidates(t, nil, "(if #t ?1 3)", "1", all)
	checkCandidates(t, nil, "((if #t ?1 3)+1)", "0.1", "0; 1; (?1+?2); (if ?1 ?2 ?3)")
	checkCandidates(t, nil, "(?1:(N*B))", "0", "(?1,?2); (if ?1 ?2 ?3)")
	checkCandidates(t, nil, "(?1:(N>B))", "0", `(\x:N.?1); (if ?1 ?2 ?3)`)
	checkCandidates(t, nil, "(?1:((N*?)>B))", "0", `(\x:(N*?).?1); (if ?1 ?2 ?3)`)
	checkCandidates(t, nil, "(?1:(?>?))", "0", `(\x:?.?1); (if ?1 ?2 ?3)`)
	checkCandidates(t, nil, "(?1:?)", "0", all)
	checkCandidates(t, nil, "((?1,2):(N*B))", "0.0", "0; 1; (?1+?2); (if ?1 ?2 ?3)")
	checkCandidates(t, nil, "((1,?1):(N*B))", "0.1", "#f; #t; (?1<?2); (if ?1 ?2 ?3)")
	checkCandidates(t, nil, "(fst ?1)", "0", all)
	checkCandidates(t, nil, "(?1 2)", "0", all)
	checkCandidates(t, nil, `((\x:N.x) ?1)`, "1", "0; 1; (?1+?2); (if ?1 ?2 ?3)")
	checkCandidates(t, nil, `((\f:(N>B).1) ?1)`, "1", `(\x:N.?1); (if ?1 ?2 ?3)`)
	checkCandidates(t, nil, "(?1<2)", "0", "0; 1; (?1+?2); (if ?1 ?2 ?3)")
}

func TestCandidatesOfVariables(t *testing.T) {
	ctx := typings("n", "N", "u", "?", "f", "(N>B)", "p", "(N*B)", "g", "(?>?)", "b", "B")
	checkCandidates(t, ctx, "?1", "-", "n; u; f; p; g; b; 0; 1; (?1+?2); #f; #t; (?1<?2); (f ?1); (g ?1); (if ?1 ?2 ?3)")
	checkCandidates(t, ctx, "(1+?1)", "1", "n; u; 0; 1; (?1+?2); (g ?1); (if ?1 ?2 ?3)")
	checkCandidates(t, ctx, "(if ?1 2 3)", "0", "u; b; #f; #t; (?1<?2); (f ?1); (g ?1); (if ?1 ?2 ?3)")
	checkCandidates(t, ctx, "(?1:(N*N))", "0", "u; (g ?1); (?1,?2); (if ?1 ?2 ?3)")
	checkCandidates(t, ctx, "(?1:(?*?))", "0", "u; p; (g ?1); (?1,?2); (if ?1 ?2 ?3)")
	checkCandidates(t, ctx, "(?1:(N>?))", "0", `u; f; g; (g ?1); (\x:N.?1); (if ?1 ?2 ?3)`)
	checkCandidates(t, ctx, "(?1:(B>?))", "0", `u; g; (g ?1); (\x:B.?1); (if ?1 ?2 ?3)`)
	// names that occur several times
	twice := typings("x", "N", "y", "B", "x", "B", "z", "N")
	checkCandidates(t, twice, "?1", "-", "x; y; z; 0; 1; (?1+?2); #f; #t; (?1<?2); (if ?1 ?2 ?3)")
	checkCandidates(t, twice, "(?1+1)", "0", "z; 0; 1; (?1+?2); (if ?1 ?2 ?3)")
	checkCandidates(t, twice, "(if ?1 1 2)", "0", "x; y; #f; #t; (?1<?2); (if ?1 ?2 ?3)")
	checkCandidates(t, twice, `(\y:N.(?1+1))`, "0.0", "y; z; 0; 1; (?1+?2); (if ?1 ?2 ?3)")
	checkCandidates(t, typings("f", "(N>N)", "f", "N"), "(?1+1)", "0", "f; 0; 1; (?1+?2); (if ?1 ?2 ?3)")
	checkCandidates(t, typings("f", "N", "g", "(B>N)", "f", "(N>N)"), "(?1+1)", "0", "0; 1; (?1+?2); (f ?1); (g ?1); (if ?1 ?2 ?3)")
	// names in the way of the new parameter
	checkCandidates(t, typings("x", "N"), "(?1:(N>B))", "0", `(\x1:N.?1); (if ?1 ?2 ?3)`)
	checkCandidates(t, typings("x1", "N", "x", "N", "x2", "N"), "(?1:(N>B))", "0", `(\x3:N.?1); (if ?1 ?2 ?3)`)
	checkCandidates(t, typings("x1", "N", "y", "N"), "(?1:(N>B))", "0", `(\x:N.?1); (if ?1 ?2 ?3)`)
	checkCandidates(t, nil, `(\x:N.(\x1:B.(?1:(B>B))))`, "0.0.0", `(\x2:B.?1); (if ?1 ?2 ?3)`)
	// more names than a context may have
	many := typings("a", "B", "b", "B", "c", "B", "d", "B", "e", "B", "g", "B", "x", "B", "i", "(B>N)")
	checkCandidates(t, many, `(\x1:N.(\x2:?.(?1+1)))`, "0.0.0", "x1; x2; 0; 1; (?1+?2); (i ?1); (if ?1 ?2 ?3)")
	checkCandidates(t, many, `(\x1:N.(\x2:?.(?1:(N>B))))`, "0.0.0", `x2; (\x3:N.?1); (if ?1 ?2 ?3)`)
}

// The type against which a hole is analyzed may be no type that can be written.
func TestCandidatesOfLargeTypes(t *testing.T) {
	for _, c := range []struct{ function, want string }{
		{`(\f:((N>(N>(N>N)))>N).1)`, `(\x:(N>(N>(N>N))).?1); (if ?1 ?2 ?3)`},
		{`(\f:(((N>N)>(N>N))>((N>N)>(N>N))).1)`, `(\x:((N>N)>(N>N)).?1); (if ?1 ?2 ?3)`},
		{`(if #t (\f:((((N>N)>(N>N))>?)>?).1) (\f:((?>((B*B)>(B*B)))>((N>N)>B)).1))`, `(\x:(((N>N)>(N>N))>((B*B)>(B*B))).?1); (if ?1 ?2 ?3)`},
		{`(if #t (\f:((((N>N)>(N>N))>?)*?).1) (\f:((?>((B*B)>(B*B)))*((N>N)>B)).1))`, "(?1,?2); (if ?1 ?2 ?3)"},
	} {
		checkCandidates(t, nil, "("+c.function+" ?1)", "1", c.want)
	}
}

func TestCandidatesInMarks(t *testing.T) {
	const all = "0; 1; (?1+?2); #f; #t; (?1<?2); (if ?1 ?2 ?3)"
	// What is marked is not analyzed any more.
	checkCandidates(t, nil, `(1+(\x:N.?1))`, "1.0", "x; "+all)
	checkCandidates(t, nil, `(1+(\x:N.(?1<x)))`, "1.0.0", "x; 0; 1; (?1+?2); (if ?1 ?2 ?3)")
	checkCandidates(t, nil, `(1+(#t,?1))`, "1.1", all)
	checkCandidates(t, nil, `((\x:N.?1):(B>N))`, "0.0", "x; "+all)
	checkCandidates(t, nil, `((\x:N.?1):(N>N))`, "0.0", "x; 0; 1; (?1+?2); (if ?1 ?2 ?3)")
	checkCandidates(t, nil, `((\f:(N>B).?1) 1)`, "0.0", "f; 0; 1; (?1+?2); #f; #t; (?1<?2); (f ?1); (if ?1 ?2 ?3)")
	checkCandidates(t, nil, `(5 ?1)`, "1", all)
	checkCandidates(t, nil, `(q ?1)`, "1", all)
	checkCandidates(t, nil, `(if #t 1 (#t,(?1+1)))`, "2.1.0", "0; 1; (?1+?2); (if ?1 ?2 ?3)")
	checkCandidates(t, nil, `(((1+(\x:N.?1)) 2)+(fst 5))`, "0.0.1.0", "x; "+all)
	checkCandidates(t, nil, `(1+(#t,(2+(#t,?1))))`, "1.1.1.1", all)
	// The numbers of marks do not count.
	checkCandidates(t, nil, `((1+#t)+(q+?2))`, "1.1", "0; 1; (?1+?2); (if ?1 ?2 ?3)")
}

func TestNumbersOfNewHoles(t *testing.T) {
	for _, c := range []struct{ e, path, want string }{
		{"(?1+?2)", "0", "0; 1; (?1+?3); (if ?1 ?3 ?4)"},
		{"(?1+?2)", "1", "0; 1; (?2+?3); (if ?2 ?3 ?4)"},
		{"(?2+?1)", "1", "0; 1; (?1+?3); (if ?1 ?3 ?4)"},
		{"(?7+?2)", "0", "0; 1; (?1+?3); (if ?1 ?3 ?4)"},
		{"(?2+?7)", "0", "0; 1; (?1+?2); (if ?1 ?2 ?3)"},
		{"(?1+?1)", "0", "0; 1; (?2+?3); (if ?2 ?3 ?4)"},
		{"(?1+(?3+?5))", "0", "0; 1; (?1+?2); (if ?1 ?2 ?4)"},
		{"(?2+(?3+?5))", "0", "0; 1; (?1+?2); (if ?1 ?2 ?4)"},
		{"(?9+(?1+(?2+?3)))", "0", "0; 1; (?4+?5); (if ?4 ?5 ?6)"},
		{"(?99+(?98+?97))", "0", "0; 1; (?1+?2); (if ?1 ?2 ?3)"},
	} {
		checkCandidates(t, nil, c.e, c.path, c.want)
	}
}

func TestNoCandidates(t *testing.T) {
	check := func(what string, ctx []impl.Typing, e impl.Expr, path []int) {
		t.Helper()
		if a, b, c := impl.CandidatesAt(ctx, e, path), impl.SuggestAt(ctx, e, path), impl.RankedAt(ctx, e, path); len(a)+len(b)+len(c) > 0 {
			t.Errorf("%s: %d candidates, %d and %d suggestions", what, len(a), len(b), len(c))
		}
	}
	e := readExpr(`(\x:N.(?1+(fst x)))`)
	for _, path := range [][]int{nil, {0}, {0, 1}, {0, 1, 0}, {1}, {-1}, {0, 2}, {0, -1}, {0, 0, 0}, {0, 0, -1}, {4}, {0, 0, 0, 0, 0}} {
		check("the path "+pathWords(path), nil, e, path)
	}
	for _, s := range []string{"5", "x", "#t", "(1+2)"} {
		check(s, nil, readExpr(s), nil)
	}
	for _, c := range []struct{ e, path string }{{"{1 ?2}", "0"}, {"{1 ?2}", "-"}, {"(?1+{2 #t})", "0"}, {"({2 #t}+?1)", "1"}, {`(1+{1 (\x:N.?2)})`, "1.0.0"}, {`(1+{1 (\x:N.?2)})`, "1.0"}} {
		check(c.e, nil, readExpr(c.e), readPath(c.path))
	}
	for what, wrong := range wrongContexts() {
		check("a context with "+what, wrong, hole(1), nil)
	}
	for what, wrong := range wrongExprs() {
		check(what, nil, wrong, nil)
		check(what+" beside a hole", nil, ex(impl.ExPair, hole(1), wrong), []int{0})
	}
}

func TestSuggestAt(t *testing.T) {
	ctx := typings("n", "N", "u", "?", "f", "(N>B)", "p", "(N*B)")
	for _, c := range []struct{ e, path, want string }{
		{"?1", "-", "n; u; f; p; 0; 1; (?1+?2); #f; #t; (?1<?2); (f ?1); (if ?1 ?2 ?3)"},
		{"(1+?1)", "1", "n; u; 0; 1; (?1+?2); (if ?1 ?2 ?3)"},
		// candidates that would get a mark, or give one to others
		{"(?1 5)", "0", "u; f; (if ?1 ?2 ?3)"},
		{"(?1 #t)", "0", "u; (if ?1 ?2 ?3)"},
		{"(fst ?1)", "0", "u; p; (if ?1 ?2 ?3)"},
		{"(if #t ?1 3)", "1", "n; u; 0; 1; (?1+?2); (if ?1 ?2 ?3)"},
		{"(if #t #f ?1)", "2", "u; #f; #t; (?1<?2); (f ?1); (if ?1 ?2 ?3)"},
		{"((fst ?1)+1)", "0.0", "u; p; (if ?1 ?2 ?3)"},
		{"(((fst ?1) 2)+1)", "0.0.0", "u; (if ?1 ?2 ?3)"},
		// expressions with marks
		{"((1+#t)+?1)", "1", "n; u; 0; 1; (?1+?2); (if ?1 ?2 ?3)"},
		{"((1+#t),(?1 2))", "1.0", "u; f; (if ?1 ?2 ?3)"},
		{"(?1 (1+q))", "0", "u; f; (if ?1 ?2 ?3)"},
		// an error that moves, or goes
		{"(if #t (if #f ?1 #t) 3)", "1.1", "n; u; 0; 1; (?1+?2); #f; #t; (?1<?2); (f ?1); (if ?1 ?2 ?3)"},
		{"(if #t (?1,1) (2,#t))", "1.0", "n; u; f; p; 0; 1; (?1+?2); #f; #t; (?1<?2); (f ?1); (if ?1 ?2 ?3)"},
		{"(5 ?1)", "1", "n; u; f; p; 0; 1; (?1+?2); #f; #t; (?1<?2); (f ?1); (if ?1 ?2 ?3)"},
	} {
		if got := listWords(impl.SuggestAt(ctx, readExpr(c.e), readPath(c.path))); got != c.want {
			t.Errorf("SuggestAt(%s, %s) = %s, want %s", c.e, c.path, got, c.want)
		}
	}
	// Results at the limits.
	deep := func(depth int) impl.Expr { return chainExpr(depth, hole(1)) }
	pathTo := func(depth int) []int { return make([]int, depth-1) }
	for depth, want := range map[int]string{
		10: "u; (if ?1 ?2 ?3)",
		11: "u; (if ?1 ?2 ?3)",
		12: "u",
	} {
		if got := listWords(impl.SuggestAt(ctx, deep(depth), pathTo(depth))); got != want {
			t.Errorf("SuggestAt at the depth %d = %s", depth, got)
		}
	}
	for size, want := range map[int]string{37: "n; u; 0; 1; (?1+?2); (if ?1 ?2 ?3)", 39: "n; u; 0; 1"} {
		e := sumOf(size)
		path := []int{}
		node := &e
		for len(node.Args) > 0 {
			node = &node.Args[0]
			path = append(path, 0)
		}
		*node = hole(1)
		if got := listWords(impl.SuggestAt(ctx, e, path)); got != want {
			t.Errorf("SuggestAt in %d nodes = %s", size, got)
		}
		e = ex(impl.ExFst, ex(impl.ExPair, e, constant(1)))
		if size == 37 {
			if got := listWords(impl.SuggestAt(ctx, e, append([]int{0, 0}, path...))); got != "n; u; 0; 1" {
				t.Errorf("SuggestAt in 40 nodes = %s", got)
			}
		}
	}
}

func TestRankedAt(t *testing.T) {
	ctx := typings("n", "N", "u", "?", "f", "(N>B)", "p", "(N*B)")
	for _, c := range []struct{ e, path, want string }{
		{"?1", "-", "n; u; f; p; 0; 1; #f; #t; (?1+?2); (?1<?2); (f ?1); (if ?1 ?2 ?3)"},
		{"(1+?1)", "1", "n; u; 0; 1; (?1+?2); (if ?1 ?2 ?3)"},
		{"(?1 5)", "0", "u; f; (if ?1 ?2 ?3)"},
		{"(if #t #f ?1)", "2", "u; #f; #t; (?1<?2); (f ?1); (if ?1 ?2 ?3)"},
		{"(?1:((N>N)>?))", "0", `u; (\x:(N>N).?1); (if ?1 ?2 ?3)`},
		{"((?1,?2):(N*(N*B)))", "0.1", "u; p; (?2,?3); (if ?2 ?3 ?4)"},
		{"5", "-", ""},
	} {
		if got := listWords(impl.RankedAt(ctx, readExpr(c.e), readPath(c.path))); got != c.want {
			t.Errorf("RankedAt(%s, %s) = %s, want %s", c.e, c.path, got, c.want)
		}
	}
}

// candidateWords makes the texts of the candidates from a place.
func candidateWords(p impl.Place, numbers []int) []string {
	var fresh []string
	for n := 1; len(fresh) < 3; n++ {
		if !slices.Contains(numbers, n) {
			fresh = append(fresh, "?"+decimal(n))
		}
	}
	h := strings.NewReplacer("?1", fresh[0], "?2", fresh[1], "?3", fresh[2])
	var names, vars, applied, list []string
	for _, typing := range p.Ctx {
		if slices.Contains(names, typing.Name) {
			continue
		}
		names = append(names, typing.Name)
		own, _ := impl.LookupCtx(p.Ctx, typing.Name)
		if impl.Consistent(own, p.Type) {
			vars = append(vars, typing.Name)
		}
		if own.Kind == impl.TyArrow && impl.Consistent(own.Args[1], p.Type) {
			applied = append(applied, h.Replace("("+typing.Name+" ?1)"))
		}
	}
	list = append(list, vars...)
	if impl.Consistent(p.Type, number()) {
		list = append(list, "0", "1", h.Replace("(?1+?2)"))
	}
	if impl.Consistent(p.Type, truth()) {
		list = append(list, "#f", "#t", h.Replace("(?1<?2)"))
	}
	list = append(list, applied...)
	if p.Type.Kind == impl.TyArrow && impl.IsNote(p.Type.Args[0]) {
		name := "x"
		for n := 1; slices.Contains(names, name); n++ {
			name = "x" + decimal(n)
		}
		list = append(list, `(\`+name+":"+typeWords(p.Type.Args[0])+"."+fresh[0]+")")
	}
	if p.Type.Kind == impl.TyPair {
		list = append(list, h.Replace("(?1,?2)"))
	}
	return append(list, h.Replace("(if ?1 ?2 ?3)"))
}

// overMarks finds the path to the same node by counting the nodes that are no
// marks.
func overMarks(marked impl.Expr, raw impl.Expr, path []int) []int {
	index := slices.IndexFunc(impl.AllPaths(raw), func(p []int) bool { return slices.Equal(p, path) })
	for _, p := range impl.AllPaths(marked) {
		if node, _ := impl.SubtermAt(marked, p); node.Kind != impl.ExMark {
			if index == 0 {
				return p
			}
			index--
		}
	}
	return nil
}

func TestPromiseOfSuggestions(t *testing.T) {
	r := rand.New(rand.NewSource(280))
	contexts := [][]impl.Typing{nil, typings("x", "N", "y", "B", "z", "?", "f", "(N>(B>N))", "w", "(N*B)", "g", "((N>N)>?)"), typings("x", "N", "f", "(B>(N*B))", "x", "(N>B)", "y", "B", "f", "(?>?)")}
	dropped, kept := 0, 0
	for range 4000 {
		ctx := contexts[r.Intn(3)]
		e := randomExpr(r, false)
		if r.Intn(3) > 0 {
			e = impl.EraseMarks(typedExpr(r, ctx, randomType(r, 3), 1+r.Intn(4)))
		}
		var paths [][]int
		for _, path := range impl.AllPaths(e) {
			if node, _ := impl.SubtermAt(e, path); node.Kind == impl.ExHole {
				paths = append(paths, path)
			}
		}
		if len(paths) == 0 || !impl.IsValidExpr(e) {
			continue
		}
		path := paths[r.Intn(len(paths))]
		marked := impl.Remark(ctx, e)
		place, ok := impl.PlaceAt(ctx, marked, overMarks(marked, e, path))
		rest, _ := impl.ReplaceAt(e, path, constant(0))
		candidates := impl.CandidatesAt(ctx, e, path)
		if want := candidateWords(place, impl.HolesIn(rest)); !ok || listWords(candidates) != strings.Join(want, "; ") {
			t.Fatalf("CandidatesAt(%s, %s) = %s, want %s", exprWords(e), pathWords(path), listWords(candidates), strings.Join(want, "; "))
		}
		var suggestions, first, second []impl.Expr
		for _, c := range candidates {
			next, ok := impl.ReplaceAt(e, path, c)
			if !ok || impl.CountMarks(impl.Remark(ctx, next)) > impl.CountMarks(marked) {
				dropped++
				continue
			}
			kept++
			suggestions = append(suggestions, c)
			if strings.Contains(exprWords(c), "?") && len(impl.HolesIn(c)) > 0 {
				second = append(second, c)
			} else {
				first = append(first, c)
			}
		}
		if got := listWords(impl.SuggestAt(ctx, e, path)); got != listWords(suggestions) {
			t.Fatalf("SuggestAt(%s, %s) = %s, want %s", exprWords(e), pathWords(path), got, listWords(suggestions))
		}
		if got := listWords(impl.RankedAt(ctx, e, path)); got != listWords(append(first, second...)) {
			t.Fatalf("RankedAt(%s, %s) = %s", exprWords(e), pathWords(path), got)
		}
	}
	if dropped < 500 || kept < 5000 {
		t.Error("too few candidates of one sort", dropped, kept)
	}
}

func spoilList(t *testing.T, list []impl.Expr) {
	t.Helper()
	for i, e := range list {
		rest := listWords(list[i+1:])
		spoilExpr(e)
		if listWords(list[i+1:]) != rest {
			t.Fatal("two expressions of a list share memory")
		}
	}
	for i := range list[:cap(list)] {
		list[:cap(list)][i] = ex(99)
	}
}

func TestSuggestionsShareNoMemory(t *testing.T) {
	ctx := roomyCtx(typings("x", "(N>N)", "y", "((N*B)>(B>N))", "z", "?"))
	beforeCtx := wholeCtx(ctx)
	for _, c := range []struct{ e, path string }{{"?1", "-"}, {"(?1:((N*B)>N))", "0"}, {`(\x:(N>N).((1+(\y:N.?2)),?1))`, "0.0.1.0"}, {"(?1:(N*N))", "0"}, {"(y ?1)", "1"}, {"((x 1),?7)", "1"}, {"(1 2)", "0"}} {
		e, path := roomyExpr(readExpr(c.e)), roomyPath(readPath(c.path))
		before, beforePath := wholeExpr(e), wholePath(path)
		for _, find := range []func([]impl.Typing, impl.Expr, []int) []impl.Expr{impl.CandidatesAt, impl.SuggestAt, impl.RankedAt} {
			one := find(ctx, e, path)
			text := listWords(one)
			spoilList(t, find(ctx, e, path))
			if listWords(one) != text {
				t.Fatal("two results share memory")
			}
			spoilList(t, one)
			if wholeExpr(e) != before || wholeCtx(ctx) != beforeCtx || wholePath(path) != beforePath {
				t.Fatal("an argument was changed")
			}
		}
	}
}
