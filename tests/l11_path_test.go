package tests

import (
	"math/rand"
	"slices"
	"strings"
	"testing"

	"loop.example/g00585/impl"
)

// Promise 11: what is put at a path stands there.

// pathWords writes a path as the document shows it.
func pathWords(path []int) string {
	if len(path) == 0 {
		return "-"
	}
	var words []string
	for _, k := range path {
		words = append(words, decimal(k))
	}
	return strings.Join(words, ".")
}

// readPath reads a path that is written as in the document.
func readPath(s string) []int {
	var path []int
	if s == "-" {
		return path
	}
	for _, word := range strings.Split(s, ".") {
		k, sign := 0, 1
		if word[0] == '-' {
			word, sign = word[1:], -1
		}
		for _, digit := range word {
			k = 10*k + int(digit-'0')
		}
		path = append(path, sign*k)
	}
	return path
}

// pathsByHand lists the paths by going through the nodes with a stack.
func pathsByHand(e impl.Expr) []string {
	type spot struct {
		e    impl.Expr
		path []int
	}
	var list []string
	stack := []spot{{e, nil}}
	for len(stack) > 0 {
		top := stack[len(stack)-1]
		stack = stack[:len(stack)-1]
		list = append(list, pathWords(top.path))
		for k := len(top.e.Args) - 1; k >= 0; k-- {
			stack = append(stack, spot{top.e.Args[k], append(slices.Clone(top.path), k)})
		}
	}
	return list
}

func pathList(paths [][]int) []string {
	var list []string
	for _, path := range paths {
		list = append(list, pathWords(path))
	}
	return list
}

func TestSubtermAt(t *testing.T) {
	e := readExpr(`(if {1 (f #t)} (\x:N.(x+?2)) (fst ((1,2):?)))`)
	for path, want := range map[string]string{
		"-": exprWords(e), "0": "{1 (f #t)}", "0.0": "(f #t)", "0.0.0": "f", "0.0.1": "#t", "1": `(\x:N.(x+?2))`, "1.0": "(x+?2)", "1.0.0": "x", "1.0.1": "?2",
		"2": "(fst ((1,2):?))", "2.0": "((1,2):?)", "2.0.0": "(1,2)", "2.0.0.0": "1", "2.0.0.1": "2",
	} {
		got, ok := impl.SubtermAt(e, readPath(path))
		if !ok || exprWords(got) != want {
			t.Errorf("SubtermAt %s = %s, %v", path, exactExpr(got), ok)
		}
	}
	for _, path := range []string{"3", "-1", "0.1", "0.-1", "0.0.2", "0.0.0.0", "1.1", "1.0.2", "1.0.1.0", "2.1", "2.0.1", "2.0.0.2", "2.0.0.0.0", "1.0.0.0", "1000000", "-9223372036854775808", "0.9223372036854775807"} {
		got, ok := impl.SubtermAt(e, readPath(path))
		if ok || exactExpr(got) != exactExpr(impl.Expr{}) {
			t.Errorf("SubtermAt %s = %s, %v", path, exactExpr(got), ok)
		}
	}
	// Expressions that are not valid have nodes like all others.
	odd := impl.Expr{Kind: 77, Name: "if", N: -1, Type: ty(9), Args: []impl.Expr{{}, constant(-1), {Kind: impl.ExVar, Args: []impl.Expr{hole(0), hole(1)}}, constant(4)}}
	for path, want := range map[string]impl.Expr{"-": odd, "0": {}, "1": constant(-1), "2": odd.Args[2], "2.0": hole(0), "2.1": hole(1), "3": constant(4)} {
		if got, ok := impl.SubtermAt(odd, readPath(path)); !ok || exactExpr(got) != exactExpr(want) {
			t.Errorf("SubtermAt %s in a wrong expression = %s, %v", path, exactExpr(got), ok)
		}
	}
	if _, ok := impl.SubtermAt(impl.Expr{}, []int{0}); ok {
		t.Error("a node in the zero expression")
	}
	if got, ok := impl.SubtermAt(impl.Expr{}, nil); !ok || exactExpr(got) != exactExpr(impl.Expr{}) {
		t.Error("the root of the zero expression")
	}
}

// checkReplace requires the result, or that the expression stays unchanged if
// want is empty.
func checkReplace(t *testing.T, e impl.Expr, path string, by impl.Expr, want string) {
	t.Helper()
	fits := want != ""
	if !fits {
		want = exactExpr(e)
	}
	got, ok := impl.ReplaceAt(e, readPath(path), by)
	if ok != fits || exactExpr(got) != want {
		t.Errorf("ReplaceAt(%s, %s, %s) = %s, %v", exactExpr(e), path, exactExpr(by), exactExpr(got), ok)
	}
}

func TestReplaceAt(t *testing.T) {
	for _, c := range []struct{ e, path, by, want string }{
		{"x", "-", "(1+2)", "(1+2)"},
		{"(x+y)", "0", "?1", "(?1+y)"},
		{"(x+y)", "1", "?1", "(x+?1)"},
		{"(x+x)", "1", "x", "(x+x)"},
		{"(x+y)", "-", "z", "z"},
		{`(\x:N.{1 (if x y z)})`, "0.0.2", "(x x)", `(\x:N.{1 (if x y (x x))})`},
		{`(\x:N.{1 (if x y z)})`, "0.0.0", "#t", `(\x:N.{1 (if #t y z)})`},
		{`(\x:N.{1 (if x y z)})`, "0", "5", `(\x:N.5)`},
		{"(1+{1 2})", "1.0", "(fst {2 3})", "(1+{1 (fst {2 3})})"},
		{"(1+{1 2})", "0", "{1 2}", "({1 2}+{1 2})"},
		// no such nodes
		{"x", "0", "y", ""},
		{"x", "-1", "y", ""},
		{"(x+y)", "2", "y", ""},
		{"(x+y)", "-1", "y", ""},
		{"(x+y)", "0.0", "y", ""},
		{"(if x y z)", "3", "y", ""},
		{"{1 x}", "1", "y", ""},
		{"{1 x}", "0.0", "y", ""},
		// a mark directly in a mark
		{"{1 x}", "0", "{2 x}", ""},
	} {
		want := ""
		if c.want != "" {
			want = exactExpr(readExpr(c.want))
		}
		checkReplace(t, readExpr(c.e), c.path, readExpr(c.by), want)
	}
}

func TestReplaceAtTheLimits(t *testing.T) {
	large := ex(impl.ExPair, variable("x"), constant(0))
	checkReplace(t, large, "1", sumOf(37), exactExpr(ex(impl.ExPair, variable("x"), sumOf(37))))
	checkReplace(t, large, "1", ex(impl.ExFst, sumOf(37)), exactExpr(ex(impl.ExPair, variable("x"), ex(impl.ExFst, sumOf(37)))))
	checkReplace(t, large, "1", sumOf(39), "")
	checkReplace(t, large, "-", sumOf(39), exactExpr(sumOf(39)))
	checkReplace(t, large, "-", sumOf(41), "")
	full := ex(impl.ExFst, sumOf(39))
	checkReplace(t, full, "0.0", constant(7), exactExpr(ex(impl.ExFst, ex(impl.ExAdd, constant(7), full.Args[0].Args[1]))))
	checkReplace(t, full, "0.0.0.0.0.0", ex(impl.ExFst, constant(1)), "")
	deep := chainExpr(6, variable("x"))
	checkReplace(t, deep, "0.0.0.0.0", chainExpr(7, variable("y")), exactExpr(chainExpr(12, variable("y"))))
	checkReplace(t, deep, "0.0.0.0.0", chainExpr(8, variable("y")), "")
	checkReplace(t, deep, "0.0.0.0.0", chainExpr(7, mark(1, variable("y"))), exactExpr(chainExpr(12, mark(1, variable("y")))))
	checkReplace(t, deep, "0.0.0.0", chainExpr(8, variable("y")), exactExpr(chainExpr(12, variable("y"))))
}

func TestReplaceInWrongExpressions(t *testing.T) {
	one := constant(1)
	for what, wrong := range wrongExprs() {
		if impl.SizeOf(wrong) > 1000 {
			continue
		}
		checkReplace(t, one, "-", wrong, "")
		checkReplace(t, ex(impl.ExAdd, one, hole(1)), "1", wrong, "")
		checkReplace(t, function("x", number(), mark(2, one)), "0.0", wrong, "")
		// What is not valid may be replaced, and the rest must be valid.
		checkReplace(t, wrong, "-", one, exactExpr(one))
		checkReplace(t, ex(impl.ExAdd, wrong, one), "0", hole(3), exactExpr(ex(impl.ExAdd, hole(3), one)))
		checkReplace(t, ex(impl.ExAdd, wrong, one), "1", hole(3), "")
		if _, ok := impl.ReplaceAt(wrong, []int{9}, one); ok {
			t.Errorf("a node was replaced that %s does not have", what)
		}
	}
	checkReplace(t, impl.Expr{Kind: impl.ExVar, Name: "x", Args: []impl.Expr{one}}, "0", hole(1), "")
	checkReplace(t, ex(99, one, impl.Expr{}), "1", one, "")
}

func TestAllPaths(t *testing.T) {
	for s, want := range map[string]string{
		"x":                             "-",
		"?1":                            "-",
		"(1+2)":                         "- 0 1",
		"(fst (snd x))":                 "- 0 0.0",
		"{1 x}":                         "- 0",
		"(if (x y) #t {1 ?2})":          "- 0 0.0 0.1 1 2 2.0",
		`((\x:N.(x<1)) ((2:N),(3,4)))`:  "- 0 0.0 0.0.0 0.0.1 1 1.0 1.0.0 1.1 1.1.0 1.1.1",
		"(if a (if b c d) (if e f g))":  "- 0 1 1.0 1.1 1.2 2 2.0 2.1 2.2",
		"(fst {1 (snd {2 (x,{3 y})})})": "- 0 0.0 0.0.0 0.0.0.0 0.0.0.0.0 0.0.0.0.1 0.0.0.0.1.0",
	} {
		if got := pathList(impl.AllPaths(readExpr(s))); strings.Join(got, " ") != want {
			t.Errorf("AllPaths(%s) = %q", s, got)
		}
	}
	odd := ex(99, ex(0), impl.Expr{Kind: impl.ExVar, Args: []impl.Expr{{}, {}, {}, {}}}, impl.Expr{})
	if got := pathList(impl.AllPaths(odd)); strings.Join(got, " ") != "- 0 1 1.0 1.1 1.2 1.3 2" {
		t.Errorf("AllPaths of a wrong expression: %q", got)
	}
	if got := pathList(impl.AllPaths(impl.Expr{})); strings.Join(got, " ") != "-" {
		t.Errorf("AllPaths of the zero expression: %q", got)
	}
}

func TestPromiseOfPaths(t *testing.T) {
	r := rand.New(rand.NewSource(110))
	replaced, refused := 0, 0
	for range 3000 {
		e, by := randomExpr(r, true), randomExpr(r, true)
		paths := impl.AllPaths(e)
		if !slices.Equal(pathList(paths), pathsByHand(e)) {
			t.Fatalf("AllPaths(%s) = %q", exprWords(e), pathList(paths))
		}
		for _, path := range paths {
			old, ok := impl.SubtermAt(e, path)
			if !ok {
				t.Fatalf("%s has no node %s", exprWords(e), pathWords(path))
			}
			if same, ok := impl.ReplaceAt(e, path, old); !ok || exprWords(same) != exprWords(e) {
				t.Fatalf("ReplaceAt(%s) of itself at %s", exprWords(e), pathWords(path))
			}
			got, ok := impl.ReplaceAt(e, path, by)
			if !ok {
				refused++
				if exprWords(got) != exprWords(e) {
					t.Fatalf("%s was changed", exprWords(e))
				}
				continue
			}
			replaced++
			there, _ := impl.SubtermAt(got, path)
			back, fits := impl.ReplaceAt(got, path, old)
			if exprWords(there) != exprWords(by) || !fits || exprWords(back) != exprWords(e) {
				t.Fatalf("ReplaceAt(%s, %s, %s) = %s", exprWords(e), pathWords(path), exprWords(by), exprWords(got))
			}
			for _, other := range paths {
				if impl.IsWithin(other, path) || impl.IsWithin(path, other) {
					continue
				}
				before, _ := impl.SubtermAt(e, other)
				after, ok := impl.SubtermAt(got, other)
				if !ok || exprWords(before) != exprWords(after) {
					t.Fatalf("ReplaceAt(%s, %s) changes %s", exprWords(e), pathWords(path), pathWords(other))
				}
			}
		}
	}
	if replaced < 3000 || refused < 1000 {
		t.Error("too few replacements of one sort", replaced, refused)
	}
}

func TestFormatPath(t *testing.T) {
	for _, path := range [][]int{nil, {}, {0}, {2}, {0, 1, 2}, {1, 0}, {3}, {10, 0, 25}, {-1}, {0, -12, 3}, {1 << 40}} {
		if got := impl.FormatPath(path); got != pathWords(path) {
			t.Errorf("FormatPath(%v) = %q", path, got)
		}
	}
	if got := impl.FormatPath([]int{-9223372036854775808, 9223372036854775807}); got != "-9223372036854775808.9223372036854775807" {
		t.Error(got)
	}
}

func TestParsePath(t *testing.T) {
	for _, s := range []string{"-", "0", "1", "2", "0.0", "0.1.2", "2.2.2", "1.0.2.0.1", strings.Repeat("0.", 500) + "2"} {
		got, ok := impl.ParsePath(s)
		if !ok || pathWords(got) != s || impl.FormatPath(got) != s {
			t.Errorf("ParsePath(%q) = %v, %v", s, got, ok)
		}
	}
	for _, s := range []string{"", ".", "..", "0.", ".0", "0..1", "3", "9", "10", "20", "22", "0.3", "3.0", "0.10", "00", "01", "0.00", "1.02", "+1", "-1", "-0", "0.-1", "0.+1", "--", "-.0", "0.-",
		" ", " 0", "0 ", "0 .1", "0. 1", "0,1", "0:1", "x", "a.b", "0x1", "1e0", "0.1\n", "\x00", "0\x00", "٠", "²", "2.9999999999999999999", "999999", "-1.0"} {
		if got, ok := impl.ParsePath(s); ok || len(got) != 0 {
			t.Errorf("ParsePath(%q) = %v, %v", s, got, ok)
		}
	}
	// All short texts: those that are accepted are the paths themselves.
	const letters = "0123-.+ 9"
	var try func(s string)
	try = func(s string) {
		got, ok := impl.ParsePath(s)
		want := s != "" && (s == "-" || !slices.ContainsFunc(strings.Split(s, "."), func(w string) bool { return w != "0" && w != "1" && w != "2" }))
		if ok != want || ok && pathWords(got) != s || !ok && len(got) != 0 {
			t.Fatalf("ParsePath(%q) = %v, %v", s, got, ok)
		}
		if len(s) < 4 {
			for _, letter := range letters {
				try(s + string(letter))
			}
		}
	}
	try("")
}

func TestIsWithin(t *testing.T) {
	paths := []string{"-", "0", "1", "2", "0.0", "0.1", "1.0", "1.1", "1.2", "0.0.0", "0.1.1", "1.2.0", "3", "-1", "0.-1", "0.10", "10", "1.2.0.4"}
	for _, path := range paths {
		for _, outer := range paths {
			want := outer == "-" || path == outer || strings.HasPrefix(path, outer+".")
			if path == "-" {
				want = outer == "-"
			}
			if got := impl.IsWithin(readPath(path), readPath(outer)); got != want {
				t.Errorf("IsWithin(%s, %s) is %v", path, outer, got)
			}
		}
	}
	if !impl.IsWithin(nil, []int{}) || !impl.IsWithin([]int{}, nil) {
		t.Error("the empty path is not within itself")
	}
	// What stands behind the end of a path does not count.
	long := []int{1, 2, 0}
	if impl.IsWithin(long[:1], long[:2]) || !impl.IsWithin(long[:2], long[:1]) {
		t.Error("paths that share memory")
	}
}

func roomyPath(path []int) []int {
	roomy := make([]int, 0, len(path)+2)
	roomy = append(roomy, path...)
	_ = append(roomy, -77, -77)
	return roomy
}

func spoilPath(path []int) {
	for i := range path[:cap(path)] {
		path[:cap(path)][i] = -99
	}
}

func wholePath(path []int) string { return pathWords(path[:cap(path)]) }

func TestPathsShareNoMemory(t *testing.T) {
	r := rand.New(rand.NewSource(111))
	for range 300 {
		e, by := roomyExpr(randomExpr(r, true)), roomyExpr(randomExpr(r, true))
		before, beforeBy := wholeExpr(e), wholeExpr(by)
		paths, again := impl.AllPaths(e), impl.AllPaths(e)
		texts := pathList(again)
		for i, path := range paths {
			spoilPath(path)
			if !slices.Equal(pathList(again), texts) || !slices.Equal(pathList(paths[i+1:]), texts[i+1:]) {
				t.Fatal("the paths of an expression share memory")
			}
		}
		for _, at := range append(again, []int{7}, []int{0, -1}) {
			path := roomyPath(at)
			beforePath := wholePath(path)
			term, _ := impl.SubtermAt(e, path)
			spoilExpr(term)
			got, _ := impl.ReplaceAt(e, path, by)
			text := exactExpr(got)
			other, _ := impl.ReplaceAt(e, path, by)
			spoilExpr(other)
			if exactExpr(got) != text {
				t.Fatal("two results of ReplaceAt share memory")
			}
			spoilExpr(got)
			_, _ = impl.FormatPath(path), impl.IsWithin(path, path)
			if wholeExpr(e) != before || wholeExpr(by) != beforeBy || wholePath(path) != beforePath {
				t.Fatal("an argument was changed")
			}
		}
	}
}
