package tests

import (
	"math/rand"
	"slices"
	"strings"
	"testing"

	"loop.example/g00585/impl"
)

// Promise 10: every raw expression is marked so that it is well-typed, and has
// no marks exactly if it was well-typed.

// checkMark requires a marked expression and its type, as "EXPR TYPE".
func checkMark(t *testing.T, ctx []impl.Typing, s, want string) {
	t.Helper()
	marked, own := impl.MarkExpr(ctx, readExpr(s))
	if marked.Kind == 0 {
		t.Errorf("MarkExpr(%s) is zero", s)
		return
	}
	if got := exprWords(marked) + " " + typeWords(own); got != want {
		t.Errorf("MarkExpr(%s) = %s, want %s", s, got, want)
	}
}

func TestMarkForSynthesis(t *testing.T) {
	for s, want := range map[string]string{
		// leaves
		"?1": "?1 ?", "0": "0 N", "#t": "#t B", "#f": "#f B", "n": "n N", "b": "b B", "p": "p (N*B)", "q": "{1 q} ?",
		// functions
		`(\x:N.x)`:          `(\x:N.x) (N>N)`,
		`(\x:?.(x+1))`:      `(\x:?.(x+1)) (?>N)`,
		`(\x:B.(x+1))`:      `(\x:B.({1 x}+1)) (B>N)`,
		`(\x:N.q)`:          `(\x:N.{1 q}) (N>?)`,
		`(\x:N.(\y:B.x))`:   `(\x:N.(\y:B.x)) (N>(B>N))`,
		`(\n:B.n)`:          `(\n:B.n) (B>B)`,
		`((\x:N.x),x)`:      `((\x:N.x),{1 x}) ((N>N)*?)`,
		`(\x:N.(\x:B.x))`:   `(\x:N.(\x:B.x)) (N>(B>B))`,
		`(\x:N.((1 2) #t))`: `(\x:N.(({1 1} 2) #t)) (N>?)`,
		// applications
		"(f 1)":            "(f 1) B",
		"(f #t)":           "(f {1 #t}) B",
		"(f q)":            "(f {1 q}) B",
		"(q 1)":            "({1 q} 1) ?",
		"(q r)":            "({1 q} {2 r}) ?",
		"(1 2)":            "({1 1} 2) ?",
		"(1 #t)":           "({1 1} #t) ?",
		"(p q)":            "({1 p} {2 q}) ?",
		"((1 2) 3)":        "(({1 1} 2) 3) ?",
		"((f 1) 2)":        "({1 (f 1)} 2) ?",
		"((q 1) #t)":       "(({1 q} 1) #t) ?",
		"(u 1)":            "(u 1) ?",
		"(?1 #t)":          "(?1 #t) ?",
		"((f 1)+1)":        "({1 (f 1)}+1) N",
		"((1 2)+1)":        "(({1 1} 2)+1) N",
		`(h (\x:N.x))`:     `(h (\x:N.x)) N`,
		`(h (\x:B.1))`:     `(h {1 (\x:B.1)}) N`,
		`(h (\x:N.#t))`:    `(h (\x:N.{1 #t})) N`,
		`((\x:B.x) 1)`:     `((\x:B.x) {1 1}) B`,
		`((\x:?.x) (1+b))`: `((\x:?.x) (1+{1 b})) ?`,
		// sums and comparisons
		"(1+n)": "(1+n) N", "(b+1)": "({1 b}+1) N", "(1+b)": "(1+{1 b}) N", "(b+f)": "({1 b}+{2 f}) N", "(?1+u)": "(?1+u) N",
		"(1<n)": "(1<n) B", "(b<1)": "({1 b}<1) B", "(1<b)": "(1<{1 b}) B", "(b<f)": "({1 b}<{2 f}) B",
		"((1<2)<3)": "({1 (1<2)}<3) B", "((1+2)<3)": "((1+2)<3) B", "((b+b)+b)": "(({1 b}+{2 b})+{3 b}) N",
		"((b<b)+1)": "({1 ({2 b}<{3 b})}+1) N",
		// choices
		"(if b 1 2)":           "(if b 1 2) N",
		"(if 1 1 2)":           "(if {1 1} 1 2) N",
		"(if q 1 2)":           "(if {1 q} 1 2) N",
		"(if u 1 2)":           "(if u 1 2) N",
		"(if b 1 #t)":          "(if b 1 {1 #t}) N",
		"(if b #t 1)":          "(if b #t {1 1}) B",
		"(if b u 1)":           "(if b u 1) N",
		"(if b 1 u)":           "(if b 1 u) N",
		"(if b q 1)":           "(if b {1 q} 1) N",
		"(if b 1 q)":           "(if b 1 {1 q}) N",
		"(if b (1,u) (u,b))":   "(if b (1,u) (u,b)) (N*B)",
		"(if b (u,1) (b,u))":   "(if b (u,1) (b,u)) (B*N)",
		"(if b (1,u) (b,u))":   "(if b (1,u) {1 (b,u)}) (N*?)",
		"(if (if b b 1) 1 2)":  "(if (if b b {1 1}) 1 2) N",
		"(if b (if b 1 b) #t)": "(if b (if b 1 {1 b}) {2 #t}) N",
		"(if 1 q #t)":          "(if {1 1} {2 q} #t) B",
		// pairs and their parts
		"(1,#t)":        "(1,#t) (N*B)",
		"(q,(1+b))":     "({1 q},(1+{2 b})) (?*N)",
		"(fst p)":       "(fst p) N",
		"(snd p)":       "(snd p) B",
		"(fst u)":       "(fst u) ?",
		"(snd ?1)":      "(snd ?1) ?",
		"(fst 1)":       "(fst {1 1}) ?",
		"(snd f)":       "(snd {1 f}) ?",
		"(fst q)":       "(fst {1 q}) ?",
		"(snd (1,b))":   "(snd (1,b)) B",
		"(fst (q,1))":   "(fst ({1 q},1)) ?",
		"((snd 1)+1)":   "((snd {1 1})+1) N",
		"((snd p)+1)":   "({1 (snd p)}+1) N",
		"(fst (snd p))": "(fst {1 (snd p)}) ?",
		// stated types
		"(1:N)": "(1:N) N", "(1:?)": "(1:?) ?", "(1:B)": "({1 1}:B) B", "(q:N)": "({1 q}:N) N", "(u:B)": "(u:B) B",
		"((1:?):B)": "((1:?):B) B", "((1:N):B)": "({1 (1:N)}:B) B", "((1:B):N)": "({1 ({2 1}:B)}:N) N",
	} {
		checkMark(t, scopeForTyping(), s, want)
	}
}

func TestMarkForAnalysis(t *testing.T) {
	for s, want := range map[string]string{
		// functions
		`((\x:N.x):(N>N))`:               `((\x:N.x):(N>N)) (N>N)`,
		`((\x:N.x):?)`:                   `((\x:N.x):?) ?`,
		`((\x:N.x):(?>?))`:               `((\x:N.x):(?>?)) (?>?)`,
		`((\x:?.x):(N>B))`:               `((\x:?.x):(N>B)) (N>B)`,
		`((\x:N.x):(N>B))`:               `((\x:N.{1 x}):(N>B)) (N>B)`,
		`((\x:N.x):(?>B))`:               `((\x:N.{1 x}):(?>B)) (?>B)`,
		`((\x:B.x):(N>B))`:               `({1 (\x:B.x)}:(N>B)) (N>B)`,
		`((\x:B.(x+1)):(N>B))`:           `({1 (\x:B.({2 x}+1))}:(N>B)) (N>B)`,
		`((\x:N.x):N)`:                   `({1 (\x:N.x)}:N) N`,
		`((\x:N.x):(N*N))`:               `({1 (\x:N.x)}:(N*N)) (N*N)`,
		`((\x:N.(x+#t)):N)`:              `({1 (\x:N.(x+{2 #t}))}:N) N`,
		`((\x:(N>?).(x b)):((?>B)>N))`:   `((\x:(N>?).(x {1 b})):((?>B)>N)) ((?>B)>N)`,
		`((\x:N.(\y:B.x)):(N>(N>N)))`:    `((\x:N.{1 (\y:B.x)}):(N>(N>N))) (N>(N>N))`,
		`((\x:N.(\y:B.x)):(N>(?>B)))`:    `((\x:N.(\y:B.{1 x})):(N>(?>B))) (N>(?>B))`,
		`((\b:N.b):(N>N))`:               `((\b:N.b):(N>N)) (N>N)`,
		`((\x:N.(if b 1 #t)):?)`:         `((\x:N.(if b 1 #t)):?) ?`,
		`((\x:N.(if b 1 #t)):N)`:         `({1 (\x:N.(if b 1 {2 #t}))}:N) N`,
		`((\x:N.(if b 1 #t)):(N>N))`:     `((\x:N.(if b 1 {1 #t})):(N>N)) (N>N)`,
		`((\x:B.(if b 1 #t)):(N>?))`:     `({1 (\x:B.(if b 1 {2 #t}))}:(N>?)) (N>?)`,
		`((\x:B.(1,(if b 1 #t))):(?>?))`: `((\x:B.(1,(if b 1 #t))):(?>?)) (?>?)`,
		// choices
		"((if b 1 #t):?)":              "((if b 1 #t):?) ?",
		"((if b 1 #t):N)":              "((if b 1 {1 #t}):N) N",
		"((if b 1 #t):B)":              "((if b {1 1} #t):B) B",
		"((if b 1 #t):(N*N))":          "((if b {1 1} {2 #t}):(N*N)) (N*N)",
		"((if 1 1 2):N)":               "((if {1 1} 1 2):N) N",
		"((if q 1 r):?)":               "((if {1 q} 1 {2 r}):?) ?",
		"((if b (if b 1 #t) 2):?)":     "((if b (if b 1 #t) 2):?) ?",
		"((if b (if b 1 #t) 2):N)":     "((if b (if b 1 {1 #t}) 2):N) N",
		"((if (if 1 1 b) 1 2):N)":      "((if (if {1 1} {2 1} b) 1 2):N) N",
		"(1+(if b 1 #t))":              "(1+(if b 1 {1 #t})) N",
		"(if (if b 1 #t) 1 2)":         "(if (if b {1 1} #t) 1 2) N",
		"(f (if b 1 #t))":              "(f (if b 1 {1 #t})) B",
		"(u (if b 1 #t))":              "(u (if b 1 #t)) ?",
		"(1 (if b 1 #t))":              "({1 1} (if b 1 #t)) ?",
		`((if b (\x:N.x) (\x:B.x)):?)`: `((if b (\x:N.x) (\x:B.x)):?) ?`,
		`(h (if b (\x:N.x) (\x:B.1)))`: `(h (if b (\x:N.x) {1 (\x:B.1)})) N`,
		// pairs
		"((1,#t):(N*B))":           "((1,#t):(N*B)) (N*B)",
		"((1,#t):?)":               "((1,#t):?) ?",
		"((1,#t):(B*?))":           "(({1 1},#t):(B*?)) (B*?)",
		"((1,#t):(?*N))":           "((1,{1 #t}):(?*N)) (?*N)",
		"((1,#t):(B*N))":           "(({1 1},{2 #t}):(B*N)) (B*N)",
		"((1,#t):N)":               "({1 (1,#t)}:N) N",
		"((1,#t):(N>B))":           "({1 (1,#t)}:(N>B)) (N>B)",
		"((q,(1+b)):B)":            "({1 ({2 q},(1+{3 b}))}:B) B",
		"(((if b 1 #t),1):?)":      "(((if b 1 #t),1):?) ?",
		"(((if b 1 #t),1):(?*?))":  "(((if b 1 #t),1):(?*?)) (?*?)",
		"(((if b 1 #t),1):N)":      "({1 ((if b 1 {2 #t}),1)}:N) N",
		"((1,(2,#t)):(N*(B*B)))":   "((1,({1 2},#t)):(N*(B*B))) (N*(B*B))",
		"((1,(2,#t)):(N*B))":       "((1,{1 (2,#t)}):(N*B)) (N*B)",
		`((1,(\x:N.x)):(N*(N>B)))`: `((1,(\x:N.{1 x})):(N*(N>B))) (N*(N>B))`,
		// other expressions
		"(?1:(N*B))":  "(?1:(N*B)) (N*B)",
		"(f:(N>B))":   "(f:(N>B)) (N>B)",
		"(f:(N>?))":   "(f:(N>?)) (N>?)",
		"(f:(N>N))":   "({1 f}:(N>N)) (N>N)",
		"((f 1):N)":   "({1 (f 1)}:N) N",
		"((f q):N)":   "({1 (f {2 q})}:N) N",
		"((fst p):B)": "({1 (fst p)}:B) B",
		"((fst 1):B)": "((fst {1 1}):B) B",
		"((1+2):B)":   "({1 (1+2)}:B) B",
		"((1<2):N)":   "({1 (1<2)}:N) N",
		"(#t:N)":      "({1 #t}:N) N",
	} {
		checkMark(t, scopeForTyping(), s, want)
	}
}

// The numbers of marks leave out those of holes, wherever these stand, and are
// the least ones in the order of the text.
func TestNumbersOfMarks(t *testing.T) {
	for s, want := range map[string]string{
		"(q+?1)":                 "({2 q}+?1) N",
		"(q+?2)":                 "({1 q}+?2) N",
		"((q+?2)+(r+s))":         "(({1 q}+?2)+({3 r}+{4 s})) N",
		"((?2+?2)+(r+s))":        "((?2+?2)+({1 r}+{3 s})) N",
		"((?1+?1)+(r+?2))":       "((?1+?1)+({3 r}+?2)) N",
		"((q+r)+(?3+?1))":        "(({2 q}+{4 r})+(?3+?1)) N",
		"((q+r)+(s+?99))":        "(({1 q}+{2 r})+({3 s}+?99)) N",
		"((?1,?2):N)":            "({3 (?1,?2)}:N) N",
		"((q,(?1,(r,?5))):N)":    "({2 ({3 q},(?1,({4 r},?5)))}:N) N",
		"((1 ?4)+((2 ?1) 3))":    "(({2 1} ?4)+(({3 2} ?1) 3)) N",
		"(if 1 #t 2)":            "(if {1 1} #t {2 2}) B",
		"(if #t (q,?1) (#t<?2))": "(if #t ({3 q},?1) {4 ({5 #t}<?2)}) (?*?)",
	} {
		checkMark(t, nil, s, want)
	}
	many := variable("q")
	for range 9 {
		many = ex(impl.ExAdd, ex(impl.ExAdd, hole(99), variable("q")), many)
	}
	marked, _ := impl.MarkExpr(nil, many)
	var numbers []int
	for _, n := range impl.HolesIn(marked) {
		if n != 99 {
			numbers = append(numbers, n)
		}
	}
	if !slices.Equal(numbers, []int{1, 2, 3, 4, 5, 6, 7, 8, 9, 10}) {
		t.Error("the numbers of ten marks:", numbers)
	}
}

// As many marks as an expression can have, and as many numbers that they must
// leave out.
func TestManyMarks(t *testing.T) {
	leaves := func(size int, leaf func(n int) impl.Expr) impl.Expr {
		n := 0
		var fill func(e impl.Expr) impl.Expr
		fill = func(e impl.Expr) impl.Expr {
			if e.Kind == impl.ExNum {
				n++
				return leaf(n)
			}
			return ex(e.Kind, fill(e.Args[0]), fill(e.Args[1]))
		}
		return fill(sumOf(size))
	}
	all := leaves(39, func(int) impl.Expr { return boolean(1) })
	marked, own := impl.MarkExpr(nil, all)
	if impl.CountMarks(marked) != 20 || typeWords(own) != "N" || !slices.Equal(impl.HolesIn(marked), upTo(20)) {
		t.Error("20 marks:", exprWords(marked))
	}
	half := leaves(39, func(n int) impl.Expr {
		if n%2 == 0 {
			return hole(n)
		}
		return boolean(1)
	})
	marked, _ = impl.MarkExpr(nil, half)
	if impl.CountMarks(marked) != 10 || !slices.Equal(impl.HolesIn(marked), upTo(20)) {
		t.Error("10 marks between holes:", exprWords(marked))
	}
	deep := boolean(0)
	for n := range 11 {
		deep = ex([]int{impl.ExLess, impl.ExAdd}[n%2], deep, hole(n+1))
	}
	marked, _ = impl.MarkExpr(nil, deep)
	if impl.CountMarks(marked) != 6 || impl.DepthOf(marked) != impl.MaxDepth || !impl.IsValidExpr(marked) {
		t.Error("marks in a deep expression:", exprWords(marked))
	}
}

func upTo(last int) []int {
	var list []int
	for n := 1; n <= last; n++ {
		list = append(list, n)
	}
	return list
}

func TestMarkInContexts(t *testing.T) {
	full := typings("a", "N", "b", "B", "c", "N", "d", "N", "e", "N", "g", "N", "a", "B", "i", "(N>B)")
	checkMark(t, full, "(a+c)", "({1 a}+c) N")
	checkMark(t, full, `(\c:B.(c+(i d)))`, `(\c:B.({1 c}+{2 (i d)})) (B>N)`)
	checkMark(t, full, `(\x:N.(\y:N.(\z:N.((x+y)+(z+(a+q))))))`, `(\x:N.(\y:N.(\z:N.((x+y)+(z+({1 a}+{2 q})))))) (N>(N>(N>N)))`)
	deep, marked, want := "(i a)", "(i {1 a})", "B"
	for _, name := range strings.Split("qrstuvwxyz", "") {
		deep, marked, want = `(\`+name+":N."+deep+")", `(\`+name+":N."+marked+")", "(N>"+want+")"
	}
	checkMark(t, full, deep, marked+" "+want)
	checkMark(t, nil, "(a+1)", "({1 a}+1) N")
	zero := exactExpr(impl.Expr{})
	for what, ctx := range wrongContexts() {
		e, own := impl.MarkExpr(ctx, constant(1))
		if exactExpr(e) != zero || typeWords(own) != "<0>" || exactExpr(impl.Remark(ctx, constant(1))) != zero {
			t.Errorf("something is marked in a context with %s", what)
		}
	}
}

// wrongContexts are not valid, each for one reason.
func wrongContexts() map[string][]impl.Typing {
	wrong := map[string][]impl.Typing{
		"nine typings":    typings("a", "N", "b", "N", "c", "N", "d", "N", "e", "N", "f", "N", "g", "N", "h", "N", "i", "N"),
		"nine of a name":  typings("a", "N", "a", "N", "a", "N", "a", "N", "a", "N", "a", "N", "a", "N", "a", "N", "a", "N"),
		"no name":         {{Type: number()}},
		"a word":          {{Name: "x", Type: number()}, {Name: "if", Type: number()}},
		"a long name":     {{Name: "abcdef", Type: number()}},
		"a capital":       {{Name: "X", Type: number()}},
		"a large type":    {{Name: "x", Type: largeType(17)}},
		"a deep type":     {{Name: "x", Type: chainType(6, number())}},
		"a hidden wrong":  {{Name: "x", Type: ty(6)}, {Name: "x", Type: number()}},
		"a wrong at last": {{Name: "y", Type: number()}, {Name: "x", Type: arrow(number(), ty(0))}},
	}
	for what, x := range wrongTypes() {
		wrong["the type "+what] = []impl.Typing{{Name: "x", Type: x}}
	}
	return wrong
}

func TestMarkOnlyRawExpressions(t *testing.T) {
	zero := exactExpr(impl.Expr{})
	for what, e := range wrongExprs() {
		got, own := impl.MarkExpr(nil, e)
		if exactExpr(got) != zero || typeWords(own) != "<0>" {
			t.Errorf("%s is marked", what)
		}
		if exactExpr(impl.Remark(nil, e)) != zero {
			t.Errorf("%s is marked again", what)
		}
	}
	for _, s := range []string{"{1 x}", "{1 1}", "(1+{1 #t})", `(\x:N.{1 y})`, "{1 ({2 x}+1)}"} {
		got, own := impl.MarkExpr(nil, readExpr(s))
		if exactExpr(got) != zero || typeWords(own) != "<0>" {
			t.Errorf("%s is marked, but it is not raw", s)
		}
	}
}

func TestMarksAtTheLimits(t *testing.T) {
	for _, e := range []impl.Expr{ex(impl.ExFst, sumOf(39)), chainExpr(impl.MaxDepth, boolean(1)), chainExpr(impl.MaxDepth, variable("q"))} {
		got, own := impl.MarkExpr(nil, e)
		if !impl.IsValidExpr(got) || impl.CountMarks(got) != 1 || typeWords(own) != "?" || impl.SizeOf(got) != impl.SizeOf(e) {
			t.Errorf("MarkExpr(%s) = %s", exprWords(e), exprWords(got))
		}
		if again := impl.Remark(nil, got); exprWords(again) != exprWords(got) {
			t.Errorf("Remark(%s) = %s", exprWords(got), exprWords(again))
		}
	}
}

func TestEraseAndCountMarks(t *testing.T) {
	lone := ex(impl.ExMark)
	wide := impl.Expr{Kind: impl.ExMark, N: 3, Name: "x", Args: []impl.Expr{mark(1, constant(1)), mark(2, mark(4, variable("y")))}}
	for _, c := range []struct {
		e, want impl.Expr
		marks   int
	}{
		{constant(1), constant(1), 0},
		{hole(1), hole(1), 0},
		{mark(1, constant(1)), constant(1), 1},
		{mark(1, mark(2, mark(1, hole(3)))), hole(3), 3},
		{readExpr("({1 x}+{2 (fst {3 y})})"), readExpr("(x+(fst y))"), 3},
		{readExpr(`(if {1 (\x:N.{2 x})} {3 ?3} ({4 1}:N))`), readExpr(`(if (\x:N.x) ?3 (1:N))`), 4},
		{lone, lone, 1},
		{mark(1, lone), lone, 2},
		{wide, impl.Expr{Kind: impl.ExMark, N: 3, Name: "x", Args: []impl.Expr{constant(1), variable("y")}}, 4},
		{mark(5, wide), impl.Expr{Kind: impl.ExMark, N: 3, Name: "x", Args: []impl.Expr{constant(1), variable("y")}}, 5},
		{impl.Expr{Kind: impl.ExMark, N: -3, Name: "x", Type: number(), Args: []impl.Expr{constant(-1)}}, constant(-1), 1},
		{ex(99, mark(1, hole(1)), ex(0, mark(0, hole(0)))), ex(99, hole(1), ex(0, hole(0))), 2},
		{impl.Expr{Kind: impl.ExVar, Name: "x", Args: []impl.Expr{mark(1, hole(1))}}, impl.Expr{Kind: impl.ExVar, Name: "x", Args: []impl.Expr{hole(1)}}, 1},
		{impl.Expr{}, impl.Expr{}, 0},
	} {
		if got := impl.EraseMarks(c.e); exactExpr(got) != exactExpr(c.want) {
			t.Errorf("EraseMarks(%s) = %s", exactExpr(c.e), exactExpr(got))
		}
		if got := impl.CountMarks(c.e); got != c.marks {
			t.Errorf("CountMarks(%s) = %d", exactExpr(c.e), got)
		}
	}
	deep := variable("x")
	for range 200000 {
		deep = mark(1, ex(impl.ExFst, deep))
	}
	if impl.CountMarks(deep) != 200000 || impl.CountMarks(impl.EraseMarks(deep)) != 0 || impl.DepthOf(impl.EraseMarks(deep)) != 200001 {
		t.Error("the marks of a deep expression")
	}
	r := rand.New(rand.NewSource(100))
	for range 3000 {
		e := randomExpr(r, true)
		got := impl.EraseMarks(e)
		if impl.CountMarks(e) != strings.Count(exprWords(e), "{") || !impl.IsRaw(got) || impl.SizeOf(got) != impl.SizeOf(e) {
			t.Fatalf("EraseMarks(%s) = %s", exprWords(e), exprWords(got))
		}
	}
}

func TestRemark(t *testing.T) {
	ctx := scopeForTyping()
	for s, want := range map[string]string{
		"1":                         "1",
		"{1 1}":                     "1",
		"{7 q}":                     "{1 q}",
		"q":                         "{1 q}",
		"(1+#t)":                    "(1+{1 #t})",
		"({9 1}+{3 #t})":            "(1+{1 #t})",
		"({1 q}+?1)":                "({2 q}+?1)",
		"{1 ({2 q}+(1+{3 ?2}))}":    "({1 q}+(1+?2))",
		"{4 (if {5 b} {6 1} #t)}":   "(if b 1 {1 #t})",
		`({1 (\x:B.{2 x})}:(N>B))`:  `({1 (\x:B.x)}:(N>B))`,
		`(\x:N.{1 (x+{2 (f #t)})})`: `(\x:N.(x+{1 (f {2 #t})}))`,
	} {
		if got := impl.Remark(ctx, readExpr(s)); exprWords(got) != want {
			t.Errorf("Remark(%s) = %s, want %s", s, exprWords(got), want)
		}
	}
}

// leastNumbers returns HolesIn with the numbers that the marks have to have.
func leastNumbers(e impl.Expr) []int {
	var taken, want []int
	var kinds []bool
	var look func(e impl.Expr)
	look = func(e impl.Expr) {
		if e.Kind == impl.ExHole {
			taken = append(taken, e.N)
		}
		if e.Kind == impl.ExHole || e.Kind == impl.ExMark {
			want, kinds = append(want, e.N), append(kinds, e.Kind == impl.ExMark)
		}
		for _, arg := range e.Args {
			look(arg)
		}
	}
	look(e)
	for i := range want {
		if kinds[i] {
			n := 1
			for slices.Contains(taken, n) {
				n++
			}
			want[i], taken = n, append(taken, n)
		}
	}
	return want
}

// needlessMark reports whether the expression would stay well-typed, with the
// same type, without one of its marks: then the mark was put for nothing.
func needlessMark(ctx []impl.Typing, e impl.Expr, own string) bool {
	for i := range impl.CountMarks(e) {
		left := i
		var drop func(e impl.Expr) impl.Expr
		drop = func(e impl.Expr) impl.Expr {
			if e.Kind == impl.ExMark {
				left--
				if left == -1 {
					return drop(e.Args[0])
				}
			}
			var args []impl.Expr
			for _, arg := range e.Args {
				args = append(args, drop(arg))
			}
			e.Args = args
			return e
		}
		if got, ok := impl.SynthType(ctx, drop(e)); ok && typeWords(got) == own {
			return true
		}
	}
	return false
}

func TestPromiseOfMarking(t *testing.T) {
	r := rand.New(rand.NewSource(101))
	ctx := typings("x", "N", "y", "B", "z", "?", "f", "(N>B)", "w", "(N*B)")
	clean, marked := 0, 0
	for i := range 20000 {
		e := randomExpr(r, false)
		if i%2 == 0 {
			e = impl.EraseMarks(typedExpr(r, ctx, randomType(r, 3), 1+r.Intn(4)))
		}
		if !impl.IsRaw(e) {
			continue
		}
		got, own := impl.MarkExpr(ctx, e)
		synthesized, ok := impl.SynthType(ctx, got)
		if !ok || typeWords(synthesized) != typeWords(own) {
			t.Fatalf("MarkExpr(%s) = %s, %s", exprWords(e), exprWords(got), typeWords(own))
		}
		if exprWords(impl.EraseMarks(got)) != exprWords(e) || exprWords(impl.Remark(ctx, got)) != exprWords(got) {
			t.Fatalf("%s is not the same without and with its marks", exprWords(got))
		}
		if typed := impl.IsWellTyped(ctx, e); typed != (impl.CountMarks(got) == 0) || typed != (exprWords(got) == exprWords(e)) {
			t.Fatalf("%s is well-typed: %v, and is marked as %s", exprWords(e), typed, exprWords(got))
		}
		if numbers := impl.HolesIn(got); !slices.Equal(numbers, leastNumbers(got)) {
			t.Fatalf("the numbers %v in %s", numbers, exprWords(got))
		}
		if needlessMark(ctx, got, typeWords(own)) {
			t.Fatalf("%s has a mark for nothing", exprWords(got))
		}
		if impl.CountMarks(got) == 0 {
			clean++
		} else {
			marked++
		}
	}
	if clean < 2000 || marked < 2000 {
		t.Error("too few expressions of one sort", clean, marked)
	}
}

func TestMarkingSharesNoMemory(t *testing.T) {
	r := rand.New(rand.NewSource(102))
	ctx := roomyCtx(typings("x", "N", "y", "B", "z", "((N*B)>(B>N))", "f", "(N>(B>B))"))
	beforeCtx := wholeCtx(ctx)
	for range 2000 {
		e, m := roomyExpr(randomExpr(r, false)), roomyExpr(randomExpr(r, true))
		before, beforeMarked := wholeExpr(e), wholeExpr(m)
		got, own := impl.MarkExpr(ctx, e)
		text, ownText := exactExpr(got), typeWords(own)
		again, ownAgain := impl.MarkExpr(ctx, e)
		spoilType(ownAgain)
		if exactExpr(again) != text || typeWords(own) != ownText {
			t.Fatal("results of MarkExpr share memory")
		}
		spoilExpr(again)
		spoilExpr(impl.EraseMarks(m))
		spoilExpr(impl.Remark(ctx, m))
		_ = impl.CountMarks(m)
		if exactExpr(got) != text {
			t.Fatal("two results of MarkExpr share memory")
		}
		spoilExpr(got)
		if wholeExpr(e) != before || wholeExpr(m) != beforeMarked || wholeCtx(ctx) != beforeCtx {
			t.Fatal("an argument was changed")
		}
	}
	for _, s := range []string{"z", "f", `(\x:(N>N).x)`, "(1:(N*(N*N)))", "(f 1)", "(z,z)", "(if y z f)", "(f z)", `(\x:(N>B).(if y x q))`, "(fst (f,z))"} {
		e := roomyExpr(readExpr(s))
		before := wholeExpr(e)
		got, own := impl.MarkExpr(ctx, e)
		text := exactExpr(got)
		spoilType(own)
		if exactExpr(got) != text {
			t.Errorf("both results of MarkExpr(%s) share memory", s)
		}
		spoilExpr(got)
		if wholeExpr(e) != before || wholeCtx(ctx) != beforeCtx {
			t.Errorf("a result of MarkExpr(%s) shares memory with an argument", s)
		}
	}
}
