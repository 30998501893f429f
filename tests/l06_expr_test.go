package tests

import (
	"math/rand"
	"slices"
	"strings"
	"testing"

	"loop.example/g00585/impl"
)

// Promise 6: raw expressions have no marks.

func TestExprConstants(t *testing.T) {
	if impl.MaxSize != 40 || impl.MaxDepth != 12 || impl.MaxHole != 99 || impl.MaxNumber != 999 {
		t.Error("limits")
	}
	kinds := []int{impl.ExHole, impl.ExVar, impl.ExLam, impl.ExAp, impl.ExNum, impl.ExAdd, impl.ExLess, impl.ExBool,
		impl.ExIf, impl.ExPair, impl.ExFst, impl.ExSnd, impl.ExAsc, impl.ExMark}
	for i, kind := range kinds {
		if kind != i+1 {
			t.Errorf("kind %d has the number %d", i+1, kind)
		}
	}
}

func TestArityOf(t *testing.T) {
	for kind, e := range oneOfEach() {
		if got := impl.ArityOf(kind); got != len(e.Args) {
			t.Errorf("ArityOf(%d) = %d", kind, got)
		}
	}
	for _, kind := range []int{0, -1, -14, 15, 16, 100, 1 << 40, -1 << 63, 1<<63 - 1} {
		if got := impl.ArityOf(kind); got != -1 {
			t.Errorf("ArityOf(%d) = %d", kind, got)
		}
	}
}

func TestSizeAndDepthOfExpressions(t *testing.T) {
	one, sum := constant(1), ex(impl.ExAdd, constant(1), variable("x"))
	for _, c := range []struct {
		e           impl.Expr
		size, depth int
	}{
		{hole(1), 1, 1},
		{one, 1, 1},
		{sum, 3, 2},
		{function("x", fullType(4), sum), 4, 3},
		{stated(sum, fullType(4)), 4, 3},
		{ex(impl.ExIf, boolean(1), sum, ex(impl.ExFst, ex(impl.ExSnd, sum))), 10, 5},
		{ex(impl.ExAp, ex(impl.ExFst, ex(impl.ExSnd, sum)), one), 7, 5},
		{mark(1, one), 1, 1},
		{mark(1, sum), 3, 2},
		{ex(impl.ExAdd, mark(1, one), mark(2, sum)), 5, 3},
		{mark(1, ex(impl.ExFst, mark(2, ex(impl.ExSnd, mark(3, one))))), 3, 3},
		{mark(1, mark(2, one)), 1, 1},
		{ex(impl.ExMark), 0, 0},
		{ex(impl.ExFst, ex(impl.ExMark)), 1, 1},
		{mark(1, ex(impl.ExMark)), 0, 0},
		{ex(impl.ExMark, one, sum), 4, 2},
		{ex(impl.ExMark, sum, one), 4, 2},
		{impl.Expr{}, 1, 1},
		{ex(15, one), 2, 2},
		{ex(-3, sum, one, ex(impl.ExVar, one)), 7, 3},
		{ex(impl.ExNum, one), 2, 2},
		{chainExpr(5000, sum), 5002, 5001},
	} {
		if size, depth := impl.SizeOf(c.e), impl.DepthOf(c.e); size != c.size || depth != c.depth {
			t.Errorf("%s has the size %d and the depth %d, want %d and %d", exactExpr(c.e)[:20], size, depth, c.size, c.depth)
		}
	}
}

func TestEveryKindIsValid(t *testing.T) {
	for kind, e := range oneOfEach() {
		if !impl.IsValidExpr(e) {
			t.Errorf("kind %d is not valid", kind)
		}
		if impl.IsRaw(e) != (kind != impl.ExMark) {
			t.Errorf("wrong answer of IsRaw for the kind %d", kind)
		}
		e.Type.Args = append([]impl.Type{}, e.Type.Args...)
		e.Args = append([]impl.Expr{}, e.Args...)
		if !impl.IsValidExpr(e) {
			t.Errorf("kind %d with empty slices is not valid", kind)
		}
	}
}

func TestWrongExpressionsAreNotValid(t *testing.T) {
	for what, e := range wrongExprs() {
		for where, whole := range map[string]impl.Expr{
			"alone":         e,
			"in a function": function("x", number(), e),
			"in a mark":     mark(1, e),
			"first":         ex(impl.ExPair, e, constant(1)),
			"last":          ex(impl.ExIf, boolean(1), constant(1), e),
		} {
			if impl.IsValidExpr(whole) || impl.IsRaw(whole) || impl.IsCompleteExpr(whole) {
				t.Errorf("%s (%s) is accepted", what, where)
			}
		}
	}
}

func TestLimitsOfExpressions(t *testing.T) {
	inMarks := constant(1)
	for range 12 {
		inMarks = mark(1, ex(impl.ExFst, inMarks))
	}
	markedLeaves := func(size int) impl.Expr {
		e := sumOf(size)
		var put func(e impl.Expr) impl.Expr
		put = func(e impl.Expr) impl.Expr {
			for i := range e.Args {
				e.Args[i] = put(e.Args[i])
			}
			return mark(impl.MaxHole, e)
		}
		return put(e)
	}
	for _, c := range []struct {
		what  string
		e     impl.Expr
		valid bool
	}{
		{"hole 1", hole(1), true},
		{"hole 99", hole(99), true},
		{"hole 100", hole(100), false},
		{"mark 99", mark(99, hole(99)), true},
		{"mark 100", mark(100, hole(99)), false},
		{"number 0", constant(0), true},
		{"number 999", constant(999), true},
		{"number 1000", constant(1000), false},
		{"depth 12", chainExpr(12, variable("x")), true},
		{"depth 13", chainExpr(13, variable("x")), false},
		{"depth 12 in marks", inMarks.Args[0].Args[0], true},
		{"depth 13 in marks", inMarks, false},
		{"size 39", sumOf(39), true},
		{"size 40", ex(impl.ExFst, sumOf(39)), true},
		{"size 41", sumOf(41), false},
		{"size 41 in another form", ex(impl.ExSnd, ex(impl.ExFst, sumOf(39))), false},
		{"size 39 with 39 marks", markedLeaves(39), true},
		{"size 41 with 41 marks", markedLeaves(41), false},
		{"note of 15 nodes", stated(hole(1), fullType(4)), true},
		{"type of 17 nodes", stated(hole(1), largeType(17)), false},
		{"note of depth 5", function("x", chainType(5, truth()), hole(1)), true},
		{"type of depth 6", function("x", chainType(6, truth()), hole(1)), false},
		{"name of 5 bytes", variable("abcde"), true},
		{"name of 6 bytes", variable("abcdef"), false},
		{"a mark further inside", mark(1, ex(impl.ExFst, mark(2, hole(1)))), true},
		{"marks side by side", ex(impl.ExAdd, mark(1, hole(1)), mark(1, hole(1))), true},
	} {
		if impl.IsValidExpr(c.e) != c.valid {
			t.Errorf("%s: valid is %v", c.what, !c.valid)
		}
	}
}

// An expression of very many nodes is rejected without looking at all of them.
func TestValidExprStopsAtTheLimits(t *testing.T) {
	shared := ex(impl.ExNum)
	for range 11 {
		shared = ex(impl.ExIf, shared, shared, shared)
	}
	for range 2000 {
		if impl.IsValidExpr(shared) || impl.IsRaw(shared) || impl.IsCompleteExpr(shared) {
			t.Fatal("an expression of 3^11 nodes is accepted")
		}
	}
	deep := chainExpr(300000, hole(1))
	marks := hole(1)
	for range 300000 {
		marks = mark(1, marks)
	}
	wide := impl.Expr{Kind: impl.ExPair, Args: make([]impl.Expr, 300000)}
	for _, e := range []impl.Expr{deep, marks, wide} {
		if impl.IsValidExpr(e) || impl.IsRaw(e) || impl.IsCompleteExpr(e) {
			t.Error("a deep or wide expression is accepted")
		}
	}
	if impl.DepthOf(deep) != 300000 || impl.SizeOf(marks) != 1 || len(impl.HolesIn(marks)) != 300001 {
		t.Error("the size of a deep expression")
	}
}

func TestRandomExpressionsAreValid(t *testing.T) {
	r := rand.New(rand.NewSource(12))
	raw := 0
	for i := range 5000 {
		e := randomExpr(r, i%2 == 1)
		if !impl.IsValidExpr(e) {
			t.Fatalf("%s is not valid", exprWords(e))
		}
		if impl.SizeOf(e) > impl.MaxSize || impl.DepthOf(e) > impl.MaxDepth {
			t.Fatalf("%s is valid, but too large", exprWords(e))
		}
		marked := strings.Contains(exprWords(e), "{")
		if impl.IsRaw(e) == marked {
			t.Fatalf("wrong answer of IsRaw for %s", exprWords(e))
		}
		if !marked {
			raw++
		}
	}
	if raw == 5000 || raw < 2500 {
		t.Error("the random expressions have no marks, or too many", raw)
	}
}

// In a valid expression, each change of one node to something that this kind
// does not allow makes it not valid.
func TestChangedExpressionsAreNotValid(t *testing.T) {
	r := rand.New(rand.NewSource(13))
	for i := range 5000 {
		e := randomExpr(r, i%2 == 1)
		n := anyNode(r, &e)
		switch r.Intn(5) {
		case 0:
			n.N = []int{-1, 1000, -1 << 63}[r.Intn(3)]
		case 1:
			n.Kind = []int{0, 15, -2}[r.Intn(3)]
		case 2:
			n.Name = []string{"X", "if", "x ", "abcdef", "\xff"}[r.Intn(5)]
		case 3:
			n.Type = impl.Type{Kind: 6}
		case 4:
			n.Args = append(n.Args, hole(1))
		}
		if impl.IsValidExpr(e) || impl.IsRaw(e) {
			t.Fatalf("an expression is valid after a wrong change: %s", exactExpr(e))
		}
	}
}

func TestHolesIn(t *testing.T) {
	for _, c := range []struct {
		e    impl.Expr
		want []int
	}{
		{constant(3), nil},
		{boolean(1), nil},
		{hole(7), []int{7}},
		{mark(7, constant(3)), []int{7}},
		{mark(7, hole(3)), []int{7, 3}},
		{ex(impl.ExAdd, hole(2), hole(1)), []int{2, 1}},
		{ex(impl.ExAdd, hole(2), hole(2)), []int{2, 2}},
		{ex(impl.ExIf, mark(5, ex(impl.ExLess, hole(4), mark(9, hole(4)))), hole(1), function("x", number(), hole(5))), []int{5, 4, 9, 4, 1, 5}},
		{hole(0), []int{0}},
		{hole(-8), []int{-8}},
		{ex(impl.ExMark), []int{0}},
		{impl.Expr{Kind: impl.ExMark, N: 3, Args: []impl.Expr{hole(1), hole(2)}}, []int{3, 1, 2}},
		{mark(1, mark(2, mark(1, constant(0)))), []int{1, 2, 1}},
		{ex(99, hole(4), constant(5), hole(6)), []int{4, 6}},
		{impl.Expr{Kind: impl.ExHole, N: 3, Args: []impl.Expr{hole(4)}}, []int{3, 4}},
		{impl.Expr{Kind: impl.ExVar, Name: "x", N: 9, Args: []impl.Expr{hole(4)}}, []int{4}},
		{impl.Expr{}, nil},
	} {
		if got := impl.HolesIn(c.e); !slices.Equal(got, c.want) {
			t.Errorf("HolesIn(%s) = %v, want %v", exactExpr(c.e), got, c.want)
		}
	}
}

func TestHolesInOrderOfTheText(t *testing.T) {
	r := rand.New(rand.NewSource(14))
	for range 3000 {
		e := randomExpr(r, true)
		text := exprWords(e)
		var want []int
		for i := range text {
			if text[i] != '{' && (text[i] != '?' || i+1 == len(text)) {
				continue
			}
			n := 0
			for j := i + 1; j < len(text) && text[j] >= '0' && text[j] <= '9'; j++ {
				n = 10*n + int(text[j]-'0')
			}
			if n > 0 {
				want = append(want, n)
			}
		}
		if got := impl.HolesIn(e); !slices.Equal(got, want) {
			t.Fatalf("HolesIn(%s) = %v", text, got)
		}
	}
}

func TestIsCompleteExpr(t *testing.T) {
	r := rand.New(rand.NewSource(15))
	complete := 0
	for i := range 5000 {
		e := randomExpr(r, i%3 == 2)
		if i%3 == 0 {
			e = function("x", arrow(number(), number()), ex(impl.ExAp, variable("x"), constant(r.Intn(9))))
		}
		want := !strings.ContainsAny(exprWords(e), "?{")
		if want {
			complete++
		}
		if got := impl.IsCompleteExpr(e); got != want {
			t.Fatalf("IsCompleteExpr(%s) is %v", exprWords(e), got)
		}
	}
	if complete < 1000 || complete > 4000 {
		t.Error("too few answers of one sort", complete)
	}
	for s, e := range map[string]impl.Expr{
		"a free variable": variable("q"),
		"an ill-typed":    ex(impl.ExAdd, constant(1), boolean(1)),
		"a stated type":   stated(constant(1), arrow(number(), truth())),
	} {
		if !impl.IsCompleteExpr(e) {
			t.Errorf("%s expression is not complete", s)
		}
	}
	for s, e := range map[string]impl.Expr{
		"hole":               hole(1),
		"mark":               mark(1, constant(1)),
		"stated unknown":     stated(constant(1), unknown()),
		"unknown parameter":  function("x", arrow(number(), unknown()), constant(1)),
		"unknown far inside": ex(impl.ExFst, ex(impl.ExPair, constant(1), stated(constant(1), couple(unknown(), number())))),
	} {
		if impl.IsCompleteExpr(e) {
			t.Errorf("%s: complete", s)
		}
	}
}

func TestEqualExpr(t *testing.T) {
	var list []impl.Expr
	for _, e := range oneOfEach() {
		list = append(list, e)
	}
	for _, e := range wrongExprs() {
		if impl.SizeOf(e) < 30 {
			list = append(list, e)
		}
	}
	r := rand.New(rand.NewSource(16))
	for range 50 {
		list = append(list, randomExpr(r, true))
	}
	for _, a := range list {
		for _, b := range list {
			if got := impl.EqualExpr(a, b); got != (exactExpr(a) == exactExpr(b)) {
				t.Fatalf("EqualExpr(%s, %s) is %v", exactExpr(a), exactExpr(b), got)
			}
		}
	}
	empty := impl.Expr{Kind: impl.ExNum, Args: []impl.Expr{}, Type: impl.Type{Args: []impl.Type{}}}
	if !impl.EqualExpr(empty, constant(0)) || !impl.EqualExpr(impl.Expr{}, impl.Expr{Args: []impl.Expr{}}) {
		t.Error("empty slices are not equal to nil")
	}
}

// Each field counts at each node.
func TestEqualExprLooksAtEverything(t *testing.T) {
	r := rand.New(rand.NewSource(17))
	for range 5000 {
		a := randomExpr(r, true)
		b := roomyExpr(a)
		if !impl.EqualExpr(a, b) {
			t.Fatalf("a copy of %s is not equal", exprWords(a))
		}
		n := anyNode(r, &b)
		switch r.Intn(5) {
		case 0:
			n.N++
		case 1:
			n.Kind++
		case 2:
			n.Name += "q"
		case 3:
			n.Type = arrow(n.Type, number())
		case 4:
			n.Args = append(n.Args, hole(1))
		}
		if impl.EqualExpr(a, b) || impl.EqualExpr(b, a) {
			t.Fatalf("%s is equal to %s", exactExpr(a), exactExpr(b))
		}
	}
}

func TestExpressionsAreKept(t *testing.T) {
	r := rand.New(rand.NewSource(18))
	for range 200 {
		e := roomyExpr(randomExpr(r, true))
		before := wholeExpr(e)
		_, _, _, _, _ = impl.SizeOf(e), impl.DepthOf(e), impl.IsValidExpr(e), impl.IsRaw(e), impl.IsCompleteExpr(e)
		holes := impl.HolesIn(e)
		for i := range holes[:cap(holes)] {
			holes[:cap(holes)][i] = -99
		}
		if !impl.EqualExpr(e, e) || wholeExpr(e) != before {
			t.Fatal("an expression was changed")
		}
	}
}
