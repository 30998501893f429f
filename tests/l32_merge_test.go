package tests

import (
	"math/rand"
	"slices"
	"strings"
	"testing"

	"loop.example/g00585/impl"
)

// Promise 32: a merge without conflicts does not depend on the sides.

// conflictWords writes conflicts as "OURS/THEIRS".
func conflictWords(list []impl.Conflict) string {
	var words []string
	for _, c := range list {
		words = append(words, pathWords(c.Ours)+"/"+pathWords(c.Theirs))
	}
	return strings.Join(words, " ")
}

// merges has a base, two sides, the merge and the conflicts.
var merges = []struct{ base, a, b, merged, conflicts string }{
	{"(1+2)", "(3+2)", "(1+4)", "(3+4)", ""},
	{"(1+2)", "(3+2)", "(5+4)", "(3+4)", "0/0"},
	// sides that change nothing
	{"(1+2)", "(1+2)", "(1+2)", "(1+2)", ""},
	{"(1+2)", "(3+2)", "(1+2)", "(3+2)", ""},
	{"(1+2)", "(1+2)", "(3+2)", "(3+2)", ""},
	{"(1+2)", "(1+2)", "x", "x", ""},
	{"(1+2)", "x", "(1+2)", "x", ""},
	// equal changes
	{"(1+2)", "(3+2)", "(3+2)", "(3+2)", ""},
	{"(1+2)", "x", "x", "x", ""},
	{"(1+2)", "(3+4)", "(3+5)", "(3+4)", "1/1"},
	{"(1+2)", "(1<2)", "(1<2)", "(1<2)", ""},
	{"((1,2),(3,4))", "((5,2),(6,4))", "((5,7),(6,4))", "((5,7),(6,4))", ""},
	// changes of the same node
	{"x", "y", "z", "y", "-/-"},
	{"(1+2)", "(1<2)", "(1,2)", "(1<2)", "-/-"},
	{`(\x:N.x)`, `(\y:N.y)`, `(\x:B.x)`, `(\y:N.y)`, "-/-"},
	// a change within the other one
	{"(1+2)", "x", "(1+4)", "x", "-/1"},
	{"(1+2)", "(1+4)", "x", "(1+4)", "1/-"},
	{"(1+2)", "x", "(3+4)", "x", "-/0 -/1"},
	{"(1+2)", "(3+4)", "x", "(3+4)", "0/- 1/-"},
	{"((1,2)+3)", "(x+3)", "((1,4)+3)", "(x+3)", "0/0.1"},
	{"((1,2)+3)", "((1,4)+3)", "(x+3)", "((1,4)+3)", "0.1/0"},
	{"((1,2)+3)", "((4,5)+3)", "(x+7)", "((4,5)+7)", "0.0/0 0.1/0"},
	{"(if (fst (1,2)) 3 4)", "(if x 3 4)", "(if (fst (5,6)) 3 7)", "(if x 3 7)", "0/0.0.0 0/0.0.1"},
	// several conflicts, beside changes that are in none
	{"(if 1 2 3)", "(if 4 5 6)", "(if 7 8 9)", "(if 4 5 6)", "0/0 1/1 2/2"},
	{"(if 1 2 3)", "(if 4 2 6)", "(if 7 8 6)", "(if 4 8 6)", "0/0"},
	{"((1,2),(3,4))", "(x,(5,4))", "((6,7),(8,9))", "(x,(5,9))", "0/0.0 0/0.1 1.0/1.0"},
	{"((1,2),(3,4))", "((6,7),(8,9))", "(x,(5,4))", "((6,7),(8,9))", "0.0/0 0.1/0 1.0/1.0"},
	{"(1,(2,(3,4)))", "(5,(2,x))", "(6,(7,(8,4)))", "(5,(7,x))", "0/0 1.1/1.1.0"},
	// with holes and marks
	{"(?1+?2)", "(1+?2)", "(?1+2)", "(1+2)", ""},
	{"(?1+?2)", "(?3+?2)", "(?1+?3)", "(?3+?3)", ""},
	{"{1 (1+2)}", "{1 (3+2)}", "{1 (1+4)}", "{1 (3+4)}", ""},
	{"{1 (1+2)}", "{2 (1+2)}", "{1 (1+4)}", "{2 (1+2)}", "-/0.1"},
	// marks that are changed
	{"{1 (1,2)}", "{1 x}", "{1 y}", "{1 x}", "0/0"},
	{"(fst {1 x})", "(fst {1 y})", "(fst x)", "(fst {1 y})", "0.0/0"},
}

func TestConflictsOf(t *testing.T) {
	for _, c := range merges {
		if got := conflictWords(impl.ConflictsOf(readExpr(c.base), readExpr(c.a), readExpr(c.b))); got != c.conflicts {
			t.Errorf("ConflictsOf(%s, %s, %s) = %s, want %s", c.base, c.a, c.b, got, c.conflicts)
		}
	}
	// Expressions that are not valid.
	one, two, three := constant(1), constant(2), constant(3)
	wide := func(e impl.Expr) impl.Expr { return ex(77, one, one, one, one, one, one, one, one, one, one, one, e) }
	for _, c := range []struct {
		base, a, b impl.Expr
		want       string
	}{
		{impl.Expr{}, one, two, "-/-"}, {impl.Expr{}, one, one, ""}, {impl.Expr{}, impl.Expr{}, one, ""}, {one, impl.Expr{}, two, "-/-"}, {wide(one), wide(two), wide(three), "11/11"}, {wide(ex(77, one)), wide(ex(77, two)), wide(three), "11.0/11"},
		{ex(77, one, wide(one)), ex(77, two, wide(one)), ex(77, one, wide(two)), ""},
		{ex(77, one, one), ex(77, one), ex(77, one, two), "-/1"}, {mark(1, mark(2, one)), mark(1, mark(2, two)), mark(1, mark(3, one)), "0.0/0"},
	} {
		if got := conflictWords(impl.ConflictsOf(c.base, c.a, c.b)); got != c.want {
			t.Errorf("ConflictsOf(%s, %s, %s) = %s, want %s", exactExpr(c.base), exactExpr(c.a), exactExpr(c.b), got, c.want)
		}
	}
	deep := impl.ConflictsOf(chainExpr(100000, one), chainExpr(100000, two), chainExpr(100000, three))
	if len(deep) != 1 || len(deep[0].Ours) != 99999 || len(deep[0].Theirs) != 99999 {
		t.Error("conflicts in deep expressions")
	}
}

func TestMergeExpr(t *testing.T) {
	for _, c := range merges {
		base, a, b := readExpr(c.base), readExpr(c.a), readExpr(c.b)
		if got, ok := impl.MergeExpr(base, a, b); !ok || exactExpr(got) != exactExpr(readExpr(c.merged)) {
			t.Errorf("MergeExpr(%s, %s, %s) = %s, %v, want %s", c.base, c.a, c.b, exactExpr(got), ok, c.merged)
		}
		if got := impl.IsCleanMerge(base, a, b); got != (c.conflicts == "") {
			t.Errorf("IsCleanMerge(%s, %s, %s) is %v", c.base, c.a, c.b, got)
		}
	}
}

func checkNoMerge(t *testing.T, what string, base, a, b impl.Expr) {
	t.Helper()
	if got, ok := impl.MergeExpr(base, a, b); ok || exactExpr(got) != exactExpr(impl.Expr{}) {
		t.Errorf("%s: the merge is %s, %v", what, exactExpr(got), ok)
	}
	if impl.IsCleanMerge(base, a, b) {
		t.Errorf("%s: the merge is clean", what)
	}
}

func TestMergesThatFail(t *testing.T) {
	x := readExpr("(1+2)")
	for what, wrong := range wrongExprs() {
		checkNoMerge(t, what+" as the base", wrong, x, x)
		checkNoMerge(t, what+" as a side", x, wrong, x)
		checkNoMerge(t, what+" as the other side", x, x, wrong)
		checkNoMerge(t, what+" everywhere", wrong, wrong, wrong)
	}
	// A result at the limits and above them.
	pair := func(a, b impl.Expr) impl.Expr { return ex(impl.ExPair, a, ex(impl.ExFst, b)) }
	one := constant(1)
	for _, c := range []struct {
		a, b int
		fits bool
	}{{19, 19, true}, {19, 21, false}, {21, 17, true}, {21, 19, false}, {37, 1, true}, {37, 3, false}} {
		base, a, b := pair(one, one), pair(sumOf(c.a), one), pair(one, sumOf(c.b))
		got, ok := impl.MergeExpr(base, a, b)
		if ok != c.fits || ok && exactExpr(got) != exactExpr(pair(sumOf(c.a), sumOf(c.b))) {
			t.Errorf("a merge of %d and %d nodes: %v", c.a, c.b, ok)
		}
		if !c.fits {
			checkNoMerge(t, "a large result", base, a, b)
		}
		if clean := impl.IsCleanMerge(base, a, b); clean != c.fits {
			t.Errorf("a merge of %d and %d nodes is clean: %v", c.a, c.b, clean)
		}
	}
	for depth := range 13 {
		base := ex(impl.ExPair, one, hole(1))
		if !impl.IsCleanMerge(base, ex(impl.ExPair, chainExpr(max(depth, 1), one), hole(1)), ex(impl.ExPair, one, chainExpr(2, one))) != (depth > 11) {
			t.Errorf("a merge of the depth %d", depth)
		}
	}
	// A mark that changes its number.
	base := readExpr("{1 (fst 1)}")
	if got, ok := impl.MergeExpr(base, readExpr("{2 (fst 1)}"), readExpr("{1 (fst 2)}")); !ok || exprWords(got) != "{2 (fst 1)}" {
		t.Error("a mark that changes its number", exactExpr(got))
	}
}

func TestEqualConflicts(t *testing.T) {
	conflict := func(ours, theirs string) impl.Conflict {
		return impl.Conflict{Ours: readPath(ours), Theirs: readPath(theirs)}
	}
	one, two := conflict("0", "1"), conflict("1", "0")
	lists := [][]impl.Conflict{nil, {one}, {two}, {one, two}, {two, one}, {one, one}, {conflict("0", "-")}, {conflict("-", "1")}, {conflict("-", "-")}, {conflict("0.0", "1")}, {conflict("0", "1.1")}, {conflict("-1", "1")}, {conflict("-", "-"), conflict("-", "-")}}
	for i, a := range lists {
		for j, b := range lists {
			if got := impl.EqualConflicts(a, b); got != (i == j) {
				t.Errorf("EqualConflicts(%s, %s) is %v", conflictWords(a), conflictWords(b), got)
			}
		}
	}
	if !impl.EqualConflicts(nil, []impl.Conflict{}) || !impl.EqualConflicts([]impl.Conflict{{Ours: []int{}, Theirs: []int{}}}, []impl.Conflict{{}}) || !impl.EqualConflicts([]impl.Conflict{{Ours: roomyPath([]int{1})}}, []impl.Conflict{{Ours: []int{1}}}) {
		t.Error("empty slices are not equal to nil, or a copy is different")
	}
}

// plainConflicts compares each change of one side with each one of the other.
func plainConflicts(base, a, b impl.Expr) ([]impl.Conflict, []impl.Change) {
	var list []impl.Conflict
	kept := impl.DiffExpr(base, a)
	for _, one := range impl.DiffExpr(base, a) {
		for _, two := range impl.DiffExpr(base, b) {
			near := impl.IsWithin(one.Path, two.Path) || impl.IsWithin(two.Path, one.Path)
			if near && changeWords([]impl.Change{one}) != changeWords([]impl.Change{two}) {
				list = append(list, impl.Conflict{Ours: one.Path, Theirs: two.Path})
			}
		}
	}
	for _, two := range impl.DiffExpr(base, b) {
		if !slices.ContainsFunc(list, func(c impl.Conflict) bool { return slices.Equal(c.Theirs, two.Path) }) {
			kept = append(kept, two)
		}
	}
	return list, kept
}

func TestPromiseOfMerging(t *testing.T) {
	r := rand.New(rand.NewSource(320))
	clean, unclean, several := 0, 0, 0
	for range 10000 {
		base := randomExpr(r, true)
		a, b := varied(r, base), varied(r, base)
		if r.Intn(4) == 0 {
			b = varied(r, a)
		}
		conflicts, kept := plainConflicts(base, a, b)
		if got := impl.ConflictsOf(base, a, b); conflictWords(got) != conflictWords(conflicts) {
			t.Fatalf("ConflictsOf(%s, %s, %s) = %s, want %s", exactExpr(base), exactExpr(a), exactExpr(b), conflictWords(got), conflictWords(conflicts))
		}
		want, _ := impl.ApplyChanges(base, kept)
		valid := impl.IsValidExpr(a) && impl.IsValidExpr(b) && impl.IsValidExpr(want)
		got, ok := impl.MergeExpr(base, a, b)
		if !valid {
			checkNoMerge(t, "random expressions", base, a, b)
			continue
		}
		if !ok || exactExpr(got) != exactExpr(want) {
			t.Fatalf("MergeExpr(%s, %s, %s) = %s, %v", exprWords(base), exprWords(a), exprWords(b), exactExpr(got), ok)
		}
		if len(conflicts) > 1 {
			several++
		}
		if impl.IsCleanMerge(base, a, b) != (len(conflicts) == 0) {
			t.Fatalf("IsCleanMerge(%s, %s, %s)", exprWords(base), exprWords(a), exprWords(b))
		}
		if len(conflicts) > 0 {
			unclean++
			continue
		}
		clean++
		if other, ok := impl.MergeExpr(base, b, a); !ok || exactExpr(other) != exactExpr(got) || !impl.IsCleanMerge(base, b, a) {
			t.Fatalf("the merge of %s, %s and %s depends on the sides", exprWords(base), exprWords(a), exprWords(b))
		}
		if same, _ := impl.MergeExpr(base, a, a); exactExpr(same) != exactExpr(a) {
			t.Fatalf("the merge of equal sides %s is %s", exprWords(a), exactExpr(same))
		}
	}
	if clean < 1000 || unclean < 1000 || several < 100 {
		t.Error("too few merges of one sort", clean, unclean, several)
	}
}

func spoilConflicts(t *testing.T, list []impl.Conflict) {
	t.Helper()
	for i, c := range list {
		rest, theirs := conflictWords(list[i+1:]), pathWords(c.Theirs)
		spoilPath(c.Ours)
		if pathWords(c.Theirs) != theirs {
			t.Fatal("the paths of a conflict share memory")
		}
		spoilPath(c.Theirs)
		if conflictWords(list[i+1:]) != rest {
			t.Fatal("two conflicts share memory")
		}
	}
	for i := range list[:cap(list)] {
		list[:cap(list)][i] = impl.Conflict{Ours: []int{-99}}
	}
}

func TestMergingSharesNoMemory(t *testing.T) {
	r := rand.New(rand.NewSource(321))
	for range 1000 {
		base := roomyExpr(randomExpr(r, true))
		a, b := roomyExpr(varied(r, base)), roomyExpr(varied(r, base))
		before := wholeExpr(base) + wholeExpr(a) + wholeExpr(b)
		one := impl.ConflictsOf(base, a, b)
		text := conflictWords(one)
		spoilConflicts(t, impl.ConflictsOf(base, a, b))
		if conflictWords(one) != text {
			t.Fatal("two lists of conflicts share memory")
		}
		spoilConflicts(t, one)
		merged, _ := impl.MergeExpr(base, a, b)
		text = exactExpr(merged)
		if exprPartsShare(merged) {
			t.Fatal("parts of a merge share memory")
		}
		other, _ := impl.MergeExpr(base, a, b)
		spoilExpr(other)
		if exactExpr(merged) != text {
			t.Fatal("two merges share memory")
		}
		spoilExpr(merged)
		_ = impl.IsCleanMerge(base, a, b)
		if wholeExpr(base)+wholeExpr(a)+wholeExpr(b) != before {
			t.Fatal("an argument was changed")
		}
	}
}
