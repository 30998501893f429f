package tests

import (
	"math/rand"
	"slices"
	"testing"

	"loop.example/g00585/impl"
)

// Promise 14: moves can be undone by moves.

func editOf(s, path string) impl.Edit { return impl.Edit{Expr: readExpr(s), Path: readPath(path)} }

// editWords writes any edit, so that different edits have different texts.
func editWords(s impl.Edit) string { return exactExpr(s.Expr) + " @" + pathWords(s.Path) }

// wrongEdits are none, each for one reason.
func wrongEdits() map[string]impl.Edit {
	wrong := map[string]impl.Edit{
		"the zero edit":       {},
		"a mark":              editOf("{1 x}", "-"),
		"a mark inside":       editOf("(1+{1 #t})", "0"),
		"on a mark":           editOf("(1+{1 #t})", "1"),
		"a path to nothing":   editOf("x", "0"),
		"a path too far":      editOf("(x+y)", "2"),
		"a negative path":     editOf("(x+y)", "-1"),
		"a path below a leaf": editOf("(x+(1,2))", "1.0.0"),
		"a path beside":       editOf(`(\x:N.(x+1))`, "1.0"),
	}
	for what, e := range wrongExprs() {
		if impl.SizeOf(e) < 1000 {
			wrong["the expression "+what] = impl.Edit{Expr: e}
			wrong["beside the expression "+what] = impl.Edit{Expr: ex(impl.ExPair, e, constant(1)), Path: []int{1}}
		}
	}
	return wrong
}

func TestIsEdit(t *testing.T) {
	e := `(if (x y) (\x:N.(x<?1)) ((1,2):?))`
	for _, path := range []string{"-", "0", "0.0", "0.1", "1", "1.0", "1.0.0", "1.0.1", "2", "2.0", "2.0.0", "2.0.1"} {
		if !impl.IsEdit(editOf(e, path)) {
			t.Errorf("%s is not accepted", path)
		}
	}
	for what, s := range wrongEdits() {
		if impl.IsEdit(s) {
			t.Errorf("%s is accepted", what)
		}
	}
	for _, e := range []impl.Expr{ex(impl.ExFst, sumOf(39)), chainExpr(12, hole(99))} {
		if !impl.IsEdit(impl.Edit{Expr: e, Path: []int{0}}) {
			t.Error("an expression at the limits is not accepted")
		}
	}
}

func TestStartEdit(t *testing.T) {
	s := impl.StartEdit()
	if editWords(s) != editWords(impl.Edit{Expr: hole(1)}) || !impl.IsEdit(s) || impl.EditText(s) != "?1 @-" {
		t.Error(editWords(s))
	}
}

// aMove is one of the moves, by its name.
type aMove struct {
	name string
	move func(s impl.Edit) (impl.Edit, bool)
}

func down(k int) aMove {
	return aMove{"MoveDown " + decimal(k), func(s impl.Edit) (impl.Edit, bool) { return impl.MoveDown(s, k) }}
}

func allMoves() []aMove {
	return []aMove{{"MoveUp", impl.MoveUp}, {"MoveNext", impl.MoveNext}, {"MovePrev", impl.MovePrev}, down(0), down(1), down(2), down(3), down(-1), down(1 << 40)}
}

// checkMove requires the path to which a move leads, or that it fails and
// leaves all as it is if want is empty.
func checkMove(t *testing.T, m aMove, s impl.Edit, want string) {
	t.Helper()
	fits, moved := want != "", s
	if fits {
		moved = impl.Edit{Expr: s.Expr, Path: readPath(want)}
	}
	got, ok := m.move(s)
	if ok != fits || editWords(got) != editWords(moved) {
		t.Errorf("%s of %s = %s, %v", m.name, editWords(s), editWords(got), ok)
	}
}

func TestMoves(t *testing.T) {
	const e = `(if (x y) (\x:N.(x<?1)) ((1,2):?))`
	up, next, prev := aMove{"MoveUp", impl.MoveUp}, aMove{"MoveNext", impl.MoveNext}, aMove{"MovePrev", impl.MovePrev}
	for _, c := range []struct{ at, up, next, prev, first, second, third string }{
		{"-", "", "0", "", "0", "1", "2"},
		{"0", "-", "0.0", "-", "0.0", "0.1", ""},
		{"0.0", "0", "0.1", "0", "", "", ""},
		{"0.1", "0", "1", "0.0", "", "", ""},
		{"1", "-", "1.0", "0.1", "1.0", "", ""},
		{"1.0", "1", "1.0.0", "1", "1.0.0", "1.0.1", ""},
		{"1.0.0", "1.0", "1.0.1", "1.0", "", "", ""},
		{"1.0.1", "1.0", "2", "1.0.0", "", "", ""},
		{"2", "-", "2.0", "1.0.1", "2.0", "", ""},
		{"2.0", "2", "2.0.0", "2", "2.0.0", "2.0.1", ""},
		{"2.0.0", "2.0", "2.0.1", "2.0", "", "", ""},
		{"2.0.1", "2.0", "", "2.0.0", "", "", ""},
	} {
		s := editOf(e, c.at)
		checkMove(t, up, s, c.up)
		checkMove(t, next, s, c.next)
		checkMove(t, prev, s, c.prev)
		checkMove(t, down(0), s, c.first)
		checkMove(t, down(1), s, c.second)
		checkMove(t, down(2), s, c.third)
		for _, k := range []int{3, 4, -1, -2, 1 << 40, -9223372036854775808, 9223372036854775807} {
			checkMove(t, down(k), s, "")
		}
	}
	for _, m := range allMoves() {
		checkMove(t, m, editOf("?1", "-"), "")
		for _, s := range wrongEdits() {
			checkMove(t, m, s, "")
		}
	}
}

func TestMovesFollowAllPaths(t *testing.T) {
	r := rand.New(rand.NewSource(140))
	for range 2000 {
		e := randomExpr(r, false)
		paths := pathsByHand(e)
		for i, at := range paths {
			before, after := "", ""
			if i > 0 {
				before = paths[i-1]
			}
			if i+1 < len(paths) {
				after = paths[i+1]
			}
			s := impl.Edit{Expr: e, Path: readPath(at)}
			checkMove(t, aMove{"MoveNext", impl.MoveNext}, s, after)
			checkMove(t, aMove{"MovePrev", impl.MovePrev}, s, before)
		}
	}
}

func TestPromiseOfCursors(t *testing.T) {
	r := rand.New(rand.NewSource(141))
	for range 2000 {
		e := randomExpr(r, false)
		paths := impl.AllPaths(e)
		s := impl.Edit{Expr: e, Path: paths[r.Intn(len(paths))]}
		node, ok := impl.UnderCursor(s)
		want, _ := impl.SubtermAt(e, s.Path)
		if !ok || exprWords(node) != exprWords(want) {
			t.Fatalf("UnderCursor(%s) = %s", editWords(s), exactExpr(node))
		}
		for k := range node.Args {
			moved, ok := impl.MoveDown(s, k)
			back, fine := impl.MoveUp(moved)
			if !ok || !fine || !impl.IsEdit(moved) || editWords(back) != editWords(s) {
				t.Fatalf("MoveDown(%s, %d) = %s", editWords(s), k, editWords(moved))
			}
		}
		if moved, ok := impl.MoveUp(s); ok {
			if back, fine := impl.MoveDown(moved, s.Path[len(s.Path)-1]); !fine || editWords(back) != editWords(s) {
				t.Fatalf("MoveUp(%s) = %s", editWords(s), editWords(moved))
			}
		}
		if moved, ok := impl.MoveNext(s); ok {
			if back, fine := impl.MovePrev(moved); !fine || editWords(back) != editWords(s) {
				t.Fatalf("MoveNext(%s) = %s", editWords(s), editWords(moved))
			}
		}
		if moved, ok := impl.MovePrev(s); ok {
			if back, fine := impl.MoveNext(moved); !fine || editWords(back) != editWords(s) {
				t.Fatalf("MovePrev(%s) = %s", editWords(s), editWords(moved))
			}
		}
	}
}

func TestUnderCursorAndText(t *testing.T) {
	for _, c := range []struct{ e, path, node, text string }{
		{"?1", "-", "?1", "?1 @-"},
		{"(if #t (1+2) x)", "1", "(1+2)", "(if #t (1+2) x) @1"},
		{"(if #t (1+2) x)", "1.1", "2", "(if #t (1+2) x) @1.1"},
		{"(if #t (1+2) x)", "-", "(if #t (1+2) x)", "(if #t (1+2) x) @-"},
		{`(\x:(N>?).(snd x))`, "0.0", "x", `(\x:(N>?).(snd x)) @0.0`},
	} {
		s := editOf(c.e, c.path)
		node, ok := impl.UnderCursor(s)
		if !ok || exprWords(node) != c.node || impl.EditText(s) != c.text {
			t.Errorf("%s: %s, %q", editWords(s), exactExpr(node), impl.EditText(s))
		}
	}
	for what, s := range wrongEdits() {
		node, ok := impl.UnderCursor(s)
		if ok || exactExpr(node) != exactExpr(impl.Expr{}) || impl.EditText(s) != "" {
			t.Errorf("%s: %s, %q", what, exactExpr(node), impl.EditText(s))
		}
	}
}

func TestEqualEdit(t *testing.T) {
	list := []impl.Edit{editOf("x", "-"), editOf("y", "-"), editOf("(x+y)", "-"), editOf("(x+y)", "0"), editOf("(x+y)", "1"), editOf("(x+y)", "0.0"), editOf("(x<y)", "0"), {Expr: readExpr("x"), Path: []int{-1}}}
	for _, s := range wrongEdits() {
		list = append(list, s)
	}
	for _, a := range list {
		for _, b := range list {
			if got := impl.EqualEdit(a, b); got != (editWords(a) == editWords(b)) {
				t.Errorf("EqualEdit(%s, %s) is %v", editWords(a), editWords(b), got)
			}
		}
	}
	if !impl.EqualEdit(impl.Edit{Expr: hole(1), Path: []int{}}, impl.StartEdit()) {
		t.Error("an empty path is not equal to nil")
	}
}

func roomyEdit(s impl.Edit) impl.Edit {
	return impl.Edit{Expr: roomyExpr(s.Expr), Path: roomyPath(s.Path)}
}

func wholeEdit(s impl.Edit) string { return wholeExpr(s.Expr) + " @" + wholePath(s.Path) }

func spoilEdit(s impl.Edit) {
	spoilExpr(s.Expr)
	spoilPath(s.Path)
}

// checkNothingShared requires that an edit that a function made shares no
// memory with its argument or with another result.
func checkNothingShared(t *testing.T, what string, s impl.Edit, do func(s impl.Edit) impl.Edit) {
	t.Helper()
	s = roomyEdit(s)
	before := wholeEdit(s)
	first, second := do(s), do(s)
	text := editWords(first)
	spoilEdit(second)
	if editWords(first) != text {
		t.Fatalf("two results of %s share memory", what)
	}
	spoilEdit(first)
	if wholeEdit(s) != before {
		t.Fatalf("%s shares memory with its argument, or changes it", what)
	}
}

func TestCursorsShareNoMemory(t *testing.T) {
	list := []impl.Edit{editOf("x", "-")}
	for _, path := range impl.AllPaths(readExpr(`(if (x y) (\x:(N>B).(x<?1)) ((1,2):(N*B)))`)) {
		list = append(list, editOf(`(if (x y) (\x:(N>B).(x<?1)) ((1,2):(N*B)))`, pathWords(path)))
	}
	for _, s := range wrongEdits() {
		list = append(list, s)
	}
	for _, s := range list {
		for _, m := range allMoves() {
			checkNothingShared(t, m.name, s, func(s impl.Edit) impl.Edit {
				moved, _ := m.move(s)
				return moved
			})
		}
		checkNothingShared(t, "UnderCursor", s, func(s impl.Edit) impl.Edit {
			_, _, _ = impl.EditText(s), impl.IsEdit(s), impl.EqualEdit(s, s)
			node, _ := impl.UnderCursor(s)
			return impl.Edit{Expr: node}
		})
	}
	start := impl.StartEdit()
	spoilEdit(start)
	if !slices.Equal(impl.StartEdit().Path, nil) || impl.EditText(impl.StartEdit()) != "?1 @-" {
		t.Error("StartEdit shares memory")
	}
}
