package tests

import (
	"math/rand"
	"slices"
	"strings"
	"testing"

	"loop.example/g00585/impl"
)

// Promise 15: actions lead to edits whose expressions can be marked.

func actionNames() []string {
	return strings.Fields("up down next prev delete var num bool lam ap add less pair if fst snd asc unwrap type name")
}

// readAction reads an action that is written as in the document.
func readAction(s string) impl.Action {
	words := strings.Fields(s)
	a := impl.Action{Kind: 1 + slices.Index(actionNames(), words[0])}
	for _, word := range words[1:] {
		switch {
		case strings.ContainsAny(word, "?NB"):
			a.Type = readType(word)
		case a.Kind == impl.AcVar || a.Kind == impl.AcLam || a.Kind == impl.AcName:
			a.Name = word
		default:
			a.N = readPath(word)[0]
		}
	}
	return a
}

// actionWords writes any action, so that different actions have different
// texts.
func actionWords(a impl.Action) string {
	return decimal(a.Kind) + " " + a.Name + " " + decimal(a.N) + " " + typeWords(a.Type)
}

// someActions has texts of actions of all kinds.
func someActions() []string {
	return []string{"up", "down 0", "down 1", "down 2", "next", "prev", "delete", "var x", "var abcde", "var z9", "num 0", "num 7", "num 999", "bool 0", "bool 1",
		"lam x N", "lam y1 (N>(B*?))", "ap", "add", "less", "pair", "if", "fst", "snd", "asc ?", "asc (N*N)", "unwrap 0", "unwrap 1", "unwrap 2",
		"type B", "type ((?>N)>B)", "name x", "name w"}
}

// wrongActions are none, each for one reason.
func wrongActions() map[string]impl.Action {
	wrong := map[string]impl.Action{
		"zero":          {},
		"kind -1":       {Kind: -1},
		"kind 21":       {Kind: 21},
		"kind 21 named": {Kind: 21, Name: "x"},
		"kind -2^63":    {Kind: -9223372036854775808},
		"down 3":        {Kind: impl.AcDown, N: 3},
		"down -1":       {Kind: impl.AcDown, N: -1},
		"unwrap 3":      {Kind: impl.AcUnwrap, N: 3},
		"unwrap -1":     {Kind: impl.AcUnwrap, N: -1},
		"num 1000":      {Kind: impl.AcNum, N: 1000},
		"num -1":        {Kind: impl.AcNum, N: -1},
		"bool 2":        {Kind: impl.AcBool, N: 2},
		"bool -1":       {Kind: impl.AcBool, N: -1},
	}
	for _, text := range someActions() {
		a := readAction(text)
		if !slices.Contains([]int{impl.AcDown, impl.AcUnwrap, impl.AcNum, impl.AcBool}, a.Kind) {
			for _, n := range []int{1, -1, 2} {
				wrong[text+" with a number "+decimal(n)] = impl.Action{Kind: a.Kind, Name: a.Name, N: n, Type: a.Type}
			}
		}
		names := []string{"x"}
		if a.Name != "" {
			names = []string{"", "if", "fst", "snd", "X", "abcdef", "1x", "x y", "\xff"}
		}
		for _, name := range names {
			wrong[text+" with the name "+name] = impl.Action{Kind: a.Kind, Name: name, N: a.N, Type: a.Type}
		}
		types := map[string]impl.Type{"a number": number(), "an unknown type": unknown(), "a type without kind": ty(0, number())}
		if a.Type.Kind != 0 {
			types = wrongTypes()
			types["no note by size"], types["no note by depth"] = largeType(17), chainType(6, number())
		}
		for what, x := range types {
			wrong[text+" with "+what] = impl.Action{Kind: a.Kind, Name: a.Name, N: a.N, Type: x}
		}
	}
	return wrong
}

func TestActionConstants(t *testing.T) {
	kinds := []int{impl.AcUp, impl.AcDown, impl.AcNext, impl.AcPrev, impl.AcDelete, impl.AcVar, impl.AcNum, impl.AcBool, impl.AcLam, impl.AcAp, impl.AcAdd,
		impl.AcLess, impl.AcPair, impl.AcIf, impl.AcFst, impl.AcSnd, impl.AcAsc, impl.AcUnwrap, impl.AcType, impl.AcName}
	if !slices.Equal(kinds, upTo(20)) {
		t.Error(kinds)
	}
}

func TestIsAction(t *testing.T) {
	for _, text := range someActions() {
		if !impl.IsAction(readAction(text)) {
			t.Errorf("%s is not accepted", text)
		}
	}
	for _, kind := range []int{impl.AcLam, impl.AcAsc, impl.AcType} {
		name := ""
		if kind == impl.AcLam {
			name = "x"
		}
		for _, note := range []impl.Type{fullType(4), largeType(15), chainType(5, truth()), unknown()} {
			if !impl.IsAction(impl.Action{Kind: kind, Name: name, Type: note}) {
				t.Errorf("%d: a note at the limits is not accepted: %s", kind, typeWords(note))
			}
		}
	}
	for what, a := range wrongActions() {
		if impl.IsAction(a) {
			t.Errorf("%s is accepted", what)
		}
	}
	if !impl.IsAction(impl.Action{Kind: impl.AcUp, Type: impl.Type{Args: []impl.Type{}}}) {
		t.Error("an empty slice is not taken for nil")
	}
}

// checkPerform requires the text of the edit to which an action leads, or that
// it is not possible and leaves all as it is if want is empty.
func checkPerform(t *testing.T, s impl.Edit, a impl.Action, want string) {
	t.Helper()
	fits := want != ""
	if !fits {
		want = editWords(s)
	} else {
		e, path, _ := strings.Cut(want, " @")
		want = editWords(editOf(e, path))
	}
	got, ok := impl.PerformAction(s, a)
	if ok != fits || editWords(got) != want {
		t.Errorf("PerformAction(%s, %s) = %s, %v", editWords(s), actionWords(a), editWords(got), ok)
	}
}

func TestPerformAction(t *testing.T) {
	for _, c := range []struct{ edit, action, want string }{
		// moves
		{"(x+y) @1", "up", "(x+y) @-"}, {"(x+y) @-", "up", ""},
		{"(if x y z) @-", "down 0", "(if x y z) @0"}, {"(if x y z) @-", "down 2", "(if x y z) @2"}, {"(x+y) @-", "down 2", ""}, {"x @-", "down 0", ""},
		{"(x+y) @0", "next", "(x+y) @1"}, {"(x+y) @1", "next", ""}, {"(x+y) @0", "prev", "(x+y) @-"}, {"(x+y) @-", "prev", ""},
		// delete
		{"x @-", "delete", "?1 @-"}, {"?1 @-", "delete", ""}, {"?7 @-", "delete", ""}, {"(x+5) @1", "delete", "(x+?1) @1"}, {"(?1+5) @1", "delete", "(?1+?2) @1"},
		{"(?1+?2) @-", "delete", "?3 @-"}, {"(?2+?3) @-", "delete", "?1 @-"}, {"(?1+(?3+?3)) @1", "delete", "(?1+?2) @1"}, {"(?1+?2) @0", "delete", ""},
		{`(\x:N.(x+1)) @0`, "delete", `(\x:N.?1) @0`}, {`((\x:N.?1),?3) @0`, "delete", `(?2,?3) @0`},
		// leaves
		{"?1 @-", "var x", "x @-"}, {"(?1+?2) @1", "var abcde", "(?1+abcde) @1"}, {"x @-", "var y", ""}, {"1 @-", "var y", ""}, {"(?1+?2) @-", "var y", ""},
		{"?1 @-", "num 0", "0 @-"}, {"(?1+?2) @0", "num 999", "(999+?2) @0"}, {"x @-", "num 1", ""}, {"1 @-", "num 1", ""}, {"(?1,?2) @-", "num 1", ""},
		{"?1 @-", "bool 1", "#t @-"}, {"(?1+?2) @0", "bool 0", "(#f+?2) @0"}, {"#t @-", "bool 1", ""}, {`(\x:N.?1) @-`, "bool 0", ""},
		// forms around the node
		{"?1 @-", "lam x N", `(\x:N.?1) @0`}, {"(x+y) @1", "lam y (N>?)", `(x+(\y:(N>?).y)) @1.0`}, {"(?1+2) @-", "lam x ?", `(\x:?.(?1+2)) @0`},
		{"?1 @-", "ap", "(?1 ?2) @1"}, {"x @-", "ap", "(x ?1) @1"}, {"(?2+x) @1", "ap", "(?2+(x ?1)) @1.1"}, {"(?1 ?2) @-", "ap", "((?1 ?2) ?3) @1"},
		{"?1 @-", "add", "(?1+?2) @1"}, {"5 @-", "add", "(5+?1) @1"}, {"(?1+?3) @0", "add", "((?1+?2)+?3) @0.1"},
		{"?1 @-", "less", "(?1<?2) @1"}, {"5 @-", "less", "(5<?1) @1"}, {"(?2+?4) @1", "less", "(?2+(?4<?1)) @1.1"},
		{"?1 @-", "pair", "(?1,?2) @1"}, {"5 @-", "pair", "(5,?1) @1"}, {"(?1+(?2+?2)) @1", "pair", "(?1+((?2+?2),?3)) @1.1"},
		{"?1 @-", "if", "(if ?1 ?2 ?3) @1"}, {"x @-", "if", "(if x ?1 ?2) @1"}, {"(?2+x) @1", "if", "(?2+(if x ?1 ?3)) @1.1"}, {"(?1+?3) @1", "if", "(?1+(if ?3 ?2 ?4)) @1.1"},
		{"(?3+?3) @-", "if", "(if (?3+?3) ?1 ?2) @1"}, {"(?1+?2) @0", "if", "((if ?1 ?3 ?4)+?2) @0.1"}, {"(?98+?99) @1", "if", "(?98+(if ?99 ?1 ?2)) @1.1"},
		{"?1 @-", "fst", "(fst ?1) @-"}, {"(x,y) @1", "fst", "(x,(fst y)) @1"}, {"?1 @-", "snd", "(snd ?1) @-"}, {"(x,y) @0", "snd", "((snd x),y) @0"},
		{"?1 @-", "asc ?", "(?1:?) @-"}, {"(x,y) @0", "asc (N>B)", "((x:(N>B)),y) @0"}, {"((x:N):B) @0", "asc ?", "(((x:N):?):B) @0"},
		// unwrap
		{"(x+y) @-", "unwrap 0", "x @-"}, {"(x+y) @-", "unwrap 1", "y @-"}, {"(x+y) @-", "unwrap 2", ""}, {"(if x y z) @-", "unwrap 2", "z @-"},
		{`(1+(\x:N.(x+2))) @1`, "unwrap 0", "(1+(x+2)) @1"}, {`(\x:N.x) @-`, "unwrap 1", ""}, {"x @-", "unwrap 0", ""}, {"?1 @-", "unwrap 0", ""}, {"5 @-", "unwrap 0", ""},
		{"(1+(fst ?5)) @1", "unwrap 0", "(1+?5) @1"}, {"((x:N),y) @0", "unwrap 0", "(x,y) @0"},
		// types and names
		{`(\x:N.x) @-`, "type B", `(\x:B.x) @-`}, {"(x:N) @-", "type (N>?)", "(x:(N>?)) @-"}, {`(\x:N.x) @0`, "type B", ""}, {"x @-", "type B", ""}, {"?1 @-", "type B", ""},
		{`(\x:N.(x:?)) @0`, "type N", `(\x:N.(x:N)) @0`}, {"(x+y) @-", "type N", ""}, {`(\x:N.x) @-`, "type N", `(\x:N.x) @-`}, {"(fst (x:?)) @-", "type N", ""},
		{`(\x:N.x) @-`, "name y", `(\y:N.x) @-`}, {`(1+(\x:N.(\y:N.x))) @1`, "name y", `(1+(\y:N.(\y:N.x))) @1`}, {"(x:N) @-", "name y", ""}, {"x @-", "name y", ""},
		{`(\x:N.x) @0`, "name y", ""}, {"?1 @-", "name y", ""}, {`((\x:N.x) 1) @-`, "name y", ""}, {`(\x:N.x) @-`, "name x", `(\x:N.x) @-`},
	} {
		e, path, _ := strings.Cut(c.edit, " @")
		checkPerform(t, editOf(e, path), readAction(c.action), c.want)
	}
}

func TestPerformWithNotesAtTheLimits(t *testing.T) {
	for _, note := range []impl.Type{fullType(4), chainType(5, number())} {
		words := typeWords(note)
		checkPerform(t, editOf("?1", "-"), impl.Action{Kind: impl.AcLam, Name: "x", Type: note}, `(\x:`+words+`.?1) @0`)
		checkPerform(t, editOf("?1", "-"), impl.Action{Kind: impl.AcAsc, Type: note}, "(?1:"+words+") @-")
		checkPerform(t, editOf("(?1:N)", "-"), impl.Action{Kind: impl.AcType, Type: note}, "(?1:"+words+") @-")
	}
}

// What an action puts around a node or into a hole may reach the limits, and
// not exceed them.
func TestPerformAtTheLimits(t *testing.T) {
	grows := map[string]int{"lam x N": 1, "ap": 2, "add": 2, "less": 2, "pair": 2, "if": 3, "fst": 1, "snd": 1, "asc ?": 1}
	for text, nodes := range grows {
		for size := impl.MaxSize - 4; size <= impl.MaxSize; size++ {
			e := sumOf(size - 1 + size%2)
			if size%2 == 0 {
				e = ex(impl.ExFst, e)
			}
			for _, path := range [][]int{nil, {0}} {
				got, ok := impl.PerformAction(impl.Edit{Expr: e, Path: path}, readAction(text))
				if ok != (size+nodes <= impl.MaxSize) || ok != (impl.SizeOf(got.Expr) == size+nodes) || !ok && editWords(got) != editWords(impl.Edit{Expr: e, Path: path}) {
					t.Errorf("%s around %d nodes: %v", text, size, ok)
				}
			}
		}
		for depth := 1; depth <= impl.MaxDepth; depth++ {
			got, ok := impl.PerformAction(impl.Edit{Expr: chainExpr(depth, hole(1))}, readAction(text))
			if ok != (depth < impl.MaxDepth) || !impl.IsEdit(got) {
				t.Errorf("%s around the depth %d: %v", text, depth, ok)
			}
		}
		full := impl.Edit{Expr: chainExpr(impl.MaxDepth, hole(1)), Path: make([]int, impl.MaxDepth-1)}
		if got, ok := impl.PerformAction(full, readAction(text)); ok || editWords(got) != editWords(full) {
			t.Errorf("%s at the greatest depth is possible", text)
		}
	}
	full := impl.Edit{Expr: ex(impl.ExFst, sumOf(39)), Path: []int{0, 0}}
	if got, ok := impl.PerformAction(full, readAction("delete")); !ok || impl.SizeOf(got.Expr) >= 40 {
		t.Error("nothing can be deleted at the greatest size")
	}
	holes := impl.Edit{Expr: hole(1)}
	for n := 2; n <= 12; n++ {
		next, ok := impl.PerformAction(holes, readAction("pair"))
		if !ok || !slices.Equal(impl.HolesIn(next.Expr), upTo(n)) {
			t.Fatalf("hole %d: %s", n, editWords(next))
		}
		holes = next
	}
}

func TestPerformOfWrongArguments(t *testing.T) {
	for _, text := range someActions() {
		for _, s := range wrongEdits() {
			checkPerform(t, s, readAction(text), "")
		}
	}
	for _, a := range wrongActions() {
		for _, s := range []impl.Edit{impl.StartEdit(), editOf("(x+y)", "0"), editOf("(if ?1 ?2 ?3)", "-"), editOf(`(\x:N.x)`, "-"), editOf("((x,y):N)", "-"), {}} {
			checkPerform(t, s, a, "")
		}
	}
}

func TestActionTexts(t *testing.T) {
	for _, text := range someActions() {
		a := readAction(text)
		if got := impl.FormatAction(a); got != text {
			t.Errorf("FormatAction(%s) = %q", text, got)
		}
		if got, ok := impl.ParseAction(text); !ok || actionWords(got) != actionWords(a) {
			t.Errorf("ParseAction(%q) = %s, %v", text, actionWords(got), ok)
		}
	}
	for what, a := range wrongActions() {
		if got := impl.FormatAction(a); got != "" {
			t.Errorf("FormatAction of %s = %q", what, got)
		}
	}
	for kind, word := range actionNames() {
		a := impl.Action{Kind: kind + 1}
		want := word
		if strings.Contains(" var lam name ", " "+word+" ") {
			a.Name, want = "q", want+" q"
		}
		if strings.Contains(" down num bool unwrap ", " "+word+" ") {
			a.N, want = 1, want+" 1"
		}
		if strings.Contains(" lam asc type ", " "+word+" ") {
			a.Type, want = truth(), want+" B"
		}
		if got := impl.FormatAction(a); got != want {
			t.Errorf("FormatAction of the kind %d = %q", kind+1, got)
		}
	}
}

func checkNoAction(t *testing.T, s string) {
	t.Helper()
	if got, ok := impl.ParseAction(s); ok || actionWords(got) != actionWords(impl.Action{}) {
		t.Errorf("ParseAction(%q) = %s, %v", s, actionWords(got), ok)
	}
}

func TestTextsOfNoAction(t *testing.T) {
	for _, s := range []string{"", " ", "  ", "x", "UP", "Up", "ups", "u", "down", "down ", "down 3", "down -1", "down +1", "down 00", "down 01", "down 1 ", "down  1", "down 1 1", "down x", "down #t",
		"var", "var ", "var if", "var X", "var abcdef", "var x y", "var x N", "var 1", "var x 1", "num", "num 1000", "num -1", "num -0", "num +1", "num 007", "num 1.0", "num x", "num 1000000", "num 99999999999999999999",
		"bool", "bool 2", "bool #t", "bool t", "bool 01", "bool -1", "lam", "lam x", "lam x ", "lam N", "lam x N N", "lam x y N", "lam N x", "lam x:N", "lam x n", "lam x  N", "lam if N", "lam x (N>N", "lam x N>N", "lam x ((N>N))", "lam x (N > N)",
		"lam x " + typeWords(largeType(17)), "lam x " + typeWords(chainType(6, number())), "asc", "asc ", "asc x", "asc N B", "asc (N)", "asc " + typeWords(largeType(17)), "type", "type 1", "type N ", "type x N", "name", "name N", "name x y",
		"name snd", "ap 1", "add x", "less N", "pair 0", "if x", "fst 0", "snd x", "up 0", "up 1", "up N", "next 1", "prev x", "delete 0", "unwrap", "unwrap 3", "unwrap -1", "unwrap 00", "unwrap 0 0", "up\n", "\tup", "up;up", "21", "1"} {
		checkNoAction(t, s)
	}
	for _, text := range someActions() {
		for _, s := range []string{text + " ", " " + text, text + "\x00", text + " x", strings.Replace(text, " ", "  ", 1), strings.Replace(text, " ", "\t", 1), strings.ToUpper(text), text + " " + text} {
			if s != text {
				checkNoAction(t, s)
			}
		}
	}
	long := strings.Repeat("(", 100000)
	checkNoAction(t, "lam x "+long)
	checkNoAction(t, strings.Repeat(" ", 100000))
	checkNoAction(t, "lam x"+strings.Repeat(" N", 100000))
}

// A text that is changed a little is no action, or it is the text of one.
func TestChangedActionTexts(t *testing.T) {
	r := rand.New(rand.NewSource(150))
	const letters = "updowntlamxif 0129NB?(>*)\\-"
	accepted := 0
	for range 60000 {
		text := []byte(someActions()[r.Intn(len(someActions()))])
		at := r.Intn(len(text))
		switch r.Intn(3) {
		case 0:
			text[at] = letters[r.Intn(len(letters))]
		case 1:
			text = slices.Delete(text, at, at+1)
		case 2:
			text = slices.Insert(text, at, letters[r.Intn(len(letters))])
		}
		s := string(text)
		a, ok := impl.ParseAction(s)
		if !ok {
			checkNoAction(t, s)
			continue
		}
		accepted++
		if !impl.IsAction(a) || impl.FormatAction(a) != s {
			t.Fatalf("ParseAction(%q) = %s", s, actionWords(a))
		}
	}
	if accepted < 1000 {
		t.Error("too few texts are accepted", accepted)
	}
}

func TestPromiseOfActions(t *testing.T) {
	r := rand.New(rand.NewSource(151))
	texts := someActions()
	for range 300 {
		s := impl.StartEdit()
		for range 60 {
			a := readAction(texts[r.Intn(len(texts))])
			next, ok := impl.PerformAction(s, a)
			if !ok && editWords(next) != editWords(s) {
				t.Fatalf("%s, which is not possible, leads from %s to %s", actionWords(a), editWords(s), editWords(next))
			}
			marked, own := impl.MarkExpr(nil, next.Expr)
			if got, fits := impl.SynthType(nil, marked); !impl.IsEdit(next) || !fits || typeWords(got) != typeWords(own) {
				t.Fatalf("%s leads from %s to %s", actionWords(a), editWords(s), editWords(next))
			}
			s = next
		}
	}
}

func TestActionsShareNoMemory(t *testing.T) {
	note := roomyType(readType("((N>B)*?)"))
	for _, text := range append(someActions(), "lam x ((N>B)*?)", "asc ((N>B)*?)", "type ((N>B)*?)") {
		a := readAction(text)
		if a.Type.Kind == impl.TyPair {
			a.Type = note
		}
		before := wholeType(a.Type)
		for _, s := range []impl.Edit{impl.StartEdit(), editOf("(x+y)", "0"), editOf("(if ?1 (2,3) ?3)", "1"), editOf(`(\x:(N>N).(x 1))`, "-"), editOf("((x,y):(N*N))", "-"), editOf("{1 (x,y)}", "0")} {
			checkNothingShared(t, text, s, func(s impl.Edit) impl.Edit {
				next, _ := impl.PerformAction(s, a)
				return next
			})
		}
		_, _ = impl.IsAction(a), impl.FormatAction(a)
		if wholeType(a.Type) != before {
			t.Errorf("the type of %s was changed", text)
		}
		one, _ := impl.ParseAction(text)
		two, _ := impl.ParseAction(text)
		spoilType(two.Type)
		if actionWords(one) != actionWords(readAction(text)) {
			t.Errorf("two results of ParseAction(%q) share memory", text)
		}
	}
}
