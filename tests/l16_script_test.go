package tests

import (
	"math/rand"
	"slices"
	"strings"
	"testing"

	"loop.example/g00585/impl"
)

// Promise 16: every raw expression can be built by actions.

// scriptWords writes actions that are valid as the document shows them.
func scriptWords(list []impl.Action) string {
	var texts []string
	for _, a := range list {
		text := actionNames()[a.Kind-1]
		if a.Name != "" {
			text += " " + a.Name
		}
		if slices.Contains([]int{impl.AcDown, impl.AcUnwrap, impl.AcNum, impl.AcBool}, a.Kind) {
			text += " " + decimal(a.N)
		}
		if a.Type.Kind != 0 {
			text += " " + typeWords(a.Type)
		}
		texts = append(texts, text)
	}
	return strings.Join(texts, ";")
}

func readScript(s string) []impl.Action {
	var list []impl.Action
	if s == "" {
		return nil
	}
	for _, text := range strings.Split(s, ";") {
		list = append(list, readAction(text))
	}
	return list
}

func TestActionsFor(t *testing.T) {
	for s, want := range map[string]string{
		"?1":                    "",
		"?99":                   "",
		"x":                     "var x",
		"42":                    "num 42",
		"0":                     "num 0",
		"#t":                    "bool 1",
		"#f":                    "bool 0",
		`(\x:(N>?).x)`:          "lam x (N>?);var x;up",
		`(\x:N.?1)`:             "lam x N;up",
		`(\x:N.(\y:B.5))`:       "lam x N;lam y B;num 5;up;up",
		"(x 1)":                 "var x;ap;num 1;up",
		"(?1 ?2)":               "ap;up",
		"(x+1)":                 "var x;add;num 1;up",
		"(x<1)":                 "var x;less;num 1;up",
		"(x,1)":                 "var x;pair;num 1;up",
		"((1+2)+(3+4))":         "num 1;add;num 2;up;add;num 3;add;num 4;up;up",
		"(if x 1 2)":            "var x;if;num 1;up;down 2;num 2;up",
		"(if ?1 ?2 ?3)":         "if;up;down 2;up",
		"(if ?1 (if x y z) #t)": "if;var x;if;var y;up;down 2;var z;up;up;down 2;bool 1;up",
		"(if (if a b c) d e)":   "var a;if;var b;up;down 2;var c;up;if;var d;up;down 2;var e;up",
		"(if a b (if c d e))":   "var a;if;var b;up;down 2;var c;if;var d;up;down 2;var e;up;up",
		"(fst x)":               "var x;fst",
		"(snd (x,?1))":          "var x;pair;up;snd",
		"(x:(N*N))":             "var x;asc (N*N)",
		"((fst ?1):?)":          "fst;asc ?",
		"(1+(snd (2:N)))":       "num 1;add;num 2;asc N;snd;up",
	} {
		if got := scriptWords(impl.ActionsFor(readExpr(s))); got != want {
			t.Errorf("ActionsFor(%s) = %s, want %s", s, got, want)
		}
	}
	for _, s := range []string{"{1 x}", "(1+{1 #t})", `(\x:N.{1 y})`} {
		if got := impl.ActionsFor(readExpr(s)); len(got) != 0 {
			t.Errorf("ActionsFor(%s) = %s", s, scriptWords(got))
		}
	}
	for what, e := range wrongExprs() {
		if got := impl.ActionsFor(e); len(got) != 0 {
			t.Errorf("ActionsFor of %s = %s", what, scriptWords(got))
		}
	}
}

func TestRunActions(t *testing.T) {
	for _, c := range []struct {
		edit, script, want string
		done               int
	}{
		{"?1 @-", "", "?1 @-", 0},
		{"(x+y) @1", "", "(x+y) @1", 0},
		{"?1 @-", "var x", "x @-", 1},
		{"?1 @-", "up", "?1 @-", 0},
		{"?1 @-", "up;var x;var y", "?1 @-", 0},
		{"?1 @-", "fst;up;fst", "(fst ?1) @-", 1},
		{"?1 @-", "fst;fst;up", "(fst (fst ?1)) @-", 2},
		{"?1 @-", "num 1;add;num 2;up;delete", "?1 @-", 5},
		{"?1 @-", "num 1;add;num 2;up;var x;delete", "(1+2) @-", 4},
		{"(x+y) @1", "delete;num 3;up;unwrap 1", "3 @-", 4},
	} {
		e, path, _ := strings.Cut(c.edit, " @")
		wantE, wantPath, _ := strings.Cut(c.want, " @")
		got, done := impl.RunActions(editOf(e, path), readScript(c.script))
		if editWords(got) != editWords(editOf(wantE, wantPath)) || done != c.done {
			t.Errorf("RunActions(%s, %s) = %s, %d", c.edit, c.script, editWords(got), done)
		}
	}
	// Actions that are none fail, wherever they stand.
	fst := impl.Action{Kind: impl.AcFst}
	for what, wrong := range wrongActions() {
		for at := range 3 {
			list := []impl.Action{fst, fst, fst}
			list[at] = wrong
			got, done := impl.RunActions(impl.StartEdit(), list)
			if done != at || editWords(got) != editWords(impl.Edit{Expr: chainExpr(at+1, hole(1))}) {
				t.Errorf("RunActions with %s at %d = %s, %d", what, at, editWords(got), done)
			}
		}
	}
	for what, s := range wrongEdits() {
		for _, list := range [][]impl.Action{nil, {fst}, {fst, fst}} {
			if got, done := impl.RunActions(s, list); done != 0 || editWords(got) != editWords(s) {
				t.Errorf("RunActions of %s = %s, %d", what, editWords(got), done)
			}
		}
	}
	many := slices.Repeat([]impl.Action{fst}, 50)
	if got, done := impl.RunActions(impl.StartEdit(), many); done != impl.MaxDepth-1 || impl.DepthOf(got.Expr) != impl.MaxDepth {
		t.Error("RunActions over the limits:", done)
	}
}

func TestFormatActions(t *testing.T) {
	for _, s := range []string{"", "up", "up;up", "lam x N;var x;less;num 3;up", strings.Join(someActions(), ";")} {
		if got := impl.FormatActions(readScript(s)); got != s {
			t.Errorf("FormatActions = %q, want %q", got, s)
		}
	}
	up := impl.Action{Kind: impl.AcUp}
	for _, c := range []struct {
		list []impl.Action
		want string
	}{
		{[]impl.Action{{}}, ""},
		{[]impl.Action{{}, {}}, ";"},
		{[]impl.Action{{}, up}, ";up"},
		{[]impl.Action{up, {Kind: 21}}, "up;"},
		{[]impl.Action{up, {Kind: impl.AcVar}, up}, "up;;up"},
	} {
		if got := impl.FormatActions(c.list); got != c.want {
			t.Errorf("FormatActions(%v) = %q, want %q", c.list, got, c.want)
		}
	}
}

func TestParseActions(t *testing.T) {
	for _, s := range append(someActions(), "", "up;up", "lam x N;var x;less;num 3;up", strings.Join(someActions(), ";"), strings.Repeat("next;", 1000)+"up") {
		got, bad := impl.ParseActions(s)
		if bad != -1 || scriptWords(got) != s {
			t.Errorf("ParseActions(%q) = %s, %d", s, scriptWords(got), bad)
		}
	}
	for s, want := range map[string]int{
		";": 0, " ": 0, ";up": 0, "up;": 1, "up;;up": 1, "up; up": 1, "up ;up": 0, "x": 0, "up;x": 1, "x;y": 0, "up;up;x": 2, "up;down 3;x": 1, "var x;var if": 1,
		"up;up;up;up;": 4, "up,up": 0, "up\nup": 0, "lam x N;lam x": 1, ";;": 0, "num 1000": 0, "up;{1 x}": 1,
	} {
		got, bad := impl.ParseActions(s)
		if bad != want || len(got) != 0 {
			t.Errorf("ParseActions(%q) = %s, %d", s, scriptWords(got), bad)
		}
	}
}

// Every raw expression is built in the place of any hole of any expression,
// and the cursor stands on it at the end.
func TestPromiseOfScripts(t *testing.T) {
	r := rand.New(rand.NewSource(160))
	inside := 0
	for range 5000 {
		e := randomExpr(r, false)
		list := impl.ActionsFor(e)
		got, done := impl.RunActions(impl.StartEdit(), list)
		if done != len(list) || len(got.Path) != 0 || shapeWords(got.Expr) != shapeWords(e) {
			t.Fatalf("ActionsFor(%s) = %s, which builds %s", exprWords(e), scriptWords(list), editWords(got))
		}
		parsed, bad := impl.ParseActions(impl.FormatActions(list))
		if bad != -1 || scriptWords(parsed) != scriptWords(list) {
			t.Fatalf("the text of %s is that of %s", scriptWords(list), scriptWords(parsed))
		}
		around := randomExpr(r, false)
		for _, info := range impl.HolesOf(nil, around) {
			want, fits := impl.ReplaceAt(around, info.Path, e)
			if !fits {
				continue
			}
			inside++
			got, done := impl.RunActions(impl.Edit{Expr: around, Path: info.Path}, list)
			if done != len(list) || !slices.Equal(got.Path, info.Path) || shapeWords(got.Expr) != shapeWords(want) {
				t.Fatalf("%s in %s at %s builds %s", scriptWords(list), exprWords(around), pathWords(info.Path), editWords(got))
			}
		}
	}
	if inside < 2000 {
		t.Error("too few expressions were built within others", inside)
	}
	for _, e := range []impl.Expr{ex(impl.ExFst, sumOf(39)), chainExpr(impl.MaxDepth, hole(1)), stated(sumOf(39), fullType(4))} {
		list := impl.ActionsFor(e)
		if got, done := impl.RunActions(impl.StartEdit(), list); done != len(list) || exprWords(got.Expr) != exprWords(e) {
			t.Errorf("%s is not built: %s", exprWords(e), editWords(got))
		}
	}
}

func TestScriptsShareNoMemory(t *testing.T) {
	e := roomyExpr(readExpr(`((\x:(N>(B*B)).(x 1)):(?>(N>N)))`))
	before := wholeExpr(e)
	list, again := impl.ActionsFor(e), impl.ActionsFor(e)
	text := scriptWords(list)
	for i := range again {
		spoilType(again[i].Type)
		if scriptWords(list) != text {
			t.Fatal("two results of ActionsFor share memory")
		}
	}
	for i := range list {
		rest := scriptWords(list[i+1:])
		spoilType(list[i].Type)
		if scriptWords(list[i+1:]) != rest {
			t.Fatal("two actions share memory")
		}
	}
	if wholeExpr(e) != before {
		t.Fatal("ActionsFor shares memory with its argument")
	}
	script := readScript("lam x (N>B);var x;asc ((N*N)>B);up;up")
	for i := range script {
		script[i].Type = roomyType(script[i].Type)
	}
	script = append(make([]impl.Action, 0, 9), script...)
	_ = append(script, impl.Action{Kind: 77})
	wordsOf := func() string {
		text := ""
		for _, a := range script[:cap(script)] {
			text += decimal(a.Kind) + a.Name + wholeType(a.Type) + " "
		}
		return text
	}
	beforeScript := wordsOf()
	for _, s := range []impl.Edit{impl.StartEdit(), editOf("(x+?1)", "1"), editOf("{1 x}", "-"), editOf("x", "-")} {
		for n := range len(script) + 1 {
			checkNothingShared(t, "RunActions", s, func(s impl.Edit) impl.Edit {
				got, _ := impl.RunActions(s, script[:n])
				return got
			})
		}
	}
	_ = impl.FormatActions(script[:3])
	if wordsOf() != beforeScript {
		t.Error("a list of actions was changed")
	}
	one, _ := impl.ParseActions("asc (N>B);asc (N>B)")
	two, _ := impl.ParseActions("asc (N>B);asc (N>B)")
	spoilType(two[0].Type)
	spoilType(one[1].Type)
	if typeWords(one[0].Type) != "(N>B)" || typeWords(two[1].Type) != "(N>B)" {
		t.Error("results of ParseActions share memory")
	}
}
