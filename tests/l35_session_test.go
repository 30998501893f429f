package tests

import (
	"math"
	"math/rand"
	"slices"
	"strings"
	"testing"

	"loop.example/g00585/impl"
)

// Promise 35: queries of a session change nothing.
// Promise 36: every function is total and does not modify its arguments.

// sessionWords writes any session, so that different ones have different texts.
func sessionWords(s impl.Session) string {
	text := historyWords(s.History) + " TESTS"
	for _, x := range s.Tests {
		text += " " + exactExpr(x.Arg) + "=" + exactExpr(x.Want)
	}
	return text + " BASE " + exactExpr(s.Base) + " OURS " + exactExpr(s.Ours)
}

// checkLines executes lines one after another, each with its output, and
// returns the last session. RunSession must give the same outputs.
func checkLines(t *testing.T, lines [][2]string) impl.Session {
	t.Helper()
	s := impl.NewSession()
	var all, want []string
	for _, line := range lines {
		next, got := impl.ExecuteLine(s, line[0])
		if got != line[1] {
			t.Errorf("after %q, %q is answered by %q, want %q", all, line[0], got, line[1])
		}
		if (got == "no" || got == "what") && sessionWords(next) != sessionWords(s) {
			t.Errorf("%q is answered by %s and changes something", line[0], got)
		}
		s = next
		all, want = append(all, line[0]), append(want, line[1])
	}
	if len(all) <= impl.MaxLines {
		if got, ok := impl.RunSession(strings.Join(all, "\n")); !ok || !slices.Equal(got, want) {
			t.Errorf("RunSession of %q = %q, %v", all, got, ok)
		}
	}
	return s
}

func checkNow(t *testing.T, s impl.Session, now string, past, next int) {
	t.Helper()
	h := s.History
	if got := exprWords(h.Now.Expr) + " @" + pathWords(h.Now.Path); got != now || len(h.Past) != past || len(h.Next) != next {
		t.Errorf("the session has %s after %d and before %d edits, want %s, %d and %d", got, len(h.Past), len(h.Next), now, past, next)
	}
}

func TestNewSession(t *testing.T) {
	s := impl.NewSession()
	if sessionWords(s) != sessionWords(impl.Session{History: impl.History{Now: impl.Edit{Expr: hole(1)}}}) {
		t.Error("NewSession is", sessionWords(s))
	}
	if impl.MaxLines != 60 {
		t.Error(impl.MaxLines)
	}
}

func TestEqualSession(t *testing.T) {
	start := impl.NewSession()
	list := []impl.Session{start, {}, {History: start.History, Base: constant(1)}, {History: start.History, Ours: constant(1)}, {History: start.History, Base: constant(1), Ours: constant(1)}, {History: start.History, Base: constant(2)},
		{History: start.History, Tests: testsOf("1 = 2")}, {History: start.History, Tests: testsOf("2 = 1")}, {History: start.History, Tests: testsOf("1 = 1")}, {History: start.History, Tests: testsOf("1 = 2; 1 = 2")}, {History: start.History, Tests: testsOf("1 = 2; 3 = 4")}, {History: start.History, Tests: testsOf("3 = 4; 1 = 2")},
		{History: start.History, Tests: []impl.Test{{}}}, {History: impl.History{Now: editOf("x", "-")}}, {History: impl.History{Now: impl.StartEdit(), Past: []impl.Edit{{}}}}, {History: impl.History{Now: impl.StartEdit(), Next: []impl.Edit{{}}}}}
	for i, a := range list {
		for j, b := range list {
			if got := impl.EqualSession(a, b); got != (i == j) {
				t.Errorf("EqualSession(%s, %s) is %v", sessionWords(a), sessionWords(b), got)
			}
		}
		if !impl.EqualSession(a, roomySession(a)) {
			t.Errorf("%s is not equal to a copy", sessionWords(a))
		}
	}
	empty := impl.Session{History: impl.History{Past: []impl.Edit{}, Now: impl.Edit{Expr: hole(1), Path: []int{}}, Next: []impl.Edit{}}, Tests: []impl.Test{}}
	if !impl.EqualSession(empty, start) {
		t.Error("empty slices are not equal to nil")
	}
}

func TestActionsAndHistory(t *testing.T) {
	s := checkLines(t, [][2]string{
		{"show", "?1 @-"}, {"undo", "no"}, {"redo", "no"}, {"up", "no"}, {"lam x N", `(\x:N.?1) @0`}, {"undo", "?1 @-"}, {"undo", "no"}, {"redo", `(\x:N.?1) @0`}, {"redo", "no"},
		{"add", `(\x:N.(?1+?2)) @0.1`}, {"var x", `(\x:N.(?1+x)) @0.1`}, {"prev", `(\x:N.(?1+x)) @0.0`}, {"num 5", `(\x:N.(5+x)) @0.0`}, {"num 6", "no"}, {"delete", `(\x:N.(?1+x)) @0.0`}, {"undo", `(\x:N.(5+x)) @0.0`}, {"undo", `(\x:N.(?1+x)) @0.0`},
		{"bool 1", `(\x:N.(#t+x)) @0.0`}, {"redo", "no"}, {"up", `(\x:N.(#t+x)) @0`}, {"up", `(\x:N.(#t+x)) @-`}, {"name y", `(\y:N.(#t+x)) @-`}, {"type (N>B)", `(\y:(N>B).(#t+x)) @-`}, {"down 0", `(\y:(N>B).(#t+x)) @0`}, {"down 2", "no"}, {"unwrap 1", `(\y:(N>B).x) @0`}, {"if", `(\y:(N>B).(if x ?1 ?2)) @0.1`},
		{"asc ?", `(\y:(N>B).(if x (?1:?) ?2)) @0.1`}, {"next", `(\y:(N>B).(if x (?1:?) ?2)) @0.1.0`}, {"pair", `(\y:(N>B).(if x ((?1,?3):?) ?2)) @0.1.0.1`},
	})
	checkNow(t, s, `(\y:(N>B).(if x ((?1,?3):?) ?2)) @0.1.0.1`, 15, 0)
	for range 10 {
		s, _ = impl.ExecuteLine(s, "fst")
	}
	if len(s.History.Past) != impl.MaxPast {
		t.Error("the history of", len(s.History.Past))
	}
}

func TestLoadAndBuild(t *testing.T) {
	s := checkLines(t, [][2]string{
		{"load (1+?7)", "ok"}, {"show", "(1+?7) @-"}, {"undo", "no"}, {"down 1", "(1+?7) @1"}, {"load ", "no"}, {"load (", "no"}, {"load  1", "no"}, {"load 1 ", "no"}, {"load {1 x}", "no"}, {"load (1+{2 #t})", "no"}, {"load (1+ 2)", "no"}, {"load", "what"}, {"loads 1", "what"}, {"load\t1", "what"},
	})
	checkNow(t, s, "(1+?7) @1", 1, 0)
	s = checkLines(t, [][2]string{
		{"load (1+?7)", "ok"}, {"down 1", "(1+?7) @1"}, {"build (2,?3)", "(1+(2,?1)) @1"}, {"undo", "(1+(2,?1)) @1.1"}, {"undo", "(1+2) @1"}, {"undo", "(1+?7) @1"}, {"redo", "(1+2) @1"}, {"redo", "(1+(2,?1)) @1.1"}, {"redo", "(1+(2,?1)) @1"}, {"redo", "no"},
		// where nothing can be put, the first action fails
		{"build 5", "(1+(2,?1)) @1"}, {"undo", "(1+(2,?1)) @1.1"}, {"redo", "(1+(2,?1)) @1"}, {"build ?9", "(1+(2,?1)) @1"}, {"build (?1+?2)", "(1+((2,?1)+?2)) @1"},
		{"build ", "no"}, {"build {1 x}", "no"}, {"build x y", "no"}, {"build", "what"}, {"build  1", "no"}, {"build 1000", "no"},
	})
	checkNow(t, s, "(1+((2,?1)+?2)) @1", 6, 0)
	// An action fails in the middle: the expression gets too deep.
	deep := exprWords(chainExpr(11, hole(1)))
	s = checkLines(t, [][2]string{{"load " + deep, "ok"}, {"build (fst x)", deep + " @-"}, {"down 0", deep + " @0"}, {"delete", "(fst ?2) @0"}, {"build " + exprWords(chainExpr(11, variable("x"))), "(fst " + exprWords(chainExpr(11, variable("x"))) + ") @0"}, {"build (fst ?1)", "(fst " + exprWords(chainExpr(11, variable("x"))) + ") @0"}})
	checkNow(t, s, "(fst "+exprWords(chainExpr(11, variable("x")))+") @0", 13, 0)
	s = checkLines(t, [][2]string{{"load (fst " + exprWords(chainExpr(9, variable("x"))) + ")", "ok"}, {"down 0", "(fst " + exprWords(chainExpr(9, variable("x"))) + ") @0"}, {"build (fst (snd (fst (snd ?1))))", "(fst (fst (snd " + exprWords(chainExpr(9, variable("x"))) + "))) @0"}})
	checkNow(t, s, "(fst (fst (snd "+exprWords(chainExpr(9, variable("x")))+"))) @0", 3, 0)
	// Building clears what was undone, and the history forgets old edits.
	s = checkLines(t, [][2]string{{"num 1", "1 @-"}, {"undo", "?1 @-"}, {"build ?5", "?1 @-"}, {"redo", "1 @-"}, {"undo", "?1 @-"}, {"build 2", "2 @-"}, {"redo", "no"}, {"delete", "?1 @-"}, {"build ((1+(2+(3+4)))+((5+6)+(7+8)))", "((1+(2+(3+4)))+((5+6)+(7+8))) @-"}})
	checkNow(t, s, "((1+(2+(3+4)))+((5+6)+(7+8))) @-", impl.MaxPast, 0)
	// Loading ends the history.
	s = checkLines(t, [][2]string{{"num 1", "1 @-"}, {"add", "(1+?1) @1"}, {"undo", "1 @-"}, {"load 2", "ok"}, {"undo", "no"}, {"redo", "no"}})
	checkNow(t, s, "2 @-", 0, 0)
}

func TestQueries(t *testing.T) {
	checkLines(t, [][2]string{
		{"show", "?1 @-"}, {"mark", "?1"}, {"type", "? ?"}, {"run", "?1 : ? = ?1[] open 0"}, {"suggest", "0; 1; #f; #t; (?1+?2); (?1<?2); (if ?1 ?2 ?3)"}, {"tests", ""}, {"merge", "invalid"}, {"diff", "-:?1"},
		{`load (\x:N.(x+(#t ?1)))`, "ok"}, {"mark", `(\x:N.(x+({2 #t} ?1)))`}, {"type", "(N>N) none"}, {"run", `(\x:N.(x+({2 #t} ?1))) : (N>N) = (\x:N.(x+<(<{2 #t}[x=x]:?=>(?>?)> ?1[x=x]):?=>N>)) value 0`}, {"suggest", "none"}, {"show", `(\x:N.(x+(#t ?1))) @-`},
		{"down 0", `(\x:N.(x+(#t ?1))) @0`}, {"type", "(N>N) none"}, {"down 0", `(\x:N.(x+(#t ?1))) @0.0`}, {"type", "(N>N) N"}, {"suggest", "none"}, {"next", `(\x:N.(x+(#t ?1))) @0.1`}, {"type", "(N>N) none"}, {"down 1", `(\x:N.(x+(#t ?1))) @0.1.1`}, {"type", "(N>N) ?"}, {"suggest", "x; 0; 1; #f; #t; (?1+?2); (?1<?2); (if ?1 ?2 ?3)"},
		{"load q", "ok"}, {"type", "? none"}, {"mark", "{1 q}"}, {"run", "{1 q} : ? = ?1[] open 0"}, {"suggest", "none"},
		{`load ((\x:?.(x x)) (\x:?.(x x)))`, "ok"}, {"run", `((\x:?.(x x)) (\x:?.(x x))) : ? stops`}, {"type", "? ?"},
		// words that must be the whole line
		{"show ", "what"}, {"show x", "what"}, {" show", "what"}, {"mark ", "what"}, {"type ", "what"}, {"type x", "what"}, {"run 1", "what"}, {"suggest ?1", "what"}, {"tests 1", "what"}, {"merge  ", "what"}, {"diff x", "what"}, {"undo ", "what"}, {"redo 1", "what"}, {"base 1", "what"}, {"ours ", "what"}, {"inline ", "what"}, {"eta x", "what"},
		// what is no command
		{"", "what"}, {" ", "what"}, {"  ", "what"}, {"hm", "what"}, {"Show", "what"}, {"show\r", "what"}, {"up ", "what"}, {"var", "what"}, {"var if", "what"}, {"num 01", "what"}, {"num 1000", "what"}, {"down 3", "what"},
	})
	checkLines(t, [][2]string{
		{"asc (N>?)", "(?1:(N>?)) @-"}, {"type N", "(?1:N) @-"}, {"type", "N N"}, {"type  N", "what"}, {"type N ", "what"}, {"name x", "no"}, {"lam x  N", "what"}, {"down", "what"}, {"down 1", "no"}, {"num 1000", "what"}, {"down 3", "what"}, {"undo  ", "what"}, {"RUN", "what"}, {"show show", "what"},
	})
}

func TestFill(t *testing.T) {
	s := checkLines(t, [][2]string{
		{`load ((\x:N.(?1+(x+#t))) 3)`, "ok"}, {"mark", `((\x:N.(?1+(x+{2 #t}))) 3)`}, {"fill 1 (x+x)", "(6+(3+<{2 #t}[x=3]:?=>N>))"}, {"fill 2 5", "(<?1[x=3]:?=>N>+8)"}, {"fill 2 x", "(<?1[x=3]:?=>N>+6)"}, {"fill 1 #t", "(<#t:B!N>+(3+<{2 #t}[x=3]:?=>N>))"}, {"fill 1 {7 (1+q)}", "no"}, {"fill 1 {7 q}", "(<?7[x=3]:?=>N>+(3+<{2 #t}[x=3]:?=>N>))"}, {"fill 1 ({7 #t}+1)", "((<{7 #t}[x=3]:?=>N>+1)+(3+<{2 #t}[x=3]:?=>N>))"},
		{"fill 1 ?1", "(<?1[x=3]:?=>N>+(3+<{2 #t}[x=3]:?=>N>))"},
		// numbers of no hole, and what does not fit
		{"fill 3 5", "no"}, {"fill 0 5", "no"}, {"fill 100 5", "no"}, {"fill 999999 5", "no"}, {"fill 1 q", "no"}, {"fill 1 (x+#t)", "no"}, {"fill 1 ", "no"}, {"fill 1 (", "no"}, {"fill 1  5", "no"}, {"fill 1 5 ", "no"}, {"fill 1 ((\\x:?.(x x)) (\\x:?.(x x)))", "no"},
		// numbers that are none
		{"fill 01 5", "what"}, {"fill +1 5", "what"}, {"fill -1 5", "what"}, {"fill 1000000 5", "what"}, {"fill x 5", "what"}, {"fill  1 5", "what"}, {"fill 1", "what"}, {"fill", "what"}, {"fill ", "what"}, {"fill (x+x)", "what"}, {"fill 1.0 5", "what"}, {"fill ?1 5", "what"},
		{"show", `((\x:N.(?1+(x+#t))) 3) @-`},
		{"load (?1+?1)", "ok"}, {"fill 1 5", "no"}, {`load ((\y:?.?1) ((\x:?.(x x)) (\x:?.(x x))))`, "ok"}, {"fill 1 5", "no"}, {"load (q+1)", "ok"}, {"fill 1 5", "6"},
	})
	checkNow(t, s, "(q+1) @-", 0, 0)
}

func TestLiveTestsOfSessions(t *testing.T) {
	s := checkLines(t, [][2]string{
		{"tests", ""}, {"test 0 = 1", "ok"}, {"test 1", "no"}, {"test", "what"}, {"test ", "no"}, {"test 1 = ", "no"}, {"test  = 1", "no"}, {"test 1=2", "no"}, {"test 1 =2", "no"}, {"test 1  = 2", "no"}, {"test 1 =  2", "no"}, {"test  1 = 2", "no"}, {"test 1 = 2 = 3", "no"}, {"test ( = 2", "no"}, {"test 1 = (", "no"}, {"test 1 = 1000", "no"},
		{"test {1 #t} = {2 q}", "ok"}, {"tests", "oo"}, {"lam x N", `(\x:N.?1) @0`}, {"tests", "oo"}, {"build (x+1)", `(\x:N.(x+1)) @0`}, {"tests", "po"}, {"test 5 = 7", "ok"}, {"tests", "pof"}, {"test (1+(2+3)) = 7", "ok"}, {"tests", "pofp"}, {`test ((\x:?.(x x)) (\x:?.(x x))) = 1`, "ok"}, {"tests", "pofps"},
		{"test 1 = 2", "ok"}, {"test 2 = 3", "ok"}, {"test 3 = 4", "ok"}, {"test 4 = 5", "no"}, {"test 4", "no"}, {"tests", "pofpsppp"}, {"test 1 = 2", "no"}, {"undo", `(\x:N.(x+1)) @0.1`}, {"load 5", "ok"}, {"tests", "oooosooo"},
	})
	if len(s.Tests) != 8 || exactExpr(s.Tests[1].Arg) != exactExpr(readExpr("{1 #t}")) || exactExpr(s.Tests[1].Want) != exactExpr(readExpr("{2 q}")) {
		t.Error("the tests of the session", sessionWords(s))
	}
}

func TestSolve(t *testing.T) {
	s := checkLines(t, [][2]string{
		{"lam x N", `(\x:N.?1) @0`}, {"solve 0", "no"}, {"solve 1", "no"}, {"solve 2", `(\x:N.x)`}, {"show", `(\x:N.x) @-`}, {"undo", "no"}, {"redo", "no"}, {"solve 1", `(\x:N.x)`}, {"solve 0", "no"},
		{`load (\x:N.?1)`, "ok"}, {"test 0 = 1", "ok"}, {"test 1 = 2", "ok"}, {"down 0", `(\x:N.?1) @0`}, {"solve 25", "no"}, {"solve 61", "no"}, {"solve 999999", "no"}, {"show", `(\x:N.?1) @0`}, {"undo", `(\x:N.?1) @-`}, {"redo", `(\x:N.?1) @0`},
		{"solve", "what"}, {"solve ", "what"}, {"solve 026", "what"}, {"solve +26", "what"}, {"solve -26", "what"}, {"solve 1000000", "what"}, {"solve  26", "what"}, {"solve 26 ", "what"}, {"solve x", "what"},
		{"solve 26", `(\x:N.(x+1))`}, {"tests", "pp"}, {"show", `(\x:N.(x+1)) @-`}, {"undo", "no"}, {"test 1 = 1", "ok"}, {"solve 60", "no"}, {"load q", "ok"}, {"solve 60", "no"},
	})
	checkNow(t, s, "q @-", 0, 0)
}

func TestRefactoringInSessions(t *testing.T) {
	s := checkLines(t, [][2]string{
		{`load (\x:N.(\y:N.(x+y)))`, "ok"}, {"rename y", `(\y:N.(\y1:N.(y+y1))) @-`}, {"undo", "no"}, {"down 0", `(\y:N.(\y1:N.(y+y1))) @0`}, {"rename z", `(\y:N.(\z:N.(y+z))) @0`}, {"undo", "no"}, {"redo", "no"}, {"rename y", "no"}, {"rename if", "no"}, {"rename ", "no"}, {"rename  w", "no"}, {"rename w ", "no"}, {"rename", "what"}, {"rename abcdef", "no"}, {"rename z", `(\y:N.(\z:N.(y+z))) @0`},
		{"down 0", `(\y:N.(\z:N.(y+z))) @0.0`}, {"rename w", "no"}, {"inline", "no"}, {"eta", "no"}, {"show", `(\y:N.(\z:N.(y+z))) @0.0`}, {"undo", `(\y:N.(\z:N.(y+z))) @0`}, {"eta", `(\y:N.(\x:N.((\z:N.(y+z)) x))) @0`}, {"undo", "no"}, {"down 0", `(\y:N.(\x:N.((\z:N.(y+z)) x))) @0.0`}, {"inline", `(\y:N.(\x:N.(y+(x:N)))) @0.0`}, {"undo", "no"}, {"inline", "no"},
		{`load ((\x:N.5) (1+2))`, "ok"}, {"inline", "5 @-"}, {"eta", "no"}, {`load (f 1)`, "ok"}, {"inline", "no"}, {"eta", "no"}, {"down 0", "(f 1) @0"}, {"eta", "no"},
		{`load ((if #t (\x:N.#t) ?1) 2)`, "ok"}, {"down 0", `((if #t (\x:N.#t) ?1) 2) @0`}, {"eta", `((\x:N.((if #t (\x:N.#t) ?1) x)) 2) @0`}, {"up", `((\x:N.((if #t (\x:N.#t) ?1) x)) 2) @-`}, {"inline", `((if #t (\x:N.#t) ?1) (2:N)) @-`},
	})
	checkNow(t, s, `((if #t (\x:N.#t) ?1) (2:N)) @-`, 0, 0)
}

func TestBaseAndMerge(t *testing.T) {
	s := checkLines(t, [][2]string{
		{"merge", "invalid"}, {"diff", "-:?1"}, {"load (if #t ?1 ?2)", "ok"}, {"base", "ok"}, {"merge", "invalid"}, {"diff", ""}, {"ours", "ok"}, {"merge", "(if #t ?1 ?2)"}, {"down 1", "(if #t ?1 ?2) @1"}, {"num 1", "(if #t 1 ?2) @1"}, {"diff", "1:1"}, {"merge", "(if #t 1 ?2)"}, {"ours", "ok"},
		{"undo", "(if #t ?1 ?2) @1"}, {"merge", "(if #t 1 ?2)"}, {"next", "(if #t ?1 ?2) @2"}, {"bool 1", "(if #t ?1 #t) @2"}, {"diff", "2:#t"}, {"merge", "(if #t 1 {1 #t}) error 2"}, {"up", "(if #t ?1 #t) @-"}, {"fst", "(fst (if #t ?1 #t)) @-"}, {"merge", "(if #t 1 ?2) conflict 1/-"}, {"diff", "-:(fst (if #t ?1 #t))"}, {"base", "ok"}, {"diff", ""}, {"merge", "(if #t 1 ?2)"}, {"base x", "what"}, {"ours x", "what"},
		{"load (1,(2,3))", "ok"}, {"base", "ok"}, {"load (4,(2,5))", "ok"}, {"diff", "0:4; 1.1:5"}, {"ours", "ok"}, {"load (6,(7,3))", "ok"}, {"merge", "(4,(7,5)) conflict 0/0"}, {"load q", "ok"}, {"diff", "-:q"}, {"merge", "(4,(2,5)) conflict 0/- conflict 1.1/-"},
	})
	if exprWords(s.Base) != "(1,(2,3))" || exprWords(s.Ours) != "(4,(2,5))" {
		t.Error("Base and Ours", sessionWords(s))
	}
}

func TestRunSession(t *testing.T) {
	for _, c := range []struct {
		text string
		want []string
	}{
		{"", []string{"what"}}, {"\n", []string{"what", "what"}}, {"show", []string{"?1 @-"}}, {"show\n", []string{"?1 @-", "what"}}, {"\nshow", []string{"what", "?1 @-"}}, {"show\r\nshow", []string{"what", "?1 @-"}}, {"num 1\n\nshow\n", []string{"1 @-", "what", "1 @-", "what"}},
	} {
		if got, ok := impl.RunSession(c.text); !ok || !slices.Equal(got, c.want) {
			t.Errorf("RunSession(%q) = %q, %v", c.text, got, ok)
		}
	}
	for lines := 1; lines < 130; lines++ {
		got, ok := impl.RunSession("num 1" + strings.Repeat("\nshow", lines-1))
		if ok != (lines <= 60) || !ok && len(got) > 0 || ok && (len(got) != lines || got[lines-1] != "1 @-") {
			t.Errorf("RunSession of %d lines: %q, %v", lines, got, ok)
		}
	}
	if got, ok := impl.RunSession(strings.Repeat("\n", 59)); !ok || len(got) != 60 {
		t.Error("59 newlines")
	}
	if got, ok := impl.RunSession(strings.Repeat("\n", 60)); ok || len(got) != 0 {
		t.Error("60 newlines")
	}
}

// oddSessions could only be made by a caller.
func oddSessions() []impl.Session {
	raw := impl.StartHistory(editOf("(?1+x)", "0"))
	list := []impl.Session{{}, {History: impl.History{Now: editOf("{1 x}", "0")}}, {History: impl.History{Now: editOf(`(1+{1 ((\x:N.{2 x}) ?3)})`, "1.0")}, Base: readExpr("{1 x}"), Ours: readExpr("{2 y}")}, {History: raw, Tests: slices.Repeat(testsOf("1 = 1"), 9)}, {History: raw, Tests: make([]impl.Test, 3), Base: sumOf(41)},
		{History: impl.History{Past: make([]impl.Edit, 25), Now: editOf("(1+2)", "7"), Next: []impl.Edit{{}}}}, {History: impl.History{Past: []impl.Edit{{}}, Now: editOf("?1", "-"), Next: []impl.Edit{editOf("x", "0")}}}}
	for _, s := range wrongEdits() {
		list = append(list, impl.Session{History: impl.History{Now: s}, Base: s.Expr, Ours: constant(1)})
	}
	for _, e := range wrongExprs() {
		list = append(list, impl.Session{History: impl.StartHistory(impl.Edit{Expr: e}), Tests: []impl.Test{{Arg: e, Want: e}}, Base: e, Ours: e})
	}
	return list
}

func TestOddSessions(t *testing.T) {
	check := func(s impl.Session, line, want string) impl.Session {
		t.Helper()
		next, got := impl.ExecuteLine(s, line)
		if got != want {
			t.Errorf("in %s, %q is answered by %q, want %q", sessionWords(s), line, got, want)
		}
		return next
	}
	for _, c := range []struct{ line, want string }{{"show", ""}, {"mark", ""}, {"type", " none"}, {"run", "bad"}, {"suggest", "none"}, {"fill 1 5", "no"}, {"tests", ""}, {"solve 60", "no"}, {"rename x", "no"}, {"inline", "no"}, {"eta", "no"}, {"merge", "invalid"}, {"diff", ""}, {"fst", "no"}, {"undo", "no"}, {"redo", "no"}, {"build 1", ""}} {
		if next := check(impl.Session{}, c.line, c.want); sessionWords(next) != sessionWords(impl.Session{}) {
			t.Errorf("%q changes the zero session", c.line)
		}
	}
	marked := impl.Session{History: impl.History{Now: editOf(`(1+{1 ((\x:N.(#t+{2 x})) ?3)})`, "1.0")}}
	check(marked, "mark", `(1+((\x:N.({1 #t}+x)) ?3))`)
	check(marked, "show", "")
	check(marked, "run", "bad")
	check(marked, "type", " none")
	check(marked, "fill 3 5", "(1+(<{1 #t}[x=5]:?=>N>+5))")
	check(marked, "suggest", "none")
	check(marked, "solve 5", "no")
	next := check(marked, "inline", "")
	if got := editWords(next.History.Now); got != editWords(editOf(`(1+{1 (#t+{2 (?3:N)})})`, "-")) || len(next.History.Past) != 0 {
		t.Error("inline in an expression with marks gives", got)
	}
	nine := impl.Session{History: impl.StartHistory(editOf(`(\x:N.x)`, "-")), Tests: slices.Repeat(testsOf("1 = 1"), 9)}
	check(nine, "tests", "")
	check(nine, "test 1 = 1", "no")
	check(nine, "solve 9", "no")
}

func plainFill(s impl.Session, u int, by string) string {
	r := impl.RunAndResume(impl.Remark(nil, s.History.Now.Expr), u, readExpr(by), 60)
	if r.Status != impl.EvDone {
		return "no"
	}
	return coreWords(r.Value)
}

// queries are the lines that must not change a session.
func queries() []string {
	return strings.Split("show|mark|type|run|suggest|tests|merge|diff|fill 1 5|fill 2 x|fill 1 (x+1)|fill x 1|what|| |load (|build {1 x}|test 1|solve x|solve 0|rename if|rename|undo x|tests |num 1000", "|")
}

func commands() []string {
	return strings.Split("undo|undo|redo|load (\\x:N.(?1+(x ?2)))|load ((\\x:N.(?1+x)) 3)|load (?1 ?2)|build (x+?4)|build (if ?1 (\\y:B.y) x)|test 1 = 2|test (1,2) = #t|solve 20|solve 60|rename z|rename y|inline|inline|inline|eta|base|ours|up|down 0|down 1|next|next|next|prev|delete|var x|num 7|bool 1|lam x N|lam y ?|ap|add|less|pair|if|fst|snd|asc N|asc (N>N)|unwrap 0|unwrap 1|type B|name x", "|")
}

func TestPromiseOfSessions(t *testing.T) {
	r := rand.New(rand.NewSource(350))
	asks, does := queries(), commands()
	changed := map[string]int{}
	for range 200 {
		s := impl.NewSession()
		var lines, outputs []string
		for range 60 {
			before := sessionWords(s)
			line := does[r.Intn(len(does))]
			if r.Intn(3) == 0 {
				line = asks[r.Intn(len(asks))]
			}
			next, output := impl.ExecuteLine(s, line)
			if sessionWords(s) != before {
				t.Fatalf("%q changes its argument", line)
			}
			same := sessionWords(next) == before
			if !impl.EqualSession(next, s) == same {
				t.Fatalf("EqualSession of %s and %s", before, sessionWords(next))
			}
			if !same {
				changed[strings.SplitN(line, " ", 2)[0]]++
			}
			if slices.Contains(asks, line) && !same {
				t.Fatalf("the query %q changes %s", line, before)
			}
			if (output == "no" || output == "what") && !same {
				t.Fatalf("%q is answered by %s and changes %s", line, output, before)
			}
			if now := next.History.Now; !impl.IsEdit(now) || slices.Contains(does[slices.Index(does, "up"):], line) && output != "no" && output != impl.EditText(now) {
				t.Fatalf("%q is answered by %q and leads to %s", line, output, editWords(now))
			}
			checkPlainly(t, s, line, output)
			s, lines, outputs = next, append(lines, line), append(outputs, output)
		}
		if got, ok := impl.RunSession(strings.Join(lines, "\n")); !ok || !slices.Equal(got, outputs) {
			t.Fatalf("RunSession of %q is %q, want %q", lines, got, outputs)
		}
	}
	for _, line := range does {
		if word := strings.SplitN(line, " ", 2)[0]; changed[word] < 5 {
			t.Error("too few changes by", word, changed[word])
		}
	}
}

// checkPlainly requires the answers of the queries that are those of a function
// for the expression.
func checkPlainly(t *testing.T, s impl.Session, line, output string) {
	t.Helper()
	now := s.History.Now
	want := output
	switch line {
	case "show":
		want = exprWords(now.Expr) + " @" + pathWords(now.Path)
	case "mark":
		marked, _ := impl.MarkExpr(nil, now.Expr)
		want = exprWords(marked)
	case "run":
		want = impl.RunText(exprWords(now.Expr))
	case "type":
		_, own := impl.MarkExpr(nil, now.Expr)
		want = typeWords(own) + " none"
		if here, ok := impl.TypeAt(nil, now.Expr, now.Path); ok {
			want = typeWords(own) + " " + typeWords(here)
		}
	case "suggest":
		want = listWords(impl.RankedAt(nil, now.Expr, now.Path))
		if want == "" {
			want = "none"
		}
	case "tests":
		want = impl.StatusText(impl.RunTests(now.Expr, s.Tests, 60))
	case "merge":
		want = impl.MergeText(nil, s.Base, s.Ours, now.Expr)
	case "diff":
		want = impl.ChangesText(impl.DiffExpr(s.Base, now.Expr))
	case "fill 1 5":
		want = plainFill(s, 1, "5")
	case "fill 2 x":
		want = plainFill(s, 2, "x")
	}
	if output != want {
		t.Fatalf("in %s, %q is answered by %q, want %q", sessionWords(s), line, output, want)
	}
}

func roomySession(s impl.Session) impl.Session {
	return impl.Session{History: roomyHistory(s.History), Tests: roomyTests(s.Tests), Base: roomyExpr(s.Base), Ours: roomyExpr(s.Ours)}
}

func wholeSession(s impl.Session) string {
	return wholeHistory(s.History) + " " + wholeTests(s.Tests) + " " + wholeExpr(s.Base) + " " + wholeExpr(s.Ours)
}

// spoilSession spoils one part after the other, and fails if this changes one
// that follows.
func spoilSession(t *testing.T, s impl.Session) {
	t.Helper()
	rest := s
	rest.History = impl.History{}
	text := sessionWords(rest)
	spoilHistory(t, s.History)
	if sessionWords(rest) != text {
		t.Fatal("the history of a session shares memory with the rest")
	}
	exprs := []impl.Expr{}
	for _, x := range s.Tests {
		exprs = append(exprs, x.Arg, x.Want)
	}
	exprs = append(exprs, s.Base, s.Ours)
	for i, e := range exprs {
		text := exactExpr(ex(77, exprs[i+1:]...))
		spoilExpr(e)
		if exactExpr(ex(77, exprs[i+1:]...)) != text {
			t.Fatal("two expressions of a session share memory")
		}
	}
	for i := range s.Tests[:cap(s.Tests)] {
		s.Tests[:cap(s.Tests)][i] = impl.Test{Arg: ex(99)}
	}
}

func TestSessionsShareNoMemory(t *testing.T) {
	full := impl.NewSession()
	for _, line := range []string{`load (\x:(N>N).((x 1),?1))`, "base", "down 0", "down 1", "num 5", "ours", "test (1,2) = (\\x:N.x)", "test 1 = 2", "fst", "asc (N*N)", "undo"} {
		full, _ = impl.ExecuteLine(full, line)
	}
	calls := impl.NewSession()
	for _, line := range []string{`load ((\x:(N>N).((x 1),?1)) (\y:N.y))`, "base"} {
		calls, _ = impl.ExecuteLine(calls, line)
	}
	lines := append(append(queries(), commands()...), "load (1,(2:(N*N)))", "solve 3", "test (1,2) = (3:(N>N))")
	for i, s := range append([]impl.Session{impl.NewSession(), full, calls}, oddSessions()...) {
		s = roomySession(s)
		before := wholeSession(s)
		for n, line := range lines {
			if i > 12 && (i+n)%7 > 0 {
				continue
			}
			one, _ := impl.ExecuteLine(s, line)
			text := sessionWords(one)
			two, _ := impl.ExecuteLine(s, line)
			spoilSession(t, two)
			if sessionWords(one) != text {
				t.Fatalf("two results of %q share memory", line)
			}
			spoilSession(t, one)
			_ = impl.EqualSession(s, s)
			if wholeSession(s) != before {
				t.Fatalf("%q shares memory with its argument, or changes it", line)
			}
		}
	}
	first := impl.NewSession()
	spoilSession(t, first)
	if sessionWords(impl.NewSession()) != sessionWords(impl.Session{History: impl.StartHistory(impl.StartEdit())}) {
		t.Error("NewSession shares memory")
	}
}

// anyExpr and anyCore are trees of all sorts, hardly any of them valid.
func anyExpr(r *rand.Rand, depth int) impl.Expr {
	e := impl.Expr{Kind: r.Intn(17) - 1, Name: []string{"", "", "x", "y", "if", "abcdef"}[r.Intn(6)], N: []int{0, 0, 1, 2, -1, 100, math.MaxInt, math.MinInt}[r.Intn(8)]}
	if r.Intn(3) == 0 {
		e.Type = anyTree(r, 3)
	}
	for depth > 1 && len(e.Args) < r.Intn(4) {
		e.Args = append(e.Args, anyExpr(r, depth-1))
	}
	if r.Intn(3) == 0 {
		return randomExpr(r, true)
	}
	return e
}

func anyCore(r *rand.Rand, depth int) impl.Core {
	d := impl.Core{Kind: r.Intn(18) - 1, Name: []string{"", "", "x", "y", "if"}[r.Intn(5)], N: []int{0, 0, 1, 2, -1, 100, math.MaxInt}[r.Intn(7)]}
	if r.Intn(3) == 0 {
		d.Type, d.From = anyTree(r, 3), anyTree(r, 3)
	}
	for depth > 1 && len(d.Args) < r.Intn(4) {
		d.Args = append(d.Args, anyCore(r, depth-1))
	}
	for depth > 1 && r.Intn(3) == 0 {
		d.Env = append(d.Env, bind([]string{"x", "y", ""}[r.Intn(3)], anyCore(r, depth-1)))
	}
	if r.Intn(3) == 0 {
		return randomCore(r, 20)
	}
	return d
}

func anyPath(r *rand.Rand) []int {
	var path []int
	for range r.Intn(4) {
		path = append(path, []int{0, 0, 0, 1, 1, 2, 3, -1, math.MaxInt, math.MinInt}[r.Intn(10)])
	}
	return roomyPath(path)
}

func TestPromiseOfTotality(t *testing.T) {
	r := rand.New(rand.NewSource(351))
	numbers := []int{-1, 0, 1, 2, 7, 60, 61, 300, 301, math.MaxInt, math.MinInt}
	for range 3000 {
		e, a, b := roomyExpr(anyExpr(r, 4)), roomyExpr(anyExpr(r, 4)), roomyExpr(anyExpr(r, 4))
		d, by := roomyCore(anyCore(r, 4)), roomyCore(anyCore(r, 3))
		ctx := roomyCtx([]impl.Typing{{Name: []string{"x", "if", "y"}[r.Intn(3)], Type: anyTree(r, 2)}, {Name: "x", Type: randomType(r, 2)}}[:r.Intn(3)])
		path, n, u := anyPath(r), numbers[r.Intn(len(numbers))], numbers[r.Intn(len(numbers))]
		tests := roomyTests([]impl.Test{{Arg: a, Want: b}, {Arg: b, Want: e}}[:r.Intn(3)])
		changes := roomyChanges([]impl.Change{{Path: path, To: a}, {Path: anyPath(r), To: b}})
		s := impl.Session{History: impl.History{Past: []impl.Edit{{Expr: a}}, Now: impl.Edit{Expr: e, Path: path}}, Tests: tests, Base: a, Ours: b}
		before := wholeExpr(e) + wholeExpr(a) + wholeExpr(b) + wholeCore(d) + wholeCore(by) + wholeCtx(ctx) + wholePath(path) + wholeTests(tests) + wholeChanges(changes)
		_, _, _, _ = impl.EvalCore(d, n), impl.RunExpr(e, n), impl.FormOf(d), impl.IsAnswer(d)
		_, _, _, _ = impl.ClosuresOf(d), impl.ClosuresAt(d, u), impl.BlockedBy(d), impl.FormName(n)
		_, _, _ = impl.FillCore(d, u, by), impl.FillAndRun(e, u, a, n), impl.RunAndResume(e, u, a, n)
		_, _ = impl.FillerOf(e, u, a)
		_, _, _ = impl.RunTests(e, tests, n), impl.PassesAll(e, tests, n), impl.StatusText(path)
		_, _, _ = impl.CandidatesAt(ctx, e, path), impl.SuggestAt(ctx, e, path), impl.RankedAt(ctx, e, path)
		_, _, _ = impl.SolveTests(e, tests, min(n, 5))
		_, _ = impl.FirstHole(e)
		_, _ = impl.RenameAt(e, path, "x")
		_, _ = impl.InlineAt(e, path)
		_, _ = impl.EtaAt(ctx, e, path)
		_, _ = impl.ApplyChanges(e, changes)
		_, _, _, _ = impl.DiffExpr(a, b), impl.InvertChanges(e, changes), impl.ChangesText(changes), impl.EqualChanges(changes, changes)
		_, _, _ = impl.ConflictsOf(e, a, b), impl.IsCleanMerge(e, a, b), impl.CountHoles(e)
		_, _ = impl.MergeExpr(e, a, b)
		_, _, _, _ = impl.MarkPaths(ctx, e), impl.NewMarks(ctx, e, a, b), impl.IsSound(ctx, e, a, b), impl.MergeText(ctx, e, a, b)
		_, _ = impl.RunText(wholeExpr(e)), impl.RunExample(n)
		for _, line := range []string{"undo", "show", "mark", "type", "run", "fill 1 x", "suggest", "tests", "solve 3", "rename z", "inline", "eta", "base", "merge", "diff", "fst", "build (1+2)", wholeExpr(a)} {
			_, _ = impl.ExecuteLine(s, line)
		}
		if wholeExpr(e)+wholeExpr(a)+wholeExpr(b)+wholeCore(d)+wholeCore(by)+wholeCtx(ctx)+wholePath(path)+wholeTests(tests)+wholeChanges(changes) != before {
			t.Fatal("an argument was changed")
		}
	}
}
