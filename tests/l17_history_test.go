package tests

import (
	"math/rand"
	"slices"
	"testing"

	"loop.example/g00585/impl"
)

// Promise 17: what was done can be undone and done again.

// historyWords writes any history, so that different ones have different
// texts.
func historyWords(h impl.History) string {
	text := ""
	for _, s := range h.Past {
		text += editWords(s) + " "
	}
	text += "NOW " + editWords(h.Now) + " NEXT"
	for _, s := range h.Next {
		text += " " + editWords(s)
	}
	return text
}

// numbered has edits of the numbers from first to last.
func numbered(first, last int) []impl.Edit {
	var list []impl.Edit
	for n := first; n <= last; n++ {
		list = append(list, impl.Edit{Expr: constant(n)})
	}
	return list
}

func number99() impl.Edit { return impl.Edit{Expr: hole(99)} }

func checkHistory(t *testing.T, what string, got impl.History, ok bool, want impl.History, fits bool) {
	t.Helper()
	if ok != fits || historyWords(got) != historyWords(want) {
		t.Errorf("%s = %s, %v, want %s", what, historyWords(got), ok, historyWords(want))
	}
}

func TestStartHistory(t *testing.T) {
	for _, s := range []impl.Edit{impl.StartEdit(), editOf("(x+y)", "1"), {}, editOf("{1 x}", "0.0")} {
		if got := impl.StartHistory(s); historyWords(got) != historyWords(impl.History{Now: s}) {
			t.Errorf("StartHistory(%s) = %s", editWords(s), historyWords(got))
		}
	}
	if impl.MaxPast != 20 {
		t.Error(impl.MaxPast)
	}
}

func TestDoAction(t *testing.T) {
	five := readAction("num 5")
	for _, past := range []int{0, 1, 2, 18, 19} {
		for _, next := range []int{0, 1, 3, 25} {
			h := impl.History{Past: numbered(1, past), Now: number99(), Next: numbered(101, 100+next)}
			got, ok := impl.DoAction(h, five)
			checkHistory(t, "DoAction", got, ok, impl.History{Past: append(numbered(1, past), number99()), Now: impl.Edit{Expr: constant(5)}}, true)
			got, ok = impl.DoAction(h, readAction("up"))
			checkHistory(t, "DoAction of what is not possible", got, ok, h, false)
			got, ok = impl.DoAction(h, impl.Action{})
			checkHistory(t, "DoAction of no action", got, ok, h, false)
		}
	}
	// The oldest edit goes, one for each action.
	for _, past := range []int{20, 21, 22, 40} {
		h := impl.History{Past: numbered(1, past), Now: number99(), Next: numbered(1, 2)}
		got, ok := impl.DoAction(h, five)
		checkHistory(t, "DoAction in a full history", got, ok, impl.History{Past: append(numbered(2, past), number99()), Now: impl.Edit{Expr: constant(5)}}, true)
		got, ok = impl.DoAction(h, readAction("down 0"))
		checkHistory(t, "DoAction of what is not possible in a full history", got, ok, h, false)
	}
	// Moves are actions like others.
	h := impl.StartHistory(editOf("(x+y)", "0"))
	got, ok := impl.DoAction(h, readAction("next"))
	checkHistory(t, "DoAction of a move", got, ok, impl.History{Past: []impl.Edit{editOf("(x+y)", "0")}, Now: editOf("(x+y)", "1")}, true)
	for what, s := range wrongEdits() {
		h := impl.History{Past: numbered(1, 2), Now: s, Next: numbered(3, 4)}
		got, ok := impl.DoAction(h, readAction("fst"))
		checkHistory(t, "DoAction on "+what, got, ok, h, false)
	}
	odd := impl.History{Past: []impl.Edit{{}, editOf("x", "0")}, Now: number99(), Next: []impl.Edit{{}}}
	got, ok = impl.DoAction(odd, five)
	checkHistory(t, "DoAction after wrong edits", got, ok, impl.History{Past: []impl.Edit{{}, editOf("x", "0"), number99()}, Now: impl.Edit{Expr: constant(5)}}, true)
}

func TestUndoAndRedo(t *testing.T) {
	for _, past := range []int{0, 1, 2, 19, 20, 21, 30} {
		for _, next := range []int{0, 1, 2, 19, 20, 21, 30} {
			h := impl.History{Past: numbered(1, past), Now: number99(), Next: numbered(101, 100+next)}
			undone, redone := h, h
			if past > 0 {
				undone = impl.History{Past: numbered(1, past-1), Now: impl.Edit{Expr: constant(past)}, Next: append(numbered(101, 100+next), number99())}
			}
			if next > 0 {
				redone = impl.History{Past: append(numbered(1, past), number99()), Now: impl.Edit{Expr: constant(100 + next)}, Next: numbered(101, 99+next)}
			}
			got, ok := impl.UndoEdit(h)
			checkHistory(t, "UndoEdit", got, ok, undone, past > 0)
			if past > 0 {
				got, ok = impl.RedoEdit(got)
				checkHistory(t, "RedoEdit after UndoEdit", got, ok, h, true)
			}
			got, ok = impl.RedoEdit(h)
			checkHistory(t, "RedoEdit", got, ok, redone, next > 0)
			if next > 0 {
				got, ok = impl.UndoEdit(got)
				checkHistory(t, "UndoEdit after RedoEdit", got, ok, h, true)
			}
		}
	}
	// Edits are moved whatever they are.
	odd := impl.History{Past: []impl.Edit{{}, editOf("x", "0")}, Next: []impl.Edit{editOf("{1 x}", "2")}}
	got, ok := impl.UndoEdit(odd)
	checkHistory(t, "UndoEdit of wrong edits", got, ok, impl.History{Past: []impl.Edit{{}}, Now: editOf("x", "0"), Next: []impl.Edit{editOf("{1 x}", "2"), {}}}, true)
	got, ok = impl.RedoEdit(odd)
	checkHistory(t, "RedoEdit of wrong edits", got, ok, impl.History{Past: []impl.Edit{{}, editOf("x", "0"), {}}, Now: editOf("{1 x}", "2")}, true)
	for _, h := range []impl.History{{}, impl.StartHistory(impl.StartEdit())} {
		got, ok := impl.UndoEdit(h)
		checkHistory(t, "UndoEdit of nothing", got, ok, h, false)
		got, ok = impl.RedoEdit(h)
		checkHistory(t, "RedoEdit of nothing", got, ok, h, false)
	}
}

// tracked is a history with the list of all edits that were made and not
// forgotten, and the index of Now in it.
type tracked struct {
	h         impl.History
	all       []string
	at        int
	forgotten int
}

func (k *tracked) undo(t *testing.T) {
	next, ok := impl.UndoEdit(k.h)
	if ok != (k.at > 0) || !ok && historyWords(next) != historyWords(k.h) {
		t.Fatalf("UndoEdit of %s: %v", historyWords(k.h), ok)
	}
	if ok {
		k.at--
		again, fine := impl.RedoEdit(next)
		if !fine || historyWords(again) != historyWords(k.h) {
			t.Fatalf("what is undone in %s is not done again", historyWords(k.h))
		}
	}
	k.h = next
}

func (k *tracked) redo(t *testing.T) {
	next, ok := impl.RedoEdit(k.h)
	if ok != (k.at+1 < len(k.all)) || !ok && historyWords(next) != historyWords(k.h) {
		t.Fatalf("RedoEdit of %s: %v", historyWords(k.h), ok)
	}
	if ok {
		k.at++
	}
	k.h = next
}

func (k *tracked) do(t *testing.T, a impl.Action) {
	now, fits := impl.PerformAction(k.h.Now, a)
	next, ok := impl.DoAction(k.h, a)
	if ok != fits || !ok && historyWords(next) != historyWords(k.h) {
		t.Fatalf("DoAction of %s in %s: %v", actionWords(a), historyWords(k.h), ok)
	}
	if ok {
		k.all, k.at = append(k.all[:k.at+1:k.at+1], editWords(now)), k.at+1
		if k.at > impl.MaxPast {
			k.all, k.at = k.all[1:], k.at-1
			k.forgotten++
		}
		back, fine := impl.UndoEdit(next)
		if !fine || editWords(back.Now) != editWords(k.h.Now) {
			t.Fatalf("what is done in %s is not undone", historyWords(k.h))
		}
	}
	k.h = next
}

func (k *tracked) check(t *testing.T) {
	var got []string
	for _, s := range k.h.Past {
		got = append(got, editWords(s))
	}
	got = append(got, editWords(k.h.Now))
	for i := len(k.h.Next) - 1; i >= 0; i-- {
		got = append(got, editWords(k.h.Next[i]))
	}
	if !slices.Equal(got, k.all) || len(k.h.Past) != k.at {
		t.Fatalf("%s is at %d of %q", historyWords(k.h), k.at, k.all)
	}
}

func TestPromiseOfHistory(t *testing.T) {
	r := rand.New(rand.NewSource(170))
	texts := someActions()
	undone, forgotten := 0, 0
	for range 40 {
		k := &tracked{h: impl.StartHistory(impl.StartEdit())}
		k.all = []string{editWords(k.h.Now)}
		for range 150 {
			switch r.Intn(5) {
			case 0:
				before := k.at
				k.undo(t)
				undone += before - k.at
			case 1:
				k.redo(t)
			default:
				k.do(t, readAction(texts[r.Intn(len(texts))]))
			}
			k.check(t)
		}
		forgotten += k.forgotten
	}
	if undone < 300 || forgotten < 100 {
		t.Error("too little was undone or forgotten", undone, forgotten)
	}
}

func TestEqualHistory(t *testing.T) {
	a, b := editOf("(x+y)", "0"), editOf("(x+y)", "1")
	list := []impl.History{{}, {Now: a}, {Now: b}, {Past: []impl.Edit{a}}, {Past: []impl.Edit{b}}, {Next: []impl.Edit{a}}, {Past: []impl.Edit{a}, Now: a}, {Past: []impl.Edit{a, a}, Now: a}, {Past: []impl.Edit{a, b}, Now: a},
		{Past: []impl.Edit{b, a}, Now: a}, {Now: a, Next: []impl.Edit{a}}, {Now: a, Next: []impl.Edit{a, b}}, {Now: a, Next: []impl.Edit{b, a}}, {Past: []impl.Edit{a}, Now: a, Next: []impl.Edit{b}}, {Past: []impl.Edit{b}, Now: a, Next: []impl.Edit{a}},
		{Past: []impl.Edit{{}}, Now: a}, {Now: a, Next: []impl.Edit{{}}}}
	for _, one := range list {
		for _, two := range list {
			if got := impl.EqualHistory(one, two); got != (historyWords(one) == historyWords(two)) {
				t.Errorf("EqualHistory(%s, %s) is %v", historyWords(one), historyWords(two), got)
			}
		}
	}
	if !impl.EqualHistory(impl.History{Past: []impl.Edit{}, Next: []impl.Edit{}}, impl.History{}) {
		t.Error("empty slices are not equal to nil")
	}
}

func roomyHistory(h impl.History) impl.History {
	roomy := func(list []impl.Edit) []impl.Edit {
		copied := make([]impl.Edit, 0, len(list)+2)
		for _, s := range list {
			copied = append(copied, roomyEdit(s))
		}
		_ = append(copied, number99(), number99())
		return copied
	}
	return impl.History{Past: roomy(h.Past), Now: roomyEdit(h.Now), Next: roomy(h.Next)}
}

func wholeHistory(h impl.History) string {
	text := ""
	for _, s := range h.Past[:cap(h.Past)] {
		text += wholeEdit(s) + " "
	}
	text += "NOW " + wholeEdit(h.Now)
	for _, s := range h.Next[:cap(h.Next)] {
		text += " " + wholeEdit(s)
	}
	return text
}

// spoilHistory spoils one edit after the other, and fails if this changes one
// that follows.
func spoilHistory(t *testing.T, h impl.History) {
	t.Helper()
	edits := slices.Concat(h.Past, []impl.Edit{h.Now}, h.Next)
	for i, s := range edits {
		rest := historyWords(impl.History{Past: edits[i+1:]})
		spoilEdit(s)
		if historyWords(impl.History{Past: edits[i+1:]}) != rest {
			t.Fatal("two edits of a history share memory")
		}
	}
	for _, list := range [][]impl.Edit{h.Past, h.Next} {
		for i := range list[:cap(list)] {
			list[:cap(list)][i] = impl.Edit{Path: []int{-99}}
		}
	}
}

func TestHistoriesShareNoMemory(t *testing.T) {
	a, b := editOf(`((\x:(N>N).(x 1)),?3)`, "0.0"), editOf("(if ?1 (2,3) (x:(N*N)))", "1")
	many := slices.Repeat([]impl.Edit{a, b}, 10)
	list := []impl.History{{}, {Now: a}, {Past: []impl.Edit{a, b}, Now: a, Next: []impl.Edit{b, b}}, {Past: many, Now: b, Next: many}, {Past: []impl.Edit{{}}, Now: editOf("{1 (x,y)}", "0"), Next: []impl.Edit{a}}}
	does := map[string]func(h impl.History) impl.History{
		"StartHistory": func(h impl.History) impl.History { return impl.StartHistory(h.Now) },
		"UndoEdit":     func(h impl.History) impl.History { h, _ = impl.UndoEdit(h); return h },
		"RedoEdit":     func(h impl.History) impl.History { h, _ = impl.RedoEdit(h); return h },
		"EqualHistory": func(h impl.History) impl.History { impl.EqualHistory(h, h); return impl.History{} },
	}
	for _, text := range []string{"up", "down 2", "fst", "next", "lam x (N>N)"} {
		does["DoAction "+text] = func(h impl.History) impl.History { h, _ = impl.DoAction(h, readAction(text)); return h }
	}
	for what, do := range does {
		for _, h := range list {
			h = roomyHistory(h)
			before := wholeHistory(h)
			first, second := do(h), do(h)
			text := historyWords(first)
			spoilHistory(t, second)
			if historyWords(first) != text {
				t.Fatalf("two results of %s share memory", what)
			}
			spoilHistory(t, first)
			if wholeHistory(h) != before {
				t.Fatalf("%s shares memory with its argument, or changes it", what)
			}
		}
	}
}
