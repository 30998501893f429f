package tests

import (
	"math/rand"
	"testing"

	"loop.example/g00585/impl"
)

// Promise 5: consistency is symmetric, and a meet is at least as precise as
// both types.

// readType reads a type that is written as in the document.
func readType(s string) impl.Type {
	t, rest := readTypePrefix(s)
	if rest != "" {
		panic("no type: " + s)
	}
	return t
}

func readTypePrefix(s string) (impl.Type, string) {
	leaves := map[byte]impl.Type{'?': unknown(), 'N': number(), 'B': truth()}
	if s[0] != '(' {
		t, ok := leaves[s[0]]
		if !ok {
			panic("no type: " + s)
		}
		return t, s[1:]
	}
	first, rest := readTypePrefix(s[1:])
	kind := map[byte]int{'>': impl.TyArrow, '*': impl.TyPair}[rest[0]]
	second, rest := readTypePrefix(rest[1:])
	return ty(kind, first, second), rest[1:]
}

// blursOf returns, by their texts, the types that a type becomes when some of
// its parts are replaced by unknown types.
func blursOf(t impl.Type) map[string]bool {
	blurs := map[string]bool{"?": true}
	if len(t.Args) == 0 {
		blurs[typeWords(t)] = true
		return blurs
	}
	sign := map[int]string{impl.TyArrow: ">", impl.TyPair: "*"}[t.Kind]
	for a := range blursOf(t.Args[0]) {
		for b := range blursOf(t.Args[1]) {
			blurs["("+a+sign+b+")"] = true
		}
	}
	return blurs
}

func TestLessPrecise(t *testing.T) {
	types := allTypes(2)
	for _, b := range types {
		blurs := blursOf(b)
		for _, a := range types {
			if got := impl.LessPrecise(a, b); got != blurs[typeWords(a)] {
				t.Errorf("LessPrecise(%s, %s) is %v", typeWords(a), typeWords(b), got)
			}
		}
	}
	r := rand.New(rand.NewSource(10))
	for range 500 {
		b := randomType(r, 4)
		blurs := blursOf(b)
		for s := range blurs {
			a := readType(s)
			if !impl.LessPrecise(a, b) || impl.LessPrecise(b, a) != (s == typeWords(b)) {
				t.Fatalf("LessPrecise of %s and %s", s, typeWords(b))
			}
		}
		other := randomType(r, 4)
		if impl.LessPrecise(other, b) != blurs[typeWords(other)] {
			t.Fatalf("LessPrecise(%s, %s)", typeWords(other), typeWords(b))
		}
	}
}

// A meet is the least precise type of which both types are blurs; two types
// are consistent if there is one.
func TestMeetsOfAllSmallTypes(t *testing.T) {
	types := allTypes(2)
	for _, a := range types {
		for _, b := range types {
			var least string
			for _, c := range types {
				blurs := blursOf(c)
				if blurs[typeWords(a)] && blurs[typeWords(b)] && (least == "" || blursOf(readType(least))[typeWords(c)]) {
					least = typeWords(c)
				}
			}
			checkMeet(t, a, b, least)
		}
	}
}

// checkMeet requires a meet, or that there is none if want is empty.
func checkMeet(t *testing.T, a, b impl.Type, want string) {
	t.Helper()
	for range 2 {
		got, ok := impl.MeetType(a, b)
		if want == "" && (ok || got.Kind != 0 || len(got.Args) > 0) || want != "" && (!ok || typeWords(got) != want) {
			t.Errorf("MeetType(%s, %s) = %s, %v, want %q", typeWords(a), typeWords(b), typeWords(got), ok, want)
		}
		if got := impl.Consistent(a, b); got != (want != "") {
			t.Errorf("Consistent(%s, %s) is %v", typeWords(a), typeWords(b), got)
		}
		a, b = b, a
	}
}

func TestMeets(t *testing.T) {
	for _, c := range []struct{ a, b, want string }{
		{"?", "?", "?"},
		{"?", "N", "N"},
		{"?", "((?>N)*B)", "((?>N)*B)"},
		{"N", "B", ""},
		{"N", "(N>N)", ""},
		{"B", "(?*?)", ""},
		{"(N>N)", "(N*N)", ""},
		{"(?>?)", "(?*?)", ""},
		{"(?>B)", "(N>?)", "(N>B)"},
		{"(?*B)", "(N*?)", "(N*B)"},
		{"(N>B)", "(B>N)", ""},
		{"(N>B)", "(N>N)", ""},
		{"(N>B)", "(B>B)", ""},
		{"(?>N)", "(?>B)", ""},
		{"(?>?)", "((?*N)>(B>?))", "((?*N)>(B>?))"},
		{"((?*N)>(B>?))", "((B*?)>(?>(N*N)))", "((B*N)>(B>(N*N)))"},
		{"((?*N)>(B>?))", "((B*?)>(?*(N*N)))", ""},
		{"(((?>N)*?)>?)", "((?*(N>?))>B)", "(((?>N)*(N>?))>B)"},
		{"(((?>N)*?)>B)", "(((N>B)*?)>B)", ""},
	} {
		checkMeet(t, readType(c.a), readType(c.b), c.want)
	}
}

// blurred replaces random parts by unknown types.
func blurred(r *rand.Rand, t impl.Type) impl.Type {
	if r.Intn(4) == 0 {
		return unknown()
	}
	blur := ty(t.Kind)
	for _, part := range t.Args {
		blur.Args = append(blur.Args, blurred(r, part))
	}
	return blur
}

func TestConsistencyIsSymmetricAndMeetsArePrecise(t *testing.T) {
	r := rand.New(rand.NewSource(11))
	for range 20000 {
		a := randomType(r, 5)
		b := blurred(r, a)
		c, d := blurred(r, a), randomType(r, 3)
		if !impl.Consistent(a, b) || !impl.Consistent(b, a) || !impl.Consistent(b, c) || !impl.Consistent(c, b) {
			t.Fatalf("blurs of %s are not consistent", typeWords(a))
		}
		if impl.Consistent(a, d) != impl.Consistent(d, a) {
			t.Fatalf("Consistent(%s, %s) is not symmetric", typeWords(a), typeWords(d))
		}
		for _, other := range []impl.Type{b, c, d} {
			m, ok := impl.MeetType(c, other)
			n, back := impl.MeetType(other, c)
			if ok != impl.Consistent(c, other) || ok != back || typeWords(m) != typeWords(n) {
				t.Fatalf("MeetType(%s, %s)", typeWords(c), typeWords(other))
			}
			if ok && (!impl.LessPrecise(c, m) || !impl.LessPrecise(other, m)) {
				t.Fatalf("MeetType(%s, %s) = %s is less precise", typeWords(c), typeWords(other), typeWords(m))
			}
		}
		if m, _ := impl.MeetType(b, c); !impl.LessPrecise(m, a) {
			t.Fatalf("MeetType(%s, %s) = %s says too much", typeWords(b), typeWords(c), typeWords(m))
		}
	}
}

func TestConsistencyOfWrongTypes(t *testing.T) {
	for what, x := range wrongTypes() {
		for _, other := range []impl.Type{unknown(), number(), x, arrow(unknown(), unknown()), couple(unknown(), unknown()), {}} {
			for range 2 {
				if impl.Consistent(x, other) || impl.LessPrecise(x, other) {
					t.Errorf("%s is consistent with %s", what, typeWords(other))
				}
				if m, ok := impl.MeetType(x, other); ok || m.Kind != 0 || len(m.Args) > 0 {
					t.Errorf("%s has a meet with %s", what, typeWords(other))
				}
				x, other = other, x
			}
		}
		for _, whole := range []impl.Type{arrow(x, number()), couple(number(), x), x} {
			if impl.Consistent(whole, whole) || impl.LessPrecise(unknown(), whole) || impl.IsCompleteType(whole) || impl.IsGround(whole) {
				t.Errorf("%s in %d is accepted", what, whole.Kind)
			}
			checkNoMatch(t, "MatchArrow", impl.MatchArrow, whole)
			checkNoMatch(t, "MatchPair", impl.MatchPair, whole)
			if g := impl.GroundOf(whole); g.Kind != 0 || len(g.Args) > 0 {
				t.Errorf("%s in %d has a ground type", what, whole.Kind)
			}
		}
	}
}

// The meet of two valid types may have more nodes than a valid type.
func TestMeetsNearTheLimits(t *testing.T) {
	large := largeType(791)
	checkMeet(t, arrow(large, unknown()), arrow(unknown(), large), typeWords(arrow(large, large)))
	checkMeet(t, couple(large, unknown()), couple(unknown(), number()), typeWords(couple(large, number())))
	full := largeType(impl.MaxTypeSize - 1)
	checkMeet(t, full, unknown(), typeWords(full))
	checkMeet(t, full, full, typeWords(full))
	deep := chainType(impl.MaxTypeDepth, truth())
	checkMeet(t, deep, unknown(), typeWords(deep))
	checkMeet(t, deep, chainType(impl.MaxTypeDepth, unknown()), typeWords(deep))
	checkMeet(t, deep, chainType(impl.MaxTypeDepth, number()), "")
	checkMeet(t, deep, chainType(impl.MaxTypeDepth+1, truth()), "")
	checkMeet(t, largeType(impl.MaxTypeSize+1), unknown(), "")
}

func TestIsCompleteType(t *testing.T) {
	for _, x := range allTypes(3) {
		want := true
		for _, b := range typeWords(x) {
			want = want && b != '?'
		}
		if got := impl.IsCompleteType(x); got != want {
			t.Errorf("IsCompleteType(%s) is %v", typeWords(x), got)
		}
	}
	if !impl.IsCompleteType(arrow(number(), fullType(9))) || impl.IsCompleteType(chainType(24, unknown())) {
		t.Error("large types")
	}
}

type matcher func(impl.Type) (impl.Type, impl.Type, bool)

func checkNoMatch(t *testing.T, what string, match matcher, x impl.Type) {
	t.Helper()
	a, b, ok := match(x)
	if ok || a.Kind != 0 || b.Kind != 0 || len(a.Args)+len(b.Args) > 0 {
		t.Errorf("%s(%s) = %s, %s, %v", what, typeWords(x), typeWords(a), typeWords(b), ok)
	}
}

func TestMatches(t *testing.T) {
	for what, match := range map[string]matcher{"MatchArrow": impl.MatchArrow, "MatchPair": impl.MatchPair} {
		kind := map[string]int{"MatchArrow": impl.TyArrow, "MatchPair": impl.TyPair}[what]
		for _, x := range append(allTypes(3), arrow(largeType(399), largeType(399)), couple(largeType(1), largeType(797))) {
			first, second := unknown(), unknown()
			if x.Kind == kind {
				first, second = x.Args[0], x.Args[1]
			} else if x.Kind != impl.TyUnknown {
				checkNoMatch(t, what, match, x)
				continue
			}
			a, b, ok := match(x)
			if !ok || typeWords(a) != typeWords(first) || typeWords(b) != typeWords(second) {
				t.Errorf("%s(%s) = %s, %s, %v", what, typeWords(x), typeWords(a), typeWords(b), ok)
			}
		}
	}
}

func TestGroundTypes(t *testing.T) {
	grounds := map[int]string{impl.TyUnknown: "<0>", impl.TyNum: "N", impl.TyBool: "B", impl.TyArrow: "(?>?)", impl.TyPair: "(?*?)"}
	for _, x := range append(allTypes(3), largeType(799), chainType(24, number())) {
		ground := impl.GroundOf(x)
		if typeWords(ground) != grounds[x.Kind] {
			t.Errorf("GroundOf(%s) = %s", typeWords(x), typeWords(ground))
		}
		if got := impl.IsGround(x); got != (typeWords(x) == grounds[x.Kind]) {
			t.Errorf("IsGround(%s) is %v", typeWords(x), got)
		}
		if x.Kind != impl.TyUnknown && (!impl.IsGround(ground) || !impl.LessPrecise(ground, x)) {
			t.Errorf("GroundOf(%s) = %s does not fit", typeWords(x), typeWords(ground))
		}
	}
}

func TestConsistencySharesNoMemory(t *testing.T) {
	a := roomyType(readType("((N>?)*(?>(B*?)))"))
	b := roomyType(readType("(?*(N>(?*B)))"))
	beforeA, beforeB := wholeType(a), wholeType(b)
	var results []impl.Type
	for range 2 {
		m, _ := impl.MeetType(a, b)
		n, _ := impl.MeetType(a, impl.UnknownType())
		o, _ := impl.MeetType(impl.UnknownType(), a)
		p, _ := impl.MeetType(a, a)
		c, d, _ := impl.MatchPair(a)
		e, f, _ := impl.MatchArrow(roomyType(readType("((N>N)>(B*B))")))
		results = append(results, m, n, o, p, c, d, e, f, impl.GroundOf(a), impl.GroundOf(a.Args[0]))
		_, _, _, _ = impl.Consistent(a, b), impl.LessPrecise(b, a), impl.IsCompleteType(a), impl.IsGround(a)
	}
	var texts []string
	for _, x := range results {
		texts = append(texts, typeWords(x))
	}
	for i, x := range results {
		if typeWords(x) != texts[i] {
			t.Errorf("result %d shares memory with an earlier one", i)
		}
		spoilType(x)
	}
	if wholeType(a) != beforeA || wholeType(b) != beforeB {
		t.Error("an argument was changed")
	}
	shared := readType("(N>N)")
	twice := impl.Type{Kind: impl.TyArrow, Args: []impl.Type{shared, shared}}
	c, d, _ := impl.MatchArrow(twice)
	spoilType(c)
	if typeWords(d) != "(N>N)" {
		t.Error("both results of MatchArrow share memory")
	}
}
