package tests

import (
	"math/rand"
	"strings"
	"testing"

	"loop.example/g00585/impl"
)

// Promise 22: a cast to the unknown type and back to a ground type gives the
// same.

func TestApplyCast(t *testing.T) {
	for _, c := range []struct{ d, from, to, want string }{
		// equal types
		{"1", "N", "N", "1"},
		{"1", "B", "B", "1"},
		{"?1[]", "?", "?", "?1[]"},
		{"<1:N=>?>", "?", "?", "<1:N=>?>"},
		{"x", "(N>(B*?))", "(N>(B*?))", "x"},
		// to the unknown type
		{"1", "N", "?", "<1:N=>?>"},
		{"#t", "B", "?", "<#t:B=>?>"},
		{"x", "(?>?)", "?", "<x:(?>?)=>?>"},
		{"x", "(?*?)", "?", "<x:(?*?)=>?>"},
		{"x", "(N>N)", "?", "<<x:(N>N)=>(?>?)>:(?>?)=>?>"},
		{"x", "(?>N)", "?", "<<x:(?>N)=>(?>?)>:(?>?)=>?>"},
		{"x", "(N*?)", "?", "<<x:(N*?)=>(?*?)>:(?*?)=>?>"},
		{"x", "((?>?)*(?*?))", "?", "<<x:((?>?)*(?*?))=>(?*?)>:(?*?)=>?>"},
		{"<1:?=>N>", "N", "?", "<<1:?=>N>:N=>?>"},
		{"<1:N=>?>", "N", "?", "<<1:N=>?>:N=>?>"},
		// from the unknown type to a ground one
		{"<1:N=>?>", "?", "N", "1"},
		{"<1:N=>?>", "?", "B", "<1:N!B>"},
		{"<1:N=>?>", "?", "(?>?)", "<1:N!(?>?)>"},
		{"<#t:B=>?>", "?", "N", "<#t:B!N>"},
		{"<x:(?>?)=>?>", "?", "(?>?)", "x"},
		{"<x:(?>?)=>?>", "?", "(?*?)", "<x:(?>?)!(?*?)>"},
		{"<x:(?*?)=>?>", "?", "(?*?)", "x"},
		{"<x:(?*?)=>?>", "?", "N", "<x:(?*?)!N>"},
		{"<<1:N=>?>:N=>?>", "?", "N", "<1:N=>?>"},
		{"x", "?", "N", "<x:?=>N>"},
		{"?1[x=1]", "?", "B", "<?1[x=1]:?=>B>"},
		{"x", "?", "(?>?)", "<x:?=>(?>?)>"},
		// casts that are not boxed
		{"<x:(N>N)=>?>", "?", "(?>?)", "<<x:(N>N)=>?>:?=>(?>?)>"},
		{"<x:?=>?>", "?", "N", "<<x:?=>?>:?=>N>"},
		{"<1:N=>N>", "?", "N", "<<1:N=>N>:?=>N>"},
		{"<1:?=>N>", "?", "N", "<<1:?=>N>:?=>N>"},
		{"<1:N!?>", "?", "N", "<<1:N!?>:?=>N>"},
		{"<1:N=>(?>?)>", "?", "(?>?)", "<<1:N=>(?>?)>:?=>(?>?)>"},
		// from the unknown type to one that is not ground
		{"x", "?", "(N>N)", "<<x:?=>(?>?)>:(?>?)=>(N>N)>"},
		{"x", "?", "(N*?)", "<<x:?=>(?*?)>:(?*?)=>(N*?)>"},
		{"<x:(?>?)=>?>", "?", "(N>N)", "<x:(?>?)=>(N>N)>"},
		{"<x:(?*?)=>?>", "?", "(?*B)", "<x:(?*?)=>(?*B)>"},
		{"<1:N=>?>", "?", "(N>N)", "<<1:N!(?>?)>:(?>?)=>(N>N)>"},
		{"<x:(?*?)=>?>", "?", "(N>N)", "<<x:(?*?)!(?>?)>:(?>?)=>(N>N)>"},
		{"<x:(N>N)=>?>", "?", "(N>N)", "<<<x:(N>N)=>?>:?=>(?>?)>:(?>?)=>(N>N)>"},
		// other types
		{"x", "(N>N)", "(?>N)", "<x:(N>N)=>(?>N)>"},
		{"x", "(?>?)", "(N>N)", "<x:(?>?)=>(N>N)>"},
		{"x", "(N>N)", "(?>?)", "<x:(N>N)=>(?>?)>"},
		{"x", "N", "B", "<x:N=>B>"},
		{"x", "N", "(N>N)", "<x:N=>(N>N)>"},
		{"x", "(N*N)", "(N>N)", "<x:(N*N)=>(N>N)>"},
		{"<1:N=>?>", "N", "B", "<<1:N=>?>:N=>B>"},
		{"<x:(?>?)=>?>", "(?>?)", "(N>N)", "<<x:(?>?)=>?>:(?>?)=>(N>N)>"},
	} {
		if got := impl.ApplyCast(readCore(c.d), readType(c.from), readType(c.to)); coreWords(got) != c.want {
			t.Errorf("ApplyCast(%s, %s, %s) = %s, want %s", c.d, c.from, c.to, coreWords(got), c.want)
		}
	}
}

// Types in casts need not be notes.
func TestApplyCastOfLargeTypes(t *testing.T) {
	x, functions, pairs := coreVar("x"), arrow(unknown(), unknown()), couple(unknown(), unknown())
	for _, large := range []impl.Type{largeType(17), largeType(799), fullType(9)} {
		if got := impl.ApplyCast(x, large, large); exactCore(got) != exactCore(x) {
			t.Errorf("a cast between equal types of %d nodes", impl.SizeOfType(large))
		}
		if got := impl.ApplyCast(x, large, unknown()); exactCore(got) != exactCore(castTo(castTo(x, large, functions), functions, unknown())) {
			t.Errorf("a cast from a type of %d nodes to the unknown type", impl.SizeOfType(large))
		}
		if got := impl.ApplyCast(castTo(x, functions, unknown()), unknown(), large); exactCore(got) != exactCore(castTo(x, functions, large)) {
			t.Errorf("a cast to a type of %d nodes from the unknown type", impl.SizeOfType(large))
		}
	}
	deep := chainType(impl.MaxTypeDepth-1, number())
	for _, deep := range []impl.Type{couple(deep, number()), couple(number(), deep)} {
		if got := impl.ApplyCast(x, deep, unknown()); exactCore(got) != exactCore(castTo(castTo(x, deep, pairs), pairs, unknown())) {
			t.Error("a cast from a deep type to the unknown type")
		}
		if got := impl.ApplyCast(x, unknown(), deep); exactCore(got) != exactCore(castTo(castTo(x, unknown(), pairs), pairs, deep)) {
			t.Error("a cast from the unknown type to a deep type")
		}
	}
}

func TestIsBoxed(t *testing.T) {
	for s, want := range map[string]bool{
		"<1:N=>?>": true, "<#t:B=>?>": true, "<x:(?>?)=>?>": true, "<x:(?*?)=>?>": true, "<?1[]:N=>?>": true, "<<1:N=>?>:N=>?>": true,
		"<x:?=>?>": false, "<x:?=>N>": false, "<1:N=>N>": false, "<1:N=>B>": false, "<x:(N>N)=>?>": false, "<x:(?>N)=>?>": false, "<x:(N*?)=>?>": false, "<x:((?>?)>?)=>?>": false,
		"<x:N=>(?>?)>": false, "<x:(?>?)=>(?>?)>": false, "<1:N!?>": false, "<1:N!B>": false, "1": false, "x": false, "?1[]": false, "{1 <1:N=>?>}[]": false, "(<1:N=>?>,<1:N=>?>)": false, "(fst <1:N=>?>)": false,
	} {
		if got := impl.IsBoxed(readCore(s)); got != want {
			t.Errorf("IsBoxed(%s) is %v", s, got)
		}
	}
	one := coreNum(1)
	for _, d := range []impl.Core{{}, {Kind: impl.CoCast, From: number(), Type: unknown()}, {Kind: impl.CoCast, From: number(), Type: unknown(), Args: []impl.Core{one, one}}, castTo(one, ty(2, unknown()), unknown()),
		castTo(one, number(), ty(1, unknown())), castTo(one, number(), impl.Type{}), castTo(one, impl.Type{}, unknown()), castTo(one, ty(4, unknown()), unknown())} {
		if impl.IsBoxed(d) {
			t.Errorf("%s is boxed", exactCore(d))
		}
	}
	// What is in the box, and what else the node has, does not count.
	for _, d := range []impl.Core{castTo(impl.Core{}, number(), unknown()), {Kind: impl.CoCast, Name: "x", N: 7, From: number(), Type: unknown(), Args: []impl.Core{co(99)}, Env: readBinds("x=1")}} {
		if !impl.IsBoxed(d) {
			t.Errorf("%s is not boxed", exactCore(d))
		}
	}
}

func TestApplyCastOfWrongArguments(t *testing.T) {
	boxed := readCore("<1:N=>?>")
	for what, x := range wrongTypes() {
		if impl.SizeOfType(x) > 2000 {
			continue
		}
		for _, other := range []impl.Type{unknown(), number(), arrow(unknown(), unknown()), arrow(number(), number()), x, {}} {
			for _, d := range []impl.Core{boxed, coreVar("x"), {}} {
				if got := impl.ApplyCast(d, x, other); exactCore(got) != exactCore(castTo(d, x, other)) {
					t.Errorf("ApplyCast from %s to %s = %s", what, typeWords(other), exactCore(got))
				}
				if got := impl.ApplyCast(d, other, x); exactCore(got) != exactCore(castTo(d, other, x)) {
					t.Errorf("ApplyCast from %s to %s = %s", typeWords(other), what, exactCore(got))
				}
			}
		}
	}
	// Core expressions that are not valid are cast like all others.
	one := coreNum(1)
	wide := impl.Core{Kind: impl.CoCast, From: number(), Type: unknown(), Args: []impl.Core{one, one}}
	lone := impl.Core{Kind: impl.CoCast, From: number(), Type: unknown()}
	for _, d := range []impl.Core{wide, lone, {}, co(99, one), coreHole(0), {Kind: impl.CoVar, Name: "if", Args: []impl.Core{one}}} {
		if got := impl.ApplyCast(d, unknown(), number()); exactCore(got) != exactCore(castTo(d, unknown(), number())) {
			t.Errorf("ApplyCast(%s, ?, N) = %s", exactCore(d), exactCore(got))
		}
		if got := impl.ApplyCast(d, number(), unknown()); exactCore(got) != exactCore(castTo(d, number(), unknown())) {
			t.Errorf("ApplyCast(%s, N, ?) = %s", exactCore(d), exactCore(got))
		}
		if got := impl.ApplyCast(d, number(), number()); exactCore(got) != exactCore(d) {
			t.Errorf("ApplyCast(%s, N, N) = %s", exactCore(d), exactCore(got))
		}
		if got := impl.ApplyCast(castTo(d, number(), unknown()), unknown(), number()); exactCore(got) != exactCore(d) {
			t.Errorf("%s is taken out of a box as %s", exactCore(d), exactCore(got))
		}
	}
	odd := impl.Core{Kind: impl.CoCast, Name: "x", N: 7, From: number(), Type: unknown(), Args: []impl.Core{one}, Env: readBinds("x=1")}
	if got := impl.ApplyCast(odd, unknown(), truth()); exactCore(got) != exactCore(failedTo(one, number(), truth())) {
		t.Errorf("ApplyCast(%s, ?, B) = %s", exactCore(odd), exactCore(got))
	}
	deep := coreChain(100000, one)
	if got := impl.ApplyCast(deep, arrow(number(), number()), unknown()); impl.SizeOfCore(got) != 100002 {
		t.Error("a cast of a deep core expression")
	}
}

// castByRules applies the rules to texts. A boxed expression is given with
// what is in it.
func castByRules(d, box, inside, from, to string) string {
	const ground = " N B (?>?) (?*?) "
	isGround := func(x string) bool { return strings.Contains(ground, " "+x+" ") }
	groundOf := func(x string) string {
		if isGround(x) {
			return x
		}
		if readType(x).Kind == impl.TyArrow {
			return "(?>?)"
		}
		return "(?*?)"
	}
	cast := func(d, from, to string) string { return "<" + d + ":" + from + "=>" + to + ">" }
	switch {
	case from == to:
		return d
	case to == "?" && isGround(from):
		return cast(d, from, to)
	case to == "?":
		return cast(cast(d, from, groundOf(from)), groundOf(from), to)
	case from == "?" && !isGround(to):
		return cast(castByRules(d, box, inside, from, groundOf(to)), groundOf(to), to)
	case from == "?" && box == to:
		return inside
	case from == "?" && box != "":
		return "<" + inside + ":" + box + "!" + to + ">"
	}
	return cast(d, from, to)
}

func TestApplyCastByRules(t *testing.T) {
	for _, from := range allTypes(2) {
		for _, to := range allTypes(2) {
			for d, held := range map[string][2]string{"x": {}, "<1:N=>?>": {"N", "1"}, "<x:(?>?)=>?>": {"(?>?)", "x"}, "<?1[]:(?*?)=>?>": {"(?*?)", "?1[]"}, "<#t:B=>?>": {"B", "#t"}, "<x:(N>N)=>?>": {}, "<1:?=>N>": {}, "<1:N!B>": {}} {
				want := castByRules(d, held[0], held[1], typeWords(from), typeWords(to))
				if got := impl.ApplyCast(readCore(d), from, to); coreWords(got) != want {
					t.Fatalf("ApplyCast(%s, %s, %s) = %s, want %s", d, typeWords(from), typeWords(to), coreWords(got), want)
				}
			}
		}
	}
}

func TestPromiseOfCasts(t *testing.T) {
	r := rand.New(rand.NewSource(220))
	grounds := []impl.Type{number(), truth(), arrow(unknown(), unknown()), couple(unknown(), unknown())}
	for range 2000 {
		d := randomCore(r, 40)
		for _, from := range grounds {
			boxed := impl.ApplyCast(d, from, unknown())
			if !impl.IsBoxed(boxed) || impl.IsBoxed(boxed) == impl.IsBoxed(co(impl.CoFst, boxed)) {
				t.Fatalf("%s is not boxed", coreWords(boxed))
			}
			for _, to := range grounds {
				want := coreWords(d)
				if typeWords(from) != typeWords(to) {
					want = "<" + want + ":" + typeWords(from) + "!" + typeWords(to) + ">"
				}
				if got := impl.ApplyCast(boxed, unknown(), to); coreWords(got) != want {
					t.Fatalf("ApplyCast(%s, ?, %s) = %s", coreWords(boxed), typeWords(to), coreWords(got))
				}
			}
		}
	}
}

// Evaluated casts keep the type that the cast states.
func TestTypesOfAppliedCasts(t *testing.T) {
	ctx := typings("n", "N", "b", "B", "u", "?", "f", "(N>N)", "g", "(?>?)", "p", "(N*?)", "q", "(?*?)")
	for _, d := range []impl.Core{coreVar("n"), coreVar("b"), coreVar("u"), coreVar("f"), coreVar("g"), coreVar("p"), coreVar("q"), castTo(coreVar("n"), number(), unknown()), castTo(coreVar("g"), arrow(unknown(), unknown()), unknown()),
		castTo(coreVar("q"), couple(unknown(), unknown()), unknown())} {
		from, ok := impl.CoreType(nil, ctx, d)
		if !ok {
			t.Fatal(coreWords(d))
		}
		for _, to := range allTypes(2) {
			if !impl.Consistent(from, to) {
				continue
			}
			got := impl.ApplyCast(d, from, to)
			if own, ok := impl.CoreType(nil, ctx, got); !ok || typeWords(own) != typeWords(to) {
				t.Errorf("ApplyCast(%s, %s, %s) = %s of the type %s", coreWords(d), typeWords(from), typeWords(to), coreWords(got), typeWords(own))
			}
		}
	}
}

func TestCastsShareNoMemory(t *testing.T) {
	types := allTypes(2)
	types = append(types, ty(2, number()), arrow(number(), ty(0, number())))
	for _, s := range []string{"(x,1)", "<(x,1):(?*?)=>?>", `<(\x:(N>N).x):(?>?)=>?>`, "<1:N=>?>", "?1[x=(1,2)]"} {
		d := roomyCore(readCore(s))
		before := wholeCore(d)
		for _, a := range types {
			for _, b := range types {
				from, to := roomyType(a), roomyType(b)
				beforeFrom, beforeTo := wholeType(from), wholeType(to)
				got := impl.ApplyCast(d, from, to)
				text := exactCore(got)
				if partsShare(got) {
					t.Fatalf("parts of ApplyCast(%s, %s, %s) share memory", s, typeWords(a), typeWords(b))
				}
				spoilCore(impl.ApplyCast(d, from, to))
				_ = impl.IsBoxed(d)
				if exactCore(got) != text {
					t.Fatal("two results of ApplyCast share memory")
				}
				spoilCore(got)
				if wholeCore(d) != before || wholeType(from) != beforeFrom || wholeType(to) != beforeTo {
					t.Fatal("an argument was changed")
				}
			}
		}
	}
}
