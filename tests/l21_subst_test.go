package tests

import (
	"maps"
	"math/rand"
	"slices"
	"testing"

	"loop.example/g00585/impl"
)

// Promise 21: variables that were replaced are not free any more in the core
// language.

func TestSubstCore(t *testing.T) {
	for _, c := range []struct{ d, name, by, want string }{
		{"x", "x", "5", "5"},
		{"y", "x", "5", "y"},
		{"x", "x", "x", "x"},
		{"1", "x", "5", "1"},
		{"?1[]", "x", "5", "?1[]"},
		{"((x+x)<{3 x}[])", "x", "-5", "((-5+-5)<{3 -5}[])"},
		{"(if x (fst x) (snd <x:?=>N>))", "x", "?7[]", "(if ?7[] (fst ?7[]) (snd <?7[]:?=>N>))"},
		{"<(x,x):(N*N)!N>", "x", "1", "<(1,1):(N*N)!N>"},
		// environments
		{"?1[x=1]", "x", "5", "?1[x=1]"},
		{"?1[x=x]", "x", "5", "?1[x=5]"},
		{"?1[y=x,x=y]", "x", "5", "?1[y=5,x=y]"},
		{"?1[y=?2[x=x,z=(x y)]]", "x", "5", "?1[y=?2[x=5,z=(5 y)]]"},
		{"{1 x}[x=x,y=(x,y)]", "x", "(1,2)", "{1 (1,2)}[x=(1,2),y=((1,2),y)]"},
		{"{1 {2 x}[x=x]}[y=y]", "x", "5", "{1 {2 5}[x=5]}[y=y]"},
		// functions
		{`(\x:N.x)`, "x", "5", `(\x:N.x)`},
		{`(\y:N.x)`, "x", "5", `(\y:N.5)`},
		{`(\x:N.?1[x=x,y=x])`, "x", "5", `(\x:N.?1[x=x,y=x])`},
		{`(\y:N.?1[x=x,y=y])`, "x", "5", `(\y:N.?1[x=5,y=y])`},
		{`((\x:N.x) x)`, "x", "1", `((\x:N.x) 1)`},
		{`(x (\x:N.x))`, "x", "1", `(1 (\x:N.x))`},
		{`(\y:N.((\x:N.(x y)) x))`, "x", "1", `(\y:N.((\x:N.(x y)) 1))`},
		{`(\y:N.(\x:N.(\y:N.x)))`, "x", "1", `(\y:N.(\x:N.(\y:N.x)))`},
		{`(\x:N.y)`, "y", "5", `(\x:N.5)`},
		// parameters are not renamed
		{`(\y:N.(x y))`, "x", "y", `(\y:N.(y y))`},
		{`(\y:N.?1[x=x,y=y])`, "x", "(y z)", `(\y:N.?1[x=(y z),y=y])`},
		// what was put in is not looked at again
		{"(x y)", "x", "(x y)", "((x y) y)"},
		{`(x x)`, "x", `(\z:N.x)`, `((\z:N.x) (\z:N.x))`},
	} {
		if got := impl.SubstCore(readCore(c.d), c.name, readCore(c.by)); coreWords(got) != c.want {
			t.Errorf("SubstCore(%s, %s, %s) = %s, want %s", c.d, c.name, c.by, coreWords(got), c.want)
		}
	}
}

func TestSubstAll(t *testing.T) {
	for _, c := range []struct{ d, list, want string }{
		{"(x,y)", "", "(x,y)"},
		{"(x,y)", "x=1", "(1,y)"},
		{"(x,y)", "x=1,y=2", "(1,2)"},
		{"(x,y)", "y=2,x=1", "(1,2)"},
		{"(x,(y,z))", "z=x,x=y,y=z", "(y,(z,x))"},
		{"(x,y)", "x=y,y=1", "(y,1)"},
		{"(x,y)", "x=(x,y),y=(y x)", "((x,y),(y x))"},
		{"(x,y)", "z=1", "(x,y)"},
		// the first of several bindings
		{"(x,y)", "x=1,x=2", "(1,y)"},
		{"(x,y)", "x=1,y=3,x=2,y=4", "(1,3)"},
		{"(x,x)", "x=x,x=2", "(x,x)"},
		// parameters
		{`(\x:N.(x,y))`, "x=1,y=2", `(\x:N.(x,2))`},
		{`(\x:N.(x,y))`, "x=1,x=2,y=3", `(\x:N.(x,3))`},
		{`((\x:N.(x,y)),(x,y))`, "x=1,y=2", `((\x:N.(x,2)),(1,2))`},
		{`(\x:N.(\y:N.(x,(y,z))))`, "x=1,y=2,z=3", `(\x:N.(\y:N.(x,(y,3))))`},
		{`(\x:N.((\y:N.(x y)) y))`, "x=1,y=2,z=3", `(\x:N.((\y:N.(x y)) 2))`},
		{`(\z:N.(\z:N.(x z)))`, "x=1,z=3", `(\z:N.(\z:N.(1 z)))`},
		{`(\y:N.x)`, "x=y,y=1", `(\y:N.y)`},
		{`((\x:N.(\x:N.x)) (\y:N.x))`, "x=5", `((\x:N.(\x:N.x)) (\y:N.5))`},
		// environments
		{"?1[x=x,y=(y,x)]", "x=1,y=2", "?1[x=1,y=(2,1)]"},
		{`(\x:N.{1 (x,y)}[x=x,y=y])`, "x=1,y=2", `(\x:N.{1 (x,2)}[x=x,y=2])`},
		{"{1 ?2[x=x]}[y=?3[x=y]]", "x=y,y=x", "{1 ?2[x=y]}[y=?3[x=x]]"},
		{`?1[x=(\x:N.x),y=x]`, "x=1", `?1[x=(\x:N.x),y=1]`},
	} {
		if got := impl.SubstAll(readCore(c.d), readBinds(c.list)); coreWords(got) != c.want {
			t.Errorf("SubstAll(%s, %s) = %s, want %s", c.d, c.list, coreWords(got), c.want)
		}
	}
}

func TestSubstitutionInWrongCores(t *testing.T) {
	x, y, five := coreVar("x"), coreVar("y"), coreNum(5)
	oddX := impl.Core{Kind: impl.CoVar, Name: "x", N: 3, Args: []impl.Core{y}, Env: []impl.CoreBind{bind("x", x)}}
	oddY := impl.Core{Kind: impl.CoVar, Name: "y", N: 3, Args: []impl.Core{x}, Env: []impl.CoreBind{bind("x", x)}}
	lam := func(name string, args ...impl.Core) impl.Core {
		return impl.Core{Kind: impl.CoLam, Name: name, Args: args}
	}
	for _, c := range []struct{ d, by, want impl.Core }{
		{co(0, x, co(77, x)), five, co(0, five, co(77, five))},
		{impl.Core{}, five, impl.Core{}},
		{oddX, five, five},
		{x, oddX, oddX},
		{oddY, five, oddY},
		{co(impl.CoPair, oddY, oddX), y, co(impl.CoPair, oddY, y)},
		{lam("x"), five, lam("x")},
		{lam("y"), five, lam("y")},
		{lam("y", x, x), five, lam("y", five, five)},
		{lam("x", x, x), five, lam("x", x, x)},
		{lam("", x), five, lam("", five)},
		{impl.Core{Kind: impl.CoNum, Name: "x", N: -4, Type: ty(9), From: ty(8), Env: []impl.CoreBind{bind("x", x), bind("x", y)}}, five,
			impl.Core{Kind: impl.CoNum, Name: "x", N: -4, Type: ty(9), From: ty(8), Env: []impl.CoreBind{bind("x", five), bind("x", y)}}},
		{x, impl.Core{}, impl.Core{}},
	} {
		if got := impl.SubstCore(c.d, "x", c.by); exactCore(got) != exactCore(c.want) {
			t.Errorf("SubstCore(%s, x, %s) = %s", exactCore(c.d), exactCore(c.by), exactCore(got))
		}
		if got := impl.SubstAll(c.d, []impl.CoreBind{bind("x", c.by), bind("x", y)}); exactCore(got) != exactCore(c.want) {
			t.Errorf("SubstAll(%s) by %s = %s", exactCore(c.d), exactCore(c.by), exactCore(got))
		}
	}
	if got := impl.SubstCore(coreVar(""), "", five); exactCore(got) != exactCore(five) {
		t.Errorf("the empty name: %s", exactCore(got))
	}
	deep := coreChain(100000, x)
	if got := impl.SubstCore(deep, "x", y); !slices.Equal(impl.FreeInCore(got), []string{"y"}) || impl.SizeOfCore(got) != 100000 {
		t.Error("a deep core expression")
	}
	large := impl.SubstCore(co(impl.CoPair, x, x), "x", coreChain(500, five))
	if impl.SizeOfCore(large) != 1001 || impl.IsCore(large) {
		t.Error("the result has not 1001 nodes")
	}
}

// substituted does by its own what SubstAll does.
func substituted(d impl.Core, values map[string]impl.Core) impl.Core {
	if d.Kind == impl.CoVar {
		if value, ok := values[d.Name]; ok {
			return value
		}
		return d
	}
	if d.Kind == impl.CoLam {
		values = maps.Clone(values)
		delete(values, d.Name)
	}
	args, env := slices.Clone(d.Args), slices.Clone(d.Env)
	for i := range args {
		args[i] = substituted(args[i], values)
	}
	for i := range env {
		env[i].Value = substituted(env[i].Value, values)
	}
	d.Args, d.Env = args, env
	return d
}

func TestPromiseOfCoreSubstitution(t *testing.T) {
	r := rand.New(rand.NewSource(210))
	replaced := 0
	for range 5000 {
		d := randomCore(r, 100)
		name := coreNames[r.Intn(len(coreNames))]
		by := randomCore(r, 10)
		got := impl.SubstCore(d, name, by)
		if want := substituted(d, map[string]impl.Core{name: by}); coreWords(got) != coreWords(want) {
			t.Fatalf("SubstCore(%s, %s, %s) = %s", coreWords(d), name, coreWords(by), coreWords(got))
		}
		if !slices.Contains(freeCoreNames(by, nil), name) && slices.Contains(freeCoreNames(got, nil), name) {
			t.Fatalf("%s is still free in %s", name, coreWords(got))
		}
		var list []impl.CoreBind
		values := map[string]impl.Core{}
		for range r.Intn(6) {
			b := bind(coreNames[r.Intn(len(coreNames))], randomCore(r, 10))
			list = append(list, b)
			if _, ok := values[b.Name]; !ok {
				values[b.Name] = b.Value
			}
		}
		all := impl.SubstAll(d, list)
		if want := substituted(d, values); coreWords(all) != coreWords(want) {
			t.Fatalf("SubstAll(%s, %s) = %s", coreWords(d), bindWords(list), coreWords(all))
		}
		if coreWords(all) != coreWords(d) {
			replaced++
		}
		// Values without free variables leave only those without a binding.
		for i := range list {
			list[i].Value = coreNum(i)
		}
		for _, free := range freeCoreNames(impl.SubstAll(d, list), nil) {
			if _, ok := values[free]; ok {
				t.Fatalf("%s is still free in %s after %s", free, coreWords(d), bindWords(list))
			}
		}
	}
	if replaced < 1000 {
		t.Error("too few variables were replaced", replaced)
	}
}

func TestEqualBinds(t *testing.T) {
	one := coreNum(1)
	lists := [][]impl.CoreBind{
		nil, readBinds("x=1"), readBinds("y=1"), readBinds("x=2"), readBinds("x=1,y=2"), readBinds("y=2,x=1"), readBinds("x=1,y=2,z=3"), readBinds("x=?1[x=1]"), readBinds("x=?1[x=2]"), readBinds("x=?1[]"),
		readBinds("x=1,x=1"), {{}}, {{}, {}}, {{Name: "x"}}, {{Value: one}}, readBinds(`x=(\x:N.x)`), readBinds(`x=(\x:B.x)`), readBinds("x=<1:N=>?>"), readBinds("x=<1:?=>?>"), readBinds("x=<1:?=>N>"), readBinds("x=<1:?!N>"),
	}
	for i, a := range lists {
		for j, b := range lists {
			if got := impl.EqualBinds(a, b); got != (i == j) {
				t.Errorf("EqualBinds(%s, %s) is %v", fieldsOfBinds(a, false), fieldsOfBinds(b, false), got)
			}
		}
		if !impl.EqualBinds(a, roomyBinds(a)) {
			t.Errorf("%s is not equal to a copy", fieldsOfBinds(a, false))
		}
	}
	if !impl.EqualBinds(nil, []impl.CoreBind{}) {
		t.Error("an empty list is not equal to nil")
	}
}

func TestSubstitutionSharesNoMemory(t *testing.T) {
	r := rand.New(rand.NewSource(211))
	for range 1000 {
		d, by := roomyCore(randomCore(r, 60)), roomyCore(randomCore(r, 10))
		list := roomyBinds([]impl.CoreBind{bind("x", randomCore(r, 10)), bind("y", by), bind("x", by)})
		before, beforeBy, beforeList := wholeCore(d), wholeCore(by), wholeBinds(list)
		one, two := impl.SubstCore(d, "x", by), impl.SubstAll(d, list)
		if partsShare(one) || partsShare(two) {
			t.Fatalf("parts of a result for %s share memory", coreWords(d))
		}
		oneText, twoText := exactCore(one), exactCore(two)
		spoilCore(impl.SubstCore(d, "x", by))
		spoilCore(impl.SubstAll(d, list))
		_ = impl.EqualBinds(list, list)
		if exactCore(one) != oneText || exactCore(two) != twoText {
			t.Fatal("two results share memory")
		}
		spoilCore(one)
		spoilCore(two)
		if wholeCore(d) != before || wholeCore(by) != beforeBy || wholeBinds(list) != beforeList {
			t.Fatal("an argument was changed")
		}
	}
}
