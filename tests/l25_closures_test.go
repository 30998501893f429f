package tests

import (
	"math"
	"math/rand"
	"slices"
	"strings"
	"testing"

	"loop.example/g00585/impl"
)

// Promise 25: hole closures come from the holes of the expression.

// closureWords writes closures as "?U[ENV]" for holes and "{U}[ENV]" for marks.
func closureWords(closures []impl.Closure) string {
	var words []string
	for _, c := range closures {
		word := "?" + decimal(c.N)
		if c.Mark {
			word = "{" + decimal(c.N) + "}"
		}
		words = append(words, word+"["+bindWords(c.Env)+"]")
	}
	return strings.Join(words, " ")
}

func TestClosuresOf(t *testing.T) {
	for s, want := range map[string]string{
		"1": "", "x": "", `(\x:N.x)`: "", "((1+2),#t)": "", "<1:N!B>": "",
		"?7[]": "?7[]", "?1[x=1,y=(x+1)]": "?1[x=1,y=(x+1)]", "{3 (1+x)}[]": "{3}[]", "{3 1}[y=2,x=1]": "{3}[y=2,x=1]",
		// all kinds
		"(?1[] ?2[])": "?1[] ?2[]", "(?2[]+?1[])": "?2[] ?1[]", "(?1[]<?2[])": "?1[] ?2[]", "(?1[],?2[])": "?1[] ?2[]", "(if ?3[] ?2[] ?1[])": "?3[] ?2[] ?1[]", "(fst ?1[])": "?1[]", "(snd ?1[])": "?1[]", "<?1[]:?=>N>": "?1[]", "<?1[]:N!B>": "?1[]", `(\x:N.?1[x=x])`: "?1[x=x]",
		// a node before what it contains, Args before Values
		"{2 ?1[]}[]": "{2}[] ?1[]", "{2 {1 (?4[],?3[])}[]}[]": "{2}[] {1}[] ?4[] ?3[]", "?1[x=?2[],y=?3[]]": "?1[x=?2[],y=?3[]] ?2[] ?3[]", "?1[x=?2[y=?3[]]]": "?1[x=?2[y=?3[]]] ?2[y=?3[]] ?3[]",
		"{1 ?2[]}[x=?3[],y={4 ?5[]}[]]": "{1}[x=?3[],y={4 ?5[]}[]] ?2[] ?3[] {4}[] ?5[]", "({1 ?2[]}[x=?3[]],?4[])": "{1}[x=?3[]] ?2[] ?3[] ?4[]", "{1 ?2[x=?5[]]}[x=?3[]]": "{1}[x=?3[]] ?2[x=?5[]] ?5[] ?3[]", "?1[x=(\\y:N.?2[y=y])]": "?1[x=(\\y:N.?2[y=y])] ?2[y=y]",
		// also repeatedly
		"(?1[],?1[])": "?1[] ?1[]", "(?1[x=1],(?1[x=2],?1[x=1]))": "?1[x=1] ?1[x=2] ?1[x=1]", "({1 2}[],?1[])": "{1}[] ?1[]",
	} {
		if got := closureWords(impl.ClosuresOf(readCore(s))); got != want {
			t.Errorf("ClosuresOf(%s) = %s, want %s", s, got, want)
		}
	}
}

func TestClosuresOfWrongCores(t *testing.T) {
	one := coreNum(1)
	odd := impl.Core{Kind: impl.CoHole, N: -5, Name: "x", Args: []impl.Core{coreHole(2), coreHole(200)}, Env: []impl.CoreBind{bind("", coreHole(3)), bind("", coreHole(4))}}
	for _, c := range []struct {
		d    impl.Core
		want string
	}{
		{impl.Core{}, ""},
		{co(77, coreHole(1), coreHole(2)), "?1[] ?2[]"},
		{odd, "?-5[=?3[],=?4[]] ?2[] ?200[] ?3[] ?4[]"},
		{co(impl.CoMark), "{0}[]"},
		{co(impl.CoMark, coreHole(1), coreHole(2)), "{0}[] ?1[] ?2[]"},
		{impl.Core{Kind: impl.CoVar, Name: "x", Args: []impl.Core{coreHole(1)}, Env: []impl.CoreBind{bind("x", coreHole(2))}}, "?1[] ?2[]"},
		{impl.Core{Kind: impl.CoNum, Env: []impl.CoreBind{bind("x", coreHole(2))}}, "?2[]"},
		{co(impl.CoLam, one, coreHole(1)), "?1[]"},
	} {
		if got := closureWords(impl.ClosuresOf(c.d)); got != c.want {
			t.Errorf("ClosuresOf(%s) = %s, want %s", exactCore(c.d), got, c.want)
		}
	}
	if got := impl.ClosuresOf(coreChain(100000, coreHole(1, bind("x", one)))); closureWords(got) != "?1[x=1]" {
		t.Error("closures of a deep core expression")
	}
	many := coreHole(1)
	for range 10000 {
		many = co(impl.CoPair, coreHole(2), many)
	}
	if got := impl.ClosuresOf(many); len(got) != 10001 || got[9999].N != 2 || got[10000].N != 1 {
		t.Error("many closures")
	}
}

func TestClosuresAt(t *testing.T) {
	for s, wants := range map[string]map[int]string{
		"1":                               {0: "", 1: ""},
		"(?1[],?1[])":                     {1: "?1[]", 2: "", 0: "", -1: "", math.MaxInt: ""},
		"(?1[x=1],(?1[x=2],?1[x=1]))":     {1: "?1[x=1] ?1[x=2]"},
		"(?2[],(?1[],(?2[x=1],?2[])))":    {1: "?1[]", 2: "?2[] ?2[x=1]"},
		"({1 2}[],(?1[],({1 3}[],?1[])))": {1: "{1}[] ?1[]"},
		"(?1[x=1,y=2],?1[y=2,x=1])":       {1: "?1[x=1,y=2] ?1[y=2,x=1]"},
		"?1[x=?1[x=?1[x=1]]]":             {1: "?1[x=?1[x=?1[x=1]]] ?1[x=?1[x=1]] ?1[x=1]"},
		"{1 ?1[]}[x=(?1[],{2 1}[])]":      {1: "{1}[x=(?1[],{2 1}[])] ?1[]", 2: "{2}[]"},
		"(<1:N!B>,<?3[]:N!B>)":            {0: "", 3: "?3[]"},
		"(?1[x=(1+2)],?1[x=3])":           {1: "?1[x=(1+2)] ?1[x=3]"},
		`(?1[x=(\x:N.x)],?1[x=(\x:B.x)])`: {1: `?1[x=(\x:N.x)] ?1[x=(\x:B.x)]`},
	} {
		for u, want := range wants {
			if got := closureWords(impl.ClosuresAt(readCore(s), u)); got != want {
				t.Errorf("ClosuresAt(%s, %d) = %s, want %s", s, u, got, want)
			}
		}
	}
	if got := impl.ClosuresAt(co(77, coreHole(-3), coreHole(-3)), -3); closureWords(got) != "?-3[]" {
		t.Error("closures of a number that is not valid", closureWords(got))
	}
}

func numberWords(list []int) string {
	var words []string
	for _, n := range list {
		words = append(words, decimal(n))
	}
	return strings.Join(words, " ")
}

func TestBlockedBy(t *testing.T) {
	for s, want := range map[string]string{
		// values, and what is neither
		"1": "", `(\x:N.?1[x=x])`: "", "(1,2)": "", "<1:N=>?>": "", "x": "", "(1+2)": "", "((1+2),?1[])": "", "?1[x=(1+2)]": "", `((\x:N.x) ?1[])`: "", "(if #t ?1[] ?2[])": "", "<(1+2):N!B>": "", "<?1[]:?=>?>": "",
		// holes, marks and failed casts
		"?7[]": "7", "?7[x=?1[],y=<1:N!B>]": "7", "{3 1}[]": "3", "{3 ?1[]}[x=?2[]]": "3", "<1:N!B>": "0", "<?1[]:N!B>": "0",
		// other forms
		"(?1[],?2[])": "1 2", "(?2[],?1[])": "2 1", "(1,?2[])": "2", "((?3[],1),(?1[],?3[]))": "3 1", "(?1[]+?2[])": "1 2", "(1+?2[])": "2", "(#t+1)": "", "(#t+?1[])": "1", "(?5[]<?4[])": "5 4", "(?1[] ?2[])": "1 2", "(1 2)": "", "(?1[] 2)": "1", "((1,2) ?3[])": "3",
		`(?1[] (\x:N.?2[x=x]))`: "1", "(fst ?1[])": "1", "(snd (?1[]+?2[]))": "1 2", "<?1[]:?=>N>": "1", "<(?2[],?1[]):(?*?)=>?>": "2 1", "<<?1[]:?=>(?>?)>:(?>?)=>(N>N)>": "1", "(<1:N!B>,?1[])": "0 1", "(?1[],<1:N!B>)": "1 0", "(<<1:N!B>:B=>?>,<2:N!B>)": "0",
		"(fst {2 ?1[]}[])": "2",
		// choices
		"(if ?1[] ?2[] ?3[])": "1", "(if (?2[]<?1[]) ?3[] 1)": "2 1", "(if (1+#t) ?3[] 1)": "", "(if <#t:B!N> ?1[] 2)": "0", "((if ?3[] ?1[] 1)+?2[])": "3 2", "(if (if ?2[] ?1[] ?1[]) 1 2)": "2", "(if {4 ?1[]}[] 1 2)": "4",
		// each once
		"(?1[],?1[])": "1", "((?1[]+?2[]),(?2[]+?1[]))": "1 2", "(?1[x=1],({1 2}[],?1[x=2]))": "1", "((?9[],<1:N!B>),(<2:N!B>,?9[]))": "9 0",
	} {
		if got := numberWords(impl.BlockedBy(readCore(s))); got != want {
			t.Errorf("BlockedBy(%s) = %s, want %s", s, got, want)
		}
	}
	for what, d := range wrongCores() {
		if got := impl.BlockedBy(d); len(got) != 0 {
			t.Errorf("BlockedBy of %s = %v", what, got)
		}
	}
	if got := impl.BlockedBy(coreChain(600, coreHole(4))); numberWords(got) != "4" {
		t.Error("BlockedBy at the limit", got)
	}
	if got := impl.BlockedBy(coreChain(601, coreHole(4))); len(got) != 0 {
		t.Error("BlockedBy above the limit", got)
	}
}

func TestEqualClosure(t *testing.T) {
	var list []impl.Closure
	for _, env := range []string{"", "x=1", "x=2", "y=1", "x=1,y=2", "y=2,x=1", "x=?1[]", "x=?1[x=1]"} {
		for _, n := range []int{0, 1, 2, -1} {
			list = append(list, impl.Closure{N: n, Env: readBinds(env)}, impl.Closure{N: n, Mark: true, Env: readBinds(env)})
		}
	}
	for i, a := range list {
		for j, b := range list {
			if got := impl.EqualClosure(a, b); got != (i == j) {
				t.Errorf("EqualClosure of %s and %s is %v", closureWords(list[i:i+1]), closureWords(list[j:j+1]), got)
			}
		}
		if !impl.EqualClosure(a, impl.Closure{N: a.N, Mark: a.Mark, Env: roomyBinds(a.Env)}) {
			t.Errorf("%s is not equal to a copy", closureWords(list[i:i+1]))
		}
	}
	if !impl.EqualClosure(impl.Closure{Env: []impl.CoreBind{}}, impl.Closure{}) {
		t.Error("an empty environment is not equal to nil")
	}
}

// closuresByHand goes through the nodes with a stack.
func closuresByHand(d impl.Core) []impl.Closure {
	var list []impl.Closure
	stack := []impl.Core{d}
	for len(stack) > 0 {
		top := stack[0]
		stack = stack[1:]
		if top.Kind == impl.CoHole || top.Kind == impl.CoMark {
			list = append(list, impl.Closure{N: top.N, Mark: top.Kind == impl.CoMark, Env: top.Env})
		}
		next := slices.Clone(top.Args)
		for _, b := range top.Env {
			next = append(next, b.Value)
		}
		stack = append(next, stack...)
	}
	return list
}

// fewNumbers gives holes and marks numbers from 1 to 3.
func fewNumbers(r *rand.Rand, d *impl.Core) {
	if d.Kind == impl.CoHole || d.Kind == impl.CoMark {
		d.N = 1 + r.Intn(3)
	}
	for i := range d.Args {
		fewNumbers(r, &d.Args[i])
	}
	for i := range d.Env {
		fewNumbers(r, &d.Env[i].Value)
	}
}

func TestRandomClosures(t *testing.T) {
	r := rand.New(rand.NewSource(250))
	found := 0
	for range 5000 {
		d := randomCore(r, 40)
		fewNumbers(r, &d)
		want := closuresByHand(d)
		if got := impl.ClosuresOf(d); closureWords(got) != closureWords(want) {
			t.Fatalf("ClosuresOf(%s) = %s", coreWords(d), closureWords(got))
		}
		for u := range 4 {
			var once []impl.Closure
			for _, c := range want {
				text := closureWords([]impl.Closure{c})
				if c.N == u && !slices.ContainsFunc(once, func(o impl.Closure) bool { return closureWords([]impl.Closure{o}) == text }) {
					once = append(once, c)
				}
			}
			found += len(once)
			if got := impl.ClosuresAt(d, u); closureWords(got) != closureWords(once) {
				t.Fatalf("ClosuresAt(%s, %d) = %s", coreWords(d), u, closureWords(got))
			}
		}
	}
	if found < 5000 {
		t.Error("too few closures", found)
	}
}

// blocks follows the document with the forms of its own list.
func blocks(d impl.Core) []int {
	switch d.Kind {
	case impl.CoHole, impl.CoMark:
		return []int{d.N}
	case impl.CoFail:
		return []int{0}
	case impl.CoIf:
		return blocks(d.Args[0])
	}
	var list []int
	for _, arg := range d.Args {
		if isOpen(arg) {
			list = append(list, blocks(arg)...)
		}
	}
	return list
}

func TestPromiseOfClosures(t *testing.T) {
	r := rand.New(rand.NewSource(251))
	for range 4000 {
		e, _, _ := runnable(r, 1+r.Intn(6))
		got := impl.RunExpr(e, 60)
		numbers := impl.HolesIn(e)
		for _, c := range impl.ClosuresOf(got.Value) {
			if !slices.Contains(numbers, c.N) {
				t.Fatalf("the closure %s comes from no hole of %s", closureWords([]impl.Closure{c}), exprWords(e))
			}
		}
		for _, n := range impl.BlockedBy(got.Value) {
			if n != 0 && !slices.Contains(numbers, n) {
				t.Fatalf("%d, which blocks %s, is no hole of %s", n, coreWords(got.Value), exprWords(e))
			}
		}
	}
}

func TestRandomBlocks(t *testing.T) {
	r := rand.New(rand.NewSource(253))
	several := 0
	for range 20000 {
		d := closedCore(r, 30)
		fewNumbers(r, &d)
		if r.Intn(2) == 0 {
			d = impl.EvalCore(d, 60).Value
		}
		var want []int
		if impl.IsCore(d) && isOpen(d) {
			for _, n := range blocks(d) {
				if !slices.Contains(want, n) {
					want = append(want, n)
				}
			}
		}
		if len(want) > 1 {
			several++
		}
		if got := impl.BlockedBy(d); !slices.Equal(got, want) {
			t.Fatalf("BlockedBy(%s) = %v, want %v", exactCore(d), got, want)
		}
	}
	if several < 300 {
		t.Error("too few results with several blocks", several)
	}
}

// In a result, the environments have the names around the hole.
func TestEnvironmentsOfClosures(t *testing.T) {
	r := rand.New(rand.NewSource(254))
	for range 2000 {
		e, _, _ := runnable(r, 5)
		got := impl.RunExpr(e, impl.MaxFuel)
		for _, info := range impl.HolesOf(nil, e) {
			for _, c := range impl.ClosuresAt(got.Value, info.N) {
				var names, bound []string
				for _, typing := range info.Place.Ctx {
					names = append(names, typing.Name)
				}
				for _, b := range c.Env {
					bound = append(bound, b.Name)
				}
				if !slices.Equal(bound, impl.UniteNames(names, nil)) {
					t.Fatalf("the closure %s in %s", closureWords([]impl.Closure{c}), coreWords(got.Value))
				}
			}
		}
	}
}

func spoilClosures(t *testing.T, closures []impl.Closure) {
	t.Helper()
	for i, c := range closures {
		rest := closureWords(closures[i+1:])
		spoilCore(impl.Core{Env: c.Env})
		if closureWords(closures[i+1:]) != rest {
			t.Fatal("two closures share memory")
		}
	}
	for i := range closures[:cap(closures)] {
		closures[:cap(closures)][i] = impl.Closure{N: -99}
	}
}

func TestClosuresShareNoMemory(t *testing.T) {
	r := rand.New(rand.NewSource(252))
	list := []impl.Core{readCore("?1[x=?1[x=?1[x=(1,2)]],y=?1[x=(1,2)]]"), readCore("{1 ?1[x=<(1,2):(N*N)=>(?*N)>]}[x=?1[x=1]]")}
	for range 500 {
		d := randomCore(r, 40)
		fewNumbers(r, &d)
		list = append(list, d)
	}
	for _, d := range list {
		d = roomyCore(d)
		before := wholeCore(d)
		for _, find := range []func() []impl.Closure{
			func() []impl.Closure { return impl.ClosuresOf(d) },
			func() []impl.Closure { return impl.ClosuresAt(d, 1) },
			func() []impl.Closure { return impl.ClosuresAt(d, 2) },
		} {
			got := find()
			text := closureWords(got)
			for _, c := range got {
				if partsShare(impl.Core{Env: c.Env}) {
					t.Fatal("parts of a closure share memory")
				}
				_ = impl.EqualClosure(c, c)
			}
			spoilClosures(t, find())
			if closureWords(got) != text {
				t.Fatal("two results share memory")
			}
			spoilClosures(t, got)
		}
		numbers := impl.BlockedBy(d)
		spoilPath(numbers)
		if wholeCore(d) != before {
			t.Fatal("an argument was changed")
		}
	}
}
