package tests

import (
	"math/rand"
	"slices"
	"strings"
	"testing"

	"loop.example/g00585/impl"
)

// Promise 18: sizes of core expressions are those of their parts.

func TestCoreConstants(t *testing.T) {
	kinds := []int{impl.CoHole, impl.CoMark, impl.CoVar, impl.CoLam, impl.CoAp, impl.CoNum, impl.CoAdd, impl.CoLess, impl.CoBool, impl.CoIf, impl.CoPair, impl.CoFst, impl.CoSnd, impl.CoCast, impl.CoFail}
	if !slices.Equal(kinds, upTo(15)) || impl.MaxCore != 600 {
		t.Error(kinds, impl.MaxCore)
	}
}

func TestCoreArity(t *testing.T) {
	for kind, want := range coreArities() {
		if got := impl.CoreArity(kind); got != want {
			t.Errorf("CoreArity(%d) = %d", kind, got)
		}
	}
	for _, kind := range []int{0, -1, 16, 17, 100, -9223372036854775808, 9223372036854775807} {
		if got := impl.CoreArity(kind); got != -1 {
			t.Errorf("CoreArity(%d) = %d", kind, got)
		}
	}
}

func TestSizeOfCore(t *testing.T) {
	for s, want := range map[string]int{
		"x": 1, "-5": 1, "#t": 1, "?1[]": 1, "?1[x=1]": 2, "?1[x=1,y=(x+2)]": 5, "{1 x}[]": 2, "{1 x}[x=1]": 3, "{1 (x+1)}[x=1,y=?2[x=?3[]]]": 7,
		`(\x:((N>N)*B).x)`: 2, "(x 1)": 3, "(x+1)": 3, "(x<1)": 3, "(x,1)": 3, "(if x 1 2)": 4, "(fst x)": 2, "(snd x)": 2, "<x:?=>N>": 2, "<<1:N=>?>:?=>B>": 3, "<1:N!B>": 2,
		`(\x:N.?1[x=(\y:N.?2[y=x])])`: 5,
	} {
		if got := impl.SizeOfCore(readCore(s)); got != want {
			t.Errorf("SizeOfCore(%s) = %d", s, got)
		}
	}
	for _, c := range []struct {
		d    impl.Core
		want int
	}{
		{impl.Core{}, 1},
		{co(99, impl.Core{}, impl.Core{}), 3},
		{impl.Core{Kind: impl.CoVar, Args: []impl.Core{{}, {}}, Env: []impl.CoreBind{{}, {}, {}}}, 6},
		{impl.Core{Kind: impl.CoNum, Env: []impl.CoreBind{{Value: co(0, co(0))}}}, 3},
		{coreChain(100000, coreNum(1)), 100000},
	} {
		if got := impl.SizeOfCore(c.d); got != c.want {
			t.Errorf("SizeOfCore of %d nodes = %d", c.want, got)
		}
	}
}

func TestPromiseOfCoreSizes(t *testing.T) {
	r := rand.New(rand.NewSource(180))
	large := 0
	for i := range 3000 {
		d := randomCore(r, 200)
		if i%2 == 0 {
			n := anyCoreNode(r, &d)
			n.Kind, n.Env = r.Intn(20)-2, append(n.Env, bind("", randomCore(r, 20)))
		}
		want := 1
		for _, arg := range d.Args {
			want += impl.SizeOfCore(arg)
		}
		for _, b := range d.Env {
			want += impl.SizeOfCore(b.Value)
		}
		if got := impl.SizeOfCore(d); got != want {
			t.Fatalf("SizeOfCore(%s) = %d, want %d", exactCore(d), got, want)
		}
		if want > 30 {
			large++
		}
	}
	if large < 300 {
		t.Error("too few large core expressions", large)
	}
}

func TestEveryKindIsACore(t *testing.T) {
	for kind, d := range oneCoreOfEach() {
		if !impl.IsCore(d) || d.Kind != kind {
			t.Errorf("%s is not accepted", coreWords(d))
		}
	}
	for _, s := range []string{"?99[]", "{99 x}[]", "-9223372036854775808", "9223372036854775807", "1000", "-1", "#f", "abcde", "?1[x=1,y=2,z=3,x1=4,x2=5,x3=6,x4=7,x5=8,x6=9]", "?1[x=?1[x=?1[x=1]]]", "?1[x=x]",
		"<x:?=>?>", "<x:N=>B>", "<x:N!N>", "<x:(N>N)!?>", "{1 {2 x}[]}[]", `((\x:N.x) (\x:N.x))`, "(1 2)", "(fst 1)"} {
		if !impl.IsCore(readCore(s)) {
			t.Errorf("%s is not accepted", s)
		}
	}
	// Types in core expressions need not be notes.
	for _, x := range []impl.Type{largeType(799), chainType(impl.MaxTypeDepth, number()), fullType(9)} {
		if !impl.IsCore(coreFunction("x", x, coreNum(1))) || !impl.IsCore(castTo(coreNum(1), x, unknown())) || !impl.IsCore(castTo(coreNum(1), unknown(), x)) || !impl.IsCore(failedTo(coreNum(1), x, x)) {
			t.Errorf("a type of %d nodes is not accepted", impl.SizeOfType(x))
		}
	}
}

func TestLimitsOfCores(t *testing.T) {
	one := coreNum(1)
	for _, c := range []struct {
		what string
		d    impl.Core
	}{
		{"a chain of 600", coreChain(600, one)},
		{"an Env of 599", coreHole(1, bind("x", coreChain(599, one)))},
		{"an Env and Args of 599", coreMark(1, coreChain(300, one), bind("x", coreChain(199, one)), bind("y", coreChain(100, one)))},
		{"an Env within an Env", coreHole(1, bind("x", coreHole(2, bind("x", coreChain(598, one)))))},
	} {
		if !impl.IsCore(c.d) || impl.SizeOfCore(c.d) != 600 {
			t.Errorf("%s is not accepted", c.what)
		}
		if impl.IsCore(co(impl.CoFst, c.d)) || impl.IsCore(coreHole(1, bind("x", c.d))) || impl.IsCore(coreMark(1, c.d)) {
			t.Errorf("one more than %s is accepted", c.what)
		}
	}
}

func TestWrongCoresAreNone(t *testing.T) {
	for what, d := range wrongCores() {
		if impl.IsCore(d) || impl.CoreText(d) != "" {
			t.Errorf("%s is accepted", what)
		}
	}
	empty := impl.Core{Kind: impl.CoNum, Args: []impl.Core{}, Env: []impl.CoreBind{}, Type: impl.Type{Args: []impl.Type{}}, From: impl.Type{Args: []impl.Type{}}}
	if !impl.IsCore(empty) {
		t.Error("empty slices are not taken for nil")
	}
}

// A core expression of very many nodes is rejected without looking at all of
// them.
func TestIsCoreStopsAtTheLimit(t *testing.T) {
	shared := coreNum(1)
	for range 200 {
		shared = co(impl.CoPair, shared, coreMark(1, shared, bind("x", shared)))
	}
	wide := coreHole(1, make([]impl.CoreBind, 100000)...)
	for _, d := range []impl.Core{shared, wide, coreChain(200000, coreNum(1))} {
		if impl.IsCore(d) || impl.CoreText(d) != "" {
			t.Error("a large core expression is accepted")
		}
	}
}

func TestRandomCoresAreValid(t *testing.T) {
	r := rand.New(rand.NewSource(181))
	for range 3000 {
		d := randomCore(r, 200)
		if !impl.IsCore(d) || impl.CoreText(d) != coreWords(d) {
			t.Fatalf("%s is not accepted, or written as %s", coreWords(d), impl.CoreText(d))
		}
		n := anyCoreNode(r, &d)
		switch r.Intn(7) {
		case 0:
			n.Kind = []int{0, 16, -2}[r.Intn(3)]
		case 1:
			n.Name = []string{"X", "if", "x ", "abcdef", "\xff"}[r.Intn(5)]
		case 2:
			n.From = impl.Type{Kind: 6}
		case 3:
			n.Type = impl.Type{Kind: 3, Args: []impl.Type{number()}}
		case 4:
			n.Args = append(n.Args, coreNum(1))
		case 5:
			n.Env = append(n.Env, bind("x", coreNum(1)), bind("x", coreNum(1)))
		case 6:
			n.Env = append(n.Env, bind("if", coreNum(1)))
		}
		if impl.IsCore(d) || impl.CoreText(d) != "" {
			t.Fatalf("a core expression is valid after a wrong change: %s", exactCore(d))
		}
	}
}

func TestCoreText(t *testing.T) {
	for _, s := range []string{"?1[]", "?99[x=1]", "?2[x=1,y=?3[],x1=(x+y)]", "{1 x}[]", "{7 {8 #t}[x=x]}[y=<x:?=>N>,x=-1]", "x", `(\x:(N>(B*?)).x)`, "(x 1)", "((x y) z)", "0", "-1", "1000", "-9223372036854775808",
		"(-1+-2)", "(x<y)", "(<x:?=>N><<y:?=>N>)", "#t", "#f", "(if x (1,2) (fst y))", "(1,2)", "(fst x)", "(snd x)", "<1:N=>?>", "<<1:N=>?>:?=>(N>N)>", "<x:(N*N)!(?*?)>", "<-3:N!B>", `<(\x:N.?1[x=x]):(N>?)=>?>`} {
		if got := impl.CoreText(readCore(s)); got != s {
			t.Errorf("CoreText(%s) = %q", s, got)
		}
	}
}

func TestFreeInCore(t *testing.T) {
	for s, want := range map[string]string{
		"x": "x", "1": "", "?1[]": "", "?1[x=1]": "", "?1[x=y]": "y", "?1[x=y,y=x]": "y x", "{1 x}[]": "x", "{1 x}[x=y,y=z]": "x y z", "{1 1}[x=y,y=x]": "y x", "((x y) (y x))": "x y",
		`(\x:N.x)`: "", `(\x:N.y)`: "y", `((\x:N.x) x)`: "x", `(x (\x:N.x))`: "x", `(\x:N.?1[x=x,y=y])`: "y", `(\x:N.{1 x}[x=x,y=(x y)])`: "y",
		`((\x:N.(x y)) x)`: "y x", `(\x:N.(\x:N.(x z)))`: "z", `(\x:N.((\x:N.x) (x y)))`: "y", `(\x:N.(\y:N.?1[z=z,x=x,y=y]))`: "z",
		`((\x:N.?1[x=x]),?1[x=x])`: "x", "<x:?=>N>": "x", "<y:N!B>": "y", "(if a (fst b) (snd c))": "a b c", "(a<(b+a))": "a b", "{1 (b,a)}[a=c,b=?2[q=a,b=d]]": "b a c d",
		`?1[x=(\y:N.(y z)),y=y]`: "z y",
	} {
		if got := impl.FreeInCore(readCore(s)); strings.Join(got, " ") != want {
			t.Errorf("FreeInCore(%s) = %q, want %q", s, got, want)
		}
	}
	x, y := coreVar("x"), coreVar("y")
	for _, c := range []struct {
		d    impl.Core
		want []string
	}{
		{impl.Core{}, nil},
		{impl.Core{Kind: impl.CoVar, Name: "x", Args: []impl.Core{y}}, []string{"x"}},
		{impl.Core{Kind: impl.CoVar, Name: "x", Env: []impl.CoreBind{bind("z", y)}}, []string{"x"}},
		{coreFunction("x", number(), impl.Core{Kind: impl.CoVar, Name: "x", Args: []impl.Core{y}, Env: []impl.CoreBind{bind("z", y)}}), nil},
		{impl.Core{Kind: impl.CoLam, Name: "x"}, nil},
		{impl.Core{Kind: impl.CoLam, Name: "x", Args: []impl.Core{x, y, x}}, []string{"y"}},
		{co(99, y, co(0, x)), []string{"y", "x"}},
		{impl.Core{Kind: impl.CoNum, Name: "q", Args: []impl.Core{y}, Env: []impl.CoreBind{bind("q", x)}}, []string{"y", "x"}},
		{coreVar(""), []string{""}},
		{coreVar("if"), []string{"if"}},
		{coreHole(1, bind("x", x), bind("x", y), bind("", x)), []string{"x", "y"}},
		{coreFunction("", number(), coreVar("")), nil},
	} {
		if got := impl.FreeInCore(c.d); !slices.Equal(got, c.want) {
			t.Errorf("FreeInCore(%s) = %q, want %q", exactCore(c.d), got, c.want)
		}
	}
	if got := impl.FreeInCore(coreChain(100000, x)); !slices.Equal(got, []string{"x"}) {
		t.Errorf("FreeInCore of a deep core expression = %q", got)
	}
}

// freeCoreNames lists the free variables by their scopes, and sees to the
// order of Args and Env by itself.
func freeCoreNames(d impl.Core, scope []string) []string {
	if d.Kind == impl.CoVar {
		if slices.Contains(scope, d.Name) {
			return nil
		}
		return []string{d.Name}
	}
	if d.Kind == impl.CoLam {
		scope = append(slices.Clone(scope), d.Name)
	}
	parts := slices.Clone(d.Args)
	for _, b := range d.Env {
		parts = append(parts, b.Value)
	}
	var free []string
	for _, part := range parts {
		for _, name := range freeCoreNames(part, scope) {
			if !slices.Contains(free, name) {
				free = append(free, name)
			}
		}
	}
	return free
}

func TestFreeInRandomCores(t *testing.T) {
	r := rand.New(rand.NewSource(182))
	for range 5000 {
		d := randomCore(r, 100)
		if got := impl.FreeInCore(d); !slices.Equal(got, freeCoreNames(d, nil)) {
			t.Fatalf("FreeInCore(%s) = %q", coreWords(d), got)
		}
	}
}

func TestEqualCore(t *testing.T) {
	var list []impl.Core
	for _, d := range oneCoreOfEach() {
		list = append(list, d)
	}
	for _, d := range wrongCores() {
		if impl.SizeOfCore(d) < 20 && impl.SizeOfType(d.Type) < 20 && impl.SizeOfType(d.From) < 20 {
			list = append(list, d)
		}
	}
	texts := make([]string, len(list))
	for i, d := range list {
		texts[i] = exactCore(d)
	}
	for i, a := range list {
		for j, b := range list {
			if got := impl.EqualCore(a, b); got != (texts[i] == texts[j]) {
				t.Fatalf("EqualCore(%s, %s) is %v", texts[i], texts[j], got)
			}
		}
	}
	r := rand.New(rand.NewSource(183))
	for range 5000 {
		a := randomCore(r, 100)
		b := roomyCore(a)
		if !impl.EqualCore(a, b) {
			t.Fatalf("a copy of %s is not equal", coreWords(a))
		}
		n := anyCoreNode(r, &b)
		switch r.Intn(8) {
		case 0:
			n.N++
		case 1:
			n.Kind++
		case 2:
			n.Name += "q"
		case 3:
			n.Type = arrow(n.Type, number())
		case 4:
			n.From = arrow(n.From, number())
		case 5:
			n.Args = append(n.Args, coreNum(1))
		case 6:
			n.Env = append(n.Env, bind("", impl.Core{}))
		case 7:
			if len(n.Env) == 0 {
				continue
			}
			n.Env[r.Intn(len(n.Env))].Name += "q"
		}
		if impl.EqualCore(a, b) || impl.EqualCore(b, a) {
			t.Fatalf("%s is equal to %s", exactCore(a), exactCore(b))
		}
	}
	deep := coreChain(100000, coreVar("x"))
	if !impl.EqualCore(deep, deep) || impl.EqualCore(deep, coreChain(100000, coreVar("y"))) {
		t.Error("deep core expressions")
	}
	empty := impl.Core{Kind: impl.CoNum, Args: []impl.Core{}, Env: []impl.CoreBind{}}
	if !impl.EqualCore(empty, coreNum(0)) {
		t.Error("empty slices are not equal to nil")
	}
}

func TestCoresAreKept(t *testing.T) {
	r := rand.New(rand.NewSource(184))
	for range 300 {
		d := roomyCore(randomCore(r, 100))
		before := wholeCore(d)
		_, _, _, _ = impl.SizeOfCore(d), impl.IsCore(d), impl.EqualCore(d, d), impl.CoreText(d)
		free := impl.FreeInCore(d)
		for i := range free[:cap(free)] {
			free[:cap(free)][i] = "spoilt"
		}
		if wholeCore(d) != before {
			t.Fatal("a core expression was changed")
		}
	}
}
