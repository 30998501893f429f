package tests

import (
	"math"
	"math/rand"
	"slices"
	"strings"
	"testing"

	"loop.example/g00585/impl"
)

// Promise 23: a value has the type of its expression.

// resultWords writes a result as its status, its steps and its value, without
// the value if it is zero.
func resultWords(r impl.Result) string {
	status := map[int]string{impl.EvBad: "bad", impl.EvDone: "done", impl.EvFuel: "fuel", impl.EvLarge: "large"}[r.Status]
	if exactCore(r.Value) == exactCore(impl.Core{}) {
		return status + " " + decimal(r.Steps)
	}
	return status + " " + decimal(r.Steps) + " " + coreWords(r.Value)
}

// briefly leaves out the value.
func briefly(r impl.Result) string { return resultWords(impl.Result{Status: r.Status, Steps: r.Steps}) }

func checkEval(t *testing.T, d impl.Core, fuel int, want string) {
	t.Helper()
	if got := impl.EvalCore(d, fuel); resultWords(got) != want {
		t.Errorf("EvalCore(%s, %d) is %s, want %s", exactCore(d), fuel, resultWords(got), want)
	}
}

// checkCounted requires a value and a number of steps, written "STEPS VALUE",
// with all the fuel, with just enough and with one less.
func checkCounted(t *testing.T, d impl.Core, want string) {
	t.Helper()
	steps := readPath(strings.SplitN(want, " ", 2)[0])[0]
	checkEval(t, d, impl.MaxFuel, "done "+want)
	checkEval(t, d, steps, "done "+want)
	if steps > 0 {
		checkEval(t, d, steps-1, "fuel "+decimal(steps-1))
	}
}

func TestEvalStatuses(t *testing.T) {
	if impl.MaxFuel != 300 || impl.EvBad != 0 || impl.EvDone != 1 || impl.EvFuel != 2 || impl.EvLarge != 3 {
		t.Error("the constants of results")
	}
}

func TestEvalCore(t *testing.T) {
	for s, want := range map[string]string{
		// values
		"7": "0 7", "-7": "0 -7", "#t": "0 #t", "#f": "0 #f", `(\x:N.x)`: `0 (\x:N.x)`, `(\x:N.((\y:N.y) (1+2)))`: `0 (\x:N.((\y:N.y) (1+2)))`,
		// holes, marks and failed casts
		"?1[]": "0 ?1[]", "?99[x=(1+2),y=((\\z:N.z) 3)]": "1 ?99[x=3,y=3]", "{3 (1+2)}[x=(3+4)]": "0 {3 3}[x=7]", `{3 ((\x:N.x) 1)}[x=((\x:N.x) 2),y=?1[x=(1<2)]]`: "2 {3 1}[x=2,y=?1[x=#t]]",
		"<(1+2):N!B>": "0 <3:N!B>", `<((\x:N.x) <1:N=>?>):?!N>`: "1 <<1:N=>?>:?!N>", "<1:N!N>": "0 <1:N!N>",
		// applications of functions
		`((\x:N.x) 1)`: "1 1", `((\x:N.(x+x)) (1+2))`: "1 6", `((\x:N.2) ?1[])`: "1 2", `((\x:N.(?1[x=x,y=(x+1)]+x)) 3)`: "1 (?1[x=3,y=4]+3)", `(((\x:N.(\y:N.(x,y))) 1) 2)`: "2 (1,2)",
		`((\x:N.(\x:B.x)) 1)`: `1 (\x:B.x)`, `((\x:N.(\y:N.(x+(1+2)))) 5)`: `1 (\y:N.(5+(1+2)))`, `((\x:N.((\y:N.(x+y)) x)) 4)`: "2 8", `((\f:(N>N).(f (f 1))) (\x:N.(x+x)))`: "3 4",
		`(((\f:?.(\x:?.(f x))) (\y:?.y)) ?1[])`: "3 ?1[]", `((\x:B.(if x (1+1) (2+2))) (2<1))`: "1 4", `((\x:N.x) ((\y:N.y) ((\z:N.z) 1)))`: "3 1", `((\x:?.(\y:?.x)) ?7[x=1])`: `1 (\y:?.?7[x=1])`,
		// applications of casts between function types
		`(<(\x:N.(x+1)):(N>N)=>(?>?)> <1:N=>?>)`: "2 <2:N=>?>", `(<(\x:N.(x+1)):(N>N)=>(?>?)> <#t:B=>?>)`: "2 <(<#t:B!N>+1):N=>?>", `(<(\x:N.(x+1)):(N>N)=>(?>?)> ?1[])`: "2 <(<?1[]:?=>N>+1):N=>?>",
		`(<(\x:?.x):(?>?)=>(N>N)> 1)`: "2 1", `(<(\x:?.x):(?>?)=>(N>B)> 1)`: "2 <1:N!B>", `(<(\x:?.x):(?>?)=>(N>?)> 1)`: "2 <1:N=>?>", `(<(\x:N.(x<2)):(N>B)=>(N>?)> 1)`: "2 <#t:B=>?>",
		`(<<(\x:N.x):(N>N)=>(?>?)>:(?>?)=>(N>N)> 1)`: "3 1", `(<<<(\x:N.x):(N>N)=>(?>?)>:(?>?)=>(B>?)>:(B>?)=>(?>?)> <#t:B=>?>)`: "4 <<#t:B!N>:N=>?>", `(<(\f:(N>N).(f 1)):((N>N)>N)=>(?>?)> <<(\x:N.x):(N>N)=>(?>?)>:(?>?)=>?>)`: "5 <1:N=>?>",
		`(<?1[]:(N>N)=>(?>?)> <1:N=>?>)`: "1 <(?1[] 1):N=>?>", `(<?1[]:(?>?)=>(N>N)> 1)`: "1 <(?1[] <1:N=>?>):?=>N>", `(<<?1[]:?=>(?>?)>:(?>?)=>(N>N)> 1)`: "1 <(<?1[]:?=>(?>?)> <1:N=>?>):?=>N>", "(<5:(N>N)=>(?>?)> ?1[])": "1 <(5 <?1[]:?=>N>):N=>?>",
		`(<(\x:N.x):(N>N)=>(N>N)> 1)`: "1 1",
		// applications of what is neither
		"(?1[] (1+2))": "0 (?1[] 3)", "((1+2) (3+4))": "0 (3 7)", `(#t (\x:N.x))`: `0 (#t (\x:N.x))`, "((1,2) 3)": "0 ((1,2) 3)", `({1 (\x:N.x)}[] 2)`: `0 ({1 (\x:N.x)}[] 2)`, `(<(\x:N.x):(N>N)!B> 2)`: `0 (<(\x:N.x):(N>N)!B> 2)`,
		`(<(\x:?.x):(?>?)=>?> 1)`: `0 (<(\x:?.x):(?>?)=>?> 1)`, "(<?1[]:?=>(?>?)> 1)": "0 (<?1[]:?=>(?>?)> 1)", "(<(1,2):(N*N)=>(?*?)> 1)": "0 (<(1,2):(N*N)=>(?*?)> 1)", `(<(\x:N.x):(N>N)=>(?*?)> 1)`: `0 (<(\x:N.x):(N>N)=>(?*?)> 1)`,
		`(<(1,2):(N*N)=>(?>?)> 1)`: "0 (<(1,2):(N*N)=>(?>?)> 1)", "((?1[] 1) 2)": "0 ((?1[] 1) 2)",
		// sums and comparisons
		"(1+2)": "0 3", "((1+2)+(3+4))": "0 10", "(1<2)": "0 #t", "(2<2)": "0 #f", "(3<2)": "0 #f", "(-3<-2)": "0 #t", "((1+2)<(1+3))": "0 #t", "((1+2)+?1[])": "0 (3+?1[])", "(?1[]+(1+2))": "0 (?1[]+3)", "((1<2)+1)": "0 (#t+1)", "(1<(1<2))": "0 (1<#t)",
		`((\x:N.x)+1)`: `0 ((\x:N.x)+1)`, "(#t<#f)": "0 (#t<#f)", "((1,2)+(3,(1+3)))": "0 ((1,2)+(3,4))", "(<1:N=>?>+2)": "0 (<1:N=>?>+2)",
		// choices
		"(if #t (1+2) (3+4))": "0 3", "(if #f (1+2) (3+4))": "0 7", "(if (1<2) 1 ?1[])": "0 1", "(if (2<1) 1 ?1[x=(1+1)])": "0 ?1[x=2]", "(if ?1[x=(1+2)] (1+2) (3+4))": "0 (if ?1[x=3] (1+2) (3+4))", "(if 1 (1+2) (3+4))": "0 (if 1 (1+2) (3+4))",
		"(if <#t:B=>?> 1 2)": "0 (if <#t:B=>?> 1 2)", `(if (if ?1[] #t #f) ((\x:N.x) 1) 2)`: `0 (if (if ?1[] #t #f) ((\x:N.x) 1) 2)`, `(if ((\x:B.x) #t) ((\x:N.x) 1) ((\x:N.x) 2))`: "2 1", `((\x:N.(if ?1[x=x] (x+1) x)) 4)`: "1 (if ?1[x=4] (4+1) 4)",
		"(if <1:N!B> 1 2)": "0 (if <1:N!B> 1 2)", "((if ?1[] 1 2)+(1+1))": "0 ((if ?1[] 1 2)+2)",
		// pairs and their parts
		"((1+2),(1<2))": "0 (3,#t)", "(fst ((1+2),?1[]))": "0 3", "(snd ((1+2),?1[]))": "0 ?1[]", "(fst ?1[])": "0 (fst ?1[])", "(snd (1+2))": "0 (snd 3)", `(fst (\x:N.x))`: `0 (fst (\x:N.x))`, "(fst (snd (1,(2,3))))": "0 2", "(snd (fst ?1[]))": "0 (snd (fst ?1[]))",
		"(fst <(1,2):(N*N)=>(?*?)>)": "0 <1:N=>?>", "(snd <(1,#t):(N*B)=>(?*?)>)": "0 <#t:B=>?>", "(snd <(1,#t):(N*B)=>(?*B)>)": "0 #t", "(fst <(<1:N=>?>,2):(?*N)=>(B*N)>)": "0 <1:N!B>", "(fst <<(1,2):(N*N)=>(?*?)>:(?*?)=>(N*?)>)": "0 1",
		"(snd <?1[]:(N*N)=>(?*?)>)": "0 <(snd ?1[]):N=>?>", "(fst <<?1[]:?=>(?*?)>:(?*?)=>(N*B)>)": "0 <(fst <?1[]:?=>(?*?)>):?=>N>", "(fst <?1[]:?=>(?*?)>)": "0 (fst <?1[]:?=>(?*?)>)", "(snd <(1,2):(N*N)=>?>)": "0 (snd <<(1,2):(N*N)=>(?*?)>:(?*?)=>?>)",
		"(fst <3:(N*N)=>(?*?)>)": "0 <(fst 3):N=>?>", `(fst <(\x:N.x):(N>N)=>(?>?)>)`: `0 (fst <(\x:N.x):(N>N)=>(?>?)>)`, "(fst <(1,2):(N*N)=>(?>?)>)": "0 (fst <(1,2):(N*N)=>(?>?)>)", `((fst ((\x:N.x),1)) 5)`: "1 5",
		"(fst <(1,2):(N*N)=>(N*N)>)": "0 1",
		// casts
		"<(1+2):N=>?>": "0 <3:N=>?>", "<<1:N=>?>:?=>N>": "0 1", "<<1:N=>?>:?=>B>": "0 <1:N!B>", "<?1[]:?=>N>": "0 <?1[]:?=>N>", "<1:N=>N>": "0 1", "<1:N=>B>": "0 <1:N=>B>", `<(\x:N.x):(N>N)=>?>`: `0 <<(\x:N.x):(N>N)=>(?>?)>:(?>?)=>?>`,
		"<<(1,2):(N*N)=>?>:?=>(N*B)>": "0 <<(1,2):(N*N)=>(?*?)>:(?*?)=>(N*B)>", "<?1[]:?=>(N>N)>": "0 <<?1[]:?=>(?>?)>:(?>?)=>(N>N)>", "<<1:N=>?>:?=>(N>N)>": "0 <<1:N!(?>?)>:(?>?)=>(N>N)>", `<((\x:N.<x:N=>?>) 1):?=>N>`: "1 1", "<<<1:N=>?>:?=>?>:?=>N>": "0 1",
	} {
		checkCounted(t, readCore(s), want)
	}
}

func TestSumsWrapAround(t *testing.T) {
	for _, c := range [][3]int{{math.MaxInt, 1, math.MinInt}, {math.MinInt, -1, math.MaxInt}, {math.MaxInt, math.MaxInt, -2}, {math.MinInt, math.MinInt, 0}, {math.MaxInt, math.MinInt, -1}} {
		checkEval(t, co(impl.CoAdd, coreNum(c[0]), coreNum(c[1])), 0, "done 0 "+decimal(c[2]))
	}
	checkEval(t, co(impl.CoLess, coreNum(math.MinInt), coreNum(math.MaxInt)), 0, "done 0 #t")
	checkEval(t, co(impl.CoLess, coreNum(math.MaxInt), coreNum(math.MinInt)), 0, "done 0 #f")
}

// omega needs a step again and again.
const omega = `((\x:?.(x x)) (\x:?.(x x)))`

// pairsOf is a value with this number of nodes, an odd number.
func pairsOf(size int) impl.Core {
	if size == 1 {
		return coreNum(1)
	}
	left := (size - 1) / 2
	if left%2 == 0 {
		left--
	}
	return co(impl.CoPair, pairsOf(left), pairsOf(size-1-left))
}

// doubled applies a function that puts its argument into a pair twice.
func doubled(size int) impl.Core {
	return co(impl.CoAp, coreFunction("x", unknown(), readCore("(x,x)")), pairsOf(size))
}

// large performs one step, after which the body has 1 + 2*301 nodes.
func large() impl.Core { return doubled(301) }

func TestFuel(t *testing.T) {
	for fuel := 0; fuel <= impl.MaxFuel; fuel++ {
		checkEval(t, readCore(omega), fuel, "fuel "+decimal(fuel))
	}
	for _, fuel := range []int{-1, impl.MaxFuel + 1, math.MinInt, math.MaxInt} {
		checkEval(t, readCore(omega), fuel, "bad 0")
		checkEval(t, coreNum(1), fuel, "bad 0")
	}
	checkEval(t, coreNum(1), 0, "done 0 1")
	checkEval(t, coreNum(1), impl.MaxFuel, "done 0 1")
	for _, steps := range []int{1, 2, 150, 199} {
		d := coreNum(3)
		for range steps {
			d = co(impl.CoAp, readCore(`(\x:N.x)`), d)
		}
		checkCounted(t, d, decimal(steps)+" 3")
	}
	// Each call of the function takes two steps.
	down := `((\f:?.((f f) 0)) (\f:?.(\n:N.(if (n<N) ((f f) (n+1)) n))))`
	for n := range 149 {
		checkCounted(t, readCore(strings.ReplaceAll(down, "<N", "<"+decimal(n))), decimal(3+2*n)+" "+decimal(n))
	}
	checkEval(t, readCore(strings.ReplaceAll(down, "<N", "<149")), impl.MaxFuel, "fuel 300")
}

func TestLargeBodies(t *testing.T) {
	use := func(body string, size int) impl.Core {
		return co(impl.CoAp, coreFunction("x", unknown(), readCore(body)), pairsOf(size))
	}
	for _, c := range []struct {
		d    impl.Core
		fits bool
	}{
		{use("(x,x)", 299), true}, {use("(x,x)", 301), false}, {use("(fst (x,x))", 299), true}, {use("((x,x),1)", 299), false}, {use("(fst (fst (x,x)))", 299), false}, {use("(x,(x,1))", 297), true},
		{use("?1[x=x,y=x]", 299), true}, {use("(fst (?1[x=x],x))", 299), false}, {use("{1 1}[x=x,y=x]", 299), true}, {use("(fst {1 1}[x=x,y=x])", 299), false}, {use(`(\y:?.(x,x))`, 299), true}, {use(`(fst (\y:?.(x,x)))`, 299), false},
		{use(`(\y:?.?1[x=(\y:?.x),z=x])`, 297), true}, {use(`(\y:?.?1[x=(\y:?.x),z=x])`, 299), false},
		// what is not replaced does not count
		{use(`((\x:?.(x,x)),x)`, 589), true}, {use(`(snd ((\y:?.(x,x)),1))`, 297), true}, {use(`(snd ((\y:?.(x,x)),1))`, 299), false}, {use("1", 595), true}, {use(`(\x:?.(x,(x,x)))`, 589), true}, {use("(if #f (x,x) 1)", 295), true}, {use("(if #f (x,x) 1)", 299), false}, {use("?1[x=1]", 595), true},
	} {
		if got := impl.EvalCore(c.d, 1); c.fits != (got.Status == impl.EvDone) || !c.fits && resultWords(got) != "large 1" || got.Steps != 1 {
			t.Errorf("a body of the size %d: %s", impl.SizeOfCore(c.d), briefly(got))
		}
		checkEval(t, c.d, 0, "fuel 0")
	}
}

// pairOfDoubled has a value of 4*size+3 nodes.
func pairOfDoubled(size int) impl.Core { return co(impl.CoPair, doubled(size), doubled(size)) }

func TestLargeValues(t *testing.T) {
	whole := pairOfDoubled(149)
	for range 2 {
		got := impl.EvalCore(whole, 2)
		if got.Status != impl.EvDone || got.Steps != 2 || impl.SizeOfCore(got.Value) > 600 {
			t.Error("a value that is not too large", briefly(got))
		}
		checkEval(t, whole, 1, "fuel 1")
		whole = coreMark(1, whole)
	}
	for range 2 {
		checkEval(t, whole, 2, "large 2")
		checkEval(t, whole, impl.MaxFuel, "large 2")
		checkEval(t, whole, 1, "fuel 1")
		whole = castTo(whole, unknown(), number())
	}
	// Only what is replaced and the value of the whole is measured.
	ignore := co(impl.CoAp, readCore(`(\y:?.5)`), pairOfDoubled(199))
	checkCounted(t, ignore, "3 5")
	checkCounted(t, co(impl.CoSnd, co(impl.CoPair, pairOfDoubled(199), coreNum(5))), "2 5")
	checkCounted(t, co(impl.CoIf, co(impl.CoAp, readCore(`(\y:?.#t)`), pairOfDoubled(199)), coreNum(1), coreNum(2)), "3 1")
	checkEval(t, co(impl.CoAp, readCore(`(\y:?.(1,y))`), pairOfDoubled(199)), 3, "large 3")
	checkEval(t, co(impl.CoAp, readCore(`(\y:?.(if #t 1 y))`), pairOfDoubled(199)), 2, "fuel 2")
	checkEval(t, co(impl.CoAp, readCore(`(\y:?.(if #t 1 y))`), pairOfDoubled(199)), 3, "large 3")
	checkEval(t, co(impl.CoAp, readCore(`(\y:?.(\y:?.y))`), pairOfDoubled(199)), 3, `done 3 (\y:?.y)`)
	// A cast makes the value larger than its expression.
	for size, want := range map[int]string{591: "done 0", 593: "done 0", 595: "large 0", 597: "bad 0"} {
		d := castTo(co(impl.CoPair, coreNum(1), castTo(pairsOf(size), couple(number(), number()), unknown())), couple(number(), unknown()), unknown())
		if got := impl.EvalCore(d, 0); briefly(got) != want {
			t.Errorf("the value of casts around %d nodes: %s", size, briefly(got))
		}
	}
	// An argument that is far too large, in a body that uses it often.
	many := coreVar("x")
	for range 6 {
		many = co(impl.CoPair, many, many)
	}
	huge := coreNum(1)
	for range 10 {
		huge = co(impl.CoPair, readCore(`((\g:?.(g (g (g (g (g (g (g 1)))))))) (\x:?.(x,x)))`), huge)
	}
	d := co(impl.CoAp, coreFunction("x", unknown(), many), huge)
	checkEval(t, d, impl.MaxFuel, "large 81")
	checkEval(t, d, 80, "fuel 80")
}

// What is evaluated first decides about the status.
func TestOrderOfEvaluation(t *testing.T) {
	o, l := readCore(omega), large()
	one := coreNum(1)
	for name, form := range map[string]func(a, b impl.Core) impl.Core{
		"application": func(a, b impl.Core) impl.Core { return co(impl.CoAp, a, b) },
		"sum":         func(a, b impl.Core) impl.Core { return co(impl.CoAdd, a, b) },
		"comparison":  func(a, b impl.Core) impl.Core { return co(impl.CoLess, a, b) },
		"pair":        func(a, b impl.Core) impl.Core { return co(impl.CoPair, a, b) },
		"choice":      func(a, b impl.Core) impl.Core { return co(impl.CoIf, a, b, one) },
		"taken":       func(a, b impl.Core) impl.Core { return co(impl.CoIf, co(impl.CoLess, one, coreNum(2)), a, one) },
		"not taken":   func(a, b impl.Core) impl.Core { return co(impl.CoIf, co(impl.CoLess, one, one), one, a) },
		"hole":        func(a, b impl.Core) impl.Core { return coreHole(1, bind("x", one), bind("y", a), bind("b", b)) },
		"mark":        func(a, b impl.Core) impl.Core { return coreMark(1, a, bind("x", b)) },
		"marked":      func(a, b impl.Core) impl.Core { return coreMark(1, one, bind("x", a), bind("a", b)) },
		"failed cast": func(a, b impl.Core) impl.Core { return co(impl.CoPair, failedTo(a, number(), truth()), b) },
		"cast":        func(a, b impl.Core) impl.Core { return co(impl.CoPair, castTo(a, number(), unknown()), b) },
		"first part":  func(a, b impl.Core) impl.Core { return co(impl.CoFst, co(impl.CoPair, a, b)) },
		"second part": func(a, b impl.Core) impl.Core { return co(impl.CoSnd, co(impl.CoPair, a, b)) },
		"argument first": func(a, b impl.Core) impl.Core {
			return co(impl.CoAp, coreFunction("x", number(), b), a)
		},
		"argument before cast": func(a, b impl.Core) impl.Core {
			return co(impl.CoAp, castTo(coreFunction("x", number(), b), arrow(number(), number()), arrow(unknown(), unknown())), a)
		},
	} {
		if got := impl.EvalCore(form(l, o), 50); resultWords(got) != "large 1" {
			t.Errorf("%s: %s", name, resultWords(got))
		}
		if got := impl.EvalCore(form(o, l), 50); resultWords(got) != "fuel 50" {
			t.Errorf("%s: %s", name, resultWords(got))
		}
	}
	// What is not evaluated.
	for _, d := range []impl.Core{co(impl.CoIf, coreHole(1), o, l), co(impl.CoIf, one, l, o), coreFunction("x", number(), co(impl.CoPair, o, l)), co(impl.CoIf, failedTo(one, number(), truth()), o, l)} {
		checkEval(t, d, 50, "done 0 "+coreWords(d))
	}
	for _, s := range []string{`(if #t 1 O)`, `(if #f O 1)`, `((\x:?.1) (\y:?.O))`, `(fst (1,(\y:?.O)))`} {
		if got := impl.EvalCore(readCore(strings.ReplaceAll(s, "O", omega)), 50); got.Status != impl.EvDone || coreWords(got.Value) != "1" {
			t.Errorf("%s: %s", s, resultWords(got))
		}
	}
}

func TestEvalOfWrongCores(t *testing.T) {
	for what, d := range wrongCores() {
		if got := impl.EvalCore(d, 50); resultWords(got) != "bad 0" {
			t.Errorf("%s: %s", what, resultWords(got))
		}
	}
	for _, s := range []string{"x", "(1+x)", `(\x:N.y)`, "?1[x=x]", "{1 2}[y=(\\z:N.x)]", "{1 q}[]", `((\x:N.x) x)`, "(if #t 1 x)", "<x:N=>?>", "<x:N!B>", `(\x:N.?1[y=y])`, "(fst (1,x))"} {
		checkEval(t, readCore(s), 50, "bad 0")
	}
	for _, s := range []string{`(\x:N.?1[x=x])`, `(\x:N.{1 x}[y=x])`, `(\x:N.(\y:N.?1[x=y,z=x]))`} {
		checkEval(t, readCore(s), 50, "done 0 "+s)
	}
	// A core expression of the greatest size.
	checkEval(t, pairsOf(599), 0, "done 0 "+coreWords(pairsOf(599)))
	checkEval(t, co(impl.CoFst, pairsOf(599)), 0, "done 0 "+coreWords(pairsOf(599).Args[0]))
	checkEval(t, co(impl.CoPair, coreNum(1), co(impl.CoFst, pairsOf(599))), 0, "bad 0")
}

func TestRunExpr(t *testing.T) {
	for s, want := range map[string]string{
		`((\x:N.(x+1)) 2)`: "done 1 3", `((\f:?.((f 1)+2)) (\x:N.(x+1)))`: "done 3 4", `((\x:N.(?1+(x+1))) 3)`: "done 1 (<?1[x=3]:?=>N>+4)", "(1+{1 #t})": "done 0 (1+<{1 #t}[]:?=>N>)", "{1 q}": "done 0 ?1[]", "({7 q}+1)": "done 0 (<?7[]:?=>N>+1)",
		`(if (?1<3) (\x:N.x) {2 5})`: `done 0 (if (<?1[]:?=>N><3) (\x:N.x) <{2 5}[]:?=>(N>N)>)`, `((\f:?.(f #t)) (\x:N.(x+1)))`: "done 3 <(<#t:B!N>+1):N=>?>", `((\x:?.(if x 1 2)) (2<1))`: "done 1 2", "(snd ((1,2):?))": "done 0 <2:N=>?>",
		`((\x:?.(x x)) (\x:?.(x x)))`: "fuel 60", "(?1 ?1)": "done 0 (<?1[]:?=>(?>?)> ?1[])", `((\x:N.(\y:B.?1)) 5)`: `done 1 (\y:B.?1[x=5,y=y])`, `(((\x:N.(\y:B.?1)) 5) #t)`: "done 2 ?1[x=5,y=#t]", `((\x:N.((\x:B.?1) #t)) 5)`: "done 2 ?1[x=#t]",
		"999": "done 0 999",
		// what is not well-typed
		"x": "bad 0", "(1+#t)": "bad 0", "(1 2)": "bad 0", "(if 1 2 3)": "bad 0", "(if #t 1 #f)": "bad 0", "(fst 1)": "bad 0", `(\x:N.y)`: "bad 0", "(1:B)": "bad 0", "({1 2}+{2 (1+#t)})": "bad 0",
	} {
		if got := impl.RunExpr(readExpr(s), 60); resultWords(got) != want {
			t.Errorf("RunExpr(%s) is %s, want %s", s, resultWords(got), want)
		}
	}
	for what, e := range wrongExprs() {
		if got := impl.RunExpr(e, 60); resultWords(got) != "bad 0" {
			t.Errorf("%s: %s", what, resultWords(got))
		}
	}
	for fuel, want := range map[int]string{-1: "bad 0", 0: "fuel 0", 2: "fuel 2", 3: "done 3 4", 300: "done 3 4", 301: "bad 0", math.MaxInt: "bad 0", math.MinInt: "bad 0"} {
		if got := impl.RunExpr(readExpr(`((\f:?.((f 1)+2)) (\x:N.(x+1)))`), fuel); resultWords(got) != want {
			t.Errorf("RunExpr with the fuel %d is %s", fuel, resultWords(got))
		}
	}
}

// plainEval evaluates by the document's rules with values that are never
// changed. It panics with a status if it cannot go on.
type plainEval struct{ fuel, steps int }

func (p *plainEval) step() {
	if p.steps == p.fuel {
		panic(impl.EvFuel)
	}
	p.steps++
}

func (p *plainEval) all(list []impl.Core) []impl.Core {
	var values []impl.Core
	for _, d := range list {
		values = append(values, p.value(d))
	}
	return values
}

func (p *plainEval) value(d impl.Core) impl.Core {
	switch d.Kind {
	case impl.CoNum, impl.CoBool, impl.CoLam, impl.CoVar:
		return d
	case impl.CoIf:
		c := p.value(d.Args[0])
		if c.Kind == impl.CoBool {
			return p.value(d.Args[2-c.N])
		}
		return co(impl.CoIf, c, d.Args[1], d.Args[2])
	}
	d.Args = p.all(d.Args)
	var env []impl.CoreBind
	for _, b := range d.Env {
		env = append(env, bind(b.Name, p.value(b.Value)))
	}
	d.Env = env
	switch d.Kind {
	case impl.CoAp:
		return p.applied(d.Args[0], d.Args[1])
	case impl.CoAdd, impl.CoLess:
		a, b := d.Args[0], d.Args[1]
		if a.Kind != impl.CoNum || b.Kind != impl.CoNum {
			return d
		}
		if d.Kind == impl.CoAdd {
			return coreNum(a.N + b.N)
		}
		return impl.Core{Kind: impl.CoBool, N: map[bool]int{true: 1}[a.N < b.N]}
	case impl.CoFst, impl.CoSnd:
		return partOf(d.Kind-impl.CoFst, d.Args[0])
	case impl.CoCast:
		return impl.ApplyCast(d.Args[0], d.From, d.Type)
	}
	return d
}

func within(d impl.Core, kind int) bool {
	return d.Kind == impl.CoCast && d.From.Kind == kind && d.Type.Kind == kind
}

func (p *plainEval) applied(f, arg impl.Core) impl.Core {
	switch {
	case f.Kind == impl.CoLam:
		p.step()
		body := substituted(f.Args[0], map[string]impl.Core{f.Name: arg})
		if impl.SizeOfCore(body) > impl.MaxCore {
			panic(impl.EvLarge)
		}
		return p.value(body)
	case within(f, impl.TyArrow):
		p.step()
		result := p.applied(f.Args[0], impl.ApplyCast(arg, f.Type.Args[0], f.From.Args[0]))
		return impl.ApplyCast(result, f.From.Args[1], f.Type.Args[1])
	}
	return co(impl.CoAp, f, arg)
}

func partOf(k int, whole impl.Core) impl.Core {
	switch {
	case whole.Kind == impl.CoPair:
		return whole.Args[k]
	case within(whole, impl.TyPair):
		return impl.ApplyCast(partOf(k, whole.Args[0]), whole.From.Args[k], whole.Type.Args[k])
	}
	return co(impl.CoFst+k, whole)
}

func plainly(d impl.Core, fuel int) (r impl.Result) {
	p := plainEval{fuel: fuel}
	defer func() {
		if status, ok := recover().(int); ok {
			r = impl.Result{Status: status, Steps: p.steps}
		}
	}()
	value := p.value(d)
	if impl.SizeOfCore(value) > impl.MaxCore {
		panic(impl.EvLarge)
	}
	return impl.Result{Status: impl.EvDone, Value: value, Steps: p.steps}
}

// closedCore makes random core expressions without free variables, most of
// which are not well-typed.
func closedCore(r *rand.Rand, size int) impl.Core {
	d := randomCore(r, size)
	for _, name := range freeCoreNames(d, nil) {
		var value impl.Core
		switch r.Intn(5) {
		case 0:
			value = coreNum(r.Intn(9) - 4)
		case 1:
			value = readCore(`(\x:?.(x,?1[x=x]))`)
		case 2:
			value = readCore(`<(\x:N.(x+1)):(N>N)=>(?>?)>`)
		case 3:
			value = readCore(`<(1,#t):(N*B)=>(?*?)>`)
		case 4:
			value = readCore(`<(\z:?.(z z)):(?>?)=>?>`)
		}
		d = substituted(d, map[string]impl.Core{name: value})
	}
	return d
}

func TestEvalByRules(t *testing.T) {
	r := rand.New(rand.NewSource(231))
	statuses := map[int]int{}
	steps := 0
	for range 12000 {
		d := closedCore(r, 30)
		for range r.Intn(3) {
			d = co(impl.CoAp, coreFunction("x", unknown(), substituted(closedCore(r, 12), nil)), d)
		}
		if !impl.IsCore(d) {
			continue
		}
		want := plainly(d, impl.MaxFuel)
		statuses[want.Status]++
		steps += want.Steps
		for _, fuel := range []int{impl.MaxFuel, want.Steps, max(want.Steps-1, 0), r.Intn(20)} {
			if got := impl.EvalCore(d, fuel); resultWords(got) != resultWords(plainly(d, fuel)) {
				t.Fatalf("EvalCore(%s, %d) is %s, want %s", coreWords(d), fuel, resultWords(got), resultWords(plainly(d, fuel)))
			}
		}
	}
	if statuses[impl.EvDone] < 5000 || steps < 5000 {
		t.Error("too little is evaluated", statuses, steps)
	}
}

// runnable makes well-typed expressions without a context, with the numbers of
// holes and marks all different, and their core expressions and types.
func runnable(r *rand.Rand, depth int) (impl.Expr, impl.Core, impl.Type) {
	return runnableOf(r, randomType(r, 3), depth)
}

func runnableOf(r *rand.Rand, want impl.Type, depth int) (impl.Expr, impl.Core, impl.Type) {
	for {
		e := typedExpr(r, nil, want, depth)
		if r.Intn(3) > 0 {
			e = blurredExpr(r, e)
		}
		if !impl.IsValidExpr(e) {
			continue
		}
		if r.Intn(3) == 0 {
			e = impl.Remark(nil, e)
		}
		e = impl.RenumberHoles(e)
		if d, own, ok := impl.Elaborate(nil, e); ok {
			return e, d, own
		}
	}
}

func TestPromiseOfEvaluation(t *testing.T) {
	r := rand.New(rand.NewSource(232))
	done, stepped := 0, 0
	for range 12000 {
		e, d, own := runnable(r, 1+r.Intn(6))
		got := impl.RunExpr(e, impl.MaxFuel)
		if want := plainly(d, impl.MaxFuel); resultWords(got) != resultWords(want) {
			t.Fatalf("RunExpr(%s) is %s, want %s", exprWords(e), resultWords(got), resultWords(want))
		}
		if got.Status != impl.EvDone {
			continue
		}
		done++
		if got.Steps > 0 {
			stepped++
		}
		if value, ok := impl.CoreType(impl.HoleCtxOf(nil, e), nil, got.Value); !ok || typeWords(value) != typeWords(own) {
			t.Fatalf("the value %s of %s has the type %s, not %s", coreWords(got.Value), exprWords(e), typeWords(value), typeWords(own))
		}
		if again := impl.EvalCore(got.Value, 0); resultWords(again) != "done 0 "+coreWords(got.Value) {
			t.Fatalf("evaluated again, %s is %s", coreWords(got.Value), resultWords(again))
		}
	}
	if done < 8000 || stepped < 1500 {
		t.Error("too few expressions have values", done, stepped)
	}
}

func TestEvaluationSharesNoMemory(t *testing.T) {
	r := rand.New(rand.NewSource(233))
	list := []impl.Core{readCore(`((\x:?.((x,x),?1[x=x,y=(x x)])) (1,(\z:(N>N).z)))`), readCore(`(<(\x:(N*N).(x,x)):((N*N)>?)=>(?>?)> ?1[])`), readCore("<<(1,2):(N*N)=>?>:?=>(N>N)>"), readCore("(fst <(1,(2,3)):(N*(N*N))=>(?*?)>)"), coreVar("x"), {}}
	for range 1000 {
		list = append(list, closedCore(r, 40))
	}
	for _, d := range list {
		d = roomyCore(d)
		before := wholeCore(d)
		for _, fuel := range []int{0, 2, 300, 301} {
			got := impl.EvalCore(d, fuel)
			text := exactCore(got.Value)
			if partsShare(got.Value) {
				t.Fatalf("parts of the value of %s share memory", exactCore(d))
			}
			spoilCore(impl.EvalCore(d, fuel).Value)
			if exactCore(got.Value) != text {
				t.Fatal("two values share memory")
			}
			spoilCore(got.Value)
			if wholeCore(d) != before {
				t.Fatal("an argument was changed")
			}
		}
	}
	for range 300 {
		e, _, _ := runnable(r, 5)
		e = roomyExpr(e)
		before := wholeExpr(e)
		spoilCore(impl.RunExpr(e, 100).Value)
		if wholeExpr(e) != before {
			t.Fatal("an expression was changed")
		}
	}
}

func TestEvaluationOfDeepCores(t *testing.T) {
	deep := coreChain(100000, coreNum(1))
	for _, d := range []impl.Core{deep, coreHole(1, bind("x", deep)), castTo(deep, number(), unknown())} {
		if got := impl.EvalCore(d, 5); got.Status != impl.EvBad || got.Steps != 0 || got.Value.Kind != 0 {
			t.Error("a core expression that is too large is evaluated")
		}
	}
	chain := coreChain(600, coreHole(1))
	checkEval(t, chain, 0, "done 0 "+coreWords(chain))
	sum := coreNum(0)
	for range 299 {
		sum = co(impl.CoAdd, sum, coreNum(1))
	}
	checkEval(t, sum, 0, "done 0 299")
	// A function that builds a sum around each of its calls.
	nested := readCore(`((\f:?.((f f) 0)) (\f:?.(\n:N.(if (n<140) (1+((f f) (n+1))) n))))`)
	checkEval(t, nested, 283, "done 283 280")
	if slices.Contains(impl.FreeInCore(nested), "f") {
		t.Error("a free variable")
	}
}
