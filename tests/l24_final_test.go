package tests

import (
	"math"
	"math/rand"
	"strings"
	"testing"

	"loop.example/g00585/impl"
)

// Promise 24: a result is a value or indeterminate, and evaluating it again
// changes nothing.

func checkForm(t *testing.T, d impl.Core, want int) {
	t.Helper()
	if got := impl.FormOf(d); got != want {
		t.Errorf("FormOf(%s) is %d, want %d", exactCore(d), got, want)
	}
}

// checkForms takes core expressions that are separated by spaces at the ends of
// lines.
func checkForms(t *testing.T, want int, lines string) {
	t.Helper()
	for _, s := range strings.Split(strings.TrimSpace(lines), "\n") {
		checkForm(t, readCore(strings.TrimSpace(s)), want)
	}
}

func TestFormOfValues(t *testing.T) {
	checkForms(t, impl.FnValue, `
		0
		-5
		9223372036854775807
		#t
		#f
		(\x:N.x)
		(\x:N.((\y:N.y) (1+2)))
		(\x:N.?1[x=x])
		(\x:N.y)
		(1,2)
		((1,#t),(\x:N.x))
		<(\x:N.x):(N>N)=>(?>?)>
		<(\x:?.x):(?>?)=>(N>N)>
		<<(\x:N.x):(N>N)=>(?>?)>:(?>?)=>(N>N)>
		<(1,2):(N*N)=>(?*?)>
		<(1,2):(N*N)=>(B*B)>
		<1:(N>N)=>(?>?)>
		<(1,2):(N>N)=>(B>B)>
		<(\x:N.x):(N*N)=>(?*N)>
		<1:N=>?>
		<#t:B=>?>
		<1:B=>?>
		<(\x:?.x):(?>?)=>?>
		<(1,2):(?*?)=>?>
		<<1:N=>?>:N=>?>
		<<(\x:N.x):(N>N)=>(?>?)>:(?>?)=>?>
		(<1:N=>?>,<(1,2):(N*N)=>(?*N)>)
	`)
}

func TestFormOfOpenForms(t *testing.T) {
	checkForms(t, impl.FnOpen, `
		?1[]
		?1[x=1]
		?1[x=1,y=?2[],z=(\x:N.y)]
		?1[x=(1+?2[]),y=(if ?1[] 1 (1+2))]
		{1 5}[]
		{1 ?1[]}[]
		{1 {2 5}[]}[]
		{1 5}[x=1,y=?2[]]
		{1 (1+#t)}[x=(2 3)]
		<1:N!B>
		<?1[]:N!B>
		<1:N!N>
		<<1:N!B>:B!N>
		(1,?1[])
		(?1[],1)
		(?1[],?1[])
		(?1[],(1,2))
		((1,?1[]),(\x:N.x))
		<?1[]:(N>N)=>(?>?)>
		<?1[]:(N*N)=>(?*?)>
		<(1,?1[]):(N*N)=>(?*?)>
		<?1[]:N=>?>
		<?1[]:(?>?)=>?>
		<?1[]:(?*?)=>?>
		<<?1[]:?=>(?>?)>:(?>?)=>(N>N)>
		<?1[]:?=>N>
		<?1[]:?=>B>
		<?1[]:?=>(?>?)>
		<?1[]:?=>(?*?)>
		<{1 5}[]:?=>N>
		<(1,?1[]):?=>N>
		(1+?1[])
		(?1[]+1)
		(?1[]<1)
		(1<?1[])
		(#t+1)
		(1+#t)
		(1<#f)
		((\x:N.x)<1)
		((1,2)+(3,4))
		(<1:N=>?>+1)
		((1+?1[])+(2+?2[]))
		(if ?1[] 1 2)
		(if ?1[] (1+2) ((\x:N.x) 1))
		(if ?1[] x y)
		(if (1<?1[]) 1 2)
		(if <1:N!B> 1 2)
		(if (1+#t) 1 2)
		(if (1,?1[]) 1 2)
		(?1[] 1)
		(1 2)
		(#t ?1[])
		((1,2) 3)
		((?1[] 1) 2)
		({1 (\x:N.x)}[] 1)
		(<(\x:N.x):(N>N)!B> 1)
		(<?1[]:?=>(?>?)> <1:N=>?>)
		(<(\x:?.x):(?>?)=>?> 1)
		(<(1,2):(N*N)=>(?*?)> 1)
		(fst ?1[])
		(snd ?1[])
		(fst (fst ?1[]))
		(snd (1+?1[]))
		(fst <?1[]:?=>(?*?)>)
		(snd <1:N!(?*?)>)
		(fst {1 (1,2)}[])
		(snd (if ?1[] (1,2) (3,4)))
		(fst <?1[]:(?>?)=>?>)
		(fst <?1[]:(N>N)=>(?>?)>)
	`)
}

func TestFormOfNone(t *testing.T) {
	checkForms(t, impl.FnNone, `
		x
		(x,1)
		(1,x)
		(1,(1+2))
		((1+2),?1[])
		(?1[],(1+2))
		<1:N=>N>
		<?1[]:?=>?>
		<?1[]:N=>N>
		<(\x:N.x):(N>N)=>(N>N)>
		<?1[]:(N*N)=>(N*N)>
		<(1+2):N=>?>
		<x:N=>?>
		<1:N=>B>
		<?1[]:N=>B>
		<1:?=>N>
		<1:?=>B>
		<(\x:N.x):?=>(?>?)>
		<<1:N=>?>:?=>N>
		<<?1[]:N=>?>:?=>N>
		<<?1[]:N=>?>:?=>B>
		<<?1[]:(?>?)=>?>:?=>(?>?)>
		<?1[]:?=>(N>N)>
		<?1[]:?=>(N*?)>
		<?1[]:?=>(?>N)>
		<(\x:N.x):(N>N)=>?>
		<(1,2):(N*?)=>?>
		<?1[]:(N>N)=>?>
		<?1[]:((?>?)>?)=>?>
		<(\x:?.x):(?>?)=>(?*?)>
		<(1,2):(?*?)=>(?>?)>
		<?1[]:(N*N)=>N>
		<?1[]:N=>(N>N)>
		<(1+2):(N>N)=>(?>?)>
		<(1+2):(N*N)=>(?*?)>
		<(1+2):?=>N>
		?1[x=(1+2)]
		?1[x=1,y=y]
		?1[x=?2[y=(1+2)]]
		{1 (1+2)}[]
		{1 x}[]
		{1 1}[x=(1+2)]
		{1 1}[x=1,y=<1:?=>N>]
		{1 ?2[x=(1<2)]}[]
		<(1+2):N!B>
		<x:N!B>
		<<?1[]:N=>B>:N!B>
		(1+2)
		(1<2)
		(-1+5)
		(1+(1+2))
		((1+2)+?1[])
		(?1[]+(1+2))
		(?1[]<x)
		(#t+x)
		(if #t 1 2)
		(if 1 2 3)
		(if (1<2) ?1[] ?2[])
		(if (\x:N.x) 1 2)
		(if x ?1[] 1)
		(if <#t:B=>?> 1 2)
		((\x:N.x) 1)
		((\x:N.x) ?1[])
		(<(\x:N.x):(N>N)=>(?>?)> 1)
		(<?1[]:(N>N)=>(?>?)> 1)
		(<?1[]:(?>?)=>(?>?)> 1)
		(<1:(N>N)=>(?>?)> ?1[])
		(?1[] (1+2))
		((1+2) ?1[])
		(x ?1[])
		(?1[] x)
		(fst (1,2))
		(fst (1,?1[]))
		(snd (?1[],1))
		(snd ((1+2),1))
		(fst <(1,?1[]):(N*N)=>(?*?)>)
		(snd <?1[]:(N*N)=>(?*?)>)
		(fst <?1[]:(?*?)=>(?*?)>)
		(fst 1)
		(snd #t)
		(fst (\x:N.x))
		(snd <(1,2):(?*?)=>?>)
		(fst x)
		(fst (1+2))
	`)
}

func TestFormOfWrongCores(t *testing.T) {
	for what, d := range wrongCores() {
		if got := impl.FormOf(d); got != impl.FnNone {
			t.Errorf("the form of %s is %d", what, got)
		}
		if impl.IsAnswer(d) {
			t.Errorf("%s is an answer", what)
		}
	}
	checkForm(t, pairsOf(599), impl.FnValue)
	checkForm(t, coreMark(1, pairsOf(599)), impl.FnOpen)
	checkForm(t, coreMark(1, coreMark(1, pairsOf(599))), impl.FnNone)
	checkForm(t, pairsOf(601), impl.FnNone)
	checkForm(t, coreChain(600, coreHole(1)), impl.FnOpen)
	checkForm(t, coreChain(601, coreHole(1)), impl.FnNone)
	checkForm(t, coreChain(100000, coreHole(1)), impl.FnNone)
	if impl.IsAnswer(pairsOf(601)) || !impl.IsAnswer(pairsOf(599)) || impl.IsAnswer(coreChain(100000, coreNum(1))) {
		t.Error("answers at the limit")
	}
	if impl.FnNone != 0 || impl.FnValue != 1 || impl.FnOpen != 2 {
		t.Error("the constants of forms")
	}
}

func TestIsAnswer(t *testing.T) {
	for s, want := range map[string]bool{
		"0": true, "-7": true, "#t": true, "#f": true, "(1,2)": true, "((1,#t),(#f,(-2,3)))": true,
		"x": false, `(\x:N.x)`: false, `(1,(\x:N.x))`: false, `((\x:N.x),1)`: false, "?1[]": false, "(1,?1[])": false, "(?1[],1)": false, "{1 1}[]": false, "<1:N=>?>": false, "(<1:N=>?>,1)": false, "<(1,2):(N*N)=>(?*?)>": false,
		"(1+2)": false, "(1,(1+2))": false, "(1<2)": false, "<1:N!B>": false, "(if #t 1 2)": false, "(fst (1,2))": false, "(1 2)": false, "((1,2),(3,x))": false,
	} {
		if got := impl.IsAnswer(readCore(s)); got != want {
			t.Errorf("IsAnswer(%s) is %v", s, got)
		}
	}
}

func TestFormName(t *testing.T) {
	for form, want := range map[int]string{0: "none", 1: "value", 2: "open", 3: "?", 4: "?", -1: "?", math.MaxInt: "?", math.MinInt: "?"} {
		if got := impl.FormName(form); got != want {
			t.Errorf("FormName(%d) is %q", form, got)
		}
	}
}

// isValue and isOpen follow the document's list, each by itself.
func isValue(d impl.Core) bool {
	switch d.Kind {
	case impl.CoNum, impl.CoBool, impl.CoLam:
		return true
	case impl.CoPair:
		return isValue(d.Args[0]) && isValue(d.Args[1])
	}
	return staysCast(d) && isValue(d.Args[0])
}

func staysCast(d impl.Core) bool {
	from, to := typeWords(d.From), typeWords(d.Type)
	if d.Kind != impl.CoCast {
		return false
	}
	grounds := " N B (?>?) (?*?) "
	return (within(d, impl.TyArrow) || within(d, impl.TyPair)) && from != to || to == "?" && strings.Contains(grounds, " "+from+" ")
}

func isOpen(d impl.Core) bool {
	final := true
	for _, arg := range d.Args {
		final = final && (isValue(arg) || isOpen(arg))
	}
	for _, b := range d.Env {
		final = final && (isValue(b.Value) || isOpen(b.Value))
	}
	switch d.Kind {
	case impl.CoHole, impl.CoMark, impl.CoFail:
		return final
	case impl.CoPair:
		return final && !isValue(d)
	case impl.CoAdd, impl.CoLess:
		return final && (d.Args[0].Kind != impl.CoNum || d.Args[1].Kind != impl.CoNum)
	case impl.CoIf:
		return isOpen(d.Args[0])
	case impl.CoAp:
		return final && d.Args[0].Kind != impl.CoLam && !within(d.Args[0], impl.TyArrow)
	case impl.CoFst, impl.CoSnd:
		return isOpen(d.Args[0]) && d.Args[0].Kind != impl.CoPair && !within(d.Args[0], impl.TyPair)
	case impl.CoCast:
		ground := strings.Contains(" N B (?>?) (?*?) ", " "+typeWords(d.Type)+" ")
		boxed := staysCast(d.Args[0]) && typeWords(d.Args[0].Type) == "?"
		return isOpen(d.Args[0]) && (staysCast(d) || typeWords(d.From) == "?" && ground && !boxed)
	}
	return false
}

func TestFormsByRules(t *testing.T) {
	r := rand.New(rand.NewSource(240))
	counts := map[int]int{}
	check := func(d impl.Core) {
		want := impl.FnNone
		if isValue(d) {
			want = impl.FnValue
		} else if isOpen(d) {
			want = impl.FnOpen
		}
		if len(d.Args) > 0 {
			counts[want]++
		}
		checkForm(t, d, want)
	}
	for range 30000 {
		d := randomCore(r, 14)
		check(d)
		check(*anyCoreNode(r, &d))
		if value := impl.EvalCore(closedCore(r, 14), 20); value.Status == impl.EvDone {
			// One type, kind or part of a result is changed.
			changed := roomyCore(value.Value)
			n := anyCoreNode(r, &changed)
			switch r.Intn(4) {
			case 0:
				n.Type = randomType(r, 2)
			case 1:
				n.From = randomType(r, 2)
			case 2:
				n.Kind = 1 + r.Intn(15)
			case 3:
				*n = readCore([]string{"x", "?1[]", "(1+2)", "<?1[]:?=>N>", "<<?1[]:N=>?>:?=>N>", "#t"}[r.Intn(6)])
			}
			if impl.IsCore(changed) {
				check(changed)
			}
		}
	}
	if counts[impl.FnNone] < 10000 || counts[impl.FnValue] < 500 || counts[impl.FnOpen] < 3000 {
		t.Error("too few core expressions of one form", counts)
	}
}

func TestPromiseOfForms(t *testing.T) {
	r := rand.New(rand.NewSource(241))
	counts := map[int]int{}
	for range 12000 {
		e, _, own := runnable(r, 1+r.Intn(6))
		got := impl.RunExpr(e, impl.MaxFuel)
		if got.Status != impl.EvDone {
			continue
		}
		form := impl.FormOf(got.Value)
		counts[form]++
		if form != impl.FnValue && form != impl.FnOpen {
			t.Fatalf("the result %s of %s is neither", coreWords(got.Value), exprWords(e))
		}
		for _, fuel := range []int{0, impl.MaxFuel} {
			again := impl.EvalCore(got.Value, fuel)
			if again.Status != impl.EvDone || again.Steps != 0 || exactCore(again.Value) != exactCore(got.Value) {
				t.Fatalf("evaluated again, %s is %s", coreWords(got.Value), resultWords(again))
			}
		}
		if answer := impl.IsAnswer(got.Value); answer && form != impl.FnValue || answer && strings.ContainsAny(typeWords(own), "?>") {
			t.Fatalf("%s of the type %s is an answer", coreWords(got.Value), typeWords(own))
		}
		if len(impl.HolesIn(e)) == 0 && form == impl.FnOpen && !strings.Contains(coreWords(got.Value), "!") {
			t.Fatalf("%s has no holes, but its result is %s", exprWords(e), coreWords(got.Value))
		}
	}
	if counts[impl.FnValue] < 1000 || counts[impl.FnOpen] < 1000 {
		t.Error("too few results of one form", counts)
	}
}

func TestFormsChangeNothing(t *testing.T) {
	r := rand.New(rand.NewSource(242))
	for range 1000 {
		d := roomyCore(randomCore(r, 40))
		before := wholeCore(d)
		_, _ = impl.FormOf(d), impl.IsAnswer(d)
		if wholeCore(d) != before {
			t.Fatal("an argument was changed")
		}
	}
}
