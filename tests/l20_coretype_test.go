package tests

import (
	"math/rand"
	"strings"
	"testing"

	"loop.example/g00585/impl"
)

// Promise 20: a core expression has exactly the type of its expression.

// holeWords writes holes as the number, ":" and the context.
func holeWords(holes []impl.HoleCtx) string {
	var words []string
	for _, h := range holes {
		words = append(words, decimal(h.N)+": "+ctxWords(h.Ctx))
	}
	return strings.Join(words, "; ")
}

func TestHoleCtxOf(t *testing.T) {
	ctx := typings("n", "N", "f", "(N>B)")
	for s, want := range map[string]string{
		"1":                         "",
		"?7":                        "7: ",
		"(?2+{1 #t})":               "2: ; 1: ",
		"(?1+?1)":                   "1: ; 1: ",
		`(\x:B.(if ?5 ?4 {3 x}))`:   "5: x:B; 4: x:B; 3: x:B",
		`((\x:N.(\n:?.?2)) ?1)`:     "2: x:N n:?; 1: ",
		`{1 (\x:N.{2 ({3 y}+?4)})}`: "1: ; 2: x:N; 3: x:N; 4: x:N",
		"((1+#t) ?3)":               "3: ",
	} {
		var words []string
		for _, word := range strings.Split(want, "; ") {
			if n, inner, ok := strings.Cut(word, ": "); ok {
				words = append(words, strings.TrimSpace(n+": "+ctxWords(ctx)+" "+inner))
			}
		}
		if got := holeWords(impl.HoleCtxOf(ctx, readExpr(s))); got != strings.Join(words, "; ") {
			t.Errorf("HoleCtxOf(%s) = %s", s, got)
		}
	}
	for what, wrong := range wrongExprs() {
		if got := impl.HoleCtxOf(ctx, wrong); len(got) != 0 {
			t.Errorf("HoleCtxOf of %s = %s", what, holeWords(got))
		}
	}
	for what, wrong := range wrongContexts() {
		if got := impl.HoleCtxOf(wrong, hole(1)); len(got) != 0 {
			t.Errorf("HoleCtxOf in a context with %s = %s", what, holeWords(got))
		}
	}
}

// checkCoreType requires a type, or that there is none if want is empty.
func checkCoreType(t *testing.T, holes []impl.HoleCtx, ctx []impl.Typing, d impl.Core, want string) {
	t.Helper()
	if want == "" {
		want = "<0>"
	}
	got, ok := impl.CoreType(holes, ctx, d)
	if typeWords(got) != want || ok != (want != "<0>") {
		t.Errorf("CoreType(%s) = %s, %v, want %s", exactCore(d), typeWords(got), ok, want)
	}
}

func TestCoreType(t *testing.T) {
	for s, want := range map[string]string{
		// variables, numbers and booleans
		"n": "N", "u": "?", "f": "(N>B)", "p": "(N*B)", "h": "((N>B)>N)", "q": "", "0": "N", "-7": "N", "1000": "N", "9223372036854775807": "N", "#t": "B", "#f": "B",
		// functions
		`(\x:N.x)`: "(N>N)", `(\x:?.x)`: "(?>?)", `(\x:N.q)`: "", `(\n:B.n)`: "(B>B)", `(\x:N.(\y:B.x))`: "(N>(B>N))", `(\x:N.(\x:B.x))`: "(N>(B>B))", `((\x:N.x),x)`: "",
		// applications
		"(f n)": "B", "(f 1)": "B", "(f u)": "", "(f #t)": "", "(f q)": "", "(q 1)": "", "(u n)": "", "(u u)": "", "(n 1)": "", "(p n)": "", "(h f)": "N", "(f f)": "",
		`(h (\x:N.#t))`: "N", `(h (\x:?.#t))`: "", `(h (\x:N.u))`: "", `((\x:?.x) n)`: "", `((\x:?.x) u)`: "?", `((\x:(N*B).(fst x)) p)`: "N",
		// sums and comparisons
		"(n+1)": "N", "(u+1)": "", "(1+u)": "", "(#t+1)": "", "(1+#t)": "", "(q+1)": "", "(1+q)": "", "(n<1)": "B", "(u<1)": "", "(1<u)": "", "(#t<1)": "", "(1<#t)": "", "((n<1)<1)": "", "((n+1)<1)": "B",
		// choices
		"(if #t n 1)": "N", "(if (n<1) #t #f)": "B", "(if u n 1)": "", "(if 1 n 1)": "", "(if #t n u)": "", "(if #t u n)": "", "(if #t u u)": "?", "(if #t n #t)": "", "(if q 1 1)": "", "(if #t q 1)": "", "(if #t 1 q)": "",
		"(if #t (n,u) (n,u))": "(N*?)", "(if #t (n,u) (n,n))": "", `(if #t f (\x:?.#f))`: "", `(if #t f (\x:N.#f))`: "(N>B)",
		// pairs and their parts
		"(n,#t)": "(N*B)", "(u,(n,f))": "(?*(N*(N>B)))", "(q,1)": "", "(1,q)": "", "(fst p)": "N", "(snd p)": "B", "(fst u)": "", "(snd u)": "", "(fst n)": "", "(snd f)": "", "(fst q)": "", "(snd (1,(u,#t)))": "(?*B)",
		// casts
		"<n:N=>?>": "?", "<u:?=>N>": "N", "<n:N=>N>": "N", "<u:?=>?>": "?", "<n:?=>N>": "", "<n:B=>?>": "", "<n:N=>B>": "", "<u:N=>?>": "", "<q:?=>N>": "",
		"<f:(N>B)=>(?>B)>": "(?>B)", "<f:(N>B)=>(N*B)>": "", "<f:(N>B)=>(B>B)>": "", "<f:(N>?)=>(N>B)>": "", "<f:(N>B)=>?>": "?", "<u:?=>(N>(B*?))>": "(N>(B*?))", "<<n:N=>?>:?=>B>": "B", "<p:(N*B)=>(?*?)>": "(?*?)",
		// failed casts
		"<n:N!B>": "B", "<n:N!(?>?)>": "(?>?)", "<n:N!(?*?)>": "(?*?)", "<#t:B!N>": "N", "<n:N!N>": "", "<n:N!?>": "", "<u:?!N>": "", "<u:?!?>": "", "<n:B!N>": "", "<n:N!(N>N)>": "", "<n:N!(?>N)>": "", "<f:(N>B)!N>": "", "<q:N!B>": "",
		"<<f:(N>B)=>(?>?)>:(?>?)!N>": "N", "<<f:(N>B)=>(?>?)>:(?>?)!(?*?)>": "(?*?)", "<<p:(N*B)=>(?*?)>:(?*?)!(?>?)>": "(?>?)", "<<f:(N>B)=>(?>?)>:(?>?)!(?>?)>": "", "<n:B!B>": "",
		// parts that do not fit
		"((n+#t),1)": "", "(fst ((n+#t),1))": "", `(\x:N.(n+#t))`: "", "<(n+#t):N=>?>": "", "<(n+#t):N!B>": "", "(if #t 1 (n+#t))": "", "((n+#t)+1)": "", "(f (n+#t))": "",
	} {
		checkCoreType(t, nil, scopeForPlaces(), readCore(s), want)
	}
}

func TestCoreTypeOfHoles(t *testing.T) {
	ctx := typings("a", "N", "b", "B", "c", "?")
	holes := []impl.HoleCtx{
		{N: 1}, {N: 2, Ctx: typings("x", "N")}, {N: 3, Ctx: typings("x", "N", "y", "(N>B)")}, {N: 4, Ctx: typings("x", "N", "x", "B")}, {N: 5, Ctx: typings("x", "?")},
		{N: 2, Ctx: typings("y", "B")}, {N: 6, Ctx: typings("x", "N", "y", "B", "x", "?", "y", "N")}, {N: 7, Ctx: typings("x", "(N>?)")}, {N: 7},
	}
	for s, want := range map[string]string{
		// the number of a hole
		"?1[]": "?", "?8[]": "", "?99[]": "", "?7[]": "", "(?1[],?1[])": "(?*?)", "(?1[],?8[])": "",
		// each name once, and no others
		"?1[x=1]": "", "?2[x=1]": "?", "?2[]": "", "?2[y=1]": "", "?2[x=1,y=#t]": "", "?2[y=#t,x=1]": "", "?2[y=#t]": "", "?3[x=1]": "", "?3[y=(\\z:N.#t)]": "",
		"?3[x=1,y=(\\z:N.#t)]": "?", "?3[y=(\\z:N.#t),x=1]": "?", "?3[x=1,y=(\\z:N.#t),z=1]": "", "?3[x=1,z=(\\z:N.#t)]": "",
		// a name that occurs twice in the context
		"?4[x=#t]": "?", "?4[x=1]": "", "?4[x=b]": "?", "?6[x=c,y=a]": "?", "?6[y=a,x=c]": "?", "?6[x=a,y=a]": "", "?6[x=c,y=b]": "", "?6[x=c]": "",
		// the types of the values
		"?2[x=a]": "?", "?2[x=b]": "", "?2[x=c]": "", "?2[x=q]": "", "?2[x=(a+1)]": "?", "?2[x=(a+b)]": "", "?5[x=c]": "?", "?5[x=1]": "", "?5[x=<1:N=>?>]": "?", "?5[x=?1[]]": "?", "?2[x=?1[]]": "", "?2[x=<?1[]:?=>N>]": "?", "?2[x=<?8[]:?=>N>]": "",
		"?7[x=(\\x:N.c)]": "?", "?7[x=(\\x:N.a)]": "", "?7[x=(\\x:?.c)]": "",
		// the values are those around the hole
		"(\\x:B.?2[x=a])": "(B>?)", "(\\x:B.?2[x=x])": "", "(\\x:N.?2[x=x])": "(N>?)", "(\\a:B.?2[x=a])": "", "?5[x=?5[x=?5[x=c]]]": "?", "?5[x=?5[x=?5[x=a]]]": "",
		// marks
		"{1 a}[]": "?", "{1 q}[]": "", "{1 (a+b)}[]": "", "{8 a}[]": "", "{2 a}[x=1]": "?", "{2 q}[x=1]": "", "{2 a}[]": "", "{2 a}[x=b]": "", "{3 b}[y=(\\z:N.#t),x=a]": "?", "{1 {2 b}[x=a]}[]": "?", "{1 {2 b}[x=b]}[]": "", "{2 ?1[]}[x=<{1 b}[]:?=>N>]": "?",
		"{4 a}[x=b,y=a]": "", "(<{1 b}[]:?=>N>+1)": "N", "({1 b}[]+1)": "", "(if <?1[]:?=>B> ?1[] {1 1}[])": "?",
	} {
		checkCoreType(t, holes, ctx, readCore(s), want)
	}
	for _, s := range []string{"?1[]", "{1 a}[]", "?2[x=1]"} {
		checkCoreType(t, nil, ctx, readCore(s), "")
	}
	// Contexts of holes are looked up like all others, however long they are.
	long, env := impl.HoleCtx{N: 9}, []impl.CoreBind(nil)
	for n := range 30 {
		long.Ctx = append(long.Ctx, impl.Typing{Name: "x" + decimal(n), Type: number()})
		env = append(env, bind("x"+decimal(n), coreNum(n)))
	}
	checkCoreType(t, []impl.HoleCtx{long}, nil, coreHole(9, env...), "?")
	checkCoreType(t, []impl.HoleCtx{long}, nil, coreHole(9, env[1:]...), "")
	checkCoreType(t, []impl.HoleCtx{long}, nil, coreHole(9, env[:29]...), "")
	odd := []impl.HoleCtx{{N: 0}, {N: -1}, {N: 3, Ctx: []impl.Typing{{Name: "if", Type: number()}}}, {N: 4, Ctx: []impl.Typing{{Name: "x"}}}}
	checkCoreType(t, odd, nil, coreHole(3), "")
	checkCoreType(t, odd, nil, coreHole(3, bind("x", coreNum(1))), "")
	checkCoreType(t, odd, nil, coreHole(4, bind("x", coreNum(1))), "")
	checkCoreType(t, odd, nil, coreNum(1), "N")
}

func TestCoreTypeOfWrongArguments(t *testing.T) {
	holes := []impl.HoleCtx{{N: 1}, {N: 3, Ctx: typings("x", "N", "y", "N")}}
	for what, d := range wrongCores() {
		if got, ok := impl.CoreType(holes, typings("x", "N"), d); ok || typeWords(got) != "<0>" {
			t.Errorf("%s has the type %s", what, typeWords(got))
		}
		if got, ok := impl.CoreType(holes, typings("x", "N"), co(impl.CoPair, coreNum(1), d)); ok || typeWords(got) != "<0>" {
			t.Errorf("a pair with %s has the type %s", what, typeWords(got))
		}
	}
	for _, x := range wrongTypes() {
		checkCoreType(t, nil, []impl.Typing{{Name: "x", Type: x}}, coreNum(1), "")
		checkCoreType(t, nil, []impl.Typing{{Name: "x", Type: number()}, {Name: "y", Type: x}}, coreNum(1), "")
		checkCoreType(t, nil, []impl.Typing{{Name: "x", Type: x}, {Name: "x", Type: number()}}, coreVar("x"), "")
	}
	// Contexts need not be valid, only their types.
	many := typings("if", "N", "", "B", "X", "N", "a", "N", "b", "N", "c", "N", "d", "N", "e", "N", "f", "N", "g", "N")
	checkCoreType(t, nil, many, readCore("(a+g)"), "N")
	for _, x := range []impl.Type{largeType(799), chainType(impl.MaxTypeDepth, number())} {
		checkCoreType(t, nil, []impl.Typing{{Name: "x", Type: x}}, coreVar("x"), typeWords(x))
		checkCoreType(t, nil, []impl.Typing{{Name: "x", Type: x}}, castTo(coreVar("x"), x, unknown()), "?")
	}
	large := coreNum(1)
	for range impl.MaxCore - 1 {
		large = castTo(large, number(), number())
	}
	checkCoreType(t, nil, nil, large, "N")
	checkCoreType(t, nil, nil, castTo(large, number(), number()), "")
}

// ownType is the type of a core expression by its text, "" for none.
func ownType(holes []impl.HoleCtx, ctx []impl.Typing, d impl.Core) string {
	if d.Kind == impl.CoLam {
		body := ownType(holes, append(ctx[:len(ctx):len(ctx)], impl.Typing{Name: d.Name, Type: d.Type}), d.Args[0])
		if body == "" {
			return ""
		}
		return "(" + typeWords(d.Type) + ">" + body + ")"
	}
	var args []string
	for _, arg := range d.Args {
		own := ownType(holes, ctx, arg)
		if own == "" {
			return ""
		}
		args = append(args, own)
	}
	switch d.Kind {
	case impl.CoHole, impl.CoMark:
		return onlyIf(fitsHole(holes, ctx, d), "?")
	case impl.CoVar:
		return typesByName(ctx)[d.Name]
	case impl.CoCast, impl.CoFail:
		return ownTypeOfCast(d, args[0])
	}
	return ownTypeOfForm(d.Kind, args)
}

func onlyIf(holds bool, own string) string {
	if holds {
		return own
	}
	return ""
}

func typesByName(ctx []impl.Typing) map[string]string {
	types := map[string]string{}
	for _, typing := range ctx {
		types[typing.Name] = typeWords(typing.Type)
	}
	return types
}

// fitsHole takes each binding out of those that the hole needs.
func fitsHole(holes []impl.HoleCtx, ctx []impl.Typing, d impl.Core) bool {
	for _, h := range holes {
		if h.N != d.N {
			continue
		}
		wants := typesByName(h.Ctx)
		for _, b := range d.Env {
			if want := wants[b.Name]; want == "" || ownType(holes, ctx, b.Value) != want {
				return false
			}
			delete(wants, b.Name)
		}
		return len(wants) == 0
	}
	return false
}

func ownTypeOfCast(d impl.Core, inside string) string {
	from, to := typeWords(d.From), typeWords(d.Type)
	if d.Kind == impl.CoCast {
		return onlyIf(inside == from && impl.Consistent(d.From, d.Type), to)
	}
	const ground = " N B (?>?) (?*?) "
	return onlyIf(inside == from && from != to && strings.Contains(ground, " "+from+" ") && strings.Contains(ground, " "+to+" "), to)
}

func ownTypeOfForm(kind int, args []string) string {
	parts := func(kind int) []string {
		if x := readType(args[0]); x.Kind == kind {
			return []string{typeWords(x.Args[0]), typeWords(x.Args[1])}
		}
		return []string{"", ""}
	}
	switch kind {
	case impl.CoNum:
		return "N"
	case impl.CoBool:
		return "B"
	case impl.CoAp:
		return onlyIf(parts(impl.TyArrow)[0] == args[1], parts(impl.TyArrow)[1])
	case impl.CoAdd:
		return onlyIf(args[0] == "N" && args[1] == "N", "N")
	case impl.CoLess:
		return onlyIf(args[0] == "N" && args[1] == "N", "B")
	case impl.CoIf:
		return onlyIf(args[0] == "B" && args[1] == args[2], args[1])
	case impl.CoPair:
		return "(" + args[0] + "*" + args[1] + ")"
	case impl.CoFst:
		return parts(impl.TyPair)[0]
	}
	return parts(impl.TyPair)[1]
}

func TestPromiseOfCoreTypes(t *testing.T) {
	r := rand.New(rand.NewSource(200))
	ctx := typings("x", "N", "y", "B", "z", "?", "w", "(N>N)", "v", "(N*B)")
	types := allTypes(2)
	kept, lost := 0, 0
	for i := range 8000 {
		e := typedExpr(r, ctx, randomType(r, 3), 1+r.Intn(4))
		if i%4 == 0 {
			e, _ = impl.MarkExpr(ctx, randomExpr(r, false))
		}
		if i%8 != 1 {
			e = impl.RenumberHoles(e)
		}
		d, own, ok := impl.Elaborate(ctx, e)
		if !ok {
			continue
		}
		holes := impl.HoleCtxOf(ctx, e)
		got, fits := impl.CoreType(holes, ctx, d)
		if i%8 != 1 && (!fits || typeWords(got) != typeWords(own)) {
			t.Fatalf("the core expression %s of %s has the type %s", coreWords(d), exprWords(e), typeWords(got))
		}
		for range 4 {
			changed := roomyCore(d)
			n := anyCoreNode(r, &changed)
			switch r.Intn(6) {
			case 0:
				n.N = 1 + r.Intn(3)
			case 1:
				n.Kind = 1 + r.Intn(15)
			case 2:
				n.Type = types[r.Intn(len(types))]
			case 3:
				n.From = types[r.Intn(len(types))]
			case 4:
				*n = []impl.Core{coreNum(1), coreVar("z"), coreVar("w"), castTo(*n, number(), unknown()), castTo(*n, unknown(), truth())}[r.Intn(5)]
			case 5:
				if len(n.Env) > 0 {
					n.Env = n.Env[1:]
				} else if n.Kind == impl.CoHole {
					n.Env = []impl.CoreBind{bind("x", coreVar("x"))}
				}
			}
			want := ""
			if impl.IsCore(changed) {
				want = ownType(holes, ctx, changed)
			}
			if want == "" {
				lost++
			} else {
				kept++
			}
			checkCoreType(t, holes, ctx, changed, want)
		}
	}
	if kept < 1000 || lost < 5000 {
		t.Error("too few core expressions of one sort", kept, lost)
	}
}

func TestRandomCoreTypes(t *testing.T) {
	r := rand.New(rand.NewSource(201))
	ctx := typings("x", "N", "y", "N", "z", "B", "x1", "?")
	var holes []impl.HoleCtx
	for n := 1; n <= impl.MaxHole; n++ {
		holes = append(holes, impl.HoleCtx{N: n, Ctx: typings("x", "N", "y", "N")[:n%3]})
	}
	typed := 0
	for range 20000 {
		d := randomCore(r, 12)
		want := ownType(holes, ctx, d)
		if want != "" && len(d.Args) > 0 {
			typed++
		}
		checkCoreType(t, holes, ctx, d, want)
	}
	if typed < 300 {
		t.Error("too few core expressions have a type", typed)
	}
}

func wholeHoles(holes []impl.HoleCtx) string {
	text := ""
	for _, h := range holes[:cap(holes)] {
		text += decimal(h.N) + ":" + wholeCtx(h.Ctx) + ";"
	}
	return text
}

func TestCoreTypesShareNoMemory(t *testing.T) {
	r := rand.New(rand.NewSource(202))
	ctx := roomyCtx(typings("x", "(N>N)", "y", "((N*B)>(B>N))", "z", "((N>B)*?)", "u", "?"))
	beforeCtx := wholeCtx(ctx)
	for range 1000 {
		e := roomyExpr(impl.RenumberHoles(typedExpr(r, ctx, randomType(r, 3), 1+r.Intn(4))))
		before := wholeExpr(e)
		d, _, _ := impl.Elaborate(ctx, e)
		d = roomyCore(d)
		beforeCore := wholeCore(d)
		holes, again := impl.HoleCtxOf(ctx, e), impl.HoleCtxOf(ctx, e)
		words := holeWords(holes)
		for i := range again {
			rest := holeWords(again[i+1:])
			spoilCtx(again[i].Ctx)
			if holeWords(again[i+1:]) != rest || holeWords(holes) != words {
				t.Fatal("contexts of holes share memory")
			}
		}
		beforeHoles := wholeHoles(holes)
		own, _ := impl.CoreType(holes, ctx, d)
		text := typeWords(own)
		ownAgain, _ := impl.CoreType(holes, ctx, d)
		spoilType(ownAgain)
		if typeWords(own) != text {
			t.Fatal("two results of CoreType share memory")
		}
		spoilType(own)
		if wholeExpr(e) != before || wholeCore(d) != beforeCore || wholeHoles(holes) != beforeHoles || wholeCtx(ctx) != beforeCtx {
			t.Fatal("an argument was changed")
		}
	}
	for _, s := range []string{"x", "z", "(x,x)", "(fst (x,z))", `(\a:(N>B).x)`, "<x:(N>N)=>(?>?)>", "(if #t x x)", `((\a:(N>N).y) x)`, "<1:N!(?>?)>", "(snd (x,(z,z)))"} {
		d := roomyCore(readCore(s))
		before := wholeCore(d)
		own, ok := impl.CoreType(nil, ctx, d)
		if !ok || partsShare(impl.Core{Type: own}) {
			t.Errorf("the type of %s", s)
		}
		spoilType(own)
		if wholeCore(d) != before || wholeCtx(ctx) != beforeCtx {
			t.Errorf("the type of %s shares memory with an argument", s)
		}
	}
}
