package tests

import (
	"math/rand"
	"slices"
	"strings"
	"testing"

	"loop.example/g00585/impl"
)

// Promise 19: elaboration for analysis gives exactly the stated type.

// checkElaborate requires a core expression and its type, as "CORE TYPE", or
// that there is none if want is empty.
func checkElaborate(t *testing.T, ctx []impl.Typing, e impl.Expr, want string) {
	t.Helper()
	d, own, ok := impl.Elaborate(ctx, e)
	switch {
	case want == "":
		if ok || exactCore(d) != exactCore(impl.Core{}) || typeWords(own) != "<0>" {
			t.Errorf("Elaborate(%s) = %s, %s, %v", exactExpr(e), exactCore(d), typeWords(own), ok)
		}
	case !ok:
		t.Errorf("Elaborate(%s) fails, want %s", exactExpr(e), want)
	case coreWords(d)+" "+typeWords(own) != want:
		t.Errorf("Elaborate(%s) = %s %s, want %s", exprWords(e), coreWords(d), typeWords(own), want)
	}
}

// inScope writes the own environment of scopeForPlaces for "[" and of what is
// bound in addition after it.
func inScope(s string) string {
	return strings.NewReplacer("[]", "[n=n,u=u,f=f,p=p,h=h]", "[+", "[n=n,u=u,f=f,p=p,h=h,").Replace(s)
}

func TestElaborateForSynthesis(t *testing.T) {
	for s, want := range map[string]string{
		// holes, marks and variables
		"?1":                "?1[] ?",
		"?99":               "?99[] ?",
		"{1 q}":             "?1[] ?",
		"{7 n}":             "{7 n}[] ?",
		"{1 (1+u)}":         "{1 (1+<u:?=>N>)}[] ?",
		"{1 (fst {2 q})}":   "{1 (fst <?2[]:?=>(?*?)>)}[] ?",
		"{1 ?2}":            "{1 ?2[]}[] ?",
		"{1 (\\x:N.{2 x})}": "{1 (\\x:N.{2 x}[+x=x])}[] ?",
		"{1 (\\x:N.{2 y})}": "{1 (\\x:N.?2[+x=x])}[] ?",
		"((\\x:N.x),{1 x})": "((\\x:N.x),?1[]) ((N>N)*?)",
		"({1 x}+(\\x:N.x))": "",
		"n":                 "n N",
		"u":                 "u ?",
		"h":                 "h ((N>B)>N)",
		"q":                 "",
		"0":                 "0 N",
		"999":               "999 N",
		"#t":                "#t B",
		"#f":                "#f B",
		// functions
		`(\x:N.x)`:              `(\x:N.x) (N>N)`,
		`(\x:(N>?).?1)`:         `(\x:(N>?).?1[+x=x]) ((N>?)>?)`,
		`(\n:B.?1)`:             `(\n:B.?1[]) (B>?)`,
		`(\n:B.n)`:              `(\n:B.n) (B>B)`,
		`(\x:?.(x+1))`:          `(\x:?.(<x:?=>N>+1)) (?>N)`,
		`(\x:N.(\y:B.?1))`:      `(\x:N.(\y:B.?1[+x=x,y=y])) (N>(B>?))`,
		`(\x:N.(\x:B.(?1,x)))`:  `(\x:N.(\x:B.(?1[+x=x],x))) (N>(B>(?*B)))`,
		`((\x:N.?1) ?2)`:        `((\x:N.?1[+x=x]) <?2[]:?=>N>) ?`,
		`((\x:N.?1),(\y:B.?2))`: `((\x:N.?1[+x=x]),(\y:B.?2[+y=y])) ((N>?)*(B>?))`,
		`(\x:N.((\y:B.?1),?2))`: `(\x:N.((\y:B.?1[+x=x,y=y]),?2[+x=x])) (N>((B>?)*?))`,
		`(\x:N.(x+#t))`:         "",
		// applications
		"(f n)":         "(f n) B",
		"(f u)":         "(f <u:?=>N>) B",
		"(f ?1)":        "(f <?1[]:?=>N>) B",
		"(u n)":         "(<u:?=>(?>?)> <n:N=>?>) ?",
		"(u u)":         "(<u:?=>(?>?)> u) ?",
		"(?1 (1,#t))":   "(<?1[]:?=>(?>?)> <(<1:N=>?>,<#t:B=>?>):(?*?)=>?>) ?",
		"((u 1) #t)":    "(<(<u:?=>(?>?)> <1:N=>?>):?=>(?>?)> <#t:B=>?>) ?",
		"(h f)":         "(h f) N",
		"(h u)":         "(h <u:?=>(N>B)>) N",
		`(h (\x:N.u))`:  `(h (\x:N.<u:?=>B>)) N`,
		`(h (\x:?.#t))`: `(h <(\x:?.#t):(?>B)=>(N>B)>) N`,
		`((\x:?.x) n)`:  `((\x:?.x) <n:N=>?>) ?`,
		`((\x:?.x) u)`:  `((\x:?.x) u) ?`,
		"((u:(N>?)) n)": "(<u:?=>(N>?)> n) ?",
		"((f:(?>B)) u)": "(<f:(N>B)=>(?>B)> u) B",
		"(f #t)":        "",
		"(n 1)":         "",
		// sums and comparisons
		"(n+1)": "(n+1) N", "(u+1)": "(<u:?=>N>+1) N", "(1+u)": "(1+<u:?=>N>) N", "({1 #t}+?2)": "(<{1 #t}[]:?=>N>+<?2[]:?=>N>) N",
		"(n<1)": "(n<1) B", "(u<1)": "(<u:?=>N><1) B", "(1<u)": "(1<<u:?=>N>) B", "((if u 1 2)+1)": "((if <u:?=>B> 1 2)+1) N",
		"((if #t u 2)<1)": "((if #t <u:?=>N> 2)<1) B", "(1+#t)": "", "(#t<1)": "",
		// choices
		"(if #t n 1)":          "(if #t n 1) N",
		"(if u n 1)":           "(if <u:?=>B> n 1) N",
		"(if #t n u)":          "(if #t n <u:?=>N>) N",
		"(if #t u n)":          "(if #t <u:?=>N> n) N",
		"(if #t u ?1)":         "(if #t u ?1[]) ?",
		"(if #t (n,u) (u,#t))": "(if #t <(n,u):(N*?)=>(N*B)> <(u,#t):(?*B)=>(N*B)>) (N*B)",
		"(if #t (n,u) (n,#t))": "(if #t <(n,u):(N*?)=>(N*B)> (n,#t)) (N*B)",
		`(if u f (\x:?.#f))`:   `(if <u:?=>B> f <(\x:?.#f):(?>B)=>(N>B)>) (N>B)`,
		"(if (if u #t u) 1 2)": "(if (if <u:?=>B> #t <u:?=>B>) 1 2) N",
		"(if #t (if u 1 u) u)": "(if #t (if <u:?=>B> 1 <u:?=>N>) <u:?=>N>) N",
		"(if #t 1 #f)":         "",
		"(if 1 1 2)":           "",
		// pairs and their parts
		"(n,u)":                 "(n,u) (N*?)",
		"(?1,(2,#t))":           "(?1[],(2,#t)) (?*(N*B))",
		"(fst p)":               "(fst p) N",
		"(snd p)":               "(snd p) B",
		"(fst u)":               "(fst <u:?=>(?*?)>) ?",
		"(snd ?1)":              "(snd <?1[]:?=>(?*?)>) ?",
		"(snd (1,u))":           "(snd (1,u)) ?",
		"(fst (snd u))":         "(fst <(snd <u:?=>(?*?)>):?=>(?*?)>) ?",
		"((fst u)+(snd (u,1)))": "(<(fst <u:?=>(?*?)>):?=>N>+(snd (u,1))) N",
		"(fst n)":               "",
		// stated types
		"(n:N)":         "n N",
		"(n:?)":         "<n:N=>?> ?",
		"(u:N)":         "<u:?=>N> N",
		"((n:?):B)":     "<<n:N=>?>:?=>B> B",
		"((n:N):N)":     "n N",
		"((u:?):?)":     "u ?",
		"(f:(?>?))":     "<f:(N>B)=>(?>?)> (?>?)",
		"((1,u):(N*B))": "(1,<u:?=>B>) (N*B)",
		"(1:B)":         "",
	} {
		checkElaborate(t, scopeForPlaces(), readExpr(s), inScope(want))
	}
}

func TestElaborateForAnalysis(t *testing.T) {
	for s, cores := range map[string]map[string]string{
		// functions
		`(\x:N.x)`: {
			"(N>N)": `(\x:N.x)`, "(?>N)": `<(\x:N.x):(N>N)=>(?>N)>`, "(N>?)": `(\x:N.<x:N=>?>)`, "(?>?)": `<(\x:N.<x:N=>?>):(N>?)=>(?>?)>`,
			"?": `<(\x:N.<x:N=>?>):(N>?)=>?>`, "N": "", "(N*N)": "", "(B>N)": "", "(N>B)": "",
		},
		`(\x:?.x)`: {"(N>B)": `<(\x:?.<x:?=>B>):(?>B)=>(N>B)>`, "(?>?)": `(\x:?.x)`, "?": `<(\x:?.x):(?>?)=>?>`, "(?>N)": `(\x:?.<x:?=>N>)`},
		`(\x:(N*?).?1)`: {
			"((N*?)>?)": `(\x:(N*?).?1[+x=x])`, "((?*B)>N)": `<(\x:(N*?).<?1[+x=x]:?=>N>):((N*?)>N)=>((?*B)>N)>`,
		},
		`(\x:N.(\y:B.x))`: {
			"(N>(?>?))": `(\x:N.<(\y:B.<x:N=>?>):(B>?)=>(?>?)>)`, "?": `<(\x:N.<(\y:B.<x:N=>?>):(B>?)=>?>):(N>?)=>?>`, "(N>(B>N))": `(\x:N.(\y:B.x))`, "(N>?)": `(\x:N.<(\y:B.<x:N=>?>):(B>?)=>?>)`,
		},
		`(\x:N.(if u 1 #t))`: {"(N>?)": `(\x:N.(if <u:?=>B> <1:N=>?> <#t:B=>?>))`, "(N>N)": ""},
		`(\n:B.(n,?1))`:      {"(B>(B*N))": `(\n:B.(n,<?1[]:?=>N>))`, "(?>(?*?))": `<(\n:B.(<n:B=>?>,?1[])):(B>(?*?))=>(?>(?*?))>`},
		// choices
		"(if u 1 #t)":                {"?": "(if <u:?=>B> <1:N=>?> <#t:B=>?>)", "N": "", "B": ""},
		"(if #t u ?1)":               {"?": "(if #t u ?1[])", "N": "(if #t <u:?=>N> <?1[]:?=>N>)"},
		"(if (if u #t 1) n 2)":       {"N": "", "?": ""},
		"(if (if u #t u) n 2)":       {"N": "(if (if <u:?=>B> #t <u:?=>B>) n 2)", "?": "(if (if <u:?=>B> #t <u:?=>B>) <n:N=>?> <2:N=>?>)"},
		"(if #t (if #f 1 #t) (1,2))": {"?": "(if #t (if #f <1:N=>?> <#t:B=>?>) <(<1:N=>?>,<2:N=>?>):(?*?)=>?>)"},
		`(if #t (\x:N.1) (\x:B.1))`:  {"?": `(if #t <(\x:N.<1:N=>?>):(N>?)=>?> <(\x:B.<1:N=>?>):(B>?)=>?>)`, "(?>N)": `(if #t <(\x:N.1):(N>N)=>(?>N)> <(\x:B.1):(B>N)=>(?>N)>)`},
		// pairs
		"(1,u)":           {"(N*?)": "(1,u)", "(N*B)": "(1,<u:?=>B>)", "(?*?)": "(<1:N=>?>,u)", "?": "<(<1:N=>?>,u):(?*?)=>?>", "N": "", "(B*?)": ""},
		"((1,2),#t)":      {"?": "<(<(<1:N=>?>,<2:N=>?>):(?*?)=>?>,<#t:B=>?>):(?*?)=>?>", "((N*?)*B)": "((1,<2:N=>?>),#t)"},
		`(1,(\x:N.x))`:    {"(N*?)": `(1,<(\x:N.<x:N=>?>):(N>?)=>?>)`},
		"((if u 1 #t),1)": {"(?*N)": "((if <u:?=>B> <1:N=>?> <#t:B=>?>),1)", "?": "<((if <u:?=>B> <1:N=>?> <#t:B=>?>),<1:N=>?>):(?*?)=>?>"},
		// other expressions
		"n":         {"N": "n", "?": "<n:N=>?>", "B": ""},
		"q":         {"?": ""},
		"u":         {"N": "<u:?=>N>", "?": "u", "(N>(B*?))": "<u:?=>(N>(B*?))>"},
		"?1":        {"N": "<?1[]:?=>N>", "?": "?1[]", "(?>?)": "<?1[]:?=>(?>?)>"},
		"{1 q}":     {"N": "<?1[]:?=>N>", "?": "?1[]"},
		"{1 n}":     {"N": "<{1 n}[]:?=>N>", "?": "{1 n}[]"},
		"(f u)":     {"B": "(f <u:?=>N>)", "?": "<(f <u:?=>N>):B=>?>", "N": ""},
		"f":         {"(?>B)": "<f:(N>B)=>(?>B)>", "(N>B)": "f"},
		"(1+2)":     {"?": "<(1+2):N=>?>", "N": "(1+2)"},
		"(1<2)":     {"?": "<(1<2):B=>?>", "B": "(1<2)"},
		"(fst p)":   {"?": "<(fst p):N=>?>", "N": "(fst p)"},
		"(snd u)":   {"N": "<(snd <u:?=>(?*?)>):?=>N>"},
		"(n:?)":     {"B": "<<n:N=>?>:?=>B>", "?": "<n:N=>?>"},
		"((1,2):?)": {"(N*N)": "<<(<1:N=>?>,<2:N=>?>):(?*?)=>?>:?=>(N*N)>"},
		"#t":        {"?": "<#t:B=>?>", "B": "#t"},
	} {
		for to, want := range cores {
			want = inScope(want)
			d, ok := impl.ElaborateTo(scopeForPlaces(), readExpr(s), readType(to))
			switch {
			case want == "":
				if ok || exactCore(d) != exactCore(impl.Core{}) {
					t.Errorf("ElaborateTo(%s, %s) = %s, %v", s, to, exactCore(d), ok)
				}
			case !ok || coreWords(d) != want:
				t.Errorf("ElaborateTo(%s, %s) = %s, %v, want %s", s, to, exactCore(d), ok, want)
			default:
				checkElaborate(t, scopeForPlaces(), stated(readExpr(s), readType(to)), want+" "+to)
			}
		}
	}
}

func TestElaborateInContexts(t *testing.T) {
	twice := typings("x", "N", "y", "B", "x", "?", "y", "N")
	checkElaborate(t, twice, readExpr("(?1,(x,y))"), "(?1[x=x,y=y],(x,y)) (?*(?*N))")
	checkElaborate(t, twice, readExpr(`(\z:N.(\y:B.(?1,y)))`), `(\z:N.(\y:B.(?1[x=x,y=y,z=z],y))) (N>(B>(?*B)))`)
	checkElaborate(t, twice, readExpr("{1 z}"), "?1[x=x,y=y] ?")
	checkElaborate(t, twice, readExpr(`(\z:N.{1 z})`), `(\z:N.{1 z}[x=x,y=y,z=z]) (N>?)`)
	checkElaborate(t, nil, readExpr("({1 q}+?2)"), "(<?1[]:?=>N>+<?2[]:?=>N>) N")
	full := typings("a", "N", "b", "B", "c", "N", "d", "N", "e", "N", "g", "N", "h", "N", "i", "(?>B)")
	env := "a=a,b=b,c=c,d=d,e=e,g=g,h=h,i=i"
	checkElaborate(t, full, readExpr(`(\x:N.(\y:N.(i ?1)))`), `(\x:N.(\y:N.(i ?1[`+env+`,x=x,y=y]))) (N>(N>B))`)
	deep, core, own := "(i ?1)", "(i ?1[", "B"
	for _, name := range strings.Split("zyxwvutsrq", "") {
		deep, core, own = `(\`+name+":?."+deep+")", `(\`+name+":?."+core, "(?>"+own+")"
		env += "," + string("qrstuvwxyz"[strings.Index("zyxwvutsrq", name)]) + "=" + string("qrstuvwxyz"[strings.Index("zyxwvutsrq", name)])
	}
	checkElaborate(t, full, readExpr(deep), core+env+"])"+strings.Repeat(")", 10)+" "+own)
}

func TestElaborateOfWrongArguments(t *testing.T) {
	noTo := func(what string, ctx []impl.Typing, e impl.Expr, to impl.Type) {
		t.Helper()
		if d, ok := impl.ElaborateTo(ctx, e, to); ok || exactCore(d) != exactCore(impl.Core{}) {
			t.Errorf("%s is elaborated: %s", what, exactCore(d))
		}
	}
	for what, e := range wrongExprs() {
		checkElaborate(t, nil, e, "")
		noTo(what, nil, e, unknown())
		noTo(what, typings("x", "N"), e, number())
	}
	for what, ctx := range wrongContexts() {
		checkElaborate(t, ctx, constant(1), "")
		noTo(what, ctx, constant(1), number())
	}
	for what, x := range wrongTypes() {
		for _, e := range []impl.Expr{constant(1), hole(1), function("x", unknown(), hole(1)), ex(impl.ExPair, hole(1), hole(2)), ex(impl.ExIf, hole(1), hole(2), hole(3))} {
			noTo(what, nil, e, x)
			noTo(what, nil, e, arrow(x, unknown()))
			noTo(what, nil, e, couple(unknown(), x))
		}
	}
}

// elaboratedSize counts the nodes of the core expression of an expression of
// functions, pairs, numbers, holes, marks and stated types. env is the number
// of the names around it.
func elaboratedSize(e impl.Expr, env int) int {
	switch e.Kind {
	case impl.ExHole:
		return 1 + env
	case impl.ExMark:
		return 1 + env + elaboratedSize(e.Args[0], env)
	case impl.ExLam:
		return 1 + elaboratedSize(e.Args[0], env+1)
	case impl.ExPair:
		return 1 + elaboratedSize(e.Args[0], env) + elaboratedSize(e.Args[1], env)
	case impl.ExAsc:
		return 1 + elaboratedSize(e.Args[0], env)
	}
	return 1
}

// manyMarks is an expression of nearly the greatest size with many marks and
// holes, whose core expression has about MaxCore nodes.
func manyMarks(r *rand.Rand) impl.Expr {
	maybe := func(e impl.Expr) impl.Expr {
		if e.Kind != impl.ExMark && r.Intn(8) > 0 {
			return mark(1+r.Intn(99), e)
		}
		return e
	}
	leaf := func() impl.Expr {
		if r.Intn(5) > 0 {
			return hole(1 + r.Intn(99))
		}
		return constant(5)
	}
	numbers := []impl.Expr{constant(5), stated(constant(5), unknown()), stated(stated(constant(5), unknown()), number())}
	level := []impl.Expr{maybe(numbers[r.Intn(3)])}
	for range 15 {
		level = append(level, maybe(leaf()))
	}
	for len(level) > 1 {
		var next []impl.Expr
		for i := 0; i < len(level); i += 2 {
			next = append(next, maybe(ex(impl.ExPair, level[i], level[i+1])))
		}
		level = next
	}
	e := level[0]
	for _, name := range []string{"q", "r", "s", "t", "v"} {
		e = maybe(function(name, number(), e))
	}
	return e
}

func TestElaborateAtTheLimit(t *testing.T) {
	r := rand.New(rand.NewSource(190))
	ctx := typings("a", "N", "b", "B", "c", "N", "d", "N", "e", "N", "g", "N", "h", "N", "i", "(?>B)")
	at := map[int]int{}
	for range 10000 {
		e := manyMarks(r)
		size := elaboratedSize(e, 8)
		at[size]++
		if size > 590 && size < 610 || at[size] < 3 {
			d, own, ok := impl.Elaborate(ctx, e)
			if ok != (size <= 600) || ok && impl.SizeOfCore(d) != size || !ok && (exactCore(d) != exactCore(impl.Core{}) || typeWords(own) != "<0>") {
				t.Fatalf("Elaborate of %d nodes: %v", size, ok)
			}
			own, _ = impl.SynthType(ctx, e)
			d, ok = impl.ElaborateTo(ctx, e, own)
			if ok != (size <= 600) || ok && impl.SizeOfCore(d) != size || !ok && exactCore(d) != exactCore(impl.Core{}) {
				t.Fatalf("ElaborateTo of %d nodes: %v", size, ok)
			}
		}
	}
	if at[599] < 5 || at[600] < 5 || at[601] < 5 {
		t.Error("too few core expressions at the limit", at[599], at[600], at[601])
	}
}

// Against a type that is as large as a type can be.
func TestElaborateToLargeTypes(t *testing.T) {
	large := arrow(number(), largeType(797))
	d, ok := impl.ElaborateTo(nil, readExpr(`(\x:N.?1)`), large)
	want := coreFunction("x", number(), castTo(coreHole(1, bind("x", coreVar("x"))), unknown(), largeType(797)))
	if !ok || exactCore(d) != exactCore(want) {
		t.Error("a function against a large type")
	}
	d, ok = impl.ElaborateTo(nil, hole(1), large)
	if !ok || exactCore(d) != exactCore(castTo(coreHole(1), unknown(), large)) {
		t.Error("a hole against a large type")
	}
}

// skeletonOf writes an expression without stated types, with the names around
// each hole and mark; coreSkeleton writes a core expression without casts. So
// both have to be the same for the core expression of an expression.
func skeletonOf(e impl.Expr, scope []string) string {
	switch e.Kind {
	case impl.ExAsc:
		return skeletonOf(e.Args[0], scope)
	case impl.ExMark:
		inside := e.Args[0]
		if inside.Kind == impl.ExVar && !slices.Contains(scope, inside.Name) {
			return skeletonOf(hole(e.N), scope)
		}
	case impl.ExLam:
		inner := scope
		if !slices.Contains(scope, e.Name) {
			inner = append(slices.Clone(scope), e.Name)
		}
		return "[function " + e.Name + ":" + typeWords(e.Type) + " " + skeletonOf(e.Args[0], inner) + "]"
	}
	text := "[" + skeletonNames()[e.Kind] + " " + e.Name + decimal(e.N)
	for _, arg := range e.Args {
		text += " " + skeletonOf(arg, scope)
	}
	if e.Kind == impl.ExHole || e.Kind == impl.ExMark {
		text += " in " + strings.Join(scope, " ")
	}
	return text + "]"
}

func skeletonNames() map[int]string {
	return map[int]string{impl.ExHole: "hole", impl.ExMark: "mark", impl.ExVar: "variable", impl.ExAp: "application", impl.ExNum: "number", impl.ExAdd: "sum", impl.ExLess: "less",
		impl.ExBool: "boolean", impl.ExIf: "choice", impl.ExPair: "pair", impl.ExFst: "fst", impl.ExSnd: "snd"}
}

func coreSkeleton(d impl.Core) string {
	names := map[int]string{impl.CoHole: "hole", impl.CoMark: "mark", impl.CoVar: "variable", impl.CoAp: "application", impl.CoNum: "number", impl.CoAdd: "sum", impl.CoLess: "less",
		impl.CoBool: "boolean", impl.CoIf: "choice", impl.CoPair: "pair", impl.CoFst: "fst", impl.CoSnd: "snd"}
	switch d.Kind {
	case impl.CoCast:
		if typeWords(d.From) == typeWords(d.Type) {
			return "a cast between equal types"
		}
		return coreSkeleton(d.Args[0])
	case impl.CoLam:
		return "[function " + d.Name + ":" + typeWords(d.Type) + " " + coreSkeleton(d.Args[0]) + "]"
	}
	text := "[" + names[d.Kind] + " " + d.Name + decimal(d.N)
	for _, arg := range d.Args {
		text += " " + coreSkeleton(arg)
	}
	if d.Kind == impl.CoHole || d.Kind == impl.CoMark {
		var env []string
		for _, b := range d.Env {
			if coreWords(b.Value) != b.Name {
				return "an environment that is not the own one"
			}
			env = append(env, b.Name)
		}
		text += " in " + strings.Join(env, " ")
	}
	return text + "]"
}

func TestPromiseOfElaboration(t *testing.T) {
	r := rand.New(rand.NewSource(191))
	ctx := typings("x", "N", "y", "B", "z", "?", "w", "(N>N)", "v", "(N*B)")
	scope := []string{"x", "y", "z", "w", "v"}
	types := allTypes(2)
	elaborated := 0
	for i := range 10000 {
		e := typedExpr(r, ctx, randomType(r, 3), 1+r.Intn(4))
		if i%4 == 0 {
			e, _ = impl.MarkExpr(ctx, randomExpr(r, false))
		}
		e = impl.RenumberHoles(e)
		own, typed := impl.SynthType(ctx, e)
		holes := impl.HoleCtxOf(ctx, e)
		for _, to := range append([]impl.Type{own, unknown(), blurred(r, own)}, types[r.Intn(len(types))]) {
			if to.Kind == 0 {
				continue
			}
			d, ok := impl.ElaborateTo(ctx, e, to)
			if !ok {
				if impl.CheckType(ctx, e, to) && impl.SizeOf(e) < 10 {
					t.Fatalf("ElaborateTo(%s, %s) fails", exprWords(e), typeWords(to))
				}
				continue
			}
			got, fits := impl.CoreType(holes, ctx, d)
			if !fits || typeWords(got) != typeWords(to) || !impl.IsCore(d) || coreSkeleton(d) != skeletonOf(e, scope) {
				t.Fatalf("ElaborateTo(%s, %s) = %s of the type %s", exprWords(e), typeWords(to), coreWords(d), typeWords(got))
			}
		}
		d, got, ok := impl.Elaborate(ctx, e)
		if ok != typed && (ok || impl.SizeOf(e) < 10) {
			t.Fatalf("Elaborate(%s): %v", exprWords(e), ok)
		}
		if !ok {
			continue
		}
		elaborated++
		if typeWords(got) != typeWords(own) || coreSkeleton(d) != skeletonOf(e, scope) {
			t.Fatalf("Elaborate(%s) = %s, %s", exprWords(e), coreWords(d), typeWords(got))
		}
	}
	if elaborated < 5000 {
		t.Error("too few expressions were elaborated", elaborated)
	}
}

func TestElaborationSharesNoMemory(t *testing.T) {
	r := rand.New(rand.NewSource(192))
	ctx := roomyCtx(typings("x", "(N>N)", "y", "((N*B)>(B>N))", "z", "((N>B)*?)", "u", "?"))
	beforeCtx := wholeCtx(ctx)
	for range 1000 {
		want := roomyType(randomType(r, 3))
		e := roomyExpr(typedExpr(r, ctx, want, 1+r.Intn(4)))
		before, beforeType := wholeExpr(e), wholeType(want)
		d, own, _ := impl.Elaborate(ctx, e)
		text, ownText := exactCore(d), typeWords(own)
		again, ownAgain, _ := impl.Elaborate(ctx, e)
		spoilType(ownAgain)
		if exactCore(again) != text {
			t.Fatal("both results of Elaborate share memory")
		}
		spoilCore(again)
		to, _ := impl.ElaborateTo(ctx, e, want)
		toText := exactCore(to)
		toAgain, _ := impl.ElaborateTo(ctx, e, want)
		if partsShare(to) || partsShare(d) {
			t.Fatalf("parts of the core expression of %s share memory", exprWords(e))
		}
		spoilCore(toAgain)
		if exactCore(d) != text || typeWords(own) != ownText || exactCore(to) != toText {
			t.Fatal("two results share memory")
		}
		spoilCore(d)
		spoilType(own)
		spoilCore(to)
		if wholeExpr(e) != before || wholeType(want) != beforeType || wholeCtx(ctx) != beforeCtx {
			t.Fatal("an argument was changed")
		}
	}
}
