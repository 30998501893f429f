package tests

import (
	"math/rand"
	"strings"
	"testing"

	"loop.example/g00585/impl"
)

// Promise 12: in a well-typed expression, every node fits its place.

// ctxWords writes a context as "NAME:TYPE" for each typing.
func ctxWords(ctx []impl.Typing) string {
	var words []string
	for _, typing := range ctx {
		words = append(words, typing.Name+":"+typeWords(typing.Type))
	}
	return strings.Join(words, " ")
}

// placeWords writes a place as its context, "|", and the type or "synth".
func placeWords(p impl.Place) string {
	direction := "synth"
	if p.Ana {
		direction = typeWords(p.Type)
	} else if typeWords(p.Type) != "?" {
		direction = "wrong " + typeWords(p.Type)
	}
	return ctxWords(p.Ctx) + "|" + direction
}

func checkPlace(t *testing.T, ctx []impl.Typing, e impl.Expr, path, want string) {
	t.Helper()
	got, ok := impl.PlaceAt(ctx, e, readPath(path))
	if !ok || placeWords(got) != want {
		t.Errorf("PlaceAt(%s, %s) = %s, %v, want %s", exactExpr(e), path, placeWords(got), ok, want)
	}
}

func scopeForPlaces() []impl.Typing {
	return typings("n", "N", "u", "?", "f", "(N>B)", "p", "(N*B)", "h", "((N>B)>N)")
}

// checkPlaces requires, for each expression and path, a place in scopeForPlaces,
// which is written without the typings that are around all of them.
func checkPlaces(t *testing.T, wants map[string]map[string]string) {
	t.Helper()
	around := ctxWords(scopeForPlaces())
	for s, places := range wants {
		for path, want := range places {
			inner, direction, _ := strings.Cut(want, "|")
			checkPlace(t, scopeForPlaces(), readExpr(s), path, strings.TrimSpace(around+" "+inner)+"|"+direction)
		}
	}
}

func TestPlacesInFunctions(t *testing.T) {
	checkPlaces(t, map[string]map[string]string{
		"n":  {"-": "|synth"},
		"?1": {"-": "|synth"},
		"q":  {"-": "|synth"},
		// functions that synthesize
		`(\x:N.x)`:             {"-": "|synth", "0": "x:N|synth"},
		`(\x:N.(\y:(B>?).?1))`: {"0": "x:N|synth", "0.0": "x:N y:(B>?)|synth"},
		`(\n:B.n)`:             {"0": "n:B|synth"},
		`((\x:N.?1) 2)`:        {"0": "|synth", "0.0": "x:N|synth", "1": "|N"},
		`((\x:N.?1),1)`:        {"0": "|synth", "0.0": "x:N|synth", "1": "|synth"},
		// functions against types
		`((\x:N.?1):(N>B))`:           {"0": "|(N>B)", "0.0": "x:N|B"},
		`((\x:N.?1):(?>B))`:           {"0": "|(?>B)", "0.0": "x:N|B"},
		`((\x:?.?1):(N>B))`:           {"0": "|(N>B)", "0.0": "x:?|B"},
		`((\x:N.?1):?)`:               {"0": "|?", "0.0": "x:N|?"},
		`((\x:B.?1):(N>B))`:           {"0": "|(N>B)", "0.0": "x:B|synth"},
		`((\x:N.?1):N)`:               {"0": "|N", "0.0": "x:N|synth"},
		`((\x:N.?1):(N*B))`:           {"0": "|(N*B)", "0.0": "x:N|synth"},
		`((\x:N.(\y:B.?1)):(N>B))`:    {"0.0": "x:N|B", "0.0.0": "x:N y:B|synth"},
		`((\x:N.(\y:B.?1)):?)`:        {"0.0": "x:N|?", "0.0.0": "x:N y:B|?"},
		`((\x:B.(\y:B.?1)):(N>?))`:    {"0.0": "x:B|synth", "0.0.0": "x:B y:B|synth"},
		`((\x:(N*?).?1):((B*N)>N))`:   {"0.0": "x:(N*?)|synth"},
		`((\x:(N*?).?1):((?*N)>N))`:   {"0.0": "x:(N*?)|N"},
		`(h (\x:N.(x<?1)))`:           {"1": "|(N>B)", "1.0": "x:N|B", "1.0.1": "x:N|N"},
		`(h (\x:B.?1))`:               {"1": "|(N>B)", "1.0": "x:B|synth"},
		`((\x:N.(x 1)):(N>(?>?)))`:    {"0.0": "x:N|(?>?)", "0.0.0": "x:N|synth", "0.0.1": "x:N|?"},
		`(u (\x:N.(?1,?2)))`:          {"1": "|?", "1.0": "x:N|?", "1.0.0": "x:N|?", "1.0.1": "x:N|?"},
		`((\x:N.(if ?1 ?2 ?3)) #t)`:   {"0.0.0": "x:N|B", "0.0.1": "x:N|synth", "0.0.2": "x:N|synth", "1": "|N"},
		`((\x:N.(fst ?1)):(N>(N>B)))`: {"0.0": "x:N|(N>B)", "0.0.0": "x:N|synth"},
	})
}

func TestPlacesInApplications(t *testing.T) {
	checkPlaces(t, map[string]map[string]string{
		"(f ?1)":                 {"0": "|synth", "1": "|N"},
		"(h f)":                  {"1": "|(N>B)"},
		"(u ?1)":                 {"1": "|?"},
		"(?1 ?2)":                {"0": "|synth", "1": "|?"},
		"(1 ?2)":                 {"0": "|synth", "1": "|?"},
		"(p ?1)":                 {"1": "|?"},
		"(q ?1)":                 {"0": "|synth", "1": "|?"},
		"({1 q} ?2)":             {"0": "|synth", "0.0": "|synth", "1": "|?"},
		"((1+#t) ?2)":            {"1": "|?", "0.0": "|N", "0.1": "|N"},
		"((f 1) ?1)":             {"0": "|synth", "0.1": "|N", "1": "|?"},
		"((f #t) ?1)":            {"0.1": "|N", "1": "|?"},
		"((q 1) ?1)":             {"0.0": "|synth", "0.1": "|?", "1": "|?"},
		"((if ?1 f u) ?2)":       {"0": "|synth", "0.0": "|B", "0.1": "|synth", "0.2": "|synth", "1": "|N"},
		"((if ?1 f 1) ?2)":       {"1": "|?"},
		"((f 1):(N>B))":          {"0": "|(N>B)", "0.0": "|synth", "0.1": "|N"},
		`((\x:(N>N).(x n)) ?1)`:  {"0.0.1": "x:(N>N)|N", "1": "|(N>N)"},
		`((\f:(B>B).(f ?1)) ?2)`: {"0.0.1": "f:(B>B)|B", "1": "|(B>B)"},
		`((\x:N.q) ?1)`:          {"1": "|?"},
		`((\x:N.{1 q}) ?1)`:      {"1": "|N"},
		// what has no type states none for its argument
		"((q:(N>B)) ?1)":          {"0.0": "|(N>B)", "1": "|?"},
		"((n:(N>B)) ?1)":          {"0.0": "|(N>B)", "1": "|?"},
		"((?1:(N>B)) ?2)":         {"0.0": "|(N>B)", "1": "|N"},
		`(((\x:N.f) #t) ?1)`:      {"0.1": "|N", "1": "|?"},
		`(((\x:N.f) 1) ?1)`:       {"0.1": "|N", "1": "|N"},
		`((\x:N.(x+#t)) ?1)`:      {"1": "|?"},
		"((if 1 f f) ?1)":         {"0.0": "|B", "1": "|?"},
		"((if #t f f) ?1)":        {"0.0": "|B", "1": "|N"},
		"((fst (f,(1+#t))) ?1)":   {"1": "|?"},
		"((fst (f,(1+2))) ?1)":    {"1": "|N"},
		`(((?1:(N>(B>N))) 1) ?2)`: {"0.0.0": "|(N>(B>N))", "0.1": "|N", "1": "|B"},
	})
}

func TestPlacesInOtherForms(t *testing.T) {
	checkPlaces(t, map[string]map[string]string{
		// sums and comparisons
		"(?1+?2)":            {"0": "|N", "1": "|N"},
		"(?1<?2)":            {"0": "|N", "1": "|N"},
		"((?1<?2):B)":        {"0": "|B", "0.0": "|N", "0.1": "|N"},
		"((?1+?2):B)":        {"0.0": "|N", "0.1": "|N"},
		"(((?1:?)+1)+f)":     {"0": "|N", "0.0": "|N", "0.0.0": "|?", "0.1": "|N", "1": "|N"},
		`((\x:N.x)+(1,2))`:   {"0": "|N", "0.0": "x:N|synth", "1": "|N", "1.0": "|synth", "1.1": "|synth"},
		"((if ?1 ?2 ?3)<?4)": {"0": "|N", "0.0": "|B", "0.1": "|N", "0.2": "|N"},
		"(1+(?1 ?2))":        {"1": "|N", "1.0": "|synth", "1.1": "|?"},
		// choices
		"(if ?1 ?2 ?3)":                {"0": "|B", "1": "|synth", "2": "|synth"},
		"((if ?1 ?2 ?3):(N>B))":        {"0.0": "|B", "0.1": "|(N>B)", "0.2": "|(N>B)"},
		"((if ?1 ?2 ?3):?)":            {"0.0": "|B", "0.1": "|?", "0.2": "|?"},
		"(if (if ?1 ?2 ?3) ?4 ?5)":     {"0": "|B", "0.0": "|B", "0.1": "|B", "0.2": "|B", "1": "|synth"},
		"(if #t (if ?1 ?2 ?3) ?4)":     {"1": "|synth", "1.0": "|B", "1.1": "|synth", "1.2": "|synth"},
		"((if #t (if ?1 ?2 ?3) 4):N)":  {"0.1": "|N", "0.1.0": "|B", "0.1.1": "|N", "0.1.2": "|N", "0.2": "|N"},
		`((if #t (\x:N.?1) ?2):(N>B))`: {"0.1": "|(N>B)", "0.1.0": "x:N|B"},
		`(if #t (\x:N.?1) ?2)`:         {"1": "|synth", "1.0": "x:N|synth"},
		// pairs and their parts
		"(?1,?2)":              {"0": "|synth", "1": "|synth"},
		"((?1,?2):(N*B))":      {"0": "|(N*B)", "0.0": "|N", "0.1": "|B"},
		"((?1,?2):?)":          {"0.0": "|?", "0.1": "|?"},
		"((?1,?2):N)":          {"0": "|N", "0.0": "|synth", "0.1": "|synth"},
		"((?1,?2):(N>B))":      {"0": "|(N>B)", "0.0": "|synth", "0.1": "|synth"},
		"((?1,(?2,?3)):(N*?))": {"0.0": "|N", "0.1": "|?", "0.1.0": "|?", "0.1.1": "|?"},
		"((?1,(?2,?3)):(N*B))": {"0.1": "|B", "0.1.0": "|synth", "0.1.1": "|synth"},
		"(fst ?1)":             {"0": "|synth"},
		"(snd ?1)":             {"0": "|synth"},
		"((fst ?1):N)":         {"0": "|N", "0.0": "|synth"},
		"((snd (?1,?2)):N)":    {"0": "|N", "0.0": "|synth", "0.0.0": "|synth", "0.0.1": "|synth"},
		`(fst (\x:N.?1))`:      {"0": "|synth", "0.0": "x:N|synth"},
		// stated types
		"(?1:(N*B))":        {"-": "|synth", "0": "|(N*B)"},
		"((?1:N):B)":        {"0": "|B", "0.0": "|N"},
		"(((?1,2):?):N)":    {"0": "|N", "0.0": "|?", "0.0.0": "|?"},
		`(\x:N.(?1:(N>?)))`: {"0.0": "x:N|(N>?)"},
		// marks
		"{1 ?2}":                   {"-": "|synth", "0": "|synth"},
		"({1 ?2}:N)":               {"0": "|N", "0.0": "|synth"},
		"({1 (?2,?3)}:(N*B))":      {"0": "|(N*B)", "0.0": "|synth", "0.0.0": "|synth"},
		`({1 (\x:N.?2)}:(N>B))`:    {"0": "|(N>B)", "0.0": "|synth", "0.0.0": "x:N|synth"},
		"({1 (if ?2 ?3 ?4)}:N)":    {"0.0": "|synth", "0.0.0": "|B", "0.0.1": "|synth"},
		"(f {1 (?2+?3)})":          {"1": "|N", "1.0": "|synth", "1.0.0": "|N"},
		`(\x:N.{1 (y+{2 (x,y)})})`: {"0.0": "x:N|synth", "0.0.1": "x:N|N", "0.0.1.0": "x:N|synth", "0.0.1.0.1": "x:N|synth"},
	})
}

func TestPlacesInContexts(t *testing.T) {
	checkPlace(t, nil, readExpr(`(\x:N.(\x:B.?1))`), "0.0", "x:N x:B|synth")
	checkPlace(t, typings("x", "?", "x", "B"), readExpr(`(\x:N.(x ?1))`), "0.1", "x:? x:B x:N|?")
	checkPlace(t, typings("x", "N", "x", "(N>B)"), readExpr(`(x ?1)`), "1", "x:N x:(N>B)|N")
	checkPlace(t, typings("x", "(N>B)", "x", "N"), readExpr(`(x ?1)`), "1", "x:(N>B) x:N|?")
	full := typings("a", "N", "b", "B", "c", "N", "d", "N", "e", "N", "g", "N", "h", "N", "i", "(N>B)")
	checkPlace(t, full, readExpr(`(\x:N.(\y:(N>B).(y (i ?1))))`), "0.0.1", ctxWords(full)+" x:N y:(N>B)|N")
	checkPlace(t, full, readExpr(`(\x:N.(\y:(N>B).(y (i ?1))))`), "0.0.1.1", ctxWords(full)+" x:N y:(N>B)|N")
	deep, path, inner := "(i ?1)", "", ctxWords(full)
	for _, name := range strings.Split("zyxwvutsrq", "") {
		deep, path = `(\`+name+":?."+deep+")", path+"0."
	}
	for _, name := range strings.Split("qrstuvwxyz", "") {
		inner += " " + name + ":?"
	}
	checkPlace(t, full, readExpr(deep), path+"1", inner+"|N")
	if got, ok := impl.TypeAt(full, readExpr(deep), readPath(strings.TrimSuffix(path, "."))); !ok || typeWords(got) != "B" {
		t.Error("the type in a context of 18 typings:", typeWords(got), ok)
	}
}

// checkNoPlace requires that there is neither a place nor a type.
func checkNoPlace(t *testing.T, what string, ctx []impl.Typing, e impl.Expr, path []int) {
	t.Helper()
	place, ok := impl.PlaceAt(ctx, e, path)
	if ok || len(place.Ctx) > 0 || place.Ana || typeWords(place.Type) != "<0>" {
		t.Errorf("%s: PlaceAt = %s, %v", what, placeWords(place), ok)
	}
	if own, ok := impl.TypeAt(ctx, e, path); ok || typeWords(own) != "<0>" {
		t.Errorf("%s: TypeAt = %s, %v", what, typeWords(own), ok)
	}
}

func TestNoPlaces(t *testing.T) {
	e := readExpr(`((\x:N.(x+?1)) {2 #t})`)
	for _, path := range []string{"2", "-1", "0.1", "0.-1", "0.0.2", "0.0.0.0", "1.1", "1.0.0", "5", "0.0.-1", "1.9223372036854775807"} {
		checkNoPlace(t, path, typings("x", "N"), e, readPath(path))
	}
	for what, wrong := range wrongExprs() {
		checkNoPlace(t, what, nil, wrong, nil)
		checkNoPlace(t, what, typings("x", "N"), ex(impl.ExPair, wrong, constant(1)), []int{1})
	}
	for what, ctx := range wrongContexts() {
		checkNoPlace(t, what, ctx, e, nil)
		checkNoPlace(t, what, ctx, e, []int{0, 0})
	}
}

func TestTypeAt(t *testing.T) {
	ctx := scopeForPlaces()
	for s, types := range map[string]map[string]string{
		"n":                          {"-": "N"},
		"q":                          {"-": ""},
		"?1":                         {"-": "?"},
		"(f ?1)":                     {"-": "B", "0": "(N>B)", "1": "?"},
		"(f q)":                      {"-": "", "0": "(N>B)", "1": ""},
		"(f #t)":                     {"-": "", "1": "B"},
		"(1 2)":                      {"-": "", "0": "N", "1": "N"},
		"(n+#t)":                     {"-": "", "0": "N", "1": "B"},
		"{1 q}":                      {"-": "?", "0": ""},
		"{1 n}":                      {"-": "?", "0": "N"},
		"({1 (1+2)}<3)":              {"-": "B", "0": "?", "0.0": "N", "0.0.1": "N"},
		`(\x:N.(x,n))`:               {"-": "(N>(N*N))", "0": "(N*N)", "0.0": "N"},
		`(\n:B.(n,n))`:               {"-": "(B>(B*B))", "0": "(B*B)", "0.1": "B"},
		`((\n:B.n) n)`:               {"-": "", "0": "(B>B)", "0.0": "B", "1": "N"},
		`((\x:N.(if x 1 #t)):?)`:     {"-": "", "0": "", "0.0": "", "0.0.1": "N"},
		`((if u 1 #t):?)`:            {"-": "?", "0": "", "0.0": "?", "0.1": "N", "0.2": "B"},
		`((u,(fst p)):(N*?))`:        {"-": "(N*?)", "0": "(?*N)", "0.0": "?", "0.1": "N", "0.1.0": "(N*B)"},
		`(if (1<2) (snd p) (u n))`:   {"-": "B", "0": "B", "1": "B", "2": "?", "2.1": "N"},
		`((\x:N.q) 1)`:               {"-": "", "0": "", "0.0": "", "1": "N"},
		`(h (\x:?.(f x)))`:           {"-": "N", "1": "(?>B)", "1.0": "B", "1.0.1": "?"},
		`((\x:(N>?).(x 1)):(N>N))`:   {"-": "", "0": "((N>?)>?)", "0.0": "?", "0.0.0": "(N>?)"},
		`(((\x:N.x):(?>N)):(B>N))`:   {"-": "(B>N)", "0": "(?>N)", "0.0": "(N>N)"},
		`(\x:N.(\x:B.(\y:?.x)))`:     {"0.0.0": "B", "0.0": "(?>B)", "0": "(B>(?>B))"},
		`(snd (1,(\x:(N*B).(x,x))))`: {"-": "((N*B)>((N*B)*(N*B)))", "0.1.0.1": "(N*B)"},
	} {
		for path, want := range types {
			if want == "" {
				want = "<0>"
			}
			got, ok := impl.TypeAt(ctx, readExpr(s), readPath(path))
			if ok != (want != "<0>") || typeWords(got) != want {
				t.Errorf("TypeAt(%s, %s) = %s, %v, want %s", s, path, typeWords(got), ok, want)
			}
		}
	}
}

func TestEqualPlace(t *testing.T) {
	places := []impl.Place{
		{},
		{Type: unknown()},
		{Ana: true, Type: unknown()},
		{Ana: true, Type: number()},
		{Type: arrow(number(), number())},
		{Type: arrow(number(), truth())},
		{Ctx: typings("x", "N"), Type: unknown()},
		{Ctx: typings("y", "N"), Type: unknown()},
		{Ctx: typings("x", "B"), Type: unknown()},
		{Ctx: typings("x", "N"), Ana: true, Type: unknown()},
		{Ctx: typings("x", "N", "x", "N"), Type: unknown()},
		{Ctx: typings("x", "N", "y", "B"), Type: unknown()},
		{Ctx: typings("y", "B", "x", "N"), Type: unknown()},
		{Ctx: typings("x", "N", "y", "(B*?)"), Type: unknown()},
		{Ctx: []impl.Typing{{}}, Type: unknown()},
	}
	for i, a := range places {
		for j, b := range places {
			if got := impl.EqualPlace(a, b); got != (i == j) {
				t.Errorf("EqualPlace(%s, %s) is %v", placeWords(a), placeWords(b), got)
			}
		}
	}
	if !impl.EqualPlace(impl.Place{}, impl.Place{Ctx: []impl.Typing{}, Type: impl.Type{Args: []impl.Type{}}}) {
		t.Error("empty slices are not equal to nil")
	}
	if !impl.EqualPlace(places[13], impl.Place{Ctx: roomyCtx(places[13].Ctx), Type: roomyType(unknown())}) {
		t.Error("a copy is not equal")
	}
}

// bindVars puts an expression into functions for the typings of a context, so
// that it can be looked at in contexts that are longer than MaxCtx.
func bindVars(ctx []impl.Typing, e impl.Expr) (impl.Expr, bool) {
	for i := len(ctx) - 1; i >= 0; i-- {
		e = function(ctx[i].Name, ctx[i].Type, e)
	}
	return e, impl.IsValidExpr(e)
}

func TestPromiseOfPlaces(t *testing.T) {
	r := rand.New(rand.NewSource(120))
	ctx := typings("x", "N", "y", "B", "z", "?", "w", "(N>N)", "v", "(N*B)")
	analyzed, synthesized := 0, 0
	for range 5000 {
		e := typedExpr(r, ctx, randomType(r, 3), 1+r.Intn(5))
		if !impl.IsWellTyped(ctx, e) {
			continue
		}
		for _, path := range impl.AllPaths(e) {
			place, ok := impl.PlaceAt(ctx, e, path)
			node, _ := impl.SubtermAt(e, path)
			own, has := impl.TypeAt(ctx, e, path)
			closed, small := bindVars(place.Ctx, node)
			if !ok || place.Ana && !impl.IsValidType(place.Type) {
				t.Fatalf("no place for %s in %s", exprWords(node), exprWords(e))
			}
			if len(path) > 0 && !place.Ana && !has {
				parent, _ := impl.SubtermAt(e, path[:len(path)-1])
				if parent.Kind != impl.ExMark || node.Kind != impl.ExVar {
					t.Fatalf("%s in %s synthesizes no type", exprWords(node), exprWords(e))
				}
			}
			if small {
				want, fits := impl.SynthType(nil, closed)
				for range place.Ctx {
					if fits {
						want = want.Args[1]
					}
				}
				if fits != has || typeWords(want) != typeWords(own) {
					t.Fatalf("TypeAt(%s, %s) = %s, %v", exprWords(e), pathWords(path), typeWords(own), has)
				}
			}
			if !place.Ana {
				synthesized++
				continue
			}
			analyzed++
			if impl.IsCtx(place.Ctx) && !impl.CheckType(place.Ctx, node, place.Type) {
				t.Fatalf("%s does not fit %s in %s", exprWords(node), placeWords(place), exprWords(e))
			}
		}
	}
	if analyzed < 5000 || synthesized < 5000 {
		t.Error("too few places of one sort", analyzed, synthesized)
	}
}

// The place of a node does not depend on what stands there.
func TestPlacesAreThoseOfHoles(t *testing.T) {
	r := rand.New(rand.NewSource(121))
	ctx := typings("x", "N", "y", "B", "f", "(N>(B>N))", "w", "(N*B)")
	for range 3000 {
		e := randomExpr(r, true)
		for _, path := range impl.AllPaths(e) {
			dug, ok := impl.ReplaceAt(e, path, hole(1))
			if !ok {
				t.Fatal("no hole in the place of a node")
			}
			a, first := impl.PlaceAt(ctx, e, path)
			b, second := impl.PlaceAt(ctx, dug, path)
			if !first || !second || placeWords(a) != placeWords(b) {
				t.Fatalf("at %s in %s: %s, and with a hole %s", pathWords(path), exprWords(e), placeWords(a), placeWords(b))
			}
		}
	}
}

func spoilCtx(ctx []impl.Typing) {
	for i, typing := range ctx[:cap(ctx)] {
		spoilType(typing.Type)
		ctx[:cap(ctx)][i] = impl.Typing{Name: "spoilt"}
	}
}

func TestPlacesShareNoMemory(t *testing.T) {
	r := rand.New(rand.NewSource(122))
	ctx := roomyCtx(typings("x", "(N>N)", "y", "((N*B)>(B>N))", "z", "((N>B)*?)"))
	beforeCtx := wholeCtx(ctx)
	for range 500 {
		e := roomyExpr(typedExpr(r, ctx, randomType(r, 3), 1+r.Intn(5)))
		before := wholeExpr(e)
		for _, at := range impl.AllPaths(e) {
			path := roomyPath(at)
			beforePath := wholePath(path)
			place, _ := impl.PlaceAt(ctx, e, path)
			text := placeWords(place)
			again, _ := impl.PlaceAt(ctx, e, path)
			spoilType(again.Type)
			if ctxWords(again.Ctx)+"|" != strings.SplitAfter(text, "|")[0] {
				t.Fatal("the context and the type of a place share memory")
			}
			for i := range again.Ctx {
				spoilType(again.Ctx[i].Type)
				for j := i + 1; j < len(again.Ctx); j++ {
					if typeWords(again.Ctx[j].Type) != typeWords(place.Ctx[j].Type) {
						t.Fatal("two typings of a place share memory")
					}
				}
			}
			spoilCtx(again.Ctx)
			own, _ := impl.TypeAt(ctx, e, path)
			spoilType(own)
			if placeWords(place) != text {
				t.Fatal("two places share memory")
			}
			spoilCtx(place.Ctx)
			spoilType(place.Type)
			if wholeExpr(e) != before || wholeCtx(ctx) != beforeCtx || wholePath(path) != beforePath {
				t.Fatal("an argument was changed")
			}
		}
	}
}
