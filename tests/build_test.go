package tests

import (
	"math"
	"math/rand"

	"loop.example/g00585/impl"
)

// Values for tests are built and written here without the functions under
// test, so that these are not compared with themselves.

func ty(kind int, args ...impl.Type) impl.Type { return impl.Type{Kind: kind, Args: args} }

func unknown() impl.Type { return ty(impl.TyUnknown) }
func number() impl.Type  { return ty(impl.TyNum) }
func truth() impl.Type   { return ty(impl.TyBool) }

func arrow(a, b impl.Type) impl.Type  { return ty(impl.TyArrow, a, b) }
func couple(a, b impl.Type) impl.Type { return ty(impl.TyPair, a, b) }

// fullType has all of the 2^depth-1 nodes that a type of this depth can have.
func fullType(depth int) impl.Type {
	if depth == 1 {
		return number()
	}
	return arrow(fullType(depth-1), fullType(depth-1))
}

// chainType has the given depth and two nodes for each further level.
func chainType(depth int, end impl.Type) impl.Type {
	t := end
	for i := 1; i < depth; i++ {
		switch i % 4 {
		case 0:
			t = arrow(number(), t)
		case 1:
			t = arrow(t, truth())
		case 2:
			t = couple(unknown(), t)
		case 3:
			t = couple(t, number())
		}
	}
	return t
}

// allTypes returns the types of at most this depth.
func allTypes(depth int) []impl.Type {
	types := []impl.Type{unknown(), number(), truth()}
	if depth == 1 {
		return types
	}
	parts := allTypes(depth - 1)
	for _, a := range parts {
		for _, b := range parts {
			types = append(types, arrow(a, b), couple(a, b))
		}
	}
	return types
}

func randomType(r *rand.Rand, depth int) impl.Type {
	if depth == 1 || r.Intn(3) == 0 {
		return ty(1 + r.Intn(3))
	}
	return ty(4+r.Intn(2), randomType(r, depth-1), randomType(r, depth-1))
}

// typeWords writes a type as the document shows it, and any other value so
// that different values have different texts.
func typeWords(t impl.Type) string {
	leaves := map[int]string{impl.TyUnknown: "?", impl.TyNum: "N", impl.TyBool: "B"}
	signs := map[int]string{impl.TyArrow: ">", impl.TyPair: "*"}
	if text := leaves[t.Kind]; text != "" && len(t.Args) == 0 {
		return text
	}
	if sign := signs[t.Kind]; sign != "" && len(t.Args) == 2 {
		return "(" + typeWords(t.Args[0]) + sign + typeWords(t.Args[1]) + ")"
	}
	text := "<" + decimal(t.Kind)
	for _, part := range t.Args {
		text += " " + typeWords(part)
	}
	return text + ">"
}

// wrongTypes are not valid, each for one reason.
func wrongTypes() map[string]impl.Type {
	return map[string]impl.Type{
		"zero":                 {},
		"negative kind":        ty(-1),
		"kind 6":               ty(6),
		"kind 6 with Args":     ty(6, number(), number()),
		"kind 0 with Args":     ty(0, number(), number()),
		"number with one":      ty(impl.TyNum, number()),
		"number with two":      ty(impl.TyNum, number(), number()),
		"boolean with one":     ty(impl.TyBool, truth()),
		"unknown with one":     ty(impl.TyUnknown, unknown()),
		"unknown with two":     ty(impl.TyUnknown, unknown(), unknown()),
		"function without":     ty(impl.TyArrow),
		"function with one":    ty(impl.TyArrow, number()),
		"function with three":  ty(impl.TyArrow, number(), number(), number()),
		"pair without":         ty(impl.TyPair),
		"pair with one":        ty(impl.TyPair, number()),
		"pair with three":      ty(impl.TyPair, number(), number(), number()),
		"zero in a function":   arrow(impl.Type{}, number()),
		"zero as a result":     arrow(number(), impl.Type{}),
		"zero in a pair":       couple(impl.Type{}, number()),
		"zero at the end":      couple(number(), impl.Type{}),
		"wrong part far down":  chainType(10, ty(impl.TyBool, truth())),
		"too deep":             chainType(impl.MaxTypeDepth+1, number()),
		"too deep by wrapping": arrow(unknown(), chainType(impl.MaxTypeDepth, unknown())),
		"too large":            largeType(impl.MaxTypeSize + 1),
		"far too large":        fullType(14),
	}
}

// largeType has exactly this number of nodes, an odd number, and little depth.
func largeType(size int) impl.Type {
	if size == 1 {
		return unknown()
	}
	left := (size - 1) / 2
	if left%2 == 0 {
		left--
	}
	return arrow(largeType(left), largeType(size-1-left))
}

func decimal(n int) string {
	if n == math.MinInt {
		return "-9223372036854775808"
	}
	if n < 0 {
		return "-" + decimal(-n)
	}
	if n < 10 {
		return string(rune('0' + n))
	}
	return decimal(n/10) + decimal(n%10)
}

func ex(kind int, args ...impl.Expr) impl.Expr { return impl.Expr{Kind: kind, Args: args} }

func hole(n int) impl.Expr           { return impl.Expr{Kind: impl.ExHole, N: n} }
func variable(name string) impl.Expr { return impl.Expr{Kind: impl.ExVar, Name: name} }
func constant(n int) impl.Expr       { return impl.Expr{Kind: impl.ExNum, N: n} }
func boolean(n int) impl.Expr        { return impl.Expr{Kind: impl.ExBool, N: n} }
func mark(n int, e impl.Expr) impl.Expr {
	return impl.Expr{Kind: impl.ExMark, N: n, Args: []impl.Expr{e}}
}

func function(name string, t impl.Type, body impl.Expr) impl.Expr {
	return impl.Expr{Kind: impl.ExLam, Name: name, Type: t, Args: []impl.Expr{body}}
}

func stated(e impl.Expr, t impl.Type) impl.Expr {
	return impl.Expr{Kind: impl.ExAsc, Type: t, Args: []impl.Expr{e}}
}

// chainExpr has the given depth and one node for each level.
func chainExpr(depth int, end impl.Expr) impl.Expr {
	for range depth - 1 {
		end = ex(impl.ExFst, end)
	}
	return end
}

// sumOf has the given number of nodes, an odd number, and little depth.
func sumOf(size int) impl.Expr {
	if size == 1 {
		return constant(1)
	}
	left := (size - 1) / 2
	if left%2 == 0 {
		left--
	}
	return ex(impl.ExAdd, sumOf(left), sumOf(size-1-left))
}

// exprWords writes an expression as the document shows it.
func exprWords(e impl.Expr) string {
	var args []string
	for _, arg := range e.Args {
		args = append(args, exprWords(arg))
	}
	switch e.Kind {
	case impl.ExHole:
		return "?" + decimal(e.N)
	case impl.ExVar:
		return e.Name
	case impl.ExLam:
		return `(\` + e.Name + ":" + typeWords(e.Type) + "." + args[0] + ")"
	case impl.ExAp:
		return "(" + args[0] + " " + args[1] + ")"
	case impl.ExNum:
		return decimal(e.N)
	case impl.ExAdd:
		return "(" + args[0] + "+" + args[1] + ")"
	case impl.ExLess:
		return "(" + args[0] + "<" + args[1] + ")"
	case impl.ExBool:
		return []string{"#f", "#t"}[e.N]
	case impl.ExIf:
		return "(if " + args[0] + " " + args[1] + " " + args[2] + ")"
	case impl.ExPair:
		return "(" + args[0] + "," + args[1] + ")"
	case impl.ExFst:
		return "(fst " + args[0] + ")"
	case impl.ExSnd:
		return "(snd " + args[0] + ")"
	case impl.ExAsc:
		return "(" + args[0] + ":" + typeWords(e.Type) + ")"
	case impl.ExMark:
		return "{" + decimal(e.N) + " " + args[0] + "}"
	}
	panic("no kind of expression")
}

// exprMaker makes random valid expressions. room bounds the number of nodes.
type exprMaker struct {
	r     *rand.Rand
	names []string
	marks bool
	room  int
}

func randomExpr(r *rand.Rand, marks bool) impl.Expr {
	m := exprMaker{r: r, names: []string{"x", "y", "z", "f", "x1"}, marks: marks, room: 1 + r.Intn(impl.MaxSize)}
	return m.expr(1 + r.Intn(impl.MaxDepth))
}

func (m *exprMaker) name() string { return m.names[m.r.Intn(len(m.names))] }

func (m *exprMaker) expr(depth int) impl.Expr {
	if m.marks && m.r.Intn(8) == 0 {
		return mark(1+m.r.Intn(impl.MaxHole), m.node(depth))
	}
	return m.node(depth)
}

// node takes one node from the room for itself and leaves one for each of the
// Args that are still to be made.
func (m *exprMaker) node(depth int) impl.Expr {
	m.room--
	kind := 1 + m.r.Intn(13)
	arity := map[int]int{impl.ExLam: 1, impl.ExAp: 2, impl.ExAdd: 2, impl.ExLess: 2, impl.ExIf: 3,
		impl.ExPair: 2, impl.ExFst: 1, impl.ExSnd: 1, impl.ExAsc: 1}[kind]
	if depth == 1 || m.room < arity {
		kind, arity = []int{impl.ExHole, impl.ExVar, impl.ExNum, impl.ExBool}[m.r.Intn(4)], 0
	}
	e := impl.Expr{Kind: kind}
	switch kind {
	case impl.ExHole:
		e.N = 1 + m.r.Intn(impl.MaxHole)
	case impl.ExNum:
		e.N = m.r.Intn(impl.MaxNumber + 1)
	case impl.ExBool:
		e.N = m.r.Intn(2)
	case impl.ExVar, impl.ExLam:
		e.Name = m.name()
	}
	if kind == impl.ExLam || kind == impl.ExAsc {
		e.Type = randomType(m.r, 1+m.r.Intn(3))
	}
	m.room -= arity
	for range arity {
		m.room++
		e.Args = append(e.Args, m.expr(depth-1))
	}
	return e
}

// anyNode returns one of the nodes of an expression, to be changed there.
func anyNode(r *rand.Rand, e *impl.Expr) *impl.Expr {
	nodes := []*impl.Expr{e}
	for at := 0; at < len(nodes); at++ {
		for i := range nodes[at].Args {
			nodes = append(nodes, &nodes[at].Args[i])
		}
	}
	return nodes[r.Intn(len(nodes))]
}

// oneOfEach has a valid expression with each kind at its root.
func oneOfEach() map[int]impl.Expr {
	x, one := variable("x"), constant(1)
	return map[int]impl.Expr{
		impl.ExHole: hole(1),
		impl.ExVar:  x,
		impl.ExLam:  function("x", number(), x),
		impl.ExAp:   ex(impl.ExAp, x, one),
		impl.ExNum:  one,
		impl.ExAdd:  ex(impl.ExAdd, one, one),
		impl.ExLess: ex(impl.ExLess, one, one),
		impl.ExBool: boolean(1),
		impl.ExIf:   ex(impl.ExIf, boolean(0), one, x),
		impl.ExPair: ex(impl.ExPair, one, x),
		impl.ExFst:  ex(impl.ExFst, x),
		impl.ExSnd:  ex(impl.ExSnd, x),
		impl.ExAsc:  stated(x, unknown()),
		impl.ExMark: mark(1, x),
	}
}

// wrongExprs are not valid, each for one reason.
func wrongExprs() map[string]impl.Expr {
	x, one := variable("x"), constant(1)
	wrong := map[string]impl.Expr{
		"zero":                   {},
		"kind 15":                ex(15),
		"kind -1":                ex(-1),
		"kind 0 with Args":       ex(0, one),
		"hole 0":                 hole(0),
		"hole -1":                hole(-1),
		"hole 100":               hole(impl.MaxHole + 1),
		"mark 0":                 mark(0, one),
		"mark 100":               mark(impl.MaxHole+1, one),
		"number -1":              constant(-1),
		"number 1000":            constant(impl.MaxNumber + 1),
		"boolean 2":              boolean(2),
		"boolean -1":             boolean(-1),
		"no name":                variable(""),
		"word as a name":         variable("fst"),
		"long name":              variable("abcdef"),
		"word as a parameter":    function("if", number(), one),
		"no parameter":           function("", number(), one),
		"function without type":  function("x", impl.Type{}, one),
		"function of no note":    function("x", fullType(5), one),
		"stated zero type":       stated(one, impl.Type{}),
		"stated deep type":       stated(one, chainType(impl.MaxNoteDepth+1, number())),
		"stated large type":      stated(one, largeType(impl.MaxNoteSize+2)),
		"mark in a mark":         mark(1, mark(2, one)),
		"mark without Args":      ex(impl.ExMark),
		"mark with two":          {Kind: impl.ExMark, N: 1, Args: []impl.Expr{one, one}},
		"too deep":               chainExpr(impl.MaxDepth+1, x),
		"too large":              sumOf(impl.MaxSize + 1),
		"wrong part":             ex(impl.ExAdd, one, hole(0)),
		"wrong part in a mark":   mark(1, ex(impl.ExFst, variable("snd"))),
		"marks in a mark inside": ex(impl.ExPair, one, mark(1, mark(2, one))),
	}
	for kind, e := range oneOfEach() {
		more := e
		more.Args = append(append([]impl.Expr{}, e.Args...), one)
		wrong["one more of "+decimal(kind)] = more
		if len(e.Args) > 0 {
			less := e
			less.Args = e.Args[1:]
			wrong["one less of "+decimal(kind)] = less
		}
		wrong["part of "+decimal(kind)] = ex(impl.ExPair, more, one)
	}
	for kind, e := range oneOfEach() {
		if e.Name == "" {
			e.Name = "x"
			wrong["name at "+decimal(kind)] = e
			e.Name = ""
		}
		if e.N == 0 && kind != impl.ExNum && kind != impl.ExBool {
			e.N = 1
			wrong["number at "+decimal(kind)] = e
			e.N = 0
		}
		if e.Type.Kind == 0 {
			e.Type = number()
			wrong["type at "+decimal(kind)] = e
			e.Type = impl.Type{Args: []impl.Type{number()}}
			wrong["type without kind at "+decimal(kind)] = e
		}
	}
	return wrong
}

// roomyType rebuilds a type in slices with room behind their ends, which no
// function may write to.
func roomyType(t impl.Type) impl.Type {
	if t.Args == nil {
		return t
	}
	args := make([]impl.Type, 0, len(t.Args)+2)
	for _, part := range t.Args {
		args = append(args, roomyType(part))
	}
	_ = append(args, ty(77), ty(77))
	return impl.Type{Kind: t.Kind, Args: args}
}

func roomyExpr(e impl.Expr) impl.Expr {
	e.Type = roomyType(e.Type)
	if e.Args == nil {
		return e
	}
	args := make([]impl.Expr, 0, len(e.Args)+2)
	for _, arg := range e.Args {
		args = append(args, roomyExpr(arg))
	}
	_ = append(args, ex(77), ex(77))
	e.Args = args
	return e
}

func roomyCtx(ctx []impl.Typing) []impl.Typing {
	roomy := make([]impl.Typing, 0, len(ctx)+2)
	for _, typing := range ctx {
		roomy = append(roomy, impl.Typing{Name: typing.Name, Type: roomyType(typing.Type)})
	}
	_ = append(roomy, impl.Typing{Name: "kept"}, impl.Typing{Name: "kept"})
	return roomy
}

// exactExpr shows every field of any expression; wholeExpr and wholeType also
// show what stands in the room behind the ends of slices.
func exactExpr(e impl.Expr) string { return fieldsOfExpr(e, false) }
func wholeExpr(e impl.Expr) string { return fieldsOfExpr(e, true) }
func wholeType(t impl.Type) string { return fieldsOfType(t, true) }

func fieldsOfType(t impl.Type, room bool) string {
	args := t.Args
	if room {
		args = args[:cap(args)]
	}
	text := "[" + decimal(t.Kind)
	for _, part := range args {
		text += " " + fieldsOfType(part, room)
	}
	return text + "]"
}

func fieldsOfExpr(e impl.Expr, room bool) string {
	args := e.Args
	if room {
		args = args[:cap(args)]
	}
	text := "[" + decimal(e.Kind) + " " + e.Name + " " + decimal(e.N) + " " + fieldsOfType(e.Type, room)
	for _, arg := range args {
		text += " " + fieldsOfExpr(arg, room)
	}
	return text + "]"
}

func wholeCtx(ctx []impl.Typing) string {
	text := ""
	for _, typing := range ctx[:cap(ctx)] {
		text += typing.Name + ":" + wholeType(typing.Type) + " "
	}
	return text
}

// spoilType writes to all of the memory that a result can reach.
func spoilType(t impl.Type) {
	for i, part := range t.Args[:cap(t.Args)] {
		spoilType(part)
		t.Args[:cap(t.Args)][i] = ty(99)
	}
}

func spoilExpr(e impl.Expr) {
	spoilType(e.Type)
	for i, arg := range e.Args[:cap(e.Args)] {
		spoilExpr(arg)
		e.Args[:cap(e.Args)][i] = ex(99)
	}
}
