package tests

import (
	"math/rand"
	"strings"

	"loop.example/g00585/impl"
)

// Core expressions for tests are built, read and written here without the
// functions under test.

func co(kind int, args ...impl.Core) impl.Core { return impl.Core{Kind: kind, Args: args} }

func coreVar(name string) impl.Core { return impl.Core{Kind: impl.CoVar, Name: name} }
func coreNum(n int) impl.Core       { return impl.Core{Kind: impl.CoNum, N: n} }

func coreHole(n int, env ...impl.CoreBind) impl.Core {
	return impl.Core{Kind: impl.CoHole, N: n, Env: env}
}

func coreMark(n int, d impl.Core, env ...impl.CoreBind) impl.Core {
	return impl.Core{Kind: impl.CoMark, N: n, Args: []impl.Core{d}, Env: env}
}

func bind(name string, value impl.Core) impl.CoreBind {
	return impl.CoreBind{Name: name, Value: value}
}

func coreFunction(name string, t impl.Type, body impl.Core) impl.Core {
	return impl.Core{Kind: impl.CoLam, Name: name, Type: t, Args: []impl.Core{body}}
}

func castTo(d impl.Core, from, to impl.Type) impl.Core {
	return impl.Core{Kind: impl.CoCast, From: from, Type: to, Args: []impl.Core{d}}
}

func failedTo(d impl.Core, from, to impl.Type) impl.Core {
	return impl.Core{Kind: impl.CoFail, From: from, Type: to, Args: []impl.Core{d}}
}

// coreChain has the given number of nodes below each other.
func coreChain(size int, end impl.Core) impl.Core {
	for range size - 1 {
		end = co(impl.CoFst, end)
	}
	return end
}

// coreWords writes a core expression as the document shows it.
func coreWords(d impl.Core) string {
	var args []string
	for _, arg := range d.Args {
		args = append(args, coreWords(arg))
	}
	switch d.Kind {
	case impl.CoHole:
		return "?" + decimal(d.N) + "[" + bindWords(d.Env) + "]"
	case impl.CoMark:
		return "{" + decimal(d.N) + " " + args[0] + "}[" + bindWords(d.Env) + "]"
	case impl.CoVar:
		return d.Name
	case impl.CoLam:
		return `(\` + d.Name + ":" + typeWords(d.Type) + "." + args[0] + ")"
	case impl.CoNum:
		return decimal(d.N)
	case impl.CoBool:
		return []string{"#f", "#t"}[d.N]
	case impl.CoIf:
		return "(if " + strings.Join(args, " ") + ")"
	case impl.CoFst:
		return "(fst " + args[0] + ")"
	case impl.CoSnd:
		return "(snd " + args[0] + ")"
	case impl.CoCast:
		return "<" + args[0] + ":" + typeWords(d.From) + "=>" + typeWords(d.Type) + ">"
	case impl.CoFail:
		return "<" + args[0] + ":" + typeWords(d.From) + "!" + typeWords(d.Type) + ">"
	}
	sign := map[int]string{impl.CoAp: " ", impl.CoAdd: "+", impl.CoLess: "<", impl.CoPair: ","}[d.Kind]
	return "(" + args[0] + sign + args[1] + ")"
}

func bindWords(env []impl.CoreBind) string {
	var words []string
	for _, b := range env {
		words = append(words, b.Name+"="+coreWords(b.Value))
	}
	return strings.Join(words, ",")
}

// readCore reads a core expression that is known to be written correctly.
func readCore(s string) impl.Core {
	r := coreReader{s}
	d := r.core()
	if r.rest != "" || coreWords(d) != s {
		panic("no core expression: " + s)
	}
	return d
}

func readBinds(s string) []impl.CoreBind { return readCore("?1[" + s + "]").Env }

type coreReader struct{ rest string }

func (r *coreReader) take(start string) bool {
	rest, ok := strings.CutPrefix(r.rest, start)
	r.rest = rest
	return ok
}

func (r *coreReader) need(start string) {
	if !r.take(start) {
		panic("there is no " + start + " before " + r.rest)
	}
}

func (r *coreReader) word(letters string) string {
	rest := strings.TrimLeft(r.rest, letters)
	word := strings.TrimSuffix(r.rest, rest)
	r.rest = rest
	return word
}

func (r *coreReader) name() string { return r.word("abcdefghijklmnopqrstuvwxyz0123456789") }

func (r *coreReader) number() int { return readPath(r.word("-0123456789"))[0] }

func (r *coreReader) aType() impl.Type {
	t, rest := readTypePrefix(r.rest)
	r.rest = rest
	return t
}

func (r *coreReader) env() []impl.CoreBind {
	r.need("[")
	var env []impl.CoreBind
	for !r.take("]") {
		name := r.name()
		r.need("=")
		env = append(env, bind(name, r.core()))
		r.take(",")
	}
	return env
}

func (r *coreReader) core() impl.Core {
	switch {
	case r.take("?"):
		return coreHole(r.number(), r.env()...)
	case r.take("{"):
		n := r.number()
		r.need(" ")
		d := r.core()
		r.need("}")
		return coreMark(n, d, r.env()...)
	case r.take("#t"):
		return impl.Core{Kind: impl.CoBool, N: 1}
	case r.take("#f"):
		return impl.Core{Kind: impl.CoBool}
	case r.take("<"):
		return r.cast()
	case r.take(`(\`):
		name := r.name()
		r.need(":")
		t := r.aType()
		r.need(".")
		defer r.need(")")
		return coreFunction(name, t, r.core())
	case r.take("("):
		defer r.need(")")
		return r.compound()
	case strings.ContainsAny(r.rest[:1], "-0123456789"):
		return coreNum(r.number())
	}
	return coreVar(r.name())
}

func (r *coreReader) cast() impl.Core {
	d := r.core()
	r.need(":")
	from := r.aType()
	defer r.need(">")
	if r.take("!") {
		return failedTo(d, from, r.aType())
	}
	r.need("=>")
	return castTo(d, from, r.aType())
}

func (r *coreReader) compound() impl.Core {
	for word, kind := range map[string]int{"if": impl.CoIf, "fst": impl.CoFst, "snd": impl.CoSnd} {
		if !r.take(word + " ") {
			continue
		}
		args := []impl.Core{r.core()}
		for r.take(" ") {
			args = append(args, r.core())
		}
		return co(kind, args...)
	}
	first := r.core()
	kind := map[byte]int{' ': impl.CoAp, '+': impl.CoAdd, '<': impl.CoLess, ',': impl.CoPair}[r.rest[0]]
	r.rest = r.rest[1:]
	return co(kind, first, r.core())
}

// coreMaker makes random valid core expressions. room bounds the number of
// nodes.
type coreMaker struct {
	r    *rand.Rand
	room int
}

func randomCore(r *rand.Rand, size int) impl.Core {
	m := coreMaker{r, size}
	return m.core(1 + r.Intn(7))
}

var coreNames = []string{"x", "y", "z", "x1"}

func (m *coreMaker) name() string { return coreNames[m.r.Intn(len(coreNames))] }

func (m *coreMaker) core(depth int) impl.Core {
	m.room--
	kind := 1 + m.r.Intn(15)
	for depth > 2 && coreArities()[kind] == 0 && m.r.Intn(4) > 0 {
		kind = 1 + m.r.Intn(15)
	}
	arity := coreArities()[kind]
	if depth == 1 || m.room < arity+4 {
		kind, arity = []int{impl.CoHole, impl.CoVar, impl.CoNum, impl.CoBool, impl.CoVar}[m.r.Intn(5)], 0
	}
	d := impl.Core{Kind: kind}
	switch kind {
	case impl.CoHole, impl.CoMark:
		d.N = 1 + m.r.Intn(impl.MaxHole)
		d.Env = m.env(depth)
	case impl.CoVar, impl.CoLam:
		d.Name = m.name()
	case impl.CoNum:
		d.N = m.r.Intn(2000) - 1000
	case impl.CoBool:
		d.N = m.r.Intn(2)
	}
	if kind == impl.CoLam || kind == impl.CoCast || kind == impl.CoFail {
		d.Type = randomType(m.r, 1+m.r.Intn(3))
	}
	if kind == impl.CoCast || kind == impl.CoFail {
		d.From = randomType(m.r, 1+m.r.Intn(3))
	}
	for range arity {
		d.Args = append(d.Args, m.core(depth-1))
	}
	return d
}

func (m *coreMaker) env(depth int) []impl.CoreBind {
	var env []impl.CoreBind
	for _, at := range m.r.Perm(len(coreNames))[:m.r.Intn(4)] {
		if depth > 1 && m.room > 6 {
			env = append(env, bind(coreNames[at], m.core(depth-1)))
		}
	}
	return env
}

func coreArities() map[int]int {
	return map[int]int{impl.CoHole: 0, impl.CoMark: 1, impl.CoVar: 0, impl.CoLam: 1, impl.CoAp: 2, impl.CoNum: 0, impl.CoAdd: 2, impl.CoLess: 2,
		impl.CoBool: 0, impl.CoIf: 3, impl.CoPair: 2, impl.CoFst: 1, impl.CoSnd: 1, impl.CoCast: 1, impl.CoFail: 1}
}

// anyCoreNode returns one of the nodes of a core expression, also of those in
// environments, to be changed there.
func anyCoreNode(r *rand.Rand, d *impl.Core) *impl.Core {
	nodes := []*impl.Core{d}
	for at := 0; at < len(nodes); at++ {
		for i := range nodes[at].Args {
			nodes = append(nodes, &nodes[at].Args[i])
		}
		for i := range nodes[at].Env {
			nodes = append(nodes, &nodes[at].Env[i].Value)
		}
	}
	return nodes[r.Intn(len(nodes))]
}

// oneCoreOfEach has a valid core expression with each kind at its root.
func oneCoreOfEach() map[int]impl.Core {
	cores := map[int]impl.Core{}
	for _, s := range []string{"?3[x=1,y=x]", "{3 x}[x=1]", "x", `(\x:N.x)`, "(x 1)", "7", "(x+1)", "(x<1)", "#t", "(if x 1 2)", "(x,1)", "(fst x)", "(snd x)", "<x:?=>N>", "<x:N!B>"} {
		d := readCore(s)
		cores[d.Kind] = d
	}
	return cores
}

// wrongCores are not valid, each for one reason.
func wrongCores() map[string]impl.Core {
	one := coreNum(1)
	wrong := map[string]impl.Core{
		"zero":                  {},
		"kind 16":               co(16),
		"kind -1":               co(-1),
		"kind 0 with Args":      co(0, one),
		"kind 16 with Args":     co(16, one),
		"hole 0":                coreHole(0),
		"hole -1":               coreHole(-1),
		"hole 100":              coreHole(100),
		"mark 0":                coreMark(0, one),
		"mark 100":              coreMark(100, one),
		"boolean 2":             {Kind: impl.CoBool, N: 2},
		"boolean -1":            {Kind: impl.CoBool, N: -1},
		"no name":               coreVar(""),
		"word as a name":        coreVar("fst"),
		"long name":             coreVar("abcdef"),
		"word as a parameter":   coreFunction("if", number(), one),
		"no parameter":          coreFunction("", number(), one),
		"too large":             coreChain(impl.MaxCore+1, one),
		"too large by an Env":   coreHole(1, bind("x", coreChain(impl.MaxCore, one))),
		"too large by two":      coreMark(1, coreChain(300, one), bind("x", coreChain(200, one)), bind("y", coreChain(100, one))),
		"a name twice":          coreHole(1, bind("x", one), bind("x", one)),
		"a name again":          coreMark(1, one, bind("x", one), bind("y", one), bind("x", coreNum(2))),
		"a word in an Env":      coreHole(1, bind("snd", one)),
		"no name in an Env":     coreHole(1, bind("x", one), bind("", one)),
		"a capital in an Env":   coreMark(1, one, bind("X", one)),
		"a long name in an Env": coreHole(1, bind("abcdef", one)),
		"wrong in an Env":       coreHole(1, bind("x", one), bind("y", coreHole(0))),
		"wrong in a mark's Env": coreMark(1, one, bind("x", co(impl.CoFst))),
		"wrong far inside":      co(impl.CoPair, one, coreFunction("x", number(), coreHole(1, bind("y", coreMark(0, one))))),
	}
	for what, t := range wrongTypes() {
		wrong["a function of the type "+what] = coreFunction("x", t, one)
		wrong["a cast from "+what] = castTo(one, t, unknown())
		wrong["a cast to "+what] = castTo(one, unknown(), t)
		wrong["a failed cast from "+what] = failedTo(one, t, number())
		wrong["a failed cast to "+what] = failedTo(one, number(), t)
	}
	addChangedCores(wrong)
	return wrong
}

// addChangedCores adds core expressions of each kind with something that this
// kind does not have, or without something that it has.
func addChangedCores(wrong map[string]impl.Core) {
	one := coreNum(1)
	for kind, d := range oneCoreOfEach() {
		shown := " at " + decimal(kind)
		change := func(what string, do func(d *impl.Core)) {
			changed := roomyCore(d)
			do(&changed)
			wrong[what+shown] = changed
			wrong[what+" in a part"+shown] = co(impl.CoPair, one, changed)
		}
		change("one more", func(d *impl.Core) { d.Args = append(d.Args, one) })
		if len(d.Args) > 0 {
			change("one less", func(d *impl.Core) { d.Args = d.Args[1:] })
		}
		if d.Name == "" {
			change("a name", func(d *impl.Core) { d.Name = "x" })
		} else {
			change("no name", func(d *impl.Core) { d.Name = "" })
		}
		if kind != impl.CoNum && kind != impl.CoHole && kind != impl.CoMark && kind != impl.CoBool {
			change("a number", func(d *impl.Core) { d.N = 1 })
			change("a negative number", func(d *impl.Core) { d.N = -1 })
		}
		if d.Type.Kind == 0 {
			change("a type", func(d *impl.Core) { d.Type = number() })
			change("a type without kind", func(d *impl.Core) { d.Type = ty(0, number()) })
		} else {
			change("no type", func(d *impl.Core) { d.Type = impl.Type{} })
		}
		if d.From.Kind == 0 {
			change("a From", func(d *impl.Core) { d.From = number() })
			change("a From without kind", func(d *impl.Core) { d.From = ty(0, number()) })
		} else {
			change("no From", func(d *impl.Core) { d.From = impl.Type{} })
		}
		if len(d.Env) == 0 {
			change("an Env", func(d *impl.Core) { d.Env = []impl.CoreBind{bind("x", one)} })
		}
	}
}

// roomyCore rebuilds a core expression in slices with room behind their ends,
// which no function may write to.
func roomyCore(d impl.Core) impl.Core {
	d.From, d.Type = roomyType(d.From), roomyType(d.Type)
	if d.Args != nil {
		args := make([]impl.Core, 0, len(d.Args)+2)
		for _, arg := range d.Args {
			args = append(args, roomyCore(arg))
		}
		_ = append(args, co(77), co(77))
		d.Args = args
	}
	if d.Env != nil {
		d.Env = roomyBinds(d.Env)
	}
	return d
}

func roomyBinds(list []impl.CoreBind) []impl.CoreBind {
	roomy := make([]impl.CoreBind, 0, len(list)+2)
	for _, b := range list {
		roomy = append(roomy, bind(b.Name, roomyCore(b.Value)))
	}
	_ = append(roomy, bind("kept", co(77)), bind("kept", co(77)))
	return roomy
}

// exactCore shows every field of any core expression; wholeCore and wholeBinds
// also show what stands in the room behind the ends of slices.
func exactCore(d impl.Core) string { return fieldsOfCore(d, false) }
func wholeCore(d impl.Core) string { return fieldsOfCore(d, true) }

func wholeBinds(list []impl.CoreBind) string { return fieldsOfBinds(list, true) }

func fieldsOfCore(d impl.Core, room bool) string {
	args := d.Args
	if room {
		args = args[:cap(args)]
	}
	text := "[" + decimal(d.Kind) + " " + d.Name + " " + decimal(d.N) + " " + fieldsOfType(d.From, room) + " " + fieldsOfType(d.Type, room)
	for _, arg := range args {
		text += " " + fieldsOfCore(arg, room)
	}
	return text + fieldsOfBinds(d.Env, room) + "]"
}

func fieldsOfBinds(list []impl.CoreBind, room bool) string {
	if room {
		list = list[:cap(list)]
	}
	text := ""
	for _, b := range list {
		text += " ENV " + b.Name + "=" + fieldsOfCore(b.Value, room)
	}
	return text
}

func spoilCore(d impl.Core) {
	spoilType(d.From)
	spoilType(d.Type)
	for i, arg := range d.Args[:cap(d.Args)] {
		spoilCore(arg)
		d.Args[:cap(d.Args)][i] = co(99)
	}
	for i, b := range d.Env[:cap(d.Env)] {
		spoilCore(b.Value)
		d.Env[:cap(d.Env)][i] = bind("spoilt", co(99))
	}
}

// partsShare reports whether two slices within a core expression share memory:
// then what is written to one of them can be seen in the other one.
func partsShare(d impl.Core) bool {
	seen := map[any]bool{}
	again := func(p any) bool {
		before := seen[p]
		seen[p] = true
		return before
	}
	var typeShares func(t impl.Type) bool
	typeShares = func(t impl.Type) bool {
		for i := range t.Args[:cap(t.Args)] {
			if again(&t.Args[:cap(t.Args)][i]) || typeShares(t.Args[:cap(t.Args)][i]) {
				return true
			}
		}
		return false
	}
	var shares func(d impl.Core) bool
	shares = func(d impl.Core) bool {
		if typeShares(d.From) || typeShares(d.Type) {
			return true
		}
		for i := range d.Args[:cap(d.Args)] {
			if again(&d.Args[:cap(d.Args)][i]) || shares(d.Args[:cap(d.Args)][i]) {
				return true
			}
		}
		for i := range d.Env[:cap(d.Env)] {
			if again(&d.Env[:cap(d.Env)][i]) || shares(d.Env[:cap(d.Env)][i].Value) {
				return true
			}
		}
		return false
	}
	return shares(d)
}
