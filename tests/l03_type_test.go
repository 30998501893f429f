package tests

import (
	"math/rand"
	"testing"

	"loop.example/g00585/impl"
)

// Promise 3: sizes of types are those of their parts.

func TestTypeConstants(t *testing.T) {
	if impl.MaxTypeSize != 800 || impl.MaxTypeDepth != 24 || impl.MaxNoteSize != 15 || impl.MaxNoteDepth != 5 {
		t.Error("limits")
	}
	if impl.TyUnknown != 1 || impl.TyNum != 2 || impl.TyBool != 3 || impl.TyArrow != 4 || impl.TyPair != 5 {
		t.Error("kinds")
	}
}

func TestTypesOfTheFiveKinds(t *testing.T) {
	a, b := arrow(number(), unknown()), truth()
	for want, got := range map[string]impl.Type{
		"?":         impl.UnknownType(),
		"N":         impl.NumType(),
		"B":         impl.BoolType(),
		"((N>?)>B)": impl.ArrowType(a, b),
		"(B>(N>?))": impl.ArrowType(b, a),
		"((N>?)*B)": impl.PairType(a, b),
		"(B*(N>?))": impl.PairType(b, a),
		"(<0>>N)":   impl.ArrowType(impl.Type{}, number()),
		"(N*<9>)":   impl.PairType(number(), ty(9)),
	} {
		if typeWords(got) != want {
			t.Errorf("got %s, want %s", typeWords(got), want)
		}
	}
}

func TestSizeAndDepthOfTypes(t *testing.T) {
	for _, c := range []struct {
		t           impl.Type
		size, depth int
	}{
		{number(), 1, 1},
		{truth(), 1, 1},
		{unknown(), 1, 1},
		{arrow(number(), truth()), 3, 2},
		{couple(number(), arrow(truth(), unknown())), 5, 3},
		{couple(arrow(truth(), unknown()), number()), 5, 3},
		{arrow(arrow(number(), number()), couple(number(), couple(number(), number()))), 9, 4},
		{chainType(24, number()), 47, 24},
		{chainType(1000, number()), 1999, 1000},
		{fullType(10), 1023, 10},
		{largeType(799), 799, impl.DepthOfType(largeType(799))},
		{impl.Type{}, 1, 1},
		{ty(-5), 1, 1},
		{ty(impl.TyArrow), 1, 1},
		{ty(impl.TyNum, number()), 2, 2},
		{ty(17, number(), impl.Type{}, ty(0, truth())), 5, 3},
	} {
		if size, depth := impl.SizeOfType(c.t), impl.DepthOfType(c.t); size != c.size || depth != c.depth {
			t.Errorf("%s has the size %d and the depth %d, want %d and %d", typeWords(c.t), size, depth, c.size, c.depth)
		}
	}
}

// anyTree makes types with any kinds and numbers of Args.
func anyTree(r *rand.Rand, depth int) impl.Type {
	t := ty(r.Intn(8) - 1)
	for range r.Intn(4) {
		if depth > 1 {
			t.Args = append(t.Args, anyTree(r, depth-1))
		}
	}
	return t
}

func TestSizesAreThoseOfTheParts(t *testing.T) {
	r := rand.New(rand.NewSource(6))
	for range 3000 {
		x := anyTree(r, 5)
		size, deepest := 1, 0
		for _, part := range x.Args {
			size += impl.SizeOfType(part)
			deepest = max(deepest, impl.DepthOfType(part))
		}
		if impl.SizeOfType(x) != size || impl.DepthOfType(x) != 1+deepest {
			t.Fatalf("%s: the size or the depth is not that of the parts", typeWords(x))
		}
		a, b := randomType(r, 6), randomType(r, 6)
		for _, whole := range []impl.Type{impl.ArrowType(a, b), impl.PairType(a, b)} {
			if impl.SizeOfType(whole) != 1+impl.SizeOfType(a)+impl.SizeOfType(b) {
				t.Fatalf("wrong size of %s", typeWords(whole))
			}
			if impl.DepthOfType(whole) != 1+max(impl.DepthOfType(a), impl.DepthOfType(b)) {
				t.Fatalf("wrong depth of %s", typeWords(whole))
			}
		}
	}
}

func TestValidTypesAndNotes(t *testing.T) {
	for _, c := range []struct {
		what        string
		t           impl.Type
		valid, note bool
	}{
		{"unknown", unknown(), true, true},
		{"number", number(), true, true},
		{"boolean", truth(), true, true},
		{"function", arrow(number(), unknown()), true, true},
		{"pair", couple(truth(), unknown()), true, true},
		{"empty Args", impl.Type{Kind: impl.TyNum, Args: []impl.Type{}}, true, true},
		{"15 nodes in 4 levels", fullType(4), true, true},
		{"17 nodes in 5 levels", largeType(17), true, false},
		{"31 nodes in 5 levels", fullType(5), true, false},
		{"5 levels", chainType(5, truth()), true, true},
		{"6 levels", chainType(6, truth()), true, false},
		{"6 levels in 13 nodes", arrow(number(), chainType(5, unknown())), true, false},
		{"15 nodes in 5 levels", couple(chainType(4, number()), chainType(4, number())), true, true},
		{"24 levels", chainType(24, number()), true, false},
		{"25 levels", chainType(25, number()), false, false},
		{"799 nodes", largeType(799), true, false},
		{"801 nodes", largeType(801), false, false},
		{"511 nodes", fullType(9), true, false},
		{"1023 nodes", fullType(10), false, false},
	} {
		if valid, note := impl.IsValidType(c.t), impl.IsNote(c.t); valid != c.valid || note != c.note {
			t.Errorf("%s: valid %v, note %v", c.what, valid, note)
		}
	}
}

func TestWrongTypesAreNotValid(t *testing.T) {
	for what, x := range wrongTypes() {
		if impl.IsValidType(x) || impl.IsNote(x) {
			t.Errorf("%s is accepted", what)
		}
		for _, whole := range []impl.Type{arrow(x, number()), arrow(number(), x), couple(x, unknown()), couple(truth(), x)} {
			if impl.IsValidType(whole) || impl.IsNote(whole) {
				t.Errorf("%s is accepted as a part", what)
			}
		}
	}
}

func TestValidByItsParts(t *testing.T) {
	r := rand.New(rand.NewSource(7))
	arity := map[int]int{impl.TyUnknown: 0, impl.TyNum: 0, impl.TyBool: 0, impl.TyArrow: 2, impl.TyPair: 2}
	var allNodes func(x impl.Type) bool
	allNodes = func(x impl.Type) bool {
		n, known := arity[x.Kind]
		for _, part := range x.Args {
			known = known && allNodes(part)
		}
		return known && n == len(x.Args)
	}
	valid := 0
	for range 20000 {
		x := anyTree(r, 3)
		if allNodes(x) {
			valid++
		}
		if impl.IsValidType(x) != allNodes(x) || impl.IsNote(x) != allNodes(x) {
			t.Fatalf("wrong answer for %s", typeWords(x))
		}
	}
	if valid < 100 {
		t.Error("hardly any of the types is valid", valid)
	}
}

func TestNotesAreSmall(t *testing.T) {
	r := rand.New(rand.NewSource(8))
	for range 5000 {
		x := randomType(r, 7)
		small := impl.SizeOfType(x) <= impl.MaxNoteSize && impl.DepthOfType(x) <= impl.MaxNoteDepth
		if !impl.IsValidType(x) || impl.IsNote(x) != small {
			t.Fatalf("wrong answer for %s", typeWords(x))
		}
	}
}

// A type of very many nodes is rejected without looking at all of them.
func TestValidStopsAtTheLimits(t *testing.T) {
	shared := number()
	for range 23 {
		shared = ty(impl.TyArrow, shared, shared)
	}
	for range 2000 {
		if impl.IsValidType(shared) || impl.IsNote(shared) {
			t.Fatal("a type of 2^24 nodes is accepted")
		}
	}
	deep := chainType(300000, number())
	wide := impl.Type{Kind: impl.TyPair, Args: make([]impl.Type, 300000)}
	if impl.IsValidType(deep) || impl.IsNote(deep) || impl.IsValidType(wide) || impl.DepthOfType(deep) != 300000 {
		t.Error("a deep or wide type is accepted")
	}
}

func TestEqualType(t *testing.T) {
	types := allTypes(2)
	for _, x := range wrongTypes() {
		if impl.SizeOfType(x) < 30 {
			types = append(types, x)
		}
	}
	for _, a := range types {
		for _, b := range types {
			if got, want := impl.EqualType(a, b), typeWords(a) == typeWords(b); got != want {
				t.Errorf("EqualType(%s, %s) is %v", typeWords(a), typeWords(b), got)
			}
		}
	}
	if !impl.EqualType(impl.Type{Kind: 2}, impl.Type{Kind: 2, Args: []impl.Type{}}) {
		t.Error("no Args are not equal to empty Args")
	}
	a, b := chainType(40, number()), chainType(40, truth())
	if impl.EqualType(a, b) || !impl.EqualType(a, chainType(40, number())) {
		t.Error("types that differ only far down")
	}
}

func TestTypesShareNoMemory(t *testing.T) {
	part := roomyType(arrow(number(), couple(truth(), unknown())))
	before := wholeType(part)
	for _, build := range []func(a, b impl.Type) impl.Type{impl.ArrowType, impl.PairType} {
		x := build(part, part)
		_, _, _, _ = impl.IsValidType(x), impl.IsNote(x), impl.SizeOfType(x), impl.EqualType(part, x)
		spoilType(x.Args[0])
		if typeWords(x.Args[1]) != typeWords(part) {
			t.Error("both parts of a type share memory")
		}
		spoilType(x)
		if wholeType(part) != before {
			t.Error("a type shares memory with its parts")
		}
	}
}
