package tests

import (
	"math/rand"
	"slices"
	"strings"
	"testing"

	"loop.example/g00585/impl"
)

// Promise 2: a fresh name is not in the list.

func TestIsNameAccepts(t *testing.T) {
	for _, s := range []string{
		"a", "m", "z", "x1", "x9", "x0", "a0", "z9z9z", "abcde", "x1234", "a1b2c",
		"i", "f", "fs", "sn", "ifx", "if1", "xif", "iff", "fst1", "fsts", "snd0", "snds", "xsnd", "afst",
	} {
		if !impl.IsName(s) {
			t.Errorf("IsName(%q) is false", s)
		}
	}
}

func TestIsNameRejects(t *testing.T) {
	for _, s := range []string{
		"", "if", "fst", "snd",
		"abcdef", "x12345", "fstsnd", strings.Repeat("a", 100000),
		"1", "0", "9", "1x", "0a", "12345",
		"A", "Z", "X1", "xA", "abcdE", "If", "FST",
		" ", "x ", " x", "x y", "x\n", "\x00", "x\x00", "_", "x_", "_x", "x-1", "x.1", "x'",
		"`", "{", "a`", "a{", "/", ":", "a/", "a:", "@", "[",
		"\xff", "x\xff", "\x80", "x\x80", "\xe9", "x\xc3", "\u00e9", "x\u00e9", "\u0661", "x\u0661", "\uff41", "\ufffd", "x\ufffd",
	} {
		if impl.IsName(s) {
			t.Errorf("IsName(%q) is true", s)
		}
	}
}

// Every string of one or two bytes, and every byte at the other places of a
// name of MaxName bytes.
func TestIsNameBytes(t *testing.T) {
	const letters, digits = "abcdefghijklmnopqrstuvwxyz", "0123456789"
	for a := range 256 {
		first := strings.IndexByte(letters, byte(a)) >= 0
		if got := impl.IsName(string([]byte{byte(a)})); got != first {
			t.Errorf("IsName of the byte %d is %v", a, got)
		}
		later := strings.IndexByte(letters+digits, byte(a)) >= 0
		for place := 1; place < impl.MaxName; place++ {
			s := []byte("vwxyz")
			s[place] = byte(a)
			if got := impl.IsName(string(s)); got != later {
				t.Errorf("IsName(%q) is %v", s, got)
			}
		}
		for b := range 256 {
			s := string([]byte{byte(a), byte(b)})
			want := first && strings.IndexByte(letters+digits, byte(b)) >= 0 && s != "if"
			if got := impl.IsName(s); got != want {
				t.Errorf("IsName(%q) is %v", s, got)
			}
		}
	}
}

func TestMaxName(t *testing.T) {
	if impl.MaxName != 5 {
		t.Error(impl.MaxName)
	}
	for size := 1; size < 12; size++ {
		if got := impl.IsName(strings.Repeat("q", size)); got != (size <= 5) {
			t.Errorf("IsName of %d letters is %v", size, got)
		}
	}
}

func TestIndexOf(t *testing.T) {
	list := []string{"a", "b", "", "b", "\xff", "B"}
	for s, want := range map[string]int{"a": 0, "b": 1, "": 2, "\xff": 4, "B": 5, "A": -1, "c": -1, "ab": -1, "\xfe": -1, "\ufffd": -1} {
		if got := impl.IndexOf(list, s); got != want {
			t.Errorf("IndexOf(%q) = %d, want %d", s, got, want)
		}
	}
	if impl.IndexOf(nil, "") != -1 || impl.IndexOf([]string{}, "a") != -1 || impl.IndexOf([]string{"a"}, "") != -1 {
		t.Error("IndexOf finds what is not there")
	}
}

func TestUniteNames(t *testing.T) {
	for _, c := range []struct{ a, b, want []string }{
		{nil, nil, nil},
		{[]string{"a"}, nil, []string{"a"}},
		{nil, []string{"a"}, []string{"a"}},
		{[]string{"a", "a"}, nil, []string{"a"}},
		{nil, []string{"a", "a"}, []string{"a"}},
		{[]string{"a"}, []string{"a"}, []string{"a"}},
		{[]string{"b", "a"}, []string{"c", "a", "b"}, []string{"b", "a", "c"}},
		{[]string{"a", "a"}, []string{"b", "a"}, []string{"a", "b"}},
		{[]string{"a", "b", "a", "c", "b"}, []string{"d", "c", "d", "e"}, []string{"a", "b", "c", "d", "e"}},
		{[]string{"", "if"}, []string{"", "1"}, []string{"", "if", "1"}},
		{[]string{"\xff", "\xfe"}, []string{"\ufffd", "\xff"}, []string{"\xff", "\xfe", "\ufffd"}},
	} {
		if got := impl.UniteNames(c.a, c.b); !slices.Equal(got, c.want) {
			t.Errorf("UniteNames(%q, %q) = %q, want %q", c.a, c.b, got, c.want)
		}
	}
}

func TestWithoutName(t *testing.T) {
	for _, c := range []struct {
		list []string
		s    string
		want []string
	}{
		{nil, "a", nil},
		{[]string{"a"}, "a", nil},
		{[]string{"a", "a", "a"}, "a", nil},
		{[]string{"a", "b", "a"}, "a", []string{"b"}},
		{[]string{"b", "a", "b"}, "a", []string{"b", "b"}},
		{[]string{"a", "b"}, "c", []string{"a", "b"}},
		{[]string{"a", "", "b", ""}, "", []string{"a", "b"}},
		{[]string{"a", "ab", "A"}, "a", []string{"ab", "A"}},
		{[]string{"\xff", "\xfe", "\ufffd"}, "\xff", []string{"\xfe", "\ufffd"}},
	} {
		if got := impl.WithoutName(c.list, c.s); !slices.Equal(got, c.want) {
			t.Errorf("WithoutName(%q, %q) = %q, want %q", c.list, c.s, got, c.want)
		}
	}
}

func TestFreshName(t *testing.T) {
	for _, c := range []struct {
		list []string
		base string
		want string
	}{
		{nil, "x", "x"},
		{nil, "", ""},
		{[]string{"y", "x1"}, "x", "x"},
		{[]string{"x"}, "x", "x1"},
		{[]string{"x", "x"}, "x", "x1"},
		{[]string{"x", "x1"}, "x", "x2"},
		{[]string{"x1", "x"}, "x", "x2"},
		{[]string{"x", "x2"}, "x", "x1"},
		{[]string{"x", "x1", "x3", "x2"}, "x", "x4"},
		{[]string{"x", "x0"}, "x", "x1"},
		{[]string{"x", "x01"}, "x", "x1"},
		{[]string{"x1", "x11"}, "x1", "x12"},
		{[]string{""}, "", "1"},
		{[]string{"", "1", "2"}, "", "3"},
		{[]string{"abcde"}, "abcde", "abcde1"},
		{[]string{"if"}, "if", "if1"},
		{[]string{"\xff", "\xff1"}, "\xff", "\xff2"},
	} {
		if got := impl.FreshName(c.list, c.base); got != c.want {
			t.Errorf("FreshName(%q, %q) = %q, want %q", c.list, c.base, got, c.want)
		}
	}
}

// All the names before a fresh one stand in the list, in any order.
func TestFreshNameAfterMany(t *testing.T) {
	r := rand.New(rand.NewSource(4))
	for size := range 130 {
		list := []string{"other"}
		for n := range size {
			name := "x"
			if n > 0 {
				name += decimal(n)
			}
			list = append(list, name, name)
		}
		r.Shuffle(len(list), func(i, j int) { list[i], list[j] = list[j], list[i] })
		want := "x"
		if size > 0 {
			want += decimal(size)
		}
		if got := impl.FreshName(list, "x"); got != want || slices.Contains(list, got) {
			t.Errorf("FreshName after %d names is %q", size, got)
		}
	}
}

func TestFreshNameOfLongList(t *testing.T) {
	list := []string{"x"}
	for n := 1; n < 200000; n++ {
		list = append(list, "x"+decimal(n))
	}
	if got := impl.FreshName(list, "x"); got != "x200000" {
		t.Errorf("FreshName = %q", got)
	}
}

func randomNames(r *rand.Rand) []string {
	list := make([]string, r.Intn(7))
	for i := range list {
		list[i] = []string{"a", "b", "a1", "a2", "", "b1"}[r.Intn(6)]
	}
	return list
}

func TestNameListsTogether(t *testing.T) {
	r := rand.New(rand.NewSource(5))
	for range 5000 {
		a, b := randomNames(r), randomNames(r)
		united := impl.UniteNames(a, b)
		both := append(slices.Clone(a), b...)
		for i, s := range united {
			if impl.IndexOf(united, s) != i || impl.IndexOf(both, s) < 0 {
				t.Fatalf("UniteNames(%q, %q) = %q", a, b, united)
			}
		}
		last := -1
		for _, s := range united {
			if at := impl.IndexOf(both, s); at <= last {
				t.Fatalf("UniteNames(%q, %q) = %q is out of order", a, b, united)
			} else {
				last = at
			}
		}
		for _, s := range both {
			rest := impl.WithoutName(united, s)
			if impl.IndexOf(united, s) < 0 || len(rest) != len(united)-1 || impl.IndexOf(rest, s) != -1 {
				t.Fatalf("%q is not once in UniteNames(%q, %q) = %q", s, a, b, united)
			}
			if fresh := impl.FreshName(both, s); impl.IndexOf(both, fresh) != -1 || !strings.HasPrefix(fresh, s) {
				t.Fatalf("FreshName(%q, %q) = %q", both, s, fresh)
			}
		}
	}
}

func TestNameListsKeepTheirArguments(t *testing.T) {
	room := []string{"a", "b", "a", "kept", "kept"}
	before := slices.Clone(room)
	a, b := room[:2], room[1:3]
	for _, result := range [][]string{impl.UniteNames(a, b), impl.UniteNames(a, nil), impl.UniteNames(nil, b),
		impl.WithoutName(a, "a"), impl.WithoutName(a, "b"), impl.WithoutName(a, "z")} {
		for i := range result[:cap(result)] {
			result[:cap(result)][i] = "changed"
		}
	}
	_, _ = impl.FreshName(a, "a"), impl.IndexOf(b, "b")
	if !slices.Equal(room, before) {
		t.Errorf("the arguments were changed: %q", room)
	}
}
