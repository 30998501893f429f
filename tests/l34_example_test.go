package tests

import (
	"math"
	"math/rand"
	"slices"
	"strings"
	"sync"
	"testing"

	"loop.example/g00585/impl"
)

// Promise 34: the examples are run.

var examples = []struct{ text, result string }{
	{`((\x:N.(x+1)) 2)`, `((\x:N.(x+1)) 2) : N = 3 value 1`},
	{`((\f:?.((f 1)+2)) (\x:N.(x+1)))`, `((\f:?.((f 1)+2)) (\x:N.(x+1))) : N = 4 value 3`},
	{`((\x:N.(?1+(x+1))) 3)`, `((\x:N.(?1+(x+1))) 3) : N = (<?1[x=3]:?=>N>+4) open 1`},
	{`(1+#t)`, `(1+{1 #t}) : N = (1+<{1 #t}[]:?=>N>) open 0`},
	{`(if (?1<3) (\x:N.x) 5)`, `(if (?1<3) (\x:N.x) {2 5}) : (N>N) = (if (<?1[]:?=>N><3) (\x:N.x) <{2 5}[]:?=>(N>N)>) open 0`},
	{`((\f:?.(f #t)) (\x:N.(x+1)))`, `((\f:?.(f #t)) (\x:N.(x+1))) : ? = <(<#t:B!N>+1):N=>?> open 3`},
}

func TestExamples(t *testing.T) {
	for range 2 {
		for i, c := range examples {
			if got := impl.ExampleText(i + 1); got != c.text {
				t.Errorf("ExampleText(%d) = %s", i+1, got)
			}
			if got := impl.RunExample(i + 1); got != c.result || got != impl.RunText(c.text) {
				t.Errorf("RunExample(%d) = %s", i+1, got)
			}
		}
		for _, k := range []int{0, 7, -1, 8, math.MaxInt, math.MinInt} {
			if impl.ExampleText(k) != "" || impl.RunExample(k) != "" {
				t.Errorf("there is an example %d", k)
			}
		}
	}
}

func TestExamplesAtTheSameTime(t *testing.T) {
	var all sync.WaitGroup
	for n := range 24 {
		all.Go(func() {
			if c := examples[n%6]; impl.RunExample(n%6+1) != c.result || impl.RunText(c.text) != c.result {
				t.Error("an example beside others", n%6+1)
			}
		})
	}
	all.Wait()
}

func TestRunText(t *testing.T) {
	for text, want := range map[string]string{
		// texts that are no raw expressions
		"": "bad", "(": "bad", "{1 x}": "bad", "(1+{1 #t})": "bad", "{1 (": "bad", " 1": "bad", "1 ": "bad", "(1 +2)": "bad", "(1+ 2)": "bad", "((\\x:N.x)  1)": "bad", "(\\x:N. x)": "bad", "(fst  1)": "bad", "1000": "bad", "01": "bad", "X": "bad", "?0": "bad", "?100": "bad", "(\\if:N.1)": "bad",
		"1\n": "bad", "(1+2": "bad", "(1+2))": "bad", "x y": "bad", "(1:(((((N>N)>N)>N)>N)>N))": "bad", "?": "bad", "fst": "bad", "bad": "{1 bad} : ? = ?1[] open 0",
		// values
		"7": "7 : N = 7 value 0", "#f": "#f : B = #f value 0", `(\x:?.x)`: `(\x:?.x) : (?>?) = (\x:?.x) value 0`, "(1,(2<3))": "(1,(2<3)) : (N*B) = (1,#t) value 0", "(1:?)": "(1:?) : ? = <1:N=>?> value 0", "((1:?):N)": "((1:?):N) : N = 1 value 0",
		`((\x:N.x):(N>?))`: `((\x:N.x):(N>?)) : (N>?) = (\x:N.<x:N=>?>) value 0`, "(if #t 1 2)": "(if #t 1 2) : N = 1 value 0", "(999+999)": "(999+999) : N = 1998 value 0",
		// indeterminate results
		"?1": "?1 : ? = ?1[] open 0", "q": "{1 q} : ? = ?1[] open 0", "(q+?1)": "({2 q}+?1) : N = (<?2[]:?=>N>+<?1[]:?=>N>) open 0", "(1 2)": "({1 1} 2) : ? = (<{1 1}[]:?=>(?>?)> <2:N=>?>) open 0", "((#t:?):N)": "((#t:?):N) : N = <#t:B!N> open 0",
		"(fst 1)": "(fst {1 1}) : ? = (fst <{1 1}[]:?=>(?*?)>) open 0", `(\x:N.y)`: `(\x:N.{1 y}) : (N>?) = (\x:N.?1[x=x]) value 0`,
		// programs that do not stop
		`((\x:?.(x x)) (\x:?.(x x)))`:      `((\x:?.(x x)) (\x:?.(x x))) : ? stops`,
		`(1+((\x:?.(x x)) (\x:?.(x x))))`:  `(1+((\x:?.(x x)) (\x:?.(x x)))) : N stops`,
		`(#t+((\x:?.(x x)) (\x:?.(x x))))`: `({1 #t}+((\x:?.(x x)) (\x:?.(x x)))) : N stops`,
	} {
		if got := impl.RunText(text); got != want {
			t.Errorf("RunText(%q) = %s, want %s", text, got, want)
		}
	}
	// The fuel is 60.
	loop := `(((\f:?.((f f) 0)) (\f:?.(\n:N.(if (n<18) ((f f) (n+1)) n))))+0)`
	for steps := 58; steps < 62; steps++ {
		want := loop + " : N = 18 value " + decimal(steps)
		if steps > 60 {
			want = loop + " : N stops"
		}
		if got := impl.RunText(loop); got != want {
			t.Errorf("RunText(%s) = %s", loop, got)
		}
		loop = `((\y:N.y) ` + loop + ")"
	}
	// A result that is too large.
	x := "((1,2),((3,4),5))"
	for range 6 {
		x = `((\a:?.(a,a)) ` + x + ")"
	}
	if got := impl.RunText(x); !strings.HasSuffix(got, " : (?*?) stops") {
		t.Errorf("RunText(%s) = %s", x, got)
	}
	if d := impl.RunExpr(readExpr(x), 60); d.Status != impl.EvLarge {
		t.Error("the result is not too large", briefly(d))
	}
	if impl.RunText(exprWords(chainExpr(13, hole(1)))) != "bad" || impl.RunText(exprWords(sumOf(41))) != "bad" || impl.RunText(strings.Repeat("(fst ", 100000)) != "bad" {
		t.Error("expressions that are too deep or too large")
	}
}

func TestPromiseOfTexts(t *testing.T) {
	r := rand.New(rand.NewSource(340))
	words := map[string]int{}
	for range 4000 {
		e := randomExpr(r, r.Intn(4) == 0)
		if r.Intn(2) == 0 {
			e, _, _ = runnable(r, 1+r.Intn(5))
		}
		text := exprWords(e)
		want := "bad"
		if !slices.Contains(strings.Split(text, ""), "{") {
			marked, own := impl.MarkExpr(nil, e)
			want = exprWords(marked) + " : " + typeWords(own)
			if got := impl.RunExpr(marked, 60); got.Status == impl.EvDone {
				form := "open"
				if isValue(got.Value) {
					form = "value"
				}
				words[form]++
				want += " = " + coreWords(got.Value) + " " + form + " " + decimal(got.Steps)
			} else {
				want += " stops"
			}
		} else {
			words["bad"]++
		}
		if got := impl.RunText(text); got != want {
			t.Fatalf("RunText(%s) = %s, want %s", text, got, want)
		}
	}
	if words["value"] < 300 || words["open"] < 300 || words["bad"] < 300 {
		t.Error("too few results of one sort", words)
	}
}
