package desk_test

import (
	"math"
	"strings"
	"testing"

	"underwood/api"
	"underwood/desk"
	"underwood/heap"
)

// P12.2: the word of each kind of steps.
func TestWord(t *testing.T) {
	for kind, want := range map[int]string{
		api.SInt: "int", api.SNil: "nil", api.SMove: "move", api.SPair: "pair", api.SVector: "vector", api.SWeak: "weak", api.SEphem: "ephem", api.SGuard: "guard",
		api.SReg: "reg", api.SPop: "pop", api.SGet: "get", api.SSet: "set", api.SLen: "len", api.SSame: "same", api.SMinor: "minor", api.SMajor: "major",
	} {
		if got := desk.Word(kind); got != want {
			t.Errorf("Word(%d) = %q, want %q", kind, got, want)
		}
	}
}

// P12.2: "" of kinds that there are not.
func TestWordOfNoKind(t *testing.T) {
	for _, kind := range []int{0, -1, -2, -16, -17, 17, 18, 32, 99, 256 + 1, 1 << 32, 1<<32 + 1, math.MinInt, math.MinInt + 1, math.MaxInt} {
		if got := desk.Word(kind); got != "" {
			t.Errorf("Word(%d) = %q", kind, got)
		}
	}
	for kind := -100; kind < 300; kind++ {
		if got := desk.Word(kind); (got == "") != (heap.Uses(kind) < 0) {
			t.Errorf("Word(%d) = %q", kind, got)
		}
	}
}

// P12.2: no two kinds have one word, and none is that of another line, or has a blank.
func TestWordsAreApart(t *testing.T) {
	kinds := map[string]int{"new": -1, "view": -1}
	for kind := api.SInt; kind <= api.SMajor; kind++ {
		w := desk.Word(kind)
		if other, ok := kinds[w]; ok {
			t.Errorf("%q is the word of %d and of %d", w, other, kind)
		}
		if strings.ContainsAny(w, " \n") || w == "" {
			t.Errorf("Word(%d) = %q", kind, w)
		}
		kinds[w] = kind
	}
}

// P12.1, P12.2: the word that Word answers is the one that a line takes.
func TestWordsAreTaken(t *testing.T) {
	for i, form := range forms() {
		line := desk.Word(i+1) + strings.Repeat(" 0", len(form[1]))
		if told := do(t, begun(t, "16 20"), line); told == "what\n" || told == "" {
			t.Errorf("the line %q told %q", line, told)
		}
	}
}
