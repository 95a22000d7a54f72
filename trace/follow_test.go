package trace

import (
	"testing"

	"underwood/api"
	"underwood/twin"
)

// P11.1: a twin's fault is told, with no codes and an empty View. As no twin tells one of itself,
// it is held here by a twin whose heap was led astray alone.
func TestTwinsFault(t *testing.T) {
	l := []api.Step{{Kind: api.SNil, R: 1}, {Kind: api.SPair, R: 2}, {Kind: 99}}
	for _, ahead := range []int{0, 1, 5} {
		w, _ := twin.New(16, 16)
		for range ahead {
			w.Do(api.Step{Kind: api.SNil})
		}
		w.Heap.Do(api.Step{Kind: api.SInt, N: 7})
		codes, v, f := follow(w, l)
		if len(codes) != 0 || !twin.Same(v, api.View{}) || f != (api.Fault{Code: api.ErrOther, At: ahead}) {
			t.Errorf("behind %d steps: %v, %v, %v; want ErrOther there alone", ahead, codes, v, f)
		}
	}
}

// P11.1: a twin's fault is told, too, if steps ahead of it had none.
func TestTwinsFaultWithinAScript(t *testing.T) {
	w, _ := twin.New(16, 16)
	l := []api.Step{{Kind: api.SGuard}, {Kind: api.SGuard, R: 1}}
	if codes, _, f := follow(w, l); len(codes) != 2 || f != (api.Fault{}) {
		t.Fatalf("%v, %v", codes, f)
	}
	// Of these nothing is shown, but behind so many steps less the heap is full, and the grove is not.
	for range 4 {
		w.Heap.Do(api.Step{Kind: api.SReg, A: 1})
	}
	l = nil
	for range api.MaxRegs {
		l = append(l, api.Step{Kind: api.SReg, A: 1})
	}
	codes, v, f := follow(w, l)
	if len(codes) != 0 || !twin.Same(v, api.View{}) || f != (api.Fault{Code: api.ErrOther, At: 2 + api.MaxRegs - 4}) {
		t.Errorf("%v, %v, %v", codes, v, f)
	}
}
