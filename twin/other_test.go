package twin_test

import (
	"slices"
	"testing"

	"underwood/api"
	"underwood/twin"
)

// wantOther holds that a step has the fault ErrOther at a number, and no code beside it.
func wantOther(t *testing.T, w *twin.Twin, x api.Step, at int) {
	t.Helper()
	if code, f := w.Do(x); code != 0 || f != (api.Fault{Code: api.ErrOther, At: at}) {
		t.Errorf("Do(%v) = %d, %v; want 0 and ErrOther at %d", x, code, f, at)
	}
}

// P10.1: ErrOther is never told. That it would be is held here, by twins whose heap was led astray alone:
// by a code, by a View, by either number of words in use.
func TestOther(t *testing.T) {
	full := slices.Repeat([]api.Step{sReg(1, 0)}, api.MaxRegs)
	for name, x := range map[string]struct {
		astray []api.Step
		step   api.Step
	}{
		"codes: a step is refused by the heap alone":  {full, sReg(1, 0)},
		"codes: a step is refused by the grove alone": {[]api.Step{sPair(8, 9, 9)}, sLen(9, 8)},
		"views: another root":                         {[]api.Step{sInt(8, 1)}, sNil(9)},
		"views: another field":                        {[]api.Step{sSet(1, 1, 0)}, sNil(9)},
		"words in use: of the nursery":                {[]api.Step{sGuard(8), sNil(8)}, sNil(9)},
		"words in use: of the old space":              {[]api.Step{sGuard(8), sMinor(), sNil(8)}, sMinor()},
		"words in use: as many, but elsewhere":        {[]api.Step{sMinor()}, sNil(9)},
		"a step that is refused":                      {[]api.Step{sInt(8, 1)}, step(99)},
	} {
		t.Run(name, func(t *testing.T) {
			for _, ahead := range []int{0, 1, 7} {
				w, _ := twin.New(64, 64)
				w.Do(sGuard(0))
				w.Do(sPair(1, 9, 9))
				for range ahead {
					w.Do(step(99)) // it has a number, though it is refused
				}
				for _, a := range x.astray {
					if code := w.Heap.Do(a); code != 0 {
						t.Fatalf("the heap refuses %v: %d", a, code)
					}
				}
				wantOther(t, w, x.step, 2+ahead)
			}
		})
	}
}

// P10.1: it is told again from then on, at the same number, whatever is asked, and though the two tell the same again.
func TestOtherIsToldAgain(t *testing.T) {
	w, _ := twin.New(16, 16)
	for range 3 {
		w.Do(sInt(0, 4))
	}
	w.Heap.Do(sInt(0, 5))
	wantOther(t, w, sNil(1), 3)
	wantOther(t, w, sNil(1), 3)
	w.Heap.Do(sInt(0, 4))
	for kind := -1; kind < 20; kind++ {
		wantOther(t, w, step(kind), 3)
		wantOther(t, w, api.Step{Kind: kind}, 3)
	}
	wantOther(t, w, sNil(0), 3)
}

// P10.1: of a difference that a step ends nothing is told: what is held is what the two tell of the step, and behind it.
func TestOtherThatEnds(t *testing.T) {
	w, _ := twin.New(16, 16)
	w.Heap.Do(sInt(0, 5))
	if code, f := w.Do(sInt(0, 6)); code != 0 || f != (api.Fault{}) {
		t.Errorf("Do = %d, %v", code, f)
	}
}
