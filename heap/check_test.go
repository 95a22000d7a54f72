package heap_test

import (
	"math"
	"slices"
	"testing"

	"underwood/api"
	"underwood/heap"
)

// uses is which of R, A, B each kind uses, as the chapter tells it.
var uses = []struct {
	kind    int
	r, a, b bool
}{
	{api.SInt, true, false, false},
	{api.SNil, true, false, false},
	{api.SMove, true, true, false},
	{api.SPair, true, true, true},
	{api.SVector, true, true, false},
	{api.SWeak, true, true, true},
	{api.SEphem, true, true, true},
	{api.SGuard, true, false, false},
	{api.SReg, false, true, true},
	{api.SPop, true, true, false},
	{api.SGet, true, true, false},
	{api.SSet, false, true, true},
	{api.SLen, true, true, false},
	{api.SSame, true, true, true},
	{api.SMinor, false, false, false},
	{api.SMajor, false, false, false},
}

// noKinds are some that there are not; of the last ones the low bits are those of kinds that there are.
var noKinds = []int{0, 17, 18, -1, -2, -16, 31, 32, 100, math.MinInt, math.MaxInt,
	256 + api.SInt, 1<<16 + api.SNil, 1<<32 + api.SPair, math.MinInt + api.SMinor}

// outside are numbers that are no roots.
var outside = []int{-1, api.MaxRoots, api.MaxRoots + 1, -api.MaxRoots, 1 << 32, -1 << 32, math.MinInt, math.MaxInt}

// P8.3
func TestUses(t *testing.T) {
	if len(uses) != 16 {
		t.Fatalf("%d kinds are told, not 16", len(uses))
	}
	for _, u := range uses {
		want := 0
		for i, used := range []bool{u.r, u.a, u.b} {
			if used {
				want += 1 << i
			}
		}
		if got := heap.Uses(u.kind); got != want {
			t.Errorf("Uses(%d) = %d, want %d", u.kind, got, want)
		}
	}
	none := slices.Clone(noKinds)
	for kind := range 5000 {
		none = append(none, -kind, kind+17)
	}
	for _, kind := range none {
		if got := heap.Uses(kind); got != -1 {
			t.Errorf("Uses(%d) = %d, want -1", kind, got)
		}
	}
}

// plain answers a step of a kind all of whose numbers are 0, which may be asked for.
func plain(kind int) api.Step { return api.Step{Kind: kind} }

// wantCheck holds what Check tells of a step, and that a heap in which there is nothing tells that, too, if it is a code.
func wantCheck(t *testing.T, x api.Step, want int) {
	t.Helper()
	if got := heap.Check(x); got != want {
		t.Errorf("Check(%v) = %d, want %d", x, got, want)
	}
	if want != 0 {
		newGround(t, api.MinNursery, 0).refuse(want, x)
	}
}

// P8.2: of each kind, with all numbers 0.
func TestCheckKind(t *testing.T) {
	for _, u := range uses {
		wantCheck(t, plain(u.kind), 0)
	}
	for _, kind := range noKinds {
		wantCheck(t, plain(kind), api.ErrKind)
	}
}

// P8.2: roots at their bounds and beside, in each of R, A, B; those that a kind does not use are not asked.
func TestCheckRoots(t *testing.T) {
	for _, u := range uses {
		for i, used := range []bool{u.r, u.a, u.b} {
			with := func(root int) api.Step {
				x := plain(u.kind)
				*[]*int{&x.R, &x.A, &x.B}[i] = root
				return x
			}
			for root := range api.MaxRoots {
				wantCheck(t, with(root), 0)
			}
			for _, root := range outside {
				want := 0
				if used {
					want = api.ErrRange
				}
				wantCheck(t, with(root), want)
			}
		}
	}
}

// P8.2: nothing that a kind does not use is asked, even if all of it is far off at once.
func TestCheckAsksOnlyWhatIsUsed(t *testing.T) {
	for _, x := range []api.Step{sInt(0, 0), sNil(0), sMove(0, 0), sPair(0, 0, 0), sVector(0, 0, 0), sWeak(0, 0, 0), sEphem(0, 0, 0),
		sGuard(0), sReg(0, 0), sPop(0, 0), sGet(0, 0, 0), sSet(0, 0, 0), sLen(0, 0), sSame(0, 0, 0), sMinor(), sMajor()} {
		wantCheck(t, x, 0)
	}
}

// P8.2: the field is not asked by Check, of no kind.
func TestCheckDoesNotAskTheField(t *testing.T) {
	for _, u := range uses {
		for _, i := range []int{-1, 2, api.MaxVector, math.MinInt, math.MaxInt} {
			x := plain(u.kind)
			x.I = i
			wantCheck(t, x, 0)
		}
	}
}

// P8.2: N of SInt and of SVector at their bounds, and beside; no other kind has one.
func TestCheckNumber(t *testing.T) {
	numbers := []int64{0, 1, -1, 11, 12, 13, 14, 1 << 32, -1 << 32, 1<<32 + 1, math.MinInt64, math.MaxInt64,
		-api.MaxInt - 1, -api.MaxInt, -api.MaxInt + 1, api.MaxInt - 1, api.MaxInt, api.MaxInt + 1}
	for _, u := range uses {
		for _, n := range numbers {
			x := plain(u.kind)
			x.N = n
			want := 0
			if u.kind == api.SInt && (n < -1<<60 || n > 1<<60-1) || u.kind == api.SVector && (n < 0 || n > 12) {
				want = api.ErrRange
			}
			wantCheck(t, x, want)
		}
	}
}

// P8.2: a kind that there is not is told ahead of roots and numbers that there are not.
func TestCheckTellsTheKindFirst(t *testing.T) {
	for _, kind := range noKinds {
		wantCheck(t, api.Step{Kind: kind, R: -1, A: -1, B: -1, I: -1, N: math.MaxInt64}, api.ErrKind)
		wantCheck(t, api.Step{Kind: kind, R: api.MaxRoots, N: -1}, api.ErrKind)
	}
	wantCheck(t, api.Step{Kind: api.SInt, R: -1, N: math.MinInt64}, api.ErrRange)
	wantCheck(t, api.Step{Kind: api.SVector, A: api.MaxRoots, N: 13}, api.ErrRange)
}
