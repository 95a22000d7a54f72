package trace_test

import (
	"slices"
	"testing"

	"underwood/api"
	"underwood/trace"
	"underwood/twin"
)

func isCut(x api.Step) bool { return x.Kind == api.SMinor || x.Kind == api.SMajor }

// ofOthers answers what a run comes to, but the codes of cuts.
func (a answer) ofOthers(l []api.Step) answer {
	var codes []int
	for i, x := range l {
		if !isCut(x) {
			codes = append(codes, a.codes[i])
		}
	}
	return answer{codes, a.view}
}

func (a answer) isFull() bool { return slices.Contains(a.codes, api.ErrFull) }

// everywhere answers a script with a cut ahead of each step, and at its end.
func everywhere(l []api.Step, cut api.Step) []api.Step {
	cuts := []api.Step{cut}
	for _, x := range l {
		cuts = append(cuts, x, cut)
	}
	return cuts
}

// anywhere answers a script with cuts of both kinds among its steps, one of so many.
func anywhere(l []api.Step, seldom int, s *source) []api.Step {
	var cuts []api.Step
	for _, x := range l {
		for s.below(seldom) == 0 {
			cuts = append(cuts, step(api.SMinor+s.below(2)))
		}
		cuts = append(cuts, x)
	}
	return cuts
}

// otherCuts answers scripts that are the same but for their cuts: as it is, without them, and with others.
func otherCuts(l []api.Step, s *source) [][]api.Step {
	rest := trace.Without(l)
	return [][]api.Step{
		l, rest, everywhere(rest, step(api.SMinor)), everywhere(rest, step(api.SMajor)), everywhere(l, step(api.SMajor)),
		anywhere(rest, 2, s), anywhere(rest, 10, s), anywhere(l, 5, s),
	}
}

// spaces are small ones, in which cuts are made for room, and great ones, in which short scripts need none.
func spaces() [][2]int {
	return [][2]int{{16, 40}, {16, 200}, {16, 1024}, {17, 333}, {40, 64}, {64, 500}, {100, 1000}, {256, 0}, {256, 256}, {256, 1024}}
}

// tally is how many runs were held against each other, and how many were not, as they had ErrFull.
type tally struct{ held, full int }

// wantSame holds that a script comes to the same whatever its cuts and the spaces are, as far as no step has ErrFull.
func wantSame(t *testing.T, l []api.Step, s *source, n *tally) {
	t.Helper()
	// In the greatest spaces no script that is held is to be full, so that there is something to hold the others against.
	want := run(t, api.MaxNursery, api.MaxOld, trace.Without(l))
	if want.isFull() {
		t.Fatalf("of %v a step has ErrFull", l)
	}
	for _, x := range spaces() {
		for _, cuts := range otherCuts(l, s) {
			got := run(t, x[0], x[1], cuts)
			if got.isFull() {
				n.full++
				continue
			}
			n.held++
			if got = got.ofOthers(cuts); !got.equal(want) {
				t.Fatalf("Run(%d, %d, %v) = %v, and with other cuts, in other spaces, %v", x[0], x[1], cuts, got, want)
			}
		}
	}
}

// CUTS DO NOT MATTER: scripts of rings, chains, old things that lead to young ones, and things that are lost.
func TestCutsDoNotMatter(t *testing.T) {
	minor, major := step(api.SMinor), step(api.SMajor)
	for name, l := range map[string][]api.Step{
		"no step": nil,
		"cuts":    {minor, major, minor},
		"a ring through both spaces": {
			step(api.SPair, 0, 9, 9), minor, step(api.SVector, 1, 0, 3), step(api.SSet, 0, 1, 1), step(api.SNil, 1),
			minor, step(api.SGet, 2, 0, 1), step(api.SGet, 3, 2, 2), step(api.SSame, 4, 3, 0), major,
		},
		"an old thing leads to young ones": {
			step(api.SVector, 0, 9, 12), major, step(api.SInt, 1, 8), step(api.SPair, 2, 1, 1), step(api.SSet, 0, 3, 2),
			step(api.SPair, 2, 2, 1), step(api.SSet, 0, 11, 2), step(api.SNil, 2), minor, step(api.SGet, 5, 0, 11), minor,
		},
		"what is lost": {
			step(api.SVector, 0, 9, 5), step(api.SVector, 1, 0, 2), step(api.SNil, 0), minor, step(api.SNil, 1), major,
			step(api.SPair, 1, 0, 0), step(api.SGet, 0, 0, 0), step(api.SLen, 2, 1),
		},
		"steps that are refused": {
			step(99), minor, step(api.SGet, 0, 0, 0), major, step(api.SReg, 0, 0), step(api.SPop, 0, 0), minor, step(api.SNil, 12),
			step(api.SPair, 3, 3, 3), step(api.SReg, 3, 3), minor, step(api.SPop, 0, 3), step(api.SSet, 3, 2, 3), {},
		},
		// Things at other places are the same ones, and not the same as others that show the same.
		"same or not": {
			step(api.SPair, 0, 9, 9), step(api.SPair, 1, 9, 9), step(api.SMove, 2, 0), minor, step(api.SSame, 3, 0, 1), step(api.SSame, 4, 0, 2),
			step(api.SPair, 5, 9, 9), step(api.SNil, 0), major, step(api.SSame, 6, 5, 1), step(api.SSame, 7, 2, 2), minor,
		},
	} {
		t.Run(name, func(t *testing.T) {
			s, n := source(1), &tally{}
			wantSame(t, l, &s, n)
			if n.held < 70 {
				t.Errorf("%d runs were held against each other, %d had ErrFull", n.held, n.full)
			}
		})
	}
}

// CUTS DO NOT MATTER: a chain that grows while what is lost is cut away, in spaces that are filled many times.
func TestCutsDoNotMatterToAChain(t *testing.T) {
	var l []api.Step
	for i := range 60 {
		l = append(l, step(api.SInt, 1, i), step(api.SVector, 2, 0, 3), step(api.SPair, 0, 1, 0), step(api.SVector, 3, 2, 4))
		if i%20 == 10 {
			l = append(l, step(api.SNil, 0), step(api.SMajor))
		}
		if i%7 == 0 {
			l = append(l, step(api.SMinor))
		}
	}
	s, n := source(2), &tally{}
	wantSame(t, l, &s, n)
	if n.held < 50 {
		t.Errorf("%d runs were held against each other, %d had ErrFull", n.held, n.full)
	}
}

// CUTS DO NOT MATTER: any scripts without weak pairs, ephemerons and guardians.
func TestCutsDoNotMatterToAnyScript(t *testing.T) {
	s, n := source(70), &tally{}
	for _, h := range plainHabits() {
		for _, steps := range []int{10, 50, 120, 250} {
			for range 4 {
				wantSame(t, h.script(steps, &s), &s, n)
			}
		}
	}
	if n.held < 1500 || n.full < 100 {
		t.Errorf("%d runs were held against each other, %d had ErrFull", n.held, n.full)
	}
}

// Cuts matter to weak pairs, to ephemerons and to guardians: they are done, though no other script shows it.
func TestCutsMatterToSomeThings(t *testing.T) {
	for name, l := range map[string][]api.Step{
		"weak pair": {step(api.SPair, 0, 9, 9), step(api.SWeak, 1, 0, 9), step(api.SNil, 0)},
		"ephemeron": {step(api.SPair, 0, 9, 9), step(api.SEphem, 1, 0, 9), step(api.SNil, 0)},
		"guardian":  {step(api.SPair, 0, 9, 9), step(api.SGuard, 1), step(api.SReg, 0, 1), step(api.SNil, 0)},
	} {
		for _, kind := range []int{api.SMinor, api.SMajor} {
			cut := append(slices.Clone(l), step(kind))
			if twin.Same(run(t, 16, 16, cut).view, run(t, 16, 16, trace.Without(cut)).view) {
				t.Errorf("%s: the cut %d changes nothing", name, kind)
			}
		}
	}
}

// What has ErrFull hangs on cuts and spaces, and then so does the View: here a cut lets the nursery hold
// as much again as what came to the old space, and without it there is no room.
func TestCutsMatterWhereItIsFull(t *testing.T) {
	l := []api.Step{step(api.SVector, 0, 9, 7), step(api.SMajor), step(api.SVector, 1, 9, 7), step(api.SVector, 2, 9, 7)}
	for _, x := range []struct {
		old    int
		script []api.Step
		codes  []int
		nodes  int
	}{
		{8, l, []int{0, 0, 0, 0}, 3},
		{8, trace.Without(l), []int{0, 0, api.ErrFull}, 2},
		{7, l, []int{0, api.ErrFull, 0, api.ErrFull}, 2},
		{16, trace.Without(l), []int{0, 0, 0}, 3},
	} {
		if got := run(t, 16, x.old, x.script); !slices.Equal(got.codes, x.codes) || len(got.view.Nodes) != x.nodes {
			t.Errorf("Run(16, %d, %v) = %v; want the codes %v, and %d nodes", x.old, x.script, got, x.codes, x.nodes)
		}
	}
}
