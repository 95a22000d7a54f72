package trace_test

import (
	"math"
	"slices"
	"testing"

	"underwood/api"
	"underwood/trace"
	"underwood/twin"
)

func number(n int64) api.Val { return api.Val{Kind: api.VInt, N: n} }

func ref(n int64) api.Val { return api.Val{Kind: api.VRef, N: n} }

func gone() api.Val { return api.Val{Kind: api.VGone} }

// roots are these, and nothing in all others.
func roots(l ...api.Val) []api.Val { return append(l, make([]api.Val, api.MaxRoots-len(l))...) }

// P11.1: scripts, each with what it comes to, reckoned by hand.
func TestRun(t *testing.T) {
	for _, x := range []struct {
		name         string
		nursery, old int
		script       []api.Step
		want         answer
	}{
		{"a ring, and a cut", 16, 12, []api.Step{
			step(api.SInt, 0, 7), step(api.SPair, 1, 0, 0), step(api.SVector, 2, 1, 3), step(api.SSet, 1, 1, 2),
			step(api.SMinor), step(api.SLen, 0, 2), step(api.SGet, 3, 1, 0), step(api.SSame, 4, 1, 3), step(api.SMove, 5, 2),
		}, answer{make([]int, 9), api.View{
			Roots: roots(number(3), ref(0), ref(1), number(7), number(0), ref(1)),
			Nodes: []api.Node{
				{Kind: api.KPair, Fields: []api.Val{number(7), ref(1)}},
				{Kind: api.KVector, Fields: []api.Val{ref(0), ref(0), ref(0)}},
			},
		}}},
		{"a weak pair, an ephemeron and a guardian", 16, 32, []api.Step{
			step(api.SPair, 0, 9, 9), step(api.SWeak, 1, 0, 9), step(api.SEphem, 2, 0, 1), step(api.SGuard, 3),
			step(api.SVector, 4, 9, 1), step(api.SReg, 4, 3), step(api.SPop, 5, 3), step(api.SNil, 0), step(api.SNil, 4),
			step(api.SMajor), step(api.SPop, 5, 3), step(api.SPop, 6, 3),
		}, answer{[]int{0, 0, 0, 0, 0, 0, api.ErrNone, 0, 0, 0, 0, api.ErrNone}, api.View{
			Roots: roots(api.Val{}, ref(0), ref(1), ref(2), api.Val{}, ref(3)),
			Nodes: []api.Node{
				{Kind: api.KWeak, Fields: []api.Val{gone(), {}}},
				{Kind: api.KEphem, Fields: []api.Val{gone(), gone()}},
				{Kind: api.KGuard},
				{Kind: api.KVector, Fields: []api.Val{{}}},
			},
		}}},
		// Steps that are refused, by each code, and others behind them: the script goes on.
		{"steps that are refused", 16, 0, []api.Step{
			step(99), step(api.SMove, 0, 12), step(api.SGet, 0, 0, 0), step(api.SVector, 0, 0, 12), step(api.SGet, 1, 0, 12),
			step(api.SPair, 1, 0, 0), step(api.SMinor), step(api.SMajor), step(api.SLen, 1, 0), step(api.SGuard, 2),
			step(api.SPop, 0, 2), step(api.SReg, 0, 2), step(api.SReg, 1, 2), step(0),
		}, answer{
			[]int{
				api.ErrKind, api.ErrRange, api.ErrKind, 0, api.ErrRange,
				0, api.ErrFull, api.ErrFull, 0, api.ErrFull,
				api.ErrKind, api.ErrKind, api.ErrKind, api.ErrKind,
			},
			api.View{
				Roots: roots(ref(0), number(12)),
				Nodes: []api.Node{{Kind: api.KVector, Fields: make([]api.Val, 12)}},
			},
		}},
	} {
		t.Run(x.name, func(t *testing.T) {
			if got := run(t, x.nursery, x.old, x.script); !got.equal(x.want) {
				t.Errorf("Run = %v, want %v", got, x.want)
			}
			if want := byTwin(t, x.nursery, x.old, x.script); !want.equal(x.want) {
				t.Errorf("a twin tells %v, want %v", want, x.want)
			}
		})
	}
}

// P11.1: twin.New's fault, at the bounds of both spaces and one beside each, whatever the script is: ahead of ErrMany, too.
func TestRunSpaces(t *testing.T) {
	many := make([]api.Step, api.MaxSteps+1)
	pair := []api.Step{step(api.SPair, 0, 1, 1)}
	for _, nursery := range []int{api.MinNursery - 1, api.MinNursery, api.MaxNursery, api.MaxNursery + 1, 0, -1, math.MinInt, math.MaxInt} {
		for _, old := range []int{-1, 0, 1, api.MaxOld, api.MaxOld + 1, math.MinInt, math.MaxInt} {
			_, fault := twin.New(nursery, old)
			if nursery < 16 || nursery > 256 || old < 0 || old > 1024 {
				if fault != (api.Fault{Code: api.ErrRange, At: -1}) {
					t.Errorf("a twin of %d, %d has the fault %v", nursery, old, fault)
				}
				for _, l := range [][]api.Step{nil, pair, many} {
					wantFault(t, nursery, old, l, fault)
				}
				continue
			}
			if got, want := run(t, nursery, old, pair), byTwin(t, nursery, old, pair); !got.equal(want) || len(got.view.Nodes) != 1 {
				t.Errorf("Run(%d, %d) = %v, want %v", nursery, old, got, want)
			}
			wantFault(t, nursery, old, many, api.Fault{Code: api.ErrMany, At: -1})
		}
	}
}

// P11.1: the spaces are just so great: how many things of a chain have room tells that.
func TestRunHasJustSuchSpaces(t *testing.T) {
	l := slices.Repeat([]api.Step{step(api.SVector, 0, 0, 1)}, 700)
	for _, x := range []struct{ nursery, old, made int }{
		{16, 0, 8}, {16, 15, 8}, {16, 16, 16}, {16, 31, 16}, {16, 32, 24}, {256, 255, 128}, {256, 256, 256}, {256, 1023, 512}, {256, 1024, 640},
	} {
		got := run(t, x.nursery, x.old, l)
		for i, code := range got.codes {
			if (code == 0) != (i < x.made) || code != 0 && code != api.ErrFull {
				t.Errorf("Run(%d, %d): the step %d has the code %d", x.nursery, x.old, i, code)
				break
			}
		}
		if len(got.view.Nodes) != x.made {
			t.Errorf("Run(%d, %d): %d nodes, want %d", x.nursery, x.old, len(got.view.Nodes), x.made)
		}
	}
}

// P11.1: a script of no step.
func TestRunOfNoStep(t *testing.T) {
	want := answer{nil, api.View{Roots: make([]api.Val, api.MaxRoots)}}
	for _, l := range [][]api.Step{nil, {}, make([]api.Step, 0, 9)} {
		if got := run(t, 16, 0, l); !got.equal(want) {
			t.Errorf("Run of no step = %v", got)
		}
	}
}

// P11.1: MaxSteps steps are done, to the last; of one more none is.
func TestRunOfManySteps(t *testing.T) {
	for _, fill := range []api.Step{step(api.SInt, 0, 3), step(api.SPair, 1, 0, 0), step(99), {}, step(api.SMinor), step(api.SMajor)} {
		l := slices.Repeat([]api.Step{fill}, api.MaxSteps-1)
		l = append(l, step(api.SInt, 11, 5))
		got := run(t, 16, 16, l)
		if !got.equal(byTwin(t, 16, 16, l)) || len(got.codes) != api.MaxSteps || got.view.Roots[11] != number(5) {
			t.Errorf("of %v so often: %d codes, %v", fill, len(got.codes), got.view)
		}
		wantFault(t, 16, 16, append(l, fill), api.Fault{Code: api.ErrMany, At: -1})
		wantFault(t, 16, 16, append(l, l...), api.Fault{Code: api.ErrMany, At: -1})
	}
}

// P11.1: long scripts of all kinds of steps, in small spaces and in great ones: the codes, and the View, are a twin's own.
func TestRunIsATwin(t *testing.T) {
	codes := map[[2]int]int{}
	s := source(11)
	for _, x := range [][3]int{{16, 0, 200}, {16, 16, 300}, {16, 40, 400}, {17, 100, 500}, {32, 33, 500},
		{64, 200, 800}, {256, 0, 600}, {16, 1024, 1000}, {256, 1024, api.MaxSteps}} {
		for _, h := range habits() {
			for range 2 {
				l := h.script(x[2], &s)
				got, want := run(t, x[0], x[1], l), byTwin(t, x[0], x[1], l)
				if !got.equal(want) {
					t.Fatalf("Run(%d, %d, %v) = %v, want %v", x[0], x[1], l, got, want)
				}
				for i, code := range got.codes {
					codes[[2]int{l[i].Kind, code}]++
				}
			}
		}
	}
	wantAll(t, codes)
}

// wantAll holds that scripts came by each code of each kind of steps, so that they do not hold for want of trying.
func wantAll(t *testing.T, codes map[[2]int]int) {
	t.Helper()
	for kind := range 18 {
		want := []int{0, api.ErrRange}
		switch kind {
		case 0, 17:
			want = []int{api.ErrKind}
		case api.SPair, api.SVector, api.SWeak, api.SEphem, api.SGuard:
			want = append(want, api.ErrFull)
		case api.SReg:
			want = append(want, api.ErrKind, api.ErrFull)
		case api.SPop:
			want = append(want, api.ErrKind, api.ErrNone)
		case api.SGet, api.SSet, api.SLen:
			want = append(want, api.ErrKind)
		case api.SMinor, api.SMajor:
			want = []int{0, api.ErrFull}
		}
		for code := range 9 {
			if n := codes[[2]int{kind, code}]; (n > 2) != slices.Contains(want, code) {
				t.Errorf("the kind %d has the code %d %d times", kind, code, n)
			}
		}
	}
}

// P11.1: a step that is refused does not end a script, and changes nothing of what the others come to.
func TestRefusedStepsDoNotEndAScript(t *testing.T) {
	s := source(3)
	refused := []api.Step{{}, step(99), step(api.SNil, 12), step(api.SInt, 0, math.MinInt), step(api.SVector, 0, 0, 13), step(api.SPair, 0, -1, 0)}
	for _, h := range append(habits(), plainHabits()...) {
		for range 20 {
			l := h.script(80, &s)
			plain := run(t, 24, 60, l)
			var among []api.Step
			var places []int
			for _, x := range l {
				for s.below(3) == 0 {
					among = append(among, refused[s.below(len(refused))])
				}
				places = append(places, len(among))
				among = append(among, x)
			}
			got := run(t, 24, 60, among)
			if len(got.codes) != len(among) || !twin.Same(got.view, plain.view) {
				t.Fatalf("with steps that are refused %v came to %v, want %v", among, got, plain)
			}
			for i, p := range places {
				if got.codes[p] != plain.codes[i] {
					t.Fatalf("the step %v of %v has the code %d, want %d", l[i], among, got.codes[p], plain.codes[i])
				}
			}
		}
	}
}

// P11.1: the beginning of a script comes to the beginning of its codes.
func TestBeginnings(t *testing.T) {
	s := source(8)
	for _, h := range append(habits(), plainHabits()...) {
		l := h.script(150, &s)
		codes := run(t, 20, 50, l).codes
		for n := range len(l) + 1 {
			if got := run(t, 20, 50, l[:n]); !slices.Equal(got.codes, codes[:n]) {
				t.Fatalf("the first %d steps of %v have the codes %v, all %v", n, l, got.codes, codes)
			}
		}
	}
}

// P1: a script that is run again comes to the same, whatever was run in between, or is run beside it.
func TestRunsAreApart(t *testing.T) {
	s := source(21)
	var scripts [][]api.Step
	var were []answer
	for _, h := range append(habits(), plainHabits()...) {
		l := h.script(300, &s)
		scripts, were = append(scripts, l), append(were, byTwin(t, 32, 100, l))
	}
	for range 3 {
		for i, l := range scripts {
			if got := run(t, 32, 100, l); !got.equal(were[i]) {
				t.Fatalf("%v came to %v, alone to %v", l, got, were[i])
			}
			// Runs that have faults are none the less apart.
			wantFault(t, 1, 1, l, api.Fault{Code: api.ErrRange, At: -1})
		}
	}
	got := make(chan bool)
	for i, l := range scripts {
		go func() {
			codes, view, fault := trace.Run(32, 100, l)
			got <- were[i].equal(answer{codes, view}) && fault == (api.Fault{})
		}()
	}
	for range scripts {
		if !<-got {
			t.Error("a script that was run beside others came to something else")
		}
	}
}

// What Run answers is new memory: no other answer is changed by what is written into it, behind its end, too, nor is a later one.
func TestAnswersAreApart(t *testing.T) {
	s := source(40)
	l := habits()[0].script(300, &s)
	a, b := run(t, 64, 300, l), run(t, 64, 300, l)
	were := answer{slices.Clone(b.codes), cloneView(b.view)}
	lists := [][]api.Val{a.view.Roots}
	for i, n := range a.view.Nodes {
		lists = append(lists, n.Fields)
		a.view.Nodes[i].Kind = 77
	}
	for i, l := range lists {
		for j := range l[:cap(l)] {
			l[:cap(l)][j] = api.Val{Kind: 100 + i, N: int64(j)}
		}
	}
	for i, l := range lists {
		for j, x := range l {
			if x != (api.Val{Kind: 100 + i, N: int64(j)}) {
				t.Errorf("the list %d has %v at %d: another list shares it", i, x, j)
			}
		}
	}
	for i := range a.codes[:cap(a.codes)] {
		a.codes[:cap(a.codes)][i] = 77
	}
	if !b.equal(were) || !run(t, 64, 300, l).equal(were) {
		t.Error("what was written into an answer changed another one")
	}
}

// A script that was handed in is neither changed nor kept, by Run and by Without; nor is what lies behind its end read or changed.
func TestScriptsStay(t *testing.T) {
	s := source(50)
	for _, h := range append(habits(), plainHabits()...) {
		memory := h.script(120, &s)
		was := slices.Clone(memory)
		for _, n := range []int{0, 1, 60, 119, 120} {
			got, rest := run(t, 32, 100, memory[:n]), trace.Without(memory[:n])
			if !slices.Equal(memory, was) {
				t.Fatalf("a script was changed from %v to %v", was, memory)
			}
			if n != len(got.codes) || !got.equal(byTwin(t, 32, 100, was[:n])) {
				t.Fatalf("Run of %v = %v", was[:n], got)
			}
			ahead := answer{slices.Clone(got.codes), cloneView(got.view)}
			restAhead := slices.Clone(rest)
			for i := range memory {
				memory[i] = step(api.SInt, 0, 77)
			}
			if !got.equal(ahead) || !slices.Equal(rest, restAhead) {
				t.Fatal("what was answered changed when the script was")
			}
			copy(memory, was)
		}
	}
}

// P1: any spaces and any steps: each call ends, and tells what there is.
func TestAnySteps(t *testing.T) {
	s := source(60)
	anyInt := func() int {
		return []int{s.below(12), s.below(40) - 14, 1 << s.below(63), -1 << s.below(64), math.MaxInt}[s.below(5)]
	}
	for range 300 {
		var l []api.Step
		for range s.below(60) {
			l = append(l, api.Step{Kind: s.below(20) - 1, R: anyInt(), A: anyInt(), B: anyInt(), I: anyInt(), N: int64(anyInt())})
			if s.below(20) == 0 {
				l[len(l)-1].Kind = anyInt()
			}
		}
		trace.Run(anyInt(), anyInt(), l)
		trace.Run(anyInt(), anyInt(), trace.Without(l))
		for i, code := range run(t, 16+s.below(20), s.below(60), l).codes {
			if code < 0 || code > api.ErrNone {
				t.Fatalf("the step %v has the code %d", l[i], code)
			}
		}
	}
}
