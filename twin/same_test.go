package twin_test

import (
	"math"
	"testing"

	"underwood/api"
	"underwood/twin"
)

// wantSame holds what Same answers of two views, either way round, and that it changes neither.
func wantSame(t *testing.T, name string, a, b api.View, want bool) {
	t.Helper()
	wasA, wasB := cloneView(a), cloneView(b)
	for _, got := range []bool{twin.Same(a, b), twin.Same(b, a), twin.Same(a, b)} {
		if got != want {
			t.Errorf("%s: Same(%v, %v) = %t", name, a, b, got)
		}
	}
	if !sameView(a, wasA) || !sameView(b, wasB) {
		t.Errorf("%s: Same changed what it was given", name)
	}
}

// sample answers a view in which there is a bit of all.
func sample() api.View {
	return api.View{
		Roots: []api.Val{number(8), ref(0), {}, gone(), ref(2)},
		Nodes: []api.Node{
			{Kind: api.KPair, Fields: []api.Val{number(8), ref(1)}},
			{Kind: api.KVector, Fields: []api.Val{{}, gone(), ref(0)}},
			{Kind: api.KGuard},
			{Kind: api.KEphem, Fields: []api.Val{ref(3), number(-1)}},
		},
	}
}

// Same of a view and itself, and of one like it.
func TestSameOfItself(t *testing.T) {
	v := sample()
	wantSame(t, "itself", v, v, true)
	wantSame(t, "one like it", v, sample(), true)
	wantSame(t, "a copy", v, cloneView(v), true)
	g := sown(t)
	wantSame(t, "a twin's", g.View(), g.View(), true)
	wantSame(t, "a twin's, and a heap's", g.View(), g.heap.View(), true)
	wantSame(t, "a twin's, and a grove's", g.View(), g.grove.View(), true)
	wantSame(t, "a twin's, and none", g.View(), api.View{}, false)
	wantSame(t, "a twin's, and another", g.View(), v, false)
}

// Same of views that differ in one thing alone.
func TestSameOfOthers(t *testing.T) {
	changes := map[string]func(v *api.View){
		"a root fewer":                  func(v *api.View) { v.Roots = v.Roots[:4] },
		"a root fewer at the front":     func(v *api.View) { v.Roots = v.Roots[1:] },
		"a root more":                   func(v *api.View) { v.Roots = append(v.Roots, api.Val{}) },
		"no roots":                      func(v *api.View) { v.Roots = nil },
		"two roots the other way round": func(v *api.View) { v.Roots[0], v.Roots[1] = v.Roots[1], v.Roots[0] },
		"a node fewer":                  func(v *api.View) { v.Nodes = v.Nodes[:3] },
		"a node fewer at the front":     func(v *api.View) { v.Nodes = v.Nodes[1:] },
		"a node more":                   func(v *api.View) { v.Nodes = append(v.Nodes, api.Node{}) },
		"no nodes":                      func(v *api.View) { v.Nodes = nil },
		"two nodes the other way round": func(v *api.View) { v.Nodes[0], v.Nodes[1] = v.Nodes[1], v.Nodes[0] },
		"a guardian with a field":       func(v *api.View) { v.Nodes[2].Fields = []api.Val{{}} },
	}
	for name, change := range changes {
		v := sample()
		change(&v)
		wantSame(t, name, sample(), v, false)
		wantSame(t, name+", and itself", v, v, true)
	}
}

// others answers values that differ from one in its kind alone, or in its number alone.
func others(v api.Val) []api.Val {
	var l []api.Val
	for _, kind := range []int{api.VNil, api.VInt, api.VGone, api.VRef, -1, 4, v.Kind + 1<<32, math.MaxInt} {
		if kind != v.Kind {
			l = append(l, api.Val{Kind: kind, N: v.N})
		}
	}
	for _, n := range []int64{v.N + 1, v.N - 1, v.N + 1<<32, math.MinInt64, math.MaxInt64} {
		l = append(l, api.Val{Kind: v.Kind, N: n})
	}
	return l
}

// Same of views that differ in one root: its kind, its number.
func TestSameOfOneRoot(t *testing.T) {
	for i, r := range sample().Roots {
		for _, other := range others(r) {
			v := sample()
			v.Roots[i] = other
			wantSame(t, "one root", sample(), v, false)
		}
	}
}

// Same of views that differ in one node: its kind, how many fields it has, one of them.
func TestSameOfOneNode(t *testing.T) {
	for i, n := range sample().Nodes {
		for _, kind := range []int{0, 1, 2, 3, 4, 5, 6, -1, n.Kind + 1<<32, math.MinInt} {
			v := sample()
			v.Nodes[i].Kind = kind
			wantSame(t, "a node's kind", sample(), v, kind == n.Kind)
		}
		for fields := range len(n.Fields) {
			v := sample()
			v.Nodes[i].Fields = n.Fields[:fields]
			wantSame(t, "fewer fields", sample(), v, false)
		}
		v := sample()
		v.Nodes[i].Fields = append(v.Nodes[i].Fields, api.Val{})
		wantSame(t, "more fields", sample(), v, false)
		for j, f := range n.Fields {
			for _, other := range others(f) {
				v := sample()
				v.Nodes[i].Fields[j] = other
				wantSame(t, "one field", sample(), v, false)
			}
		}
	}
}

// Same of lists that are nil and of empty ones, and of a view without roots and nodes.
func TestSameOfEmptyLists(t *testing.T) {
	none := [][]api.Val{nil, {}, make([]api.Val, 0, 4)}
	nodes := [][]api.Node{nil, {}, make([]api.Node, 0, 4)}
	for _, a := range none {
		for _, b := range none {
			for _, c := range nodes {
				for _, d := range nodes {
					wantSame(t, "no roots, no nodes", api.View{Roots: a, Nodes: c}, api.View{Roots: b, Nodes: d}, true)
					roots := []api.Val{number(3)}
					wantSame(t, "no nodes", api.View{Roots: roots, Nodes: c}, api.View{Roots: roots, Nodes: d}, true)
					wantSame(t, "one root, or none", api.View{Roots: roots, Nodes: c}, api.View{Roots: a, Nodes: d}, false)
				}
			}
			node := func(fields []api.Val) api.View {
				return api.View{Nodes: []api.Node{{Kind: api.KVector, Fields: fields}}}
			}
			wantSame(t, "no fields", node(a), node(b), true)
			wantSame(t, "one field, or none", node(a), node([]api.Val{{}}), false)
			wantSame(t, "one node, or none", node(a), api.View{Roots: b}, false)
		}
	}
	wantSame(t, "the empty view", api.View{}, api.View{}, true)
	wantSame(t, "a view, and the empty one", sample(), api.View{}, false)
	wantSame(t, "a root that is nothing, and no root", api.View{Roots: []api.Val{{}}}, api.View{}, false)
}

// What lies behind a list's length in its memory is not read.
func TestSameBehindTheLength(t *testing.T) {
	cut := func(last api.Val) api.View {
		roots := []api.Val{number(1), last}
		fields := []api.Val{number(2), last}
		nodes := []api.Node{{Kind: api.KVector, Fields: fields[:1]}, {Kind: int(last.N)}}
		return api.View{Roots: roots[:1], Nodes: nodes[:1]}
	}
	wantSame(t, "other values behind the lengths", cut(number(3)), cut(gone()), true)
}

// P1: Same of views that no twin tells: it ends, and nodes to which values lead are not asked for.
func TestSameOfAnyViews(t *testing.T) {
	odd := func(n int64) api.View {
		return api.View{
			Roots: []api.Val{ref(n), ref(-1), ref(math.MaxInt64), {Kind: 99, N: n}},
			Nodes: []api.Node{{Kind: -5, Fields: []api.Val{ref(0), ref(math.MinInt64)}}},
		}
	}
	wantSame(t, "odd views", odd(7), odd(7), true)
	wantSame(t, "odd views", odd(7), odd(8), false)
}

// Same of each view of a script and each other one: it holds just of those that show the same.
func TestSameOfViewsOfAScript(t *testing.T) {
	g := newGround(t, 32, 64)
	s := source(8)
	views := []api.View{{}, {}}
	for range 150 {
		g.step(habits()[0].any(&s))
		views = append(views, g.View())
	}
	equal := 0
	for _, a := range views {
		for _, b := range views {
			if want := sameView(a, b); twin.Same(a, b) != want {
				t.Fatalf("Same(%v, %v) = %t", a, b, !want)
			} else if want {
				equal++
			}
		}
	}
	if equal == len(views) || equal == len(views)*len(views) {
		t.Errorf("%d of views are the same: nothing is held", equal)
	}
}
