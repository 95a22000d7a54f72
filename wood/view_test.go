package wood_test

import (
	"slices"
	"testing"

	"underwood/api"
	"underwood/side"
	"underwood/wood"
	"underwood/word"
)

var none = api.Val{}

func ref(n int64) api.Val   { return api.Val{Kind: api.VRef, N: n} }
func value(n int64) api.Val { return api.Val{Kind: api.VInt, N: n} }
func gone() api.Val         { return api.Val{Kind: api.VGone} }

func node(kind int, fields ...api.Val) api.Node { return api.Node{Kind: kind, Fields: fields} }
func pairNode(a, b api.Val) api.Node            { return node(api.KPair, a, b) }

func sameView(a, b api.View) bool {
	return slices.Equal(a.Roots, b.Roots) && slices.EqualFunc(a.Nodes, b.Nodes, func(x, y api.Node) bool {
		return x.Kind == y.Kind && slices.Equal(x.Fields, y.Fields)
	})
}

// wantView holds what is shown against the first roots, the others being nothing, and the nodes.
func wantView(t *testing.T, w *wood.Wood, roots []api.Val, nodes ...api.Node) {
	t.Helper()
	want := api.View{Roots: make([]api.Val, api.MaxRoots), Nodes: nodes}
	copy(want.Roots, roots)
	unchanged(t, w, "View", func() {
		if got := w.View(); !sameView(got, want) {
			t.Errorf("View() = %v, want %v", got, want)
		}
	})
}

// plant makes words the first roots.
func plant(w *wood.Wood, roots ...int64) {
	for i := range w.Roots {
		w.Roots[i] = word.Nil()
	}
	copy(w.Roots, roots)
}

// wait lets things wait at a guardian, as a cut does it.
func wait(w *wood.Wood, guard int64, things ...int64) {
	for _, x := range things {
		w.Side.Wait = append(w.Side.Wait, side.Entry{Guard: guard, Thing: x})
	}
}

// P5.4: values as they are; and those that are none, or lead to no thing, as nothing.
func TestViewNowhere(t *testing.T) {
	w := newWood(t, 16, 16)
	wantView(t, w, nil)
	plant(w, number(0), number(-7), word.Gone(), word.Nil(), number(api.MaxInt-1), number(-api.MaxInt))
	wantView(t, w, []api.Val{value(0), value(-7), gone(), none, value(api.MaxInt - 1), value(-api.MaxInt)})
	old(t, w, api.KPair, 2)
	for _, x := range strays() {
		v, _ := word.Decode(x)
		if v.Kind == api.VRef {
			v = none
		}
		plant(w, x, word.Ref(0), x)
		link(t, w, word.Ref(0), x, number(4))
		wantView(t, w, []api.Val{v, ref(0), v}, pairNode(v, value(4)))
	}
}

// P5.4: the last root is shown, too.
func TestViewEveryRoot(t *testing.T) {
	w := newWood(t, 64, 16)
	want := api.View{}
	for i := range api.MaxRoots {
		w.Roots[i] = young(t, w, api.KVector, 1)
		link(t, w, w.Roots[i], number(int64(i)))
		want.Roots = append(want.Roots, ref(int64(i)))
		want.Nodes = append(want.Nodes, node(api.KVector, value(int64(i))))
	}
	wantView(t, w, want.Roots, want.Nodes...)
}

// P5.4: one thing, several times.
func TestViewShared(t *testing.T) {
	w := newWood(t, 16, 16)
	a, b := young(t, w, api.KPair, 2), young(t, w, api.KPair, 2)
	link(t, w, a, b, b)
	link(t, w, b, number(1), number(2))
	plant(w, b, a, b, a)
	wantView(t, w, []api.Val{ref(0), ref(1), ref(0), ref(1)}, pairNode(value(1), value(2)), pairNode(ref(0), ref(0)))
}

// P5.4: things that are alike are still two.
func TestViewAlike(t *testing.T) {
	w := newWood(t, 16, 16)
	plant(w, young(t, w, api.KVector, 0), young(t, w, api.KVector, 0))
	wantView(t, w, []api.Val{ref(0), ref(1)}, node(api.KVector), node(api.KVector))
}

// P5.4: things that lead to themselves, and round in a ring, young and old ones in turn.
func TestViewRings(t *testing.T) {
	w := newWood(t, 32, 32)
	a, b, c, d := young(t, w, api.KPair, 2), old(t, w, api.KVector, 1), young(t, w, api.KEphem, 2), old(t, w, api.KWeak, 2)
	link(t, w, a, a, a)
	plant(w, a)
	wantView(t, w, []api.Val{ref(0)}, pairNode(ref(0), ref(0)))
	link(t, w, a, b, d)
	link(t, w, b, c)
	link(t, w, c, d, b)
	link(t, w, d, a, c)
	wantView(t, w, []api.Val{ref(0)},
		pairNode(ref(1), ref(3)), node(api.KVector, ref(2)), node(api.KEphem, ref(3), ref(1)), node(api.KWeak, ref(0), ref(2)))
	plant(w, number(9), d, b)
	wantView(t, w, []api.Val{value(9), ref(0), ref(2)},
		node(api.KWeak, ref(1), ref(3)), pairNode(ref(2), ref(0)), node(api.KVector, ref(3)), node(api.KEphem, ref(0), ref(2)))
}

// P5.4: a thing is met with all that it leads to, ahead of the next field, and of the next root.
func TestViewOrder(t *testing.T) {
	w := newWood(t, 64, 16)
	leaf := func(n int64) int64 {
		x := young(t, w, api.KVector, 1)
		link(t, w, x, number(n))
		return x
	}
	top, left, right, last := young(t, w, api.KVector, 3), young(t, w, api.KPair, 2), young(t, w, api.KPair, 2), leaf(5)
	one, two, three, four := leaf(1), leaf(2), leaf(3), leaf(4)
	link(t, w, top, right, left, last)
	link(t, w, left, one, two)
	link(t, w, right, three, four)
	plant(w, top, two)
	leafNode := func(n int64) api.Node { return node(api.KVector, value(n)) }
	wantView(t, w, []api.Val{ref(0), ref(6)},
		node(api.KVector, ref(1), ref(4), ref(7)), pairNode(ref(2), ref(3)), leafNode(3), leafNode(4),
		pairNode(ref(5), ref(6)), leafNode(1), leafNode(2), leafNode(5))
	// What a root leads to is met ahead of the roots behind it, a thing that leads to it among them.
	plant(w, two, left, right, top)
	wantView(t, w, []api.Val{ref(0), ref(1), ref(3), ref(6)},
		leafNode(2), pairNode(ref(2), ref(0)), leafNode(1), pairNode(ref(4), ref(5)), leafNode(3), leafNode(4),
		node(api.KVector, ref(3), ref(1), ref(7)), leafNode(5))
}

// P5.4: a thing that is met within the first field is not met anew at the second one, nor has a lower number.
func TestViewDeepAhead(t *testing.T) {
	w := newWood(t, 64, 16)
	a, b, c, d := young(t, w, api.KPair, 2), young(t, w, api.KPair, 2), young(t, w, api.KPair, 2), young(t, w, api.KPair, 2)
	link(t, w, a, b, d)
	link(t, w, b, c, number(1))
	link(t, w, c, d, number(2))
	plant(w, a)
	wantView(t, w, []api.Val{ref(0)},
		pairNode(ref(1), ref(3)), pairNode(ref(2), value(1)), pairNode(ref(3), value(2)), pairNode(none, none))
}

// P5.4: things to which no root leads are not shown, though they lead to some that are.
func TestViewUnled(t *testing.T) {
	w := newWood(t, 64, 64)
	lost, found := old(t, w, api.KPair, 2), young(t, w, api.KPair, 2)
	guard := young(t, w, api.KGuard, 0)
	link(t, w, lost, found, guard)
	wait(w, guard, lost)
	w.Side.Reg(side.Entry{Guard: guard, Thing: lost})
	plant(w, number(1))
	wantView(t, w, []api.Val{value(1)})
	plant(w, number(1), found)
	wantView(t, w, []api.Val{value(1), ref(0)}, pairNode(none, none))
}

// P5.4: each kind's fields, of young and of old things: weak pairs and ephemerons show all of theirs.
func TestViewKinds(t *testing.T) {
	for _, make := range []func(*testing.T, *wood.Wood, int, int) int64{young, old} {
		for _, k := range kinds() {
			w := newWood(t, 64, 64)
			x := make(t, w, k[0], k[1])
			words := []int64{x, number(8), word.Gone(), word.Nil(), word.Ref(63)}
			values := []api.Val{ref(0), value(8), gone(), none, none}
			for from := range words {
				want := node(k[0])
				for i := range k[1] {
					w.Set(x, i, words[(from+i)%len(words)])
					want.Fields = append(want.Fields, values[(from+i)%len(values)])
				}
				plant(w, x)
				wantView(t, w, []api.Val{ref(0)}, want)
			}
		}
	}
}

// P5.4: what waits at a guardian, in order, some of it met before, once or twice; what is registered is not shown.
func TestViewGuardian(t *testing.T) {
	w := newWood(t, 64, 64)
	g, other := young(t, w, api.KGuard, 0), old(t, w, api.KGuard, 0)
	a, b, c := young(t, w, api.KPair, 2), young(t, w, api.KVector, 1), old(t, w, api.KPair, 2)
	link(t, w, a, number(1), b)
	link(t, w, b, number(2))
	link(t, w, c, g, other)
	w.Side.Reg(side.Entry{Guard: g, Thing: c})
	plant(w, g)
	wantView(t, w, []api.Val{ref(0)}, node(api.KGuard))
	plant(w, other)
	wantView(t, w, []api.Val{ref(0)}, node(api.KGuard))
	wait(w, g, a)
	wait(w, other, b)
	wait(w, g, c, b, a)
	plant(w, b, g)
	wantView(t, w, []api.Val{ref(0), ref(1)},
		node(api.KVector, value(2)), node(api.KGuard, ref(2), ref(3), ref(0), ref(2)), pairNode(value(1), ref(0)),
		pairNode(ref(1), ref(4)), node(api.KGuard, ref(0)))
	plant(w, g, c)
	wantView(t, w, []api.Val{ref(0), ref(3)},
		node(api.KGuard, ref(1), ref(3), ref(2), ref(1)), pairNode(value(1), ref(2)), node(api.KVector, value(2)),
		pairNode(ref(0), ref(4)), node(api.KGuard, ref(2)))
}

// P5.4: a guardian may wait at itself, and at another one that waits at it.
func TestViewGuardiansInRing(t *testing.T) {
	w := newWood(t, 16, 16)
	g, h := young(t, w, api.KGuard, 0), old(t, w, api.KGuard, 0)
	wait(w, g, g, h)
	wait(w, h, g)
	plant(w, g)
	wantView(t, w, []api.Val{ref(0)}, node(api.KGuard, ref(0), ref(1)), node(api.KGuard, ref(0)))
}

// P5.4: as many as may wait.
func TestViewGuardianFull(t *testing.T) {
	w := newWood(t, 64, 16)
	g := young(t, w, api.KGuard, 0)
	want := api.View{Nodes: []api.Node{node(api.KGuard)}}
	for i := range api.MaxRegs {
		x := young(t, w, api.KVector, 1)
		link(t, w, x, number(int64(i)))
		wait(w, g, x)
		want.Nodes[0].Fields = append(want.Nodes[0].Fields, ref(int64(1+i)))
		want.Nodes = append(want.Nodes, node(api.KVector, value(int64(i))))
	}
	plant(w, g)
	wantView(t, w, []api.Val{ref(0)}, want.Nodes...)
}

// P5.4: chains through both spaces, as long as they can be: by the first field, by the last one, and back.
func TestViewLongChains(t *testing.T) {
	for _, back := range []bool{false, true} {
		w := newWood(t, 256, 1024)
		var chain []int64
		for range 512 {
			chain = append(chain, old(t, w, api.KVector, 1))
			w.Clear()
		}
		for range 128 {
			chain = append(chain, young(t, w, api.KVector, 1))
		}
		if back {
			slices.Reverse(chain)
		}
		var want []api.Node
		for i, x := range chain[:len(chain)-1] {
			link(t, w, x, chain[i+1])
			want = append(want, node(api.KVector, ref(int64(i+1))))
		}
		last := chain[len(chain)-1]
		link(t, w, last, number(77))
		plant(w, chain[0])
		wantView(t, w, []api.Val{ref(0)}, append(want, node(api.KVector, value(77)))...)
		link(t, w, last, chain[0])
		wantView(t, w, []api.Val{ref(0)}, append(want, node(api.KVector, ref(0)))...)
	}
}

// P5.4: a chain in which each thing leads ahead and back.
func TestViewLongPairs(t *testing.T) {
	w := newWood(t, 256, 1024)
	var chain []int64
	for range 341 {
		chain = append(chain, old(t, w, api.KPair, 2))
		w.Clear()
	}
	var want []api.Node
	for i, x := range chain {
		ahead, behind := max(i-1, 0), min(i+1, len(chain)-1)
		link(t, w, x, chain[ahead], chain[behind])
		want = append(want, pairNode(ref(int64(ahead)), ref(int64(behind))))
	}
	plant(w, chain[0])
	wantView(t, w, []api.Val{ref(0)}, want...)
}

// What is answered is new memory: no list of it shares any with another one, nor with the wood.
func TestViewNewMemory(t *testing.T) {
	w := newWood(t, 64, 64)
	g, a, b := young(t, w, api.KGuard, 0), young(t, w, api.KVector, 5), old(t, w, api.KPair, 2)
	link(t, w, a, g, b, a, number(3), word.Gone())
	link(t, w, b, a, g)
	wait(w, g, b, a)
	plant(w, a, b, g, number(5))
	want := w.View()
	unchanged(t, w, "what was answered", func() {
		got := w.View()
		for _, list := range listsOf(got) {
			spoil(list)
		}
		got.Nodes[0] = api.Node{}
		_ = append(got.Nodes[:1], api.Node{})
	})
	if got := w.View(); !sameView(got, want) {
		t.Errorf("View() = %v, want %v", got, want)
	}
	for i := range listsOf(want) {
		ahead, behind := w.View(), w.View()
		spoil(listsOf(behind)[i])
		for j, list := range listsOf(behind) {
			if j != i && !slices.Equal(list, listsOf(ahead)[j]) {
				t.Errorf("the lists %d and %d share memory", i, j)
			}
		}
	}
}

func listsOf(v api.View) [][]api.Val {
	l := [][]api.Val{v.Roots}
	for _, n := range v.Nodes {
		l = append(l, n.Fields)
	}
	return l
}

// spoil writes all of a list's memory, what lies behind its length, too.
func spoil(list []api.Val) {
	list = list[:cap(list)]
	for i := range list {
		list[i] = api.Val{Kind: 9, N: 99}
	}
}

// What is asked twice is told twice alike.
func TestViewAgain(t *testing.T) {
	w := newWood(t, 256, 256)
	s := source(5)
	m := newModel(256, 256)
	for range 400 {
		m.step(t, w, &s)
	}
	want := w.View()
	for range 20 {
		if got := w.View(); !sameView(got, want) {
			t.Fatalf("View() = %v, and then %v", want, got)
		}
	}
}
