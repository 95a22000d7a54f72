package wood

import (
	"underwood/api"
	"underwood/word"
)

// unmet stands in place of the number of a thing that was not met yet.
const unmet = -1

// walk is a wood that is gone through: the number of each of its things, by where it begins, and the nodes of those that were met.
type walk struct {
	*Wood
	numbers map[int]int
	nodes   []api.Node
}

// View answers what roots lead to.
func (w *Wood) View() api.View {
	k := newWalk(w)
	roots := k.values(w.Roots)
	return api.View{Roots: roots, Nodes: k.nodes}
}

func newWalk(w *Wood) *walk {
	k := &walk{Wood: w, numbers: make(map[int]int)}
	young, old := w.Things()
	for _, at := range young {
		k.numbers[at] = unmet
	}
	for _, at := range old {
		k.numbers[at] = unmet
	}
	return k
}

func (k *walk) values(words []int64) []api.Val {
	values := make([]api.Val, 0, len(words))
	for _, x := range words {
		values = append(values, k.value(x))
	}
	return values
}

// value answers a word as it is shown. One that is no value, or leads to a place at which no thing begins,
// is shown as nothing, since there is no node to which it could lead.
func (k *walk) value(x int64) api.Val {
	v, _ := word.Decode(x)
	if v.Kind != api.VRef {
		return v
	}
	n, ok := k.number(int(v.N))
	if !ok {
		return api.Val{}
	}
	return api.Val{Kind: api.VRef, N: int64(n)}
}

// number answers the number of the thing at a place, which is met if it was not yet; false: no thing begins there.
func (k *walk) number(at int) (int, bool) {
	n, ok := k.numbers[at]
	if ok && n == unmet {
		n = k.meet(at)
	}
	return n, ok
}

// meet takes the next number for a thing ahead of going through its fields, which may lead back to it.
func (k *walk) meet(at int) int {
	n := len(k.nodes)
	k.numbers[at] = n
	kind, fields, _ := k.Thing(at)
	k.nodes = append(k.nodes, api.Node{Kind: kind})
	// Nodes that are met meanwhile may lie in another list: it is asked for behind them.
	values := k.values(k.shown(at, kind, fields))
	k.nodes[n].Fields = values
	return n
}

// shown answers the words that a node shows: the thing's fields, or what waits at a guardian.
func (k *walk) shown(at, kind, fields int) []int64 {
	if kind == api.KGuard {
		return k.Side.At(word.Ref(at))
	}
	var words []int64
	for i := range k.standing(at, fields) {
		words = append(words, k.Load(at+1+i))
	}
	return words
}
