package grove

import "underwood/api"

// walk is a grove that is gone through: the nodes of the things that were met, and which node each of them is.
type walk struct {
	*Grove
	met   map[int64]int64
	nodes []api.Node
}

// View answers what roots lead to.
func (g *Grove) View() api.View {
	k := &walk{Grove: g, met: make(map[int64]int64)}
	roots := k.values(g.roots)
	return api.View{Roots: roots, Nodes: k.nodes}
}

// values answers values as they are shown: those that lead to things lead to nodes.
func (k *walk) values(list []api.Val) []api.Val {
	values := make([]api.Val, 0, len(list))
	for _, v := range list {
		if v.Kind == api.VRef {
			v.N = k.node(v.N)
		}
		values = append(values, v)
	}
	return values
}

// node answers which node a thing is; it is met, if it was not yet.
func (k *walk) node(number int64) int64 {
	n, ok := k.met[number]
	if !ok {
		n = k.meet(number)
	}
	return n
}

// meet takes the next node for a thing ahead of going through its fields, which may lead back to it.
func (k *walk) meet(number int64) int64 {
	n := len(k.nodes)
	k.met[number] = int64(n)
	k.nodes = append(k.nodes, api.Node{Kind: k.things[number].kind})
	// Nodes that are met meanwhile may lie in another list: it is asked for behind them.
	values := k.values(k.shown(number))
	k.nodes[n].Fields = values
	return int64(n)
}

// shown answers what a node shows: the thing's fields, or what waits at a guardian.
func (k *walk) shown(number int64) []api.Val {
	th := k.things[number]
	if th.kind != api.KGuard {
		return th.fields
	}
	var waiting []api.Val
	for _, w := range k.beside.At(number) {
		waiting = append(waiting, refValue(w))
	}
	return waiting
}
