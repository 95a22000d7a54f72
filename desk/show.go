package desk

import "underwood/api"

// show does 'view': roots, each node, and how many words are in use.
func (k *talk) show(numbers []int64) bool {
	if len(numbers) != 0 {
		return false
	}
	view := k.twin.View()
	k.tellValues(view.Roots, "roots")
	for i, n := range view.Nodes {
		k.tellValues(n.Fields, nodeName(int64(i)), thingWord(n.Kind))
	}
	young, old := k.twin.Used()
	k.tell("used", decimal(int64(young)), decimal(int64(old)))
	return true
}

// tellValues tells words, and values behind them.
func (k *talk) tellValues(values []api.Val, words ...string) {
	for _, v := range values {
		words = append(words, valueText(v))
	}
	k.tell(words...)
}

func valueText(v api.Val) string {
	switch v.Kind {
	case api.VNil:
		return "nil"
	case api.VGone:
		return "gone"
	case api.VRef:
		return nodeName(v.N)
	default: // VInt, the only one that is left
		return decimal(v.N)
	}
}

func nodeName(n int64) string { return "#" + decimal(n) }
