package cursor

import (
	"cmp"
	"slices"

	"gazetteer/api"
	"gazetteer/key"
)

// pop takes the last one from a stack of at least one.
func pop(stack *[]api.Seen) api.Seen {
	last := len(*stack) - 1
	s := (*stack)[last]
	*stack = (*stack)[:last]
	return s
}

// staying is what is open behind nodes' going. As the stack is worked off from its end, what one gives way to has its turn in its place; so what stays comes in the order turned round. What stays is never less again: more than MaxOpen is so for good.
func staying(t api.Tree, c api.Cursor, gone []uint32) ([]api.Seen, api.Errno) {
	sorted := slices.Sorted(slices.Values(gone))
	went := func(id uint32) bool {
		_, found := slices.BinarySearch(sorted, id)
		return found
	}
	var stay []api.Seen
	err := api.OK
	stack := slices.Clone(c.Open)
working:
	for len(stack) > 0 {
		s := pop(&stack)
		switch {
		case went(s.Id):
			stack = append(stack, opens(t, c.Window, s)...)
		case len(stay) == api.MaxOpen:
			err = api.ErrFull
			break working
		default:
			stay = append(stay, s)
		}
	}
	slices.Reverse(stay)
	return stay, err
}

// opens is what a step of one opens.
func opens(t api.Tree, window api.Key, s api.Seen) []api.Seen {
	n := node(t, s.Id)
	var l []api.Seen
	if n.Seal > s.Count && n.Right != 0 {
		l = append(l, api.Seen{Id: n.Right, Count: s.Count})
	}
	if n.Leaf {
		return l
	}
	for _, id := range slices.Backward(met(n, window)) {
		l = append(l, api.Seen{Id: id, Count: t.Count})
	}
	return l
}

// node is a tree's node of an Id; if there is none, a zero one: a step of it opens nothing, and finds nothing.
func node(t api.Tree, id uint32) api.Node {
	at, found := slices.BinarySearchFunc(t.Nodes, id, func(n api.Node, id uint32) int {
		return cmp.Compare(n.Id, id)
	})
	if !found {
		return api.Node{}
	}
	return t.Nodes[at]
}

// met is the Childs of those entries of a node whose Keys meet the window.
func met(n api.Node, window api.Key) []uint32 {
	var childs []uint32
	for _, e := range n.Entries {
		if key.Meets(e.Key, window) {
			childs = append(childs, e.Child)
		}
	}
	return childs
}
