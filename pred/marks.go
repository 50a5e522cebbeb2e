package pred

import (
	"cmp"
	"iter"
	"slices"

	"gazetteer/api"
	"gazetteer/key"
)

// sound tells whether it is a mark.
func sound(x api.Pred) bool {
	return ids(x.Node) && x.Txn > 0 && box(x.Window)
}

// inOrder is the order of marks.
func inOrder(a, b api.Pred) int {
	v, w := a.Window, b.Window
	return cmp.Or(
		cmp.Compare(a.Node, b.Node), cmp.Compare(a.Txn, b.Txn),
		cmp.Compare(v.X0, w.X0), cmp.Compare(v.X1, w.X1), cmp.Compare(v.Y0, w.Y0), cmp.Compare(v.Y1, w.Y1),
	)
}

// at tells the marks of a node, in their order.
func at(list []api.Pred, node uint32) iter.Seq[api.Pred] {
	return func(yield func(api.Pred) bool) {
		first, _ := slices.BinarySearchFunc(list, node, func(x api.Pred, node uint32) int {
			return cmp.Compare(x.Node, node)
		})
		for _, x := range list[first:] {
			if x.Node != node || !yield(x) {
				return
			}
		}
	}
}

// meeting lets those marks count whose windows meet a key.
func meeting(k api.Key) func(x api.Pred) bool {
	return func(x api.Pred) bool { return key.Meets(x.Window, k) }
}

// all lets each mark count.
func all(api.Pred) bool {
	return true
}
