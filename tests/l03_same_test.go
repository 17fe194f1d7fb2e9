package tests

import (
	"fmt"
	"slices"
	"testing"

	"loop.example/g00680/impl"
)

func cloneNode(n impl.Node) impl.Node {
	list := n.Entries
	n.Entries = nil
	for _, e := range list {
		e.Rect = impl.Rect{Low: slices.Clone(e.Rect.Low), High: slices.Clone(e.Rect.High)}
		n.Entries = append(n.Entries, e)
	}
	return n
}

func saySame(t *testing.T, what string, a []impl.Node, b []impl.Node, want bool) {
	t.Helper()
	if impl.SameNodes(a, b) != want || impl.SameNodes(b, a) != want {
		t.Errorf("%s: not %v of %v and %v", what, want, a, b)
	}
}

// brokenNode has every fault that a node can have.
func brokenNode() impl.Node {
	return impl.Node{Level: -9, Nsn: -5, Right: 4000, Entries: []impl.Entry{
		entryOf(-7, -8, impl.Rect{Low: []int64{9000}, High: []int64{1, 2, 3, 4, 5}}), {}, {},
		entryOf(5000, 3, rectForm), entryOf(5000, 3, rectForm), entryOf(1, 200000, rectMany), entryOf(2, 2, rectRange),
	}}
}

func sameNodesToAsk() []impl.Node {
	return []impl.Node{
		{}, {Right: impl.NoNode}, leafOf(someEntries(0, 2, 1)...), leafOf(someEntries(0, 3, 5)...),
		innerOf(someEntries(2, 2, 4)...), innerOf(someEntries(2, 3, 5)...), brokenNode(), holding(brokenNode(), someEntries(0, 2, 7)),
	}
}

// changesOf are copies of a node with just one thing changed.
func changesOf(n impl.Node) map[string]impl.Node {
	all := map[string]impl.Node{}
	change := func(what string, turn func(n *impl.Node)) {
		c := cloneNode(n)
		turn(&c)
		all[what] = c
	}
	change("Level", func(n *impl.Node) { n.Level++ })
	change("Nsn", func(n *impl.Node) { n.Nsn++ })
	change("Right", func(n *impl.Node) { n.Right-- })
	change("one entry more", func(n *impl.Node) { n.Entries = append(n.Entries, entryOf(3, 0, flat(0, 0, 1, 1))) })
	change("an empty entry more", func(n *impl.Node) { n.Entries = append(n.Entries, impl.Entry{}) })
	for i := range n.Entries {
		at := func(what string) string { return fmt.Sprintf("%s of the entry %d", what, i) }
		change(at("Ref"), func(n *impl.Node) { n.Entries[i].Ref++ })
		change(at("Nsn"), func(n *impl.Node) { n.Entries[i].Nsn++ })
		change(at("more Low"), func(n *impl.Node) { n.Entries[i].Rect.Low = append(n.Entries[i].Rect.Low, 0) })
		change(at("more High"), func(n *impl.Node) { n.Entries[i].Rect.High = append(n.Entries[i].Rect.High, 0) })
		for k := range n.Entries[i].Rect.Low {
			change(at(fmt.Sprint("Low ", k)), func(n *impl.Node) { n.Entries[i].Rect.Low[k]-- })
		}
		for k := range n.Entries[i].Rect.High {
			change(at(fmt.Sprint("High ", k)), func(n *impl.Node) { n.Entries[i].Rect.High[k]++ })
		}
		change(at("no place"), func(n *impl.Node) { n.Entries = slices.Delete(n.Entries, i, i+1) })
		for k := range i {
			if !likeEntry(n.Entries[i], n.Entries[k]) {
				change(at(fmt.Sprint("other order, with ", k)), func(n *impl.Node) { n.Entries[i], n.Entries[k] = n.Entries[k], n.Entries[i] })
			}
		}
	}
	return all
}

func TestSameNodes(t *testing.T) {
	other := leafOf(someEntries(0, 2, 3)...)
	for _, n := range sameNodesToAsk() {
		saySame(t, "one and itself", []impl.Node{n}, []impl.Node{cloneNode(n)}, true)
		saySame(t, "two and themselves", []impl.Node{n, other}, []impl.Node{cloneNode(n), cloneNode(other)}, true)
		saySame(t, "another order", []impl.Node{n, other}, []impl.Node{other, n}, false)
		saySame(t, "one and nothing", []impl.Node{n}, nil, false)
		saySame(t, "one and twice that", []impl.Node{n}, []impl.Node{n, n}, false)
		saySame(t, "one more ahead", []impl.Node{n, other}, []impl.Node{other}, false)
		for what, changed := range changesOf(n) {
			saySame(t, what, []impl.Node{n}, []impl.Node{changed}, false)
			saySame(t, what+", behind another one", []impl.Node{other, n}, []impl.Node{other, changed}, false)
			saySame(t, what+", ahead of another one", []impl.Node{n, other}, []impl.Node{changed, other}, false)
		}
	}
}

func TestSameNodesWithEmptyLists(t *testing.T) {
	saySame(t, "nothing and nothing", nil, nil, true)
	saySame(t, "empty and nil", []impl.Node{}, nil, true)
	saySame(t, "an empty node and nothing", []impl.Node{{}}, nil, false)
	saySame(t, "no entries and nil", []impl.Node{{Entries: []impl.Entry{}}}, []impl.Node{{}}, true)
	saySame(t, "an empty entry and none", []impl.Node{{Entries: []impl.Entry{{}}}}, []impl.Node{{}}, false)
	empty := impl.Entry{Rect: impl.Rect{Low: []int64{}, High: []int64{}}}
	saySame(t, "an empty box and nil", []impl.Node{{Entries: []impl.Entry{empty}}}, []impl.Node{{Entries: []impl.Entry{{}}}}, true)
}

// More nodes than there can ever be are still the same.
func TestSameNodesOfMany(t *testing.T) {
	var a, b []impl.Node
	for range 100 {
		a = append(a, leafOf(someEntries(0, 2, 5)...))
		b = append(b, leafOf(someEntries(0, 2, 5)...))
	}
	saySame(t, "many", a, b, true)
	saySame(t, "many, and one less", a, b[:99], false)
	b[99].Entries[4].Rect.High[1]++
	saySame(t, "many, and another one at the end", a, b, false)
}
