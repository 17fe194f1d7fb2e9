package tests

import (
	"fmt"
	"slices"
	"testing"

	"loop.example/g00680/impl"
)

func entryOf(ref int64, nsn int64, r impl.Rect) impl.Entry {
	return impl.Entry{Rect: r, Ref: ref, Nsn: nsn}
}

// entryBox is a box of which no two with different i are alike.
func entryBox(dims int64, i int64) impl.Rect {
	if dims == 3 {
		return solid(3*i-5, -i, i/2, 3*i-4+i%3, i*i, 7)
	}
	return flat(3*i-5, -i, 3*i-4+i%3, i*i)
}

// someEntries are n entries that fit into a node of this level. Their Refs
// neither rise nor fall, and the utmost ones are among them.
func someEntries(level int64, dims int64, n int) []impl.Entry {
	refs := []int64{30, 4, 999, 0, 517, 40, 998}
	if level > 0 {
		refs = []int64{30, 4, 39, 0, 17, 38, 1}
	}
	var list []impl.Entry
	for i, ref := range refs[:n] {
		e := entryOf(ref, 0, entryBox(dims, int64(i)))
		if level > 0 {
			e.Nsn = []int64{0, 100000, 5, 1, 99, 7, 8}[i]
		}
		list = append(list, e)
	}
	return list
}

// heads are nodes without entries, of all levels, with numbers between and at
// their bounds.
func heads() []impl.Node {
	var list []impl.Node
	for level := int64(0); level <= impl.MaxLevel; level++ {
		list = append(list,
			impl.Node{Level: level, Right: impl.NoNode},
			impl.Node{Level: level, Nsn: 3 + level, Right: 11 + level},
			impl.Node{Level: level, Nsn: impl.MaxNsn, Right: impl.MaxNodes - 1},
			impl.Node{Level: level, Nsn: 1})
	}
	return list
}

func holding(n impl.Node, list []impl.Entry) impl.Node {
	n.Entries = list
	return n
}

// eachNode goes through nodes of all levels, in two and in three dimensions,
// with least to most entries.
func eachNode(t *testing.T, least int, most int, ask func(t *testing.T, n impl.Node, dims int64)) {
	t.Helper()
	for dims := int64(2); dims <= 3; dims++ {
		for _, head := range heads() {
			for count := least; count <= most; count++ {
				n := holding(head, someEntries(head.Level, dims, count))
				t.Run(fmt.Sprintf("%d dims, level %d, Nsn %d, %d entries", dims, n.Level, n.Nsn, count), func(t *testing.T) {
					ask(t, n, dims)
				})
			}
		}
	}
}

func likeEntry(a impl.Entry, b impl.Entry) bool {
	return a.Ref == b.Ref && a.Nsn == b.Nsn && slices.Equal(a.Rect.Low, b.Rect.Low) && slices.Equal(a.Rect.High, b.Rect.High)
}

func likeNode(a impl.Node, b impl.Node) bool {
	return a.Level == b.Level && a.Nsn == b.Nsn && a.Right == b.Right && slices.EqualFunc(a.Entries, b.Entries, likeEntry)
}

func wantNode(t *testing.T, what string, got impl.NodeResult, want impl.Node) {
	t.Helper()
	if got.Code != impl.OK || !likeNode(got.Node, want) {
		t.Errorf("%s: %v, not %v", what, got, want)
	}
}

func wantNodeCode(t *testing.T, what string, got impl.NodeResult, want int64) {
	t.Helper()
	if got.Code != want || !likeNode(got.Node, impl.Node{}) {
		t.Errorf("%s: %v, not the code %d alone", what, got, want)
	}
}

func wantBoxCode(t *testing.T, got impl.RectResult, want int64) {
	t.Helper()
	if got.Code != want || len(got.Rect.Low) != 0 || len(got.Rect.High) != 0 {
		t.Errorf("BoxOf: %v, not the code %d alone", got, want)
	}
}

// smallestBox is counted out number by number.
func smallestBox(list []impl.Entry) impl.Rect {
	r := impl.Rect{Low: slices.Clone(list[0].Rect.Low), High: slices.Clone(list[0].Rect.High)}
	for _, e := range list {
		for i := range r.Low {
			r.Low[i] = min(r.Low[i], e.Rect.Low[i])
			r.High[i] = max(r.High[i], e.Rect.High[i])
		}
	}
	return r
}

// sayHeld wants all of these entries, at their places and covered, and no
// fault.
func sayHeld(t *testing.T, n impl.Node, dims int64, list []impl.Entry) {
	t.Helper()
	if code := impl.NodeFault(n, dims); code != impl.OK {
		t.Errorf("NodeFault of %v: %d", n, code)
	}
	around := impl.BoxOf(n, dims)
	if want := smallestBox(list); around.Code != impl.OK || !impl.SameRects(around.Rect, want) {
		t.Errorf("BoxOf %v: %v, not %v", n, around, want)
	}
	for i, e := range list {
		if got := impl.EntryFor(n, dims, e.Ref); got != (impl.IntResult{Value: int64(i)}) {
			t.Errorf("EntryFor %d: %v, not %d", e.Ref, got, i)
		}
		if !impl.Covers(around.Rect, e.Rect) {
			t.Errorf("the box %v does not cover %v", around.Rect, e.Rect)
		}
	}
}

// sayNotHeld wants that nothing has this Ref.
func sayNotHeld(t *testing.T, n impl.Node, dims int64, ref int64) {
	t.Helper()
	sayCode(t, "EntryFor", impl.EntryFor(n, dims, ref), impl.ErrNone)
	wantNodeCode(t, "WithoutEntry", impl.WithoutEntry(n, dims, ref), impl.ErrNone)
	wantNodeCode(t, "WidenEntry", impl.WidenEntry(n, dims, ref, rightBox(dims)), impl.ErrNone)
}

// Promise 4: from an empty node on, each entry that is put into it is behind
// all others, found, and covered.
func TestEntriesArePutBehindAllOthers(t *testing.T) {
	eachNode(t, 0, 0, func(t *testing.T, n impl.Node, dims int64) {
		head, list := n, someEntries(n.Level, dims, 5)
		for i, e := range list {
			sayNotHeld(t, n, dims, e.Ref)
			got := impl.WithEntry(n, dims, e)
			wantNode(t, "WithEntry", got, holding(head, list[:i+1]))
			n = got.Node
			sayHeld(t, n, dims, list[:i+1])
		}
	})
}

// What is put into a node and taken out again leaves it as it was.
func TestPuttingAndTakingOutUndo(t *testing.T) {
	eachNode(t, 0, 4, func(t *testing.T, n impl.Node, dims int64) {
		for _, e := range someEntries(n.Level, dims, 7)[len(n.Entries):] {
			more := impl.WithEntry(n, dims, e).Node
			wantNode(t, "WithoutEntry", impl.WithoutEntry(more, dims, e.Ref), n)
		}
	})
}

func TestEntriesAreTakenOut(t *testing.T) {
	eachNode(t, 1, 5, func(t *testing.T, n impl.Node, dims int64) {
		for i, e := range n.Entries {
			rest := slices.Delete(slices.Clone(n.Entries), i, i+1)
			got := impl.WithoutEntry(n, dims, e.Ref)
			wantNode(t, "WithoutEntry", got, holding(n, rest))
			sayNotHeld(t, got.Node, dims, e.Ref)
			if len(rest) > 0 {
				sayHeld(t, got.Node, dims, rest)
			} else {
				wantBoxCode(t, impl.BoxOf(got.Node, dims), impl.ErrNone)
			}
			wantNode(t, "WithEntry again", impl.WithEntry(got.Node, dims, e), holding(n, append(rest, e)))
		}
	})
}

// All are taken out, from the last one on and from the first one on: what is
// left is an empty node with its own numbers.
func TestNodeThatIsLeftEmpty(t *testing.T) {
	eachNode(t, 1, 5, func(t *testing.T, n impl.Node, dims int64) {
		forward, backward := n, n
		for i, e := range n.Entries {
			forward = impl.WithoutEntry(forward, dims, e.Ref).Node
			backward = impl.WithoutEntry(backward, dims, n.Entries[len(n.Entries)-1-i].Ref).Node
		}
		for _, left := range []impl.Node{forward, backward} {
			if !likeNode(left, holding(n, nil)) {
				t.Errorf("left: %v", left)
			}
			sayEmpty(t, left, dims)
			wantNode(t, "WithEntry", impl.WithEntry(left, dims, n.Entries[0]), holding(n, n.Entries[:1]))
		}
	})
}

func sayEmpty(t *testing.T, n impl.Node, dims int64) {
	t.Helper()
	if code := impl.NodeFault(n, dims); code != impl.OK {
		t.Errorf("NodeFault of %v: %d", n, code)
	}
	wantBoxCode(t, impl.BoxOf(n, dims), impl.ErrNone)
	for _, ref := range []int64{0, 1, 39, 40, 999, -1, 1000} {
		sayNotHeld(t, n, dims, ref)
	}
}

func TestEmptyNode(t *testing.T) {
	eachNode(t, 0, 0, func(t *testing.T, n impl.Node, dims int64) {
		sayEmpty(t, holding(n, nil), dims)
		sayEmpty(t, holding(n, []impl.Entry{}), dims)
	})
	sayEmpty(t, impl.Node{}, 2)
	sayEmpty(t, impl.Node{}, 3)
}

func TestBoxOf(t *testing.T) {
	cases := []struct {
		name  string
		boxes []impl.Rect
		want  impl.Rect
	}{
		{"one", []impl.Rect{flat(1, 2, 3, 4)}, flat(1, 2, 3, 4)},
		{"one point", []impl.Rect{flat(-3, 8, -3, 8)}, flat(-3, 8, -3, 8)},
		{"all below 0", []impl.Rect{flat(-9, -8, -7, -6), flat(-5, -9, -4, -8)}, flat(-9, -9, -4, -6)},
		{"all above 0", []impl.Rect{flat(7, 8, 9, 9), flat(5, 9, 6, 10)}, flat(5, 8, 9, 10)},
		{"one in the other", []impl.Rect{flat(1, 1, 2, 2), flat(0, 0, 5, 5)}, flat(0, 0, 5, 5)},
		{"each has one side", []impl.Rect{flat(-4, 0, 0, 1), flat(0, -3, 1, 0), flat(1, 1, 7, 1), flat(0, 2, 0, 9)}, flat(-4, -3, 7, 9)},
		{"the last of all that may be", []impl.Rect{flat(1, 1, 2, 2), flat(1, 1, 2, 2), flat(1, 1, 2, 2), flat(1, 1, 2, 2), flat(-1, 0, 3, 4)}, flat(-1, 0, 3, 4)},
		{"solid", []impl.Rect{solid(1, 2, 3, 4, 5, 6), solid(-1, 3, 3, 0, 4, 9)}, solid(-1, 2, 3, 4, 5, 9)},
		{"solid, below 0 in depth", []impl.Rect{solid(1, 2, -7, 4, 5, -6), solid(2, 3, -9, 3, 4, -8)}, solid(1, 2, -9, 4, 5, -6)},
		{"the farthest", []impl.Rect{solid(-1000, -1000, -1000, -1000, -1000, -1000), solid(1000, 1000, 1000, 1000, 1000, 1000)}, solid(-1000, -1000, -1000, 1000, 1000, 1000)},
	}
	for _, c := range cases {
		t.Run(c.name, func(t *testing.T) {
			for _, head := range heads() {
				for i, r := range c.boxes {
					head.Entries = append(head.Entries, entryOf(int64(i), 0, r))
				}
				if got := impl.BoxOf(head, int64(len(c.want.Low))); got.Code != impl.OK || !impl.SameRects(got.Rect, c.want) {
					t.Errorf("%v", got)
				}
			}
		})
	}
}

// A box that takes part in an entry may be that of another one, too.
func TestEntriesMayHaveOneBox(t *testing.T) {
	r := flat(1, 2, 3, 4)
	n := impl.Node{Right: impl.NoNode, Entries: []impl.Entry{entryOf(5, 0, r), entryOf(6, 0, r)}}
	got := impl.WithEntry(n, 2, entryOf(7, 0, r))
	wantNode(t, "WithEntry", got, holding(n, append(slices.Clone(n.Entries), entryOf(7, 0, r))))
	wantNode(t, "WithoutEntry", impl.WithoutEntry(got.Node, 2, 5), holding(n, []impl.Entry{entryOf(6, 0, r), entryOf(7, 0, r)}))
	wantNode(t, "WidenEntry", impl.WidenEntry(n, 2, 6, flat(0, 0, 0, 0)), holding(n, []impl.Entry{entryOf(5, 0, r), entryOf(6, 0, flat(0, 0, 3, 4))}))
}

func TestAsManyEntriesAsMayBe(t *testing.T) {
	eachNode(t, impl.MaxEntries, impl.MaxEntries, func(t *testing.T, n impl.Node, dims int64) {
		all := someEntries(n.Level, dims, 6)
		sayHeld(t, n, dims, all[:4])
		wantNode(t, "WithEntry of one more", impl.WithEntry(n, dims, all[4]), holding(n, all[:5]))
		full := holding(n, all[:5])
		sayHeld(t, full, dims, all[:5])
		wantNodeCode(t, "WithEntry of two more", impl.WithEntry(full, dims, all[5]), impl.ErrFull)
		wantNode(t, "WithoutEntry", impl.WithoutEntry(full, dims, all[4].Ref), n)
		sayNode(t, holding(n, all), dims, impl.ErrMany)
	})
}
