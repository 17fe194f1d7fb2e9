package tests

import (
	"math"
	"slices"
	"testing"

	"loop.example/g00680/impl"
)

func pairOf(id int64, r impl.Rect) impl.Pair {
	return impl.Pair{Id: id, Rect: r}
}

func idsOf(list []impl.Pair) []int64 {
	var ids []int64
	for _, p := range list {
		ids = append(ids, p.Id)
	}
	return ids
}

// somePairs are n pairs with every third Id from 10 on, so that there is room
// ahead of, between and behind them.
func somePairs(dims int64, n int) []impl.Pair {
	var list []impl.Pair
	for i := range int64(n) {
		r := flat(i, -i, i+i%4, 2*i)
		if dims == 3 {
			r = solid(i, -i, i/2, i+i%4, 2*i, i)
		}
		list = append(list, pairOf(10+3*i, r))
	}
	return list
}

func wantPairs(t *testing.T, what string, got impl.PairsResult, want []impl.Pair) {
	t.Helper()
	same := func(a impl.Pair, b impl.Pair) bool {
		return a.Id == b.Id && slices.Equal(a.Rect.Low, b.Rect.Low) && slices.Equal(a.Rect.High, b.Rect.High)
	}
	if got.Code != impl.OK || !slices.EqualFunc(got.Pairs, want, same) {
		t.Errorf("%s: %v, not %v", what, got, want)
	}
}

func wantCode(t *testing.T, what string, got impl.PairsResult, want int64) {
	t.Helper()
	if got.Code != want || len(got.Pairs) != 0 {
		t.Errorf("%s: %v, not the code %d alone", what, got, want)
	}
}

func wantFound(t *testing.T, list []impl.Pair, dims int64, p impl.Pair) {
	t.Helper()
	got := impl.FindPair(list, dims, p.Id)
	if got.Code != impl.OK || got.Pair.Id != p.Id || !slices.Equal(got.Pair.Rect.Low, p.Rect.Low) || !slices.Equal(got.Pair.Rect.High, p.Rect.High) {
		t.Errorf("FindPair %d: %v, not %v", p.Id, got, p)
	}
}

func wantNotFound(t *testing.T, list []impl.Pair, dims int64, id int64) {
	t.Helper()
	got := impl.FindPair(list, dims, id)
	if got.Code != impl.ErrNone || got.Pair.Id != 0 || len(got.Pair.Rect.Low) != 0 || len(got.Pair.Rect.High) != 0 {
		t.Errorf("FindPair %d: %v, not the code ErrNone alone", id, got)
	}
}

func TestAddPairAtItsPlace(t *testing.T) {
	list := somePairs(2, 3)
	cases := []struct {
		name string
		id   int64
		want []int64
	}{
		{"ahead of all", 9, []int64{9, 10, 13, 16}},
		{"the least Id", 0, []int64{0, 10, 13, 16}},
		{"between the first ones", 11, []int64{10, 11, 13, 16}},
		{"between the last ones", 15, []int64{10, 13, 15, 16}},
		{"behind all", 17, []int64{10, 13, 16, 17}},
		{"the greatest Id", 999, []int64{10, 13, 16, 999}},
	}
	for _, c := range cases {
		t.Run(c.name, func(t *testing.T) {
			p := pairOf(c.id, flat(-7, -8, 9, 10))
			got := impl.AddPair(list, 2, p)
			if got.Code != impl.OK || !slices.Equal(idsOf(got.Pairs), c.want) {
				t.Fatalf("%v, not the Ids %v", got, c.want)
			}
			if code := impl.ModelFault(got.Pairs, 2); code != impl.OK {
				t.Errorf("ModelFault of what came of it: %d", code)
			}
			for _, there := range append(slices.Clone(list), p) {
				wantFound(t, got.Pairs, 2, there)
			}
			wantPairs(t, "TakePair of it", impl.TakePair(got.Pairs, 2, p), list)
		})
	}
}

func TestAddAndTakeOneAlone(t *testing.T) {
	for _, p := range []impl.Pair{pairOf(0, flat(0, 0, 0, 0)), pairOf(999, flat(-1000, -1000, 1000, 1000))} {
		for _, none := range [][]impl.Pair{nil, {}} {
			got := impl.AddPair(none, 2, p)
			wantPairs(t, "AddPair", got, []impl.Pair{p})
			wantFound(t, got.Pairs, 2, p)
			wantPairs(t, "TakePair", impl.TakePair(got.Pairs, 2, p), nil)
			wantCode(t, "TakePair of none", impl.TakePair(none, 2, p), impl.ErrNone)
			wantNotFound(t, none, 2, p.Id)
		}
	}
}

// Promise 3: what was put is found, what was taken is not, all others stay,
// and both undo each other, at each place of lists of each length.
func TestAddAndTakeUndoEachOther(t *testing.T) {
	for dims := int64(2); dims <= 3; dims++ {
		for n := 0; n <= impl.MaxPairs; n++ {
			list := somePairs(dims, n)
			for i, p := range list {
				rest := slices.Delete(slices.Clone(list), i, i+1)
				taken := impl.TakePair(list, dims, p)
				wantPairs(t, "TakePair", taken, rest)
				wantNotFound(t, taken.Pairs, dims, p.Id)
				wantFound(t, list, dims, p)
				wantPairs(t, "AddPair", impl.AddPair(taken.Pairs, dims, p), list)
				wantPairs(t, "AddPair and TakePair", impl.TakePair(impl.AddPair(rest, dims, p).Pairs, dims, p), rest)
			}
			if t.Failed() {
				t.Fatalf("of %d pairs in %d dimensions", n, dims)
			}
		}
	}
}

// The order in which pairs come does not tell in what comes of them.
func TestAddInAnyOrder(t *testing.T) {
	want := somePairs(3, impl.MaxPairs)
	for _, stride := range []int{1, 7, 11, 13, 59} {
		var list []impl.Pair
		for i := range impl.MaxPairs {
			got := impl.AddPair(list, 3, want[i*stride%impl.MaxPairs])
			if got.Code != impl.OK || len(got.Pairs) != i+1 {
				t.Fatalf("stride %d, pair %d: %v", stride, i, got)
			}
			list = got.Pairs
		}
		wantPairs(t, "all of them", impl.PairsResult{Pairs: list}, want)
		for i := range impl.MaxPairs {
			p := want[i*stride%impl.MaxPairs]
			got := impl.TakePair(list, 3, p)
			if got.Code != impl.OK || len(got.Pairs) != impl.MaxPairs-i-1 || slices.Contains(idsOf(got.Pairs), p.Id) {
				t.Fatalf("stride %d, taking %d: %v", stride, p.Id, got)
			}
			list = got.Pairs
		}
	}
}

func TestSameIdWithAnotherBox(t *testing.T) {
	for dims := int64(2); dims <= 3; dims++ {
		list := somePairs(dims, 5)
		for i, p := range list {
			wantCode(t, "AddPair of the same", impl.AddPair(list, dims, p), impl.ErrTaken)
			for axis := range int(dims) {
				low, high := clonePair(p), clonePair(p)
				low.Rect.Low[axis]--
				high.Rect.High[axis]++
				for _, other := range []impl.Pair{low, high} {
					wantCode(t, "AddPair with another box", impl.AddPair(list, dims, other), impl.ErrTaken)
					wantCode(t, "TakePair with another box", impl.TakePair(list, dims, other), impl.ErrNone)
				}
			}
			neighbour := pairOf(p.Id, list[(i+1)%len(list)].Rect)
			wantCode(t, "TakePair with the box of the next one", impl.TakePair(list, dims, neighbour), impl.ErrNone)
			wantCode(t, "TakePair with another Id", impl.TakePair(list, dims, pairOf(p.Id+1, p.Rect)), impl.ErrNone)
		}
	}
}

func clonePair(p impl.Pair) impl.Pair {
	return pairOf(p.Id, impl.Rect{Low: slices.Clone(p.Rect.Low), High: slices.Clone(p.Rect.High)})
}

func TestBoxesMayBeAlike(t *testing.T) {
	r := flat(1, 2, 3, 4)
	list := []impl.Pair{pairOf(4, r), pairOf(6, r)}
	got := impl.AddPair(list, 2, pairOf(5, r))
	wantPairs(t, "AddPair", got, []impl.Pair{pairOf(4, r), pairOf(5, r), pairOf(6, r)})
	wantPairs(t, "TakePair", impl.TakePair(got.Pairs, 2, pairOf(4, r)), []impl.Pair{pairOf(5, r), pairOf(6, r)})
}

func TestAsManyPairsAsMayBe(t *testing.T) {
	for dims := int64(2); dims <= 3; dims++ {
		all := somePairs(dims, impl.MaxPairs)
		if code := impl.ModelFault(all, dims); code != impl.OK {
			t.Errorf("ModelFault of MaxPairs: %d", code)
		}
		last := all[impl.MaxPairs-1]
		wantPairs(t, "AddPair of the last one", impl.AddPair(all[:impl.MaxPairs-1], dims, last), all)
		for _, id := range []int64{0, 11, last.Id + 1, 999} {
			wantCode(t, "AddPair of one more", impl.AddPair(all, dims, pairOf(id, last.Rect)), impl.ErrFull)
		}
		wantCode(t, "AddPair of one that is there", impl.AddPair(all, dims, last), impl.ErrTaken)
		wantPairs(t, "TakePair of the last one", impl.TakePair(all, dims, last), all[:impl.MaxPairs-1])
		wantFound(t, all, dims, last)
		more := somePairs(dims, impl.MaxPairs+1)
		if code := impl.ModelFault(more, dims); code != impl.ErrMany {
			t.Errorf("ModelFault of one more: %d", code)
		}
		wantCode(t, "AddPair to one more", impl.AddPair(more, dims, pairOf(999, last.Rect)), impl.ErrMany)
		wantCode(t, "TakePair from one more", impl.TakePair(more, dims, last), impl.ErrMany)
	}
}

func TestFindPairWithoutSuchAnId(t *testing.T) {
	list := []impl.Pair{pairOf(0, flat(0, 0, 1, 1)), pairOf(500, flat(0, 0, 2, 2)), pairOf(999, flat(0, 0, 3, 3))}
	for _, p := range list {
		wantFound(t, list, 2, p)
	}
	for _, id := range []int64{1, 499, 501, 998, 1000, -1, math.MinInt64, math.MaxInt64, 1<<32 + 500} {
		wantNotFound(t, list, 2, id)
	}
}

func TestSamePairs(t *testing.T) {
	a, b := pairOf(1, flat(1, 2, 3, 4)), pairOf(2, solid(1, 2, 3, 4, 5, 6))
	broken := pairOf(-7, impl.Rect{Low: []int64{9000}, High: []int64{1, 2, 3, 4, 5}})
	cases := []struct {
		name string
		a, b []impl.Pair
		want bool
	}{
		{"nothing and nothing", nil, nil, true},
		{"empty and nil", []impl.Pair{}, nil, true},
		{"one and itself", []impl.Pair{a}, []impl.Pair{clonePair(a)}, true},
		{"two and themselves", []impl.Pair{a, b}, []impl.Pair{clonePair(a), clonePair(b)}, true},
		{"another order", []impl.Pair{a, b}, []impl.Pair{b, a}, false},
		{"one and nothing", []impl.Pair{a}, nil, false},
		{"one more", []impl.Pair{a, b}, []impl.Pair{a}, false},
		{"another Id", []impl.Pair{a}, []impl.Pair{pairOf(2, a.Rect)}, false},
		{"another Low", []impl.Pair{a}, []impl.Pair{pairOf(1, flat(1, 1, 3, 4))}, false},
		{"another High", []impl.Pair{a}, []impl.Pair{pairOf(1, flat(1, 2, 4, 4))}, false},
		{"another one at the end", []impl.Pair{a, b}, []impl.Pair{a, pairOf(2, solid(1, 2, 3, 4, 5, 7))}, false},
		{"more dims", []impl.Pair{a}, []impl.Pair{pairOf(1, solid(1, 2, 0, 3, 4, 0))}, false},
		{"with faults, alike", []impl.Pair{broken, broken}, []impl.Pair{clonePair(broken), broken}, true},
		{"with faults, not alike", []impl.Pair{broken}, []impl.Pair{pairOf(-8, broken.Rect)}, false},
		{"empty boxes", []impl.Pair{{Id: 1}}, []impl.Pair{pairOf(1, impl.Rect{Low: []int64{}, High: []int64{}})}, true},
		{"more than MaxPairs", somePairs(2, 70), somePairs(2, 70), true},
		{"more than MaxPairs, not alike", somePairs(2, 70), somePairs(2, 71), false},
	}
	for _, c := range cases {
		t.Run(c.name, func(t *testing.T) {
			if got := impl.SamePairs(c.a, c.b); got != c.want {
				t.Errorf("%v", got)
			}
			if got := impl.SamePairs(c.b, c.a); got != c.want {
				t.Errorf("the other way round: %v", got)
			}
		})
	}
}
