package tests

import (
	"testing"

	"loop.example/g00680/impl"
)

// A story tells what comes of a tree into which pairs are put, one after the
// other. Of each step just the lines are told that it turns; all others have to
// stay. The end is the tree behind all of that, told whole.
type story struct {
	name  string
	begin string
	puts  []storyPut
	end   string
}

type storyPut struct {
	pair  string
	steps []string
}

func put(pair string, steps ...string) storyPut {
	return storyPut{pair, steps}
}

// sayTrees wants just these trees, in order.
func sayTrees(t *testing.T, what string, got impl.TraceResult, want []impl.Tree) {
	t.Helper()
	if got.Code != impl.OK || len(got.Trees) != len(want) {
		t.Fatalf("%s: the code %d and %d trees, not %d trees", what, got.Code, len(got.Trees), len(want))
	}
	for i, tr := range want {
		if !likeTree(got.Trees[i], tr) {
			t.Fatalf("%s: behind the step %d:\n%s, not\n%s", what, i, told(got.Trees[i]), told(tr))
		}
	}
}

func sayTreeIs(t *testing.T, what string, got impl.TreeResult, want impl.Tree) {
	t.Helper()
	if got.Code != impl.OK || !likeTree(got.Tree, want) {
		t.Fatalf("%s: the code %d and\n%s, not\n%s", what, got.Code, told(got.Tree), told(want))
	}
}

func sayRight(t *testing.T, what string, tr impl.Tree) {
	t.Helper()
	if code := impl.TreeFault(tr); code != impl.OK {
		t.Fatalf("%s: TreeFault %d of\n%s", what, code, told(tr))
	}
}

func sayStory(t *testing.T, s story) {
	t.Helper()
	tr := treeIn(s.begin)
	sayRight(t, "the begin", tr)
	for _, c := range s.puts {
		p, was := pairIn(c.pair), impl.PairsIn(tr)
		var want []impl.Tree
		step := tr
		for _, lines := range c.steps {
			step = edited(step, lines)
			want = append(want, step)
		}
		sayTrees(t, c.pair, impl.PutTrace(tr, p), want)
		sayTreeIs(t, c.pair, impl.PutInto(tr, p), step)
		sayRight(t, c.pair, step)
		wantPairs(t, c.pair, impl.PairsIn(step), sortedPairs(append(was.Pairs, p)))
		tr = step
	}
	if end := treeIn(s.end); !likeTree(tr, end) {
		t.Errorf("the end:\n%s, not\n%s", told(tr), told(end))
	}
}

func TestStories(t *testing.T) {
	for _, s := range append(quadStories(), starStories()...) {
		t.Run(s.name, func(t *testing.T) { sayStory(t, s) })
	}
}

func quadStories() []story {
	return []story{newTreeStory(), quadStory(), threeLevelsStory(), growthsAlikeStory(), quadBoxesAlikeStory(), quadDepthStory()}
}

func newTreeStory() story {
	return story{
		name:  "into a new tree",
		begin: "dims 2\nstyle 0\nroot 0.0\ncounter 0\n0 L0 n0 r-1\n1 free\n2 free\n3 free",
		puts:  []storyPut{put("7=3,4/5,6", "0 L0 n0 r-1 7=3,4/5,6")},
		end:   "dims 2\nstyle 0\nroot 0.0\ncounter 0\n0 L0 n0 r-1 7=3,4/5,6\n1 free\n2 free\n3 free",
	}
}

// The root is a leaf without entries first and gets five. The tree is of three
// levels at the end, by a root that is parted with a leaf below it, for which
// there are just as many free places as are needed.
func quadStory() story {
	return story{
		name: "StyleQuad, from no pair to three levels",
		begin: `
			dims 2
			style 0
			root 2.5
			counter 6
			0 free
			1 L0 n6 r4 30=0,0/1,1
			2 L0 n5 r3
			3 L3 n2 r-1
			4 free
			5 free
			6 free
			7 L0 n0 r-1
			8 free
			9 free
			10 free
			retired 3:0,1,2,3 1:2 7:3`,
		puts: append(quadStoryAtTheRoot(), quadStoryBelowTheRoot()...),
		end: `
			dims 2
			style 0
			root 10.11
			counter 11
			0 L0 n9 r6 0=30,0/31,1 517=32,0/33,1
			1 L0 n6 r4 30=0,0/1,1
			2 L0 n8 r5 30=0,0/1,1 999=2,0/3,1 40=5,0/6,1
			3 L3 n2 r-1
			4 L1 n11 r9 2.8=0,0/6,1 5.7=10,0/15,1
			5 L0 n7 r0 4=10,0/11,1 998=14,0/15,1
			6 L0 n10 r8 1=40,0/41,1 61=44,0/45,1
			7 L0 n0 r-1
			8 L0 n5 r3 60=50,0/51,1 62=52,0/53,1 63=54,0/55,1
			9 L1 n7 r-1 0.9=30,0/33,1 6.10=40,0/45,1 8.5=50,0/55,1
			10 L2 n11 r-1 4.11=0,0/15,1 9.7=30,0/55,1
			retired 3:0,1,2,3 1:2 7:3`,
	}
}

func quadStoryAtTheRoot() []storyPut {
	return []storyPut{
		put("30=0,0/1,1", "2 L0 n5 r3 30=0,0/1,1"),
		put("4=10,0/11,1", "2 L0 n5 r3 30=0,0/1,1 4=10,0/11,1"),
		put("999=2,0/3,1", "2 L0 n5 r3 30=0,0/1,1 4=10,0/11,1 999=2,0/3,1"),
		put("0=30,0/31,1", "2 L0 n5 r3 30=0,0/1,1 4=10,0/11,1 999=2,0/3,1 0=30,0/31,1"),
		put("517=32,0/33,1",
			"2 L0 n5 r3 30=0,0/1,1 4=10,0/11,1 999=2,0/3,1 0=30,0/31,1 517=32,0/33,1",
			`counter 7
			0 L0 n5 r3 0=30,0/31,1 517=32,0/33,1
			2 L0 n7 r0 30=0,0/1,1 4=10,0/11,1 999=2,0/3,1`,
			`root 4.7
			4 L1 n7 r-1 2.7=0,0/11,1 0.5=30,0/33,1`),
	}
}

func quadStoryBelowTheRoot() []storyPut {
	return []storyPut{
		put("40=5,0/6,1",
			"",
			"2 L0 n7 r0 30=0,0/1,1 4=10,0/11,1 999=2,0/3,1 40=5,0/6,1"),
		put("1=40,0/41,1",
			"4 L1 n7 r-1 2.7=0,0/11,1 0.5=30,0/41,1",
			"0 L0 n5 r3 0=30,0/31,1 517=32,0/33,1 1=40,0/41,1"),
		put("998=14,0/15,1",
			"4 L1 n7 r-1 2.7=0,0/15,1 0.5=30,0/41,1",
			"2 L0 n7 r0 30=0,0/1,1 4=10,0/11,1 999=2,0/3,1 40=5,0/6,1 998=14,0/15,1",
			`counter 8
			2 L0 n8 r5 30=0,0/1,1 999=2,0/3,1 40=5,0/6,1
			5 L0 n7 r0 4=10,0/11,1 998=14,0/15,1`,
			"4 L1 n7 r-1 2.8=0,0/6,1 0.5=30,0/41,1 5.7=10,0/15,1"),
		put("60=50,0/51,1",
			"4 L1 n7 r-1 2.8=0,0/6,1 0.5=30,0/51,1 5.7=10,0/15,1",
			"0 L0 n5 r3 0=30,0/31,1 517=32,0/33,1 1=40,0/41,1 60=50,0/51,1"),
		put("61=44,0/45,1",
			"",
			"0 L0 n5 r3 0=30,0/31,1 517=32,0/33,1 1=40,0/41,1 60=50,0/51,1 61=44,0/45,1",
			`counter 9
			0 L0 n9 r6 0=30,0/31,1 517=32,0/33,1
			6 L0 n5 r3 1=40,0/41,1 60=50,0/51,1 61=44,0/45,1`,
			"4 L1 n7 r-1 2.8=0,0/6,1 0.9=30,0/33,1 5.7=10,0/15,1 6.5=40,0/51,1"),
		put("62=52,0/53,1",
			"4 L1 n7 r-1 2.8=0,0/6,1 0.9=30,0/33,1 5.7=10,0/15,1 6.5=40,0/53,1",
			"6 L0 n5 r3 1=40,0/41,1 60=50,0/51,1 61=44,0/45,1 62=52,0/53,1"),
		put("63=54,0/55,1",
			"4 L1 n7 r-1 2.8=0,0/6,1 0.9=30,0/33,1 5.7=10,0/15,1 6.5=40,0/55,1",
			"6 L0 n5 r3 1=40,0/41,1 60=50,0/51,1 61=44,0/45,1 62=52,0/53,1 63=54,0/55,1",
			`counter 10
			6 L0 n10 r8 1=40,0/41,1 61=44,0/45,1
			8 L0 n5 r3 60=50,0/51,1 62=52,0/53,1 63=54,0/55,1`,
			"4 L1 n7 r-1 2.8=0,0/6,1 0.9=30,0/33,1 5.7=10,0/15,1 6.10=40,0/45,1 8.5=50,0/55,1",
			`counter 11
			4 L1 n11 r9 2.8=0,0/6,1 5.7=10,0/15,1
			9 L1 n7 r-1 0.9=30,0/33,1 6.10=40,0/45,1 8.5=50,0/55,1`,
			`root 10.11
			10 L2 n11 r-1 4.11=0,0/15,1 9.7=30,0/55,1`),
	}
}

// Each way down by entries that need no widening, with the second one alone
// widened, and with both; then a parting that goes up through two levels. It
// ends at a root that has room.
func threeLevelsStory() story {
	return story{
		name: "three levels",
		begin: `
			dims 2
			style 0
			root 7.3
			counter 20
			0 L0 n4 r-1 10=0,0/1,1 11=2,0/3,1
			1 L0 n20 r0 12=10,0/11,1 13=12,0/13,1
			2 free
			3 L0 n5 r1 14=20,0/21,1 15=22,0/23,1
			4 L0 n0 r3 16=30,0/31,1 17=32,0/33,1 18=34,0/35,1 19=36,0/37,1
			5 L1 n6 r12 0.4=0,0/3,1 1.20=10,0/13,1 3.5=20,0/23,1 4.0=30,0/37,1
			6 L0 n1 r-1 20=100,0/101,1 21=102,0/103,1
			7 L2 n3 r-1 5.6=0,0/37,1 12.2=100,0/113,1
			8 L0 n19 r2 14=20,0/21,1
			9 free
			10 L0 n8 r4 22=110,0/111,1 23=112,0/113,1
			11 free
			12 L1 n2 r-1 6.1=100,0/103,1 10.8=110,0/113,1
			13 free
			14 free
			retired 8:0,3`,
		puts: threeLevelsPuts(),
		end: `
			dims 2
			style 0
			root 7.3
			counter 22
			0 L0 n4 r-1 10=0,0/1,1 11=2,0/3,1 24=1,0/2,1
			1 L0 n20 r0 12=10,0/11,1 13=12,0/13,1
			2 L0 n0 r3 19=36,0/37,1 27=38,0/39,1
			3 L0 n5 r1 14=20,0/21,1 15=22,0/23,1
			4 L0 n21 r2 16=30,0/31,1 17=32,0/33,1 18=34,0/35,1
			5 L1 n22 r9 0.4=0,0/3,1 1.20=10,0/13,1
			6 L0 n1 r-1 20=100,0/101,1 21=102,0/103,1 25=104,0/105,1
			7 L2 n3 r-1 5.22=0,0/13,1 12.2=100,0/115,1 9.6=20,0/39,1
			8 L0 n19 r2 14=20,0/21,1
			9 L1 n6 r12 3.5=20,0/23,1 4.21=30,0/35,1 2.0=36,0/39,1
			10 L0 n8 r4 22=110,0/111,1 23=112,0/113,1 26=114,0/115,1
			11 free
			12 L1 n2 r-1 6.1=100,0/105,1 10.8=110,0/115,1
			13 free
			14 free
			retired 8:0,3`,
	}
}

func threeLevelsPuts() []storyPut {
	return []storyPut{
		put("24=1,0/2,1",
			"",
			"",
			"0 L0 n4 r-1 10=0,0/1,1 11=2,0/3,1 24=1,0/2,1"),
		put("25=104,0/105,1",
			"",
			"12 L1 n2 r-1 6.1=100,0/105,1 10.8=110,0/113,1",
			"6 L0 n1 r-1 20=100,0/101,1 21=102,0/103,1 25=104,0/105,1"),
		put("26=114,0/115,1",
			"7 L2 n3 r-1 5.6=0,0/37,1 12.2=100,0/115,1",
			"12 L1 n2 r-1 6.1=100,0/105,1 10.8=110,0/115,1",
			"10 L0 n8 r4 22=110,0/111,1 23=112,0/113,1 26=114,0/115,1"),
		put("27=38,0/39,1",
			"7 L2 n3 r-1 5.6=0,0/39,1 12.2=100,0/115,1",
			"5 L1 n6 r12 0.4=0,0/3,1 1.20=10,0/13,1 3.5=20,0/23,1 4.0=30,0/39,1",
			"4 L0 n0 r3 16=30,0/31,1 17=32,0/33,1 18=34,0/35,1 19=36,0/37,1 27=38,0/39,1",
			`counter 21
			4 L0 n21 r2 16=30,0/31,1 17=32,0/33,1 18=34,0/35,1
			2 L0 n0 r3 19=36,0/37,1 27=38,0/39,1`,
			"5 L1 n6 r12 0.4=0,0/3,1 1.20=10,0/13,1 3.5=20,0/23,1 4.21=30,0/35,1 2.0=36,0/39,1",
			`counter 22
			5 L1 n22 r9 0.4=0,0/3,1 1.20=10,0/13,1
			9 L1 n6 r12 3.5=20,0/23,1 4.21=30,0/35,1 2.0=36,0/39,1`,
			"7 L2 n3 r-1 5.22=0,0/13,1 12.2=100,0/115,1 9.6=20,0/39,1"),
	}
}

// Where both growths are alike, the lesser area tells the way, and then the
// place.
func growthsAlikeStory() story {
	return story{
		name: "growths alike",
		begin: `
			dims 2
			style 0
			root 2.0
			counter 0
			0 L0 n0 r-1 1=0,0/1,2 2=3,0/4,2
			1 L0 n0 r-1 3=6,0/7,2 4=9,0/10,2
			2 L1 n0 r-1 0.0=0,0/4,2 1.0=6,0/10,2
			3 free
			4 free
			5 free`,
		puts: []storyPut{
			put("5=4,0/6,2",
				"2 L1 n0 r-1 0.0=0,0/6,2 1.0=6,0/10,2",
				"0 L0 n0 r-1 1=0,0/1,2 2=3,0/4,2 5=4,0/6,2"),
			put("6=6,0/6,2",
				"",
				"1 L0 n0 r-1 3=6,0/7,2 4=9,0/10,2 6=6,0/6,2"),
		},
		end: `
			dims 2
			style 0
			root 2.0
			counter 0
			0 L0 n0 r-1 1=0,0/1,2 2=3,0/4,2 5=4,0/6,2
			1 L0 n0 r-1 3=6,0/7,2 4=9,0/10,2 6=6,0/6,2
			2 L1 n0 r-1 0.0=0,0/6,2 1.0=6,0/10,2
			3 free
			4 free
			5 free`,
	}
}

const fourBoxesAlike = `
	dims 2
	root 0.0
	counter 0
	0 L0 n0 r-1 5=1,1/3,3 4=1,1/3,3 3=1,1/3,3 2=1,1/3,3
	1 free
	2 free
	3 free
	4 free
	5 free
	`

// The node that was parted is parted again, with the first way told by what is
// all alike.
func quadBoxesAlikeStory() story {
	return story{
		name:  "StyleQuad, one box in all",
		begin: fourBoxesAlike + "style 0",
		puts: []storyPut{
			put("1=1,1/3,3",
				"0 L0 n0 r-1 5=1,1/3,3 4=1,1/3,3 3=1,1/3,3 2=1,1/3,3 1=1,1/3,3",
				`counter 1
				0 L0 n1 r1 5=1,1/3,3 3=1,1/3,3 1=1,1/3,3
				1 L0 n0 r-1 4=1,1/3,3 2=1,1/3,3`,
				`root 2.1
				2 L1 n1 r-1 0.1=1,1/3,3 1.0=1,1/3,3`),
			put("0=1,1/3,3",
				"",
				"0 L0 n1 r1 5=1,1/3,3 3=1,1/3,3 1=1,1/3,3 0=1,1/3,3"),
			put("6=1,1/3,3",
				"",
				"0 L0 n1 r1 5=1,1/3,3 3=1,1/3,3 1=1,1/3,3 0=1,1/3,3 6=1,1/3,3",
				`counter 2
				0 L0 n2 r3 5=1,1/3,3 1=1,1/3,3 6=1,1/3,3
				3 L0 n1 r1 3=1,1/3,3 0=1,1/3,3`,
				"2 L1 n1 r-1 0.2=1,1/3,3 1.0=1,1/3,3 3.1=1,1/3,3"),
		},
		end: `
			dims 2
			style 0
			root 2.1
			counter 2
			0 L0 n2 r3 5=1,1/3,3 1=1,1/3,3 6=1,1/3,3
			1 L0 n0 r-1 4=1,1/3,3 2=1,1/3,3
			2 L1 n1 r-1 0.2=1,1/3,3 1.0=1,1/3,3 3.1=1,1/3,3
			3 L0 n1 r1 3=1,1/3,3 0=1,1/3,3
			4 free
			5 free`,
	}
}

const fourInDepth = `
	dims 3
	root 0.0
	counter 0
	0 L0 n0 r-1 1=0,0,0/1,1,1 2=0,0,8/1,1,9 3=0,0,2/1,1,3 4=0,0,6/1,1,7
	1 free
	2 free
	3 L0 n0 r-1
	retired 3:1
	`

// There are just as many free places as are needed, and all of them are taken.
func quadDepthStory() story {
	return story{
		name:  "StyleQuad, in depth",
		begin: fourInDepth + "style 0",
		puts: []storyPut{
			put("5=0,1,0/1,2,1",
				"0 L0 n0 r-1 1=0,0,0/1,1,1 2=0,0,8/1,1,9 3=0,0,2/1,1,3 4=0,0,6/1,1,7 5=0,1,0/1,2,1",
				`counter 1
				0 L0 n1 r1 2=0,0,8/1,1,9 4=0,0,6/1,1,7
				1 L0 n0 r-1 1=0,0,0/1,1,1 3=0,0,2/1,1,3 5=0,1,0/1,2,1`,
				`root 2.1
				2 L1 n1 r-1 0.1=0,0,6/1,1,9 1.0=0,0,0/1,2,3`),
		},
		end: `
			dims 3
			style 0
			root 2.1
			counter 1
			0 L0 n1 r1 2=0,0,8/1,1,9 4=0,0,6/1,1,7
			1 L0 n0 r-1 1=0,0,0/1,1,1 3=0,0,2/1,1,3 5=0,1,0/1,2,1
			2 L1 n1 r-1 0.1=0,0,6/1,1,9 1.0=0,0,0/1,2,3
			3 L0 n0 r-1
			retired 3:1`,
	}
}

func starStories() []story {
	return []story{starStory(), starBoxesAlikeStory(), starDepthStory()}
}

// First the root is parted along the axis 0, then a leaf along the axis 1. What
// is parted stands in the order along the axis.
func starStory() story {
	return story{
		name: "StyleStar",
		begin: `
			dims 2
			style 1
			root 1.0
			counter 0
			0 L1 n0 r9
			1 L0 n0 r-1
			2 free
			3 L0 n0 r-1
			4 free
			5 L0 n0 r-1
			6 free
			7 free
			8 free
			retired 0:1 5:0,2 3:3`,
		puts: append(starStoryAtTheRoot(), starStoryBelowTheRoot()...),
		end: `
			dims 2
			style 1
			root 4.1
			counter 2
			0 L1 n0 r9
			1 L0 n1 r2 4=0,0/1,1 3=2,0/3,1 2=10,0/11,1
			2 L0 n2 r6 1=30,0/31,1 5=32,0/33,1 8=32,10/33,11
			3 L0 n0 r-1
			4 L1 n1 r-1 1.1=0,0/11,1 2.2=30,0/33,11 6.0=30,20/32,23
			5 L0 n0 r-1
			6 L0 n0 r-1 6=31,20/32,21 7=30,22/31,23
			7 free
			8 free
			retired 0:1 5:0,2 3:3`,
	}
}

func starStoryAtTheRoot() []storyPut {
	return []storyPut{
		put("1=30,0/31,1", "1 L0 n0 r-1 1=30,0/31,1"),
		put("2=10,0/11,1", "1 L0 n0 r-1 1=30,0/31,1 2=10,0/11,1"),
		put("3=2,0/3,1", "1 L0 n0 r-1 1=30,0/31,1 2=10,0/11,1 3=2,0/3,1"),
		put("4=0,0/1,1", "1 L0 n0 r-1 1=30,0/31,1 2=10,0/11,1 3=2,0/3,1 4=0,0/1,1"),
		put("5=32,0/33,1",
			"1 L0 n0 r-1 1=30,0/31,1 2=10,0/11,1 3=2,0/3,1 4=0,0/1,1 5=32,0/33,1",
			`counter 1
			1 L0 n1 r2 4=0,0/1,1 3=2,0/3,1 2=10,0/11,1
			2 L0 n0 r-1 1=30,0/31,1 5=32,0/33,1`,
			`root 4.1
			4 L1 n1 r-1 1.1=0,0/11,1 2.0=30,0/33,1`),
	}
}

func starStoryBelowTheRoot() []storyPut {
	return []storyPut{
		put("6=31,20/32,21",
			"4 L1 n1 r-1 1.1=0,0/11,1 2.0=30,0/33,21",
			"2 L0 n0 r-1 1=30,0/31,1 5=32,0/33,1 6=31,20/32,21"),
		put("7=30,22/31,23",
			"4 L1 n1 r-1 1.1=0,0/11,1 2.0=30,0/33,23",
			"2 L0 n0 r-1 1=30,0/31,1 5=32,0/33,1 6=31,20/32,21 7=30,22/31,23"),
		put("8=32,10/33,11",
			"",
			"2 L0 n0 r-1 1=30,0/31,1 5=32,0/33,1 6=31,20/32,21 7=30,22/31,23 8=32,10/33,11",
			`counter 2
			2 L0 n2 r6 1=30,0/31,1 5=32,0/33,1 8=32,10/33,11
			6 L0 n0 r-1 6=31,20/32,21 7=30,22/31,23`,
			"4 L1 n1 r-1 1.1=0,0/11,1 2.2=30,0/33,11 6.0=30,20/32,23"),
	}
}

func starBoxesAlikeStory() story {
	return story{
		name:  "StyleStar, one box in all",
		begin: fourBoxesAlike + "style 1",
		puts: []storyPut{
			put("1=1,1/3,3",
				"0 L0 n0 r-1 5=1,1/3,3 4=1,1/3,3 3=1,1/3,3 2=1,1/3,3 1=1,1/3,3",
				`counter 1
				0 L0 n1 r1 5=1,1/3,3 4=1,1/3,3
				1 L0 n0 r-1 3=1,1/3,3 2=1,1/3,3 1=1,1/3,3`,
				`root 2.1
				2 L1 n1 r-1 0.1=1,1/3,3 1.0=1,1/3,3`),
			put("0=1,1/3,3",
				"",
				"0 L0 n1 r1 5=1,1/3,3 4=1,1/3,3 0=1,1/3,3"),
		},
		end: `
			dims 2
			style 1
			root 2.1
			counter 1
			0 L0 n1 r1 5=1,1/3,3 4=1,1/3,3 0=1,1/3,3
			1 L0 n0 r-1 3=1,1/3,3 2=1,1/3,3 1=1,1/3,3
			2 L1 n1 r-1 0.1=1,1/3,3 1.0=1,1/3,3
			3 free
			4 free
			5 free`,
	}
}

// Both cuts have the same areas together, so the first one is taken.
func starDepthStory() story {
	return story{
		name:  "StyleStar, in depth",
		begin: fourInDepth + "style 1",
		puts: []storyPut{
			put("5=0,1,0/1,2,1",
				"0 L0 n0 r-1 1=0,0,0/1,1,1 2=0,0,8/1,1,9 3=0,0,2/1,1,3 4=0,0,6/1,1,7 5=0,1,0/1,2,1",
				`counter 1
				0 L0 n1 r1 1=0,0,0/1,1,1 5=0,1,0/1,2,1
				1 L0 n0 r-1 3=0,0,2/1,1,3 4=0,0,6/1,1,7 2=0,0,8/1,1,9`,
				`root 2.1
				2 L1 n1 r-1 0.1=0,0,0/1,2,1 1.0=0,0,2/1,1,9`),
		},
		end: `
			dims 3
			style 1
			root 2.1
			counter 1
			0 L0 n1 r1 1=0,0,0/1,1,1 5=0,1,0/1,2,1
			1 L0 n0 r-1 3=0,0,2/1,1,3 4=0,0,6/1,1,7 2=0,0,8/1,1,9
			2 L1 n1 r-1 0.1=0,0,0/1,2,1 1.0=0,0,2/1,1,9
			3 L0 n0 r-1
			retired 3:1`,
	}
}
