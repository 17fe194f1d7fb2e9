package tests

import (
	"fmt"
	"slices"
	"strings"
	"testing"

	"loop.example/g00680/impl"
)

// A dropStory tells what comes of a tree out of which pairs are taken, one
// after the other. Of each step it tells the Level and what moved, and just the
// lines that it turns; all others have to stay. The end is the tree behind all
// of that, told whole.
type dropStory struct {
	name  string
	begin string
	drops []storyDrop
	end   string
}

type storyDrop struct {
	pair  string
	watch string
	steps []toldStep
}

type toldStep struct {
	moved string
	lines string
}

func drop(pair string, watch string, steps ...toldStep) storyDrop {
	return storyDrop{pair, watch, steps}
}

func by(moved string, lines ...string) toldStep {
	return toldStep{moved, strings.Join(lines, "\n")}
}

func movedIn(words string) impl.Moved {
	list := strings.Fields(words)
	m := impl.Moved{Level: numberIn(list[0][1:])}
	for _, w := range list[1:] {
		m.Entries = append(m.Entries, entryIn(w))
	}
	return m
}

func watchIn(word string) []int64 {
	if word == "" {
		return nil
	}
	return numbersIn(word)
}

func sayDropStory(t *testing.T, s dropStory) {
	t.Helper()
	tr := treeIn(s.begin)
	sayRight(t, "the begin", tr)
	for _, c := range s.drops {
		p, watch := pairIn(c.pair), watchIn(c.watch)
		var trees []impl.Tree
		var moves []impl.Moved
		step := tr
		for _, told := range c.steps {
			step = edited(step, told.lines)
			trees, moves = append(trees, step), append(moves, movedIn(told.moved))
		}
		sayDropTrace(t, c.pair, impl.DropTrace(tr, p, watch), trees, moves)
		if len(watch) == 0 {
			sayTreeIs(t, c.pair, impl.DropFrom(tr, p), step)
		}
		sayDroppedOut(t, c.pair, tr, p, step)
		sayDrop(t, c.pair, tr, p, watch)
		tr = step
	}
	if end := treeIn(s.end); !likeTree(tr, end) {
		t.Errorf("the end:\n%s, not\n%s", told(tr), told(end))
	}
}

func TestDropStories(t *testing.T) {
	for _, s := range slices.Concat(wayStories(), joinStories(), shareQuadStories(), shareStarStories()) {
		t.Run(s.name, func(t *testing.T) { sayDropStory(t, s) })
	}
}

func wayStories() []dropStory {
	return []dropStory{lastPairStory(), boxesAlikeStory(), wayStory()}
}

// The root is a leaf, and stays one without entries.
func lastPairStory() dropStory {
	return dropStory{
		name: "down to the last pair",
		begin: `
			dims 2
			style 0
			root 2.5
			counter 6
			0 free
			1 L0 n6 r4 30=0,0/1,1
			2 L0 n5 r3 30=0,0/1,1 4=10,0/11,1 999=0,0/1,1
			3 free
			retired 1:2`,
		drops: []storyDrop{
			drop("4=10,0/11,1", "",
				by("L0", "2 L0 n5 r3 30=0,0/1,1 999=0,0/1,1"),
				by("L0")),
			drop("999=0,0/1,1", "0,3",
				by("L0", "2 L0 n5 r3 30=0,0/1,1"),
				by("L0")),
			drop("30=0,0/1,1", "",
				by("L0", "2 L0 n5 r3"),
				by("L0")),
		},
		end: `
			dims 2
			style 0
			root 2.5
			counter 6
			0 free
			1 L0 n6 r4 30=0,0/1,1
			2 L0 n5 r3
			3 free
			retired 1:2`,
	}
}

// Each leaf may have each pair, so that those that stand ahead are seen in
// vain, and those that stand behind are not seen. At the end a leaf is joined
// to the first one of two that are alike.
func boxesAlikeStory() dropStory {
	return dropStory{
		name: "three leaves with one box",
		begin: `
			dims 2
			style 1
			root 3.2
			counter 9
			0 L0 n4 r-1 1=0,0/10,10 2=5,5/6,6 3=0,0/1,1
			1 L0 n9 r5 4=0,0/10,10 5=5,5/6,6 6=5,5/6,7
			2 L0 n0 r0 7=0,0/10,10 8=5,5/6,6 9=9,9/10,10
			3 L1 n2 r-1 2.0=0,0/10,10 0.4=0,0/10,10 1.9=0,0/10,10
			4 free
			5 L0 n3 r-1 5=5,5/6,6
			retired 5:1`,
		drops: []storyDrop{
			drop("8=5,5/6,6", "",
				by("L1"),
				by("L0", "2 L0 n0 r0 7=0,0/10,10 9=9,9/10,10"),
				by("L0"),
				by("L1")),
			drop("5=5,5/6,6", "",
				by("L1"),
				by("L0"),
				by("L0"),
				by("L0", "1 L0 n9 r5 4=0,0/10,10 6=5,5/6,7"),
				by("L0"),
				by("L1")),
			drop("2=5,5/6,6", "2",
				by("L1"),
				by("L0"),
				by("L0", "0 L0 n4 r-1 1=0,0/10,10 3=0,0/1,1"),
				by("L0"),
				by("L1")),
			drop("3=0,0/1,1", "0,1,2,3",
				by("L1"),
				by("L0"),
				by("L0", "0 L0 n4 r-1 1=0,0/10,10"),
				by("L0 1=0,0/10,10",
					"2 L0 n0 r0 7=0,0/10,10 9=9,9/10,10 1=0,0/10,10",
					"0 L0 n4 r-1",
					"3 L1 n2 r-1 2.0=0,0/10,10 1.9=0,0/10,10",
					"retired 5:1 0:0,1,2,3"),
				by("L1")),
		},
		end: `
			dims 2
			style 1
			root 3.2
			counter 9
			0 L0 n4 r-1
			1 L0 n9 r5 4=0,0/10,10 6=5,5/6,7
			2 L0 n0 r0 7=0,0/10,10 9=9,9/10,10 1=0,0/10,10
			3 L1 n2 r-1 2.0=0,0/10,10 1.9=0,0/10,10
			4 free
			5 L0 n3 r-1 5=5,5/6,6
			retired 5:1 0:0,1,2,3`,
	}
}

const wayBegin = `
	dims 2
	style 0
	root 9.3
	counter 8
	0 L0 n1 r-1 1=0,0/1,1 2=3,3/4,4
	1 L0 n2 r0 3=7,7/8,8 4=9,9/10,10
	2 L0 n4 r-1 5=0,0/1,1 6=7,7/8,8 7=5,5/6,6
	3 L0 n5 r2 8=20,20/21,21 9=21,21/22,22
	4 L0 n6 r3 10=4,4/5,5 11=5,5/6,6 12=8,8/9,9 13=6,4/7,5
	5 free
	6 free
	7 L1 n7 r-1 0.1=0,0/4,4 1.2=7,7/10,10
	8 L1 n8 r7 2.4=0,0/8,8 3.5=20,20/22,22 4.6=4,4/9,9
	9 L2 n3 r-1 7.7=0,0/10,10 8.8=0,0/22,22`

// Three levels. The node 7 covers most pairs of the node 8, and its leaves some
// of them, so that it is seen ahead: with leaves behind it and without. The
// last mend goes up to the root.
func wayStory() dropStory {
	return dropStory{
		name:  "three levels",
		begin: wayBegin,
		drops: append(wayDropsThatMend(), wayDropsThatJoin()...),
		end: `
			dims 2
			style 0
			root 7.7
			counter 8
			0 L0 n1 r-1 1=0,0/1,1 2=3,3/4,4
			1 L0 n2 r0 3=7,7/8,8 4=9,9/10,10
			2 free
			3 L0 n5 r2
			4 L0 n6 r3 10=4,4/5,5 13=6,4/7,5 8=20,20/21,21 5=0,0/1,1
			5 free
			6 free
			7 L1 n7 r-1 0.1=0,0/4,4 1.2=7,7/10,10 4.6=0,0/21,21
			8 free
			9 free
			retired 3:0,2`,
	}
}

func wayDropsThatMend() []storyDrop {
	return []storyDrop{
		drop("11=5,5/6,6", "",
			by("L2"),
			by("L1"),
			by("L1"),
			by("L0"),
			by("L0", "4 L0 n6 r3 10=4,4/5,5 12=8,8/9,9 13=6,4/7,5"),
			by("L0"),
			by("L1"),
			by("L2")),
		drop("12=8,8/9,9", "",
			by("L2"),
			by("L1"),
			by("L0"),
			by("L1"),
			by("L0", "4 L0 n6 r3 10=4,4/5,5 13=6,4/7,5"),
			by("L0", "8 L1 n8 r7 2.4=0,0/8,8 3.5=20,20/22,22 4.6=4,4/7,5"),
			by("L1"),
			by("L2")),
		drop("9=21,21/22,22", "0,2",
			by("L2"),
			by("L1"),
			by("L0", "3 L0 n5 r2 8=20,20/21,21"),
			by("L0 8=20,20/21,21",
				"4 L0 n6 r3 10=4,4/5,5 13=6,4/7,5 8=20,20/21,21",
				"3 L0 n5 r2",
				"8 L1 n8 r7 2.4=0,0/8,8 4.6=4,4/21,21",
				"retired 3:0,2"),
			by("L1", "9 L2 n3 r-1 7.7=0,0/10,10 8.8=0,0/21,21"),
			by("L2")),
	}
}

func wayDropsThatJoin() []storyDrop {
	return []storyDrop{
		drop("7=5,5/6,6", "1",
			by("L2"),
			by("L1"),
			by("L1"),
			by("L0", "2 L0 n4 r-1 5=0,0/1,1 6=7,7/8,8"),
			by("L0"),
			by("L1"),
			by("L2")),
		drop("6=7,7/8,8", "",
			by("L2"),
			by("L1"),
			by("L0"),
			by("L1"),
			by("L0", "2 L0 n4 r-1 5=0,0/1,1"),
			by("L0 5=0,0/1,1",
				"4 L0 n6 r3 10=4,4/5,5 13=6,4/7,5 8=20,20/21,21 5=0,0/1,1",
				"2 free",
				"8 L1 n8 r7 4.6=0,0/21,21"),
			by("L1 4.6=0,0/21,21",
				"7 L1 n7 r-1 0.1=0,0/4,4 1.2=7,7/10,10 4.6=0,0/21,21",
				"8 free",
				"9 L2 n3 r-1 7.7=0,0/21,21"),
			by("L2",
				"root 7.7",
				"9 free")),
	}
}

func joinStories() []dropStory {
	return []dropStory{joinBehindStory(), joinAheadStory(), shareUpStory()}
}

// The node at hand stands ahead of its neighbour, which was parted from it.
// The old root, which is retired behind it, keeps its entry.
func joinBehindStory() dropStory {
	return dropStory{
		name: "joined to a node that stands behind",
		begin: `
			dims 2
			style 0
			root 2.1
			counter 3
			0 L0 n1 r1 1=0,0/1,1 2=2,0/3,1
			1 L0 n0 r-1 3=10,0/11,1 4=12,0/13,1 5=14,0/15,1
			2 L1 n1 r-1 0.1=0,0/3,1 1.0=10,0/15,1
			3 free
			4 L0 n3 r2
			5 L1 n2 r4 4.3=7,7/8,8
			retired 5:0 4:1,2`,
		drops: []storyDrop{
			drop("1=0,0/1,1", "0,1,3",
				by("L1"),
				by("L0", "0 L0 n1 r1 2=2,0/3,1"),
				by("L0 2=2,0/3,1",
					"1 L0 n0 r-1 3=10,0/11,1 4=12,0/13,1 5=14,0/15,1 2=2,0/3,1",
					"0 L0 n1 r1",
					"2 L1 n1 r-1 1.0=2,0/15,1",
					"retired 5:0 4:1,2 0:0,1,3"),
				by("L1",
					"root 1.0",
					"retired 5:0 4:1,2 0:0,1,3 2:0,1,3")),
		},
		end: `
			dims 2
			style 0
			root 1.0
			counter 3
			0 L0 n1 r1
			1 L0 n0 r-1 3=10,0/11,1 4=12,0/13,1 5=14,0/15,1 2=2,0/3,1
			2 L1 n1 r-1 1.0=2,0/15,1
			3 free
			4 L0 n3 r2
			5 L1 n2 r4 4.3=7,7/8,8
			retired 5:0 4:1,2 0:0,1,3 2:0,1,3`,
	}
}

// The neighbour stands ahead, and the node at hand was parted from it: its Right
// tells of a place that is free then. There are others ahead of both, between
// them and behind them.
func joinAheadStory() dropStory {
	return dropStory{
		name: "joined to a node that stands ahead",
		begin: `
			dims 2
			style 1
			root 6.4
			counter 5
			0 L0 n3 r4 1=50,0/51,1 2=52,0/53,1
			1 L0 n5 r3 3=6,0/7,1 4=0,0/1,1 5=4,0/5,1
			2 L0 n4 r0 6=100,0/101,1 7=102,0/103,1
			3 L0 n0 r-1 8=9,0/10,1 9=12,0/13,1
			4 free
			5 L2 n1 r6
			6 L1 n4 r5 0.3=50,0/53,1 1.5=0,0/7,1 2.4=100,0/103,1 3.0=9,0/13,1
			7 free
			retired 5:3`,
		drops: []storyDrop{
			drop("9=12,0/13,1", "",
				by("L1"),
				by("L0", "3 L0 n0 r-1 8=9,0/10,1"),
				by("L0 8=9,0/10,1",
					"1 L0 n5 r3 3=6,0/7,1 4=0,0/1,1 5=4,0/5,1 8=9,0/10,1",
					"3 free",
					"6 L1 n4 r5 0.3=50,0/53,1 1.5=0,0/10,1 2.4=100,0/103,1"),
				by("L1")),
			drop("2=52,0/53,1", "1",
				by("L1"),
				by("L0", "0 L0 n3 r4 1=50,0/51,1"),
				by("L0 4=0,0/1,1 5=4,0/5,1 3=6,0/7,1 1=50,0/51,1",
					"0 L0 n3 r4 4=0,0/1,1 5=4,0/5,1 3=6,0/7,1",
					"1 L0 n5 r3 8=9,0/10,1 1=50,0/51,1",
					"6 L1 n4 r5 0.3=0,0/7,1 1.5=9,0/51,1 2.4=100,0/103,1"),
				by("L1")),
		},
		end: `
			dims 2
			style 1
			root 6.4
			counter 5
			0 L0 n3 r4 4=0,0/1,1 5=4,0/5,1 3=6,0/7,1
			1 L0 n5 r3 8=9,0/10,1 1=50,0/51,1
			2 L0 n4 r0 6=100,0/101,1 7=102,0/103,1
			3 free
			4 free
			5 L2 n1 r6
			6 L1 n4 r5 0.3=0,0/7,1 1.5=9,0/51,1 2.4=100,0/103,1
			7 free
			retired 5:3`,
	}
}

// A mend goes up: a leaf is joined to another one, and then the node above has
// too few entries, and its neighbour too many to join. The root keeps two.
func shareUpStory() dropStory {
	return dropStory{
		name: "entries of nodes above leaves",
		begin: `
			dims 2
			style 0
			root 12.9
			counter 20
			0 L0 n1 r1 1=0,0/1,1 2=2,0/3,1
			1 L0 n2 r-1 3=4,0/5,1 4=6,0/7,1
			2 L0 n3 r-1 5=10,0/11,1 6=12,0/13,1
			3 L0 n4 r-1 7=20,0/21,1 8=22,0/23,1
			4 L0 n5 r-1 9=30,0/31,1 10=32,0/33,1
			5 L0 n6 r-1 11=40,0/41,1 12=42,0/43,1
			6 free
			7 free
			8 free
			9 free
			10 L1 n7 r11 0.1=0,0/3,1 1.2=4,0/7,1
			11 L1 n8 r-1 2.3=10,0/13,1 3.4=20,0/23,1 4.5=30,0/33,1 5.6=40,0/43,1
			12 L2 n9 r-1 10.7=0,0/7,1 11.8=10,0/43,1`,
		drops: []storyDrop{
			drop("1=0,0/1,1", "2,3",
				by("L2"),
				by("L1"),
				by("L0", "0 L0 n1 r1 2=2,0/3,1"),
				by("L0 2=2,0/3,1",
					"1 L0 n2 r-1 3=4,0/5,1 4=6,0/7,1 2=2,0/3,1",
					"0 L0 n1 r1",
					"10 L1 n7 r11 1.2=2,0/7,1",
					"retired 0:2,3"),
				by("L1 2.3=10,0/13,1 3.4=20,0/23,1",
					"10 L1 n7 r11 1.2=2,0/7,1 2.3=10,0/13,1 3.4=20,0/23,1",
					"11 L1 n8 r-1 4.5=30,0/33,1 5.6=40,0/43,1",
					"12 L2 n9 r-1 10.7=2,0/23,1 11.8=30,0/43,1"),
				by("L2")),
		},
		end: `
			dims 2
			style 0
			root 12.9
			counter 20
			0 L0 n1 r1
			1 L0 n2 r-1 3=4,0/5,1 4=6,0/7,1 2=2,0/3,1
			2 L0 n3 r-1 5=10,0/11,1 6=12,0/13,1
			3 L0 n4 r-1 7=20,0/21,1 8=22,0/23,1
			4 L0 n5 r-1 9=30,0/31,1 10=32,0/33,1
			5 L0 n6 r-1 11=40,0/41,1 12=42,0/43,1
			6 free
			7 free
			8 free
			9 free
			10 L1 n7 r11 1.2=2,0/7,1 2.3=10,0/13,1 3.4=20,0/23,1
			11 L1 n8 r-1 4.5=30,0/33,1 5.6=40,0/43,1
			12 L2 n9 r-1 10.7=2,0/23,1 11.8=30,0/43,1
			retired 0:2,3`,
	}
}

// shared is a tree, without a style, whose pair 2 is taken out of a leaf that
// has two, beside one that has four. What is left of both lies along a line.
type shared struct {
	begin string
	pair  string
	out   string
}

func sharedAtTheEnd() shared {
	return shared{
		begin: `
			dims 2
			root 2.4
			counter 5
			0 L0 n5 r1 1=0,0/1,1 2=0,0/1,3
			1 L0 n3 r0 6=22,0/23,1 3=2,0/3,1 5=20,0/21,1 4=4,0/5,1
			2 L1 n4 r-1 0.5=0,0/1,3 1.3=2,0/23,1
			3 free
			`,
		pair: "2=0,0/1,3",
		out:  "0 L0 n5 r1 1=0,0/1,1",
	}
}

func sharedBetween() shared {
	return shared{
		begin: `
			dims 2
			root 2.4
			counter 5
			0 L0 n5 r1 1=4,0/5,1 2=4,0/5,3
			1 L0 n3 r0 6=22,0/23,1 3=0,0/1,1 5=20,0/21,1 4=2,0/3,1
			2 L1 n4 r-1 1.3=0,0/23,1 0.5=4,0/5,3
			3 free
			`,
		pair: "2=4,0/5,3",
		out:  "0 L0 n5 r1 1=4,0/5,1",
	}
}

func sharedNearTheOtherEnd() shared {
	return shared{
		begin: `
			dims 2
			root 2.4
			counter 5
			0 L0 n5 r-1 1=18,0/19,1 2=18,0/19,2
			1 L0 n3 r0 5=4,0/5,1 3=0,0/1,1 6=22,0/23,1 4=2,0/3,1
			2 L1 n4 r-1 1.3=0,0/23,1 0.5=18,0/19,2
			3 free
			`,
		pair: "2=18,0/19,2",
		out:  "0 L0 n5 r-1 1=18,0/19,1",
	}
}

func sharedInDepth() shared {
	return shared{
		begin: `
			dims 3
			root 2.4
			counter 5
			0 L0 n5 r-1 1=0,0,0/1,1,1 2=0,1,0/1,2,1
			1 L0 n3 r0 5=0,0,11/1,1,12 6=0,0,13/1,1,14 3=0,0,9/1,1,10 4=0,0,2/1,1,3
			2 L1 n4 r-1 0.5=0,0,0/1,2,1 1.3=0,0,2/1,1,14
			3 free
			`,
		pair: "2=0,1,0/1,2,1",
		out:  "0 L0 n5 r-1 1=0,0,0/1,1,1",
	}
}

// StyleQuad begins with the two ends of the line, of which the one that stands
// ahead is the first one; both sides are told as they stood.
func shareQuadStories() []dropStory {
	return []dropStory{
		shareStory("StyleQuad, from the neighbour alone", 0, sharedAtTheEnd(),
			"L0 3=2,0/3,1 4=4,0/5,1",
			"0 L0 n5 r1 1=0,0/1,1 3=2,0/3,1 4=4,0/5,1",
			"1 L0 n3 r0 6=22,0/23,1 5=20,0/21,1",
			"2 L1 n4 r-1 0.5=0,0/5,1 1.3=20,0/23,1"),
		shareStory("StyleQuad, from both, of which the neighbour has both ends", 0, sharedBetween(),
			"L0 6=22,0/23,1 5=20,0/21,1 1=4,0/5,1",
			"0 L0 n5 r1 6=22,0/23,1 5=20,0/21,1",
			"1 L0 n3 r0 1=4,0/5,1 3=0,0/1,1 4=2,0/3,1",
			"2 L1 n4 r-1 1.3=0,0/5,1 0.5=20,0/23,1"),
		shareStory("StyleQuad, from both", 0, sharedNearTheOtherEnd(),
			"L0 5=4,0/5,1 3=0,0/1,1 4=2,0/3,1 1=18,0/19,1",
			"0 L0 n5 r-1 5=4,0/5,1 3=0,0/1,1 4=2,0/3,1",
			"1 L0 n3 r0 1=18,0/19,1 6=22,0/23,1",
			"2 L1 n4 r-1 1.3=18,0/23,1 0.5=0,0/5,1"),
		shareStory("StyleQuad, in depth", 0, sharedInDepth(),
			"L0 4=0,0,2/1,1,3",
			"0 L0 n5 r-1 1=0,0,0/1,1,1 4=0,0,2/1,1,3",
			"1 L0 n3 r0 5=0,0,11/1,1,12 6=0,0,13/1,1,14 3=0,0,9/1,1,10",
			"2 L1 n4 r-1 0.5=0,0,0/1,1,3 1.3=0,0,9/1,1,14"),
	}
}

// StyleStar tells both sides in the order along the line, that of what moved,
// too.
func shareStarStories() []dropStory {
	return []dropStory{
		shareStory("StyleStar, from the neighbour alone", 1, sharedAtTheEnd(),
			"L0 3=2,0/3,1 4=4,0/5,1",
			"0 L0 n5 r1 1=0,0/1,1 3=2,0/3,1 4=4,0/5,1",
			"1 L0 n3 r0 5=20,0/21,1 6=22,0/23,1",
			"2 L1 n4 r-1 0.5=0,0/5,1 1.3=20,0/23,1"),
		shareStory("StyleStar, from the neighbour alone, ahead of what was there", 1, sharedBetween(),
			"L0 3=0,0/1,1 4=2,0/3,1",
			"0 L0 n5 r1 3=0,0/1,1 4=2,0/3,1 1=4,0/5,1",
			"1 L0 n3 r0 5=20,0/21,1 6=22,0/23,1",
			"2 L1 n4 r-1 1.3=20,0/23,1 0.5=0,0/5,1"),
		shareStory("StyleStar, from both", 1, sharedNearTheOtherEnd(),
			"L0 3=0,0/1,1 4=2,0/3,1 5=4,0/5,1 1=18,0/19,1",
			"0 L0 n5 r-1 3=0,0/1,1 4=2,0/3,1 5=4,0/5,1",
			"1 L0 n3 r0 1=18,0/19,1 6=22,0/23,1",
			"2 L1 n4 r-1 1.3=18,0/23,1 0.5=0,0/5,1"),
		shareStory("StyleStar, in depth", 1, sharedInDepth(),
			"L0 4=0,0,2/1,1,3",
			"0 L0 n5 r-1 1=0,0,0/1,1,1 4=0,0,2/1,1,3",
			"1 L0 n3 r0 3=0,0,9/1,1,10 5=0,0,11/1,1,12 6=0,0,13/1,1,14",
			"2 L1 n4 r-1 0.5=0,0,0/1,1,3 1.3=0,0,9/1,1,14"),
	}
}

// shareStory tells what moved by the mend, and the lines that it turns.
func shareStory(name string, style int64, s shared, moved string, lines ...string) dropStory {
	begin := fmt.Sprint(s.begin, "style ", style)
	return dropStory{
		name:  name,
		begin: begin,
		drops: []storyDrop{
			drop(s.pair, "",
				by("L1"),
				by("L0", s.out),
				by(moved, lines...),
				by("L1")),
		},
		end: begin + "\n" + strings.Join(lines, "\n"),
	}
}
