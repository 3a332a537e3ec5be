package tests

import (
	"slices"
	"testing"

	"loop.example/blockexecutor/impl"
)

// forkedBlocks is a tree with MaxBlocks and two branches, with fixed values from a separate calculation. All but the views of the blocks 2, 8 and 11 are greater by 1 than those before; the blocks 8 and 11 have the same view.
func forkedBlocks() impl.BlockTree {
	return blockTree(storeOf(2, 7), []impl.Block{
		block(0, 0, 0, nil, 94493, 21),
		block(35273, 1, 1, actions(action(impl.ActPut, 1, 0, 10)), 329676, 716344),
		block(35273, 1, 2, nil, 94493, 21),
		block(204417, 2, 2, actions(action(impl.ActPut, 3, 0, 30)), 223403, 716426),
		block(32097, 2, 3, nil, 94493, 21),
		block(218852, 3, 3, actions(action(impl.ActPut, 5, 0, 50)), 712950, 716508),
		block(74608, 3, 4, nil, 94493, 21),
		block(154561, 4, 4, actions(action(impl.ActPut, 7, 0, 70)), 780220, 716590),
		block(214928, 4, 6, nil, 94493, 21),
		block(614658, 5, 7, actions(action(impl.ActPut, 9, 0, 90)), 775677, 716672),
		block(379028, 6, 8, nil, 775677, 21),
		block(363925, 5, 6, actions(action(impl.ActPut, 11, 0, 110)), 885930, 716754),
		block(296024, 6, 7, nil, 885930, 21),
		block(690347, 7, 8, actions(action(impl.ActPut, 13, 0, 130)), 10857, 716836),
	}, -1, 0, 0, 1, 2, 3, 4, 5, 6, 8, 9, 7, 11, 12)
}

func forkedSums() []int {
	return []int{35273, 204417, 32097, 218852, 74608, 154561, 214928, 363925, 614658, 379028, 222927, 296024, 690347, 244285}
}

// viewTree is a tree of right blocks over a store with those numbers in Before and those views; every block but the first one puts a value of its own.
func viewTree(s []impl.Entry, before []int, views []int) impl.BlockTree {
	t := plainTreeOf(s)
	for n := 1; n < len(before); n++ {
		t = plainGrow(t, before[n], views[n], actions(action(impl.ActPut, n, 0, 10*n)))
	}
	return t
}

// wayOf is a way of blocks with those views, the first one with the view 0.
func wayOf(views ...int) impl.BlockTree {
	before := []int{-1}
	for n := range views[1:] {
		before = append(before, n)
	}
	return viewTree(storeOf(1, 9), before, views)
}

// plainHeads asks every block for two behind it.
func plainHeads(t impl.BlockTree, certs []impl.Cert) []int {
	marks := plainCertified(t, certs)
	follows := func(a int, b int) bool {
		return marks[a] && marks[b] && t.Before[b] == a && t.Blocks[b].View == t.Blocks[a].View+1
	}
	var heads []int
	for b := range t.Blocks {
		isHead := false
		for c := range t.Blocks {
			for d := range t.Blocks {
				isHead = isHead || follows(b, c) && follows(c, d)
			}
		}
		if isHead {
			heads = append(heads, b)
		}
	}
	return heads
}

// plainCommittedTo asks for every view, from the greatest one on, for a head.
func plainCommittedTo(t impl.BlockTree, heads []int) int {
	for view := impl.MaxView; view >= 0; view-- {
		for _, n := range heads {
			if t.Blocks[n].View == view {
				return n
			}
		}
	}
	return 0
}

// plainAgree asks every two.
func plainAgree(t impl.BlockTree, heads []int) bool {
	for _, a := range heads {
		for _, b := range heads {
			if !slices.Contains(plainPath(t, a), b) && !slices.Contains(plainPath(t, b), a) {
				return false
			}
		}
	}
	return true
}

// checkCommits checks what all three functions answer.
func checkCommits(t *testing.T, tree impl.BlockTree, certs []impl.Cert, heads []int, to int, agree bool) {
	t.Helper()
	if got := impl.CommitHeads(tree, certs); !slices.Equal(got, heads) {
		t.Errorf("CommitHeads(%+v, %+v) = %v, want %v", tree, certs, got, heads)
	}
	if got := impl.CommittedTo(tree, certs); got != to {
		t.Errorf("CommittedTo(%+v, %+v) = %d, want %d", tree, certs, got, to)
	}
	if got := impl.CommitsAgree(tree, certs); got != agree {
		t.Errorf("CommitsAgree(%+v, %+v) = %v", tree, certs, got)
	}
}

// checkNoCommits is for arguments that are not valid.
func checkNoCommits(t *testing.T, tree impl.BlockTree, certs []impl.Cert) {
	t.Helper()
	checkCommits(t, tree, certs, nil, -1, false)
}

// checkPlainCommits checks them against the references.
func checkPlainCommits(t *testing.T, tree impl.BlockTree, certs []impl.Cert) {
	t.Helper()
	heads := plainHeads(tree, certs)
	checkCommits(t, tree, certs, heads, plainCommittedTo(tree, heads), plainAgree(tree, heads))
}

// checkCommitted certifies those blocks of a tree, and no others, and checks the heads, which agree, and of which the last one has the greatest view.
func checkCommitted(t *testing.T, tree impl.BlockTree, certified []int, heads ...int) {
	t.Helper()
	to := 0
	if len(heads) > 0 {
		to = heads[len(heads)-1]
	}
	checkCommits(t, tree, certsOf(tree, 7, certified...), heads, to, true)
}

// eachSet visits all sets of the numbers below a count.
func eachSet(count int, visit func(numbers []int)) {
	for set := range 1 << count {
		var numbers []int
		for n := range count {
			if set>>n&1 == 1 {
				numbers = append(numbers, n)
			}
		}
		visit(numbers)
	}
}

// eachCommit visits trees with certificates: all trees of up to five blocks in which views grow by 1 or 2, with every set of their blocks certified; trees with two branches; and great trees, with lists of all kinds.
func eachCommit(visit func(tree impl.BlockTree, certs []impl.Cert)) {
	for count := 1; count <= 5; count++ {
		for i, shape := range smallShapes(count) {
			eachSet(count-1, func(steps []int) {
				views := []int{0}
				for n := 1; n < count; n++ {
					step := 1
					if slices.Contains(steps, n-1) {
						step = 2
					}
					views = append(views, views[shape[n]]+step)
				}
				tree := viewTree(fewStores()[i%6], shape, views)
				eachSet(count, func(numbers []int) {
					visit(tree, certsOf(tree, manySigners()[len(numbers)%5], numbers...))
				})
			})
		}
	}
	eachBranched(visit)
	eachTree(func(tree impl.BlockTree) {
		for _, certs := range certLists(tree) {
			visit(tree, certs)
		}
	})
}

// branched is a tree with two ways that part behind a trunk, of the lengths given, and the view of each way grows by its gap first, and then by 1. The blocks of both are numbered by turns, or those of the first one first.
func branched(trunk int, lengths [2]int, gaps [2]int, turns bool) impl.BlockTree {
	before, views := []int{-1}, []int{0}
	put := func(number int, step int) int {
		before, views = append(before, number), append(views, views[number]+step)
		return len(before) - 1
	}
	root := 0
	for range trunk {
		root = put(root, 1)
	}
	ends, left := [2]int{root, root}, lengths
	for left[0]+left[1] > 0 {
		way := 0
		if left[0] == 0 || turns && left[1] > 0 && (left[0]+left[1])%2 == 1 {
			way = 1
		}
		step := 1
		if left[way] == lengths[way] {
			step = gaps[way]
		}
		ends[way] = put(ends[way], step)
		left[way]--
	}
	return viewTree(nil, before, views)
}

// eachBranched visits such trees with all blocks certified, and without one of them.
func eachBranched(visit func(tree impl.BlockTree, certs []impl.Cert)) {
	for trunk := range 4 {
		for _, lengths := range [][2]int{{3, 3}, {3, 5}, {4, 3}, {5, 5}, {2, 3}} {
			for _, gaps := range [][2]int{{1, 1}, {1, 2}, {2, 1}, {3, 3}, {1, 5}, {6, 1}} {
				for _, turns := range []bool{false, true} {
					tree := branched(trunk, lengths, gaps, turns)
					all := inOrder(len(tree.Blocks))
					visit(tree, certsOf(tree, 14, all...))
					for n := range all {
						visit(tree, certsOf(tree, 13, slices.Delete(slices.Clone(all), n, n+1)...))
					}
				}
			}
		}
	}
}

func TestForkedBlocks(t *testing.T) {
	tree := forkedBlocks()
	checkTree(t, tree, true)
	for n, sum := range forkedSums() {
		checkFind(t, tree, sum, n)
	}
	checkRightBlocks(t, tree, slices.Repeat([]bool{true}, 14))
}

func TestCommitValues(t *testing.T) {
	tree, sums := forkedBlocks(), forkedSums()
	for _, c := range []struct {
		certified []int
		heads     []int
		to        int
		agree     bool
	}{
		{nil, nil, 0, true},
		{inOrder(14), []int{0, 1, 2, 3, 8, 11}, 8, false},
		{[]int{1, 3, 5, 7, 11, 12, 13}, []int{0, 1, 3, 11}, 11, true},
		{[]int{2, 4, 6, 8, 9, 10}, []int{2, 8}, 8, true},
		{[]int{1, 2, 3, 4, 5, 6, 7, 8, 9, 10, 11, 13}, []int{0, 1, 2, 3, 8}, 8, false},
		{[]int{1, 2, 3, 4, 5, 6, 7, 8, 10, 11, 12, 13}, []int{0, 1, 2, 3, 11}, 11, false},
		{[]int{8, 9, 10, 11, 12, 13}, []int{8, 11}, 8, false},
		{[]int{13, 12, 11, 10, 9, 8, 1}, []int{8, 11}, 8, false},
		{[]int{1, 3, 8, 9, 10}, []int{0, 8}, 8, true},
		{[]int{1, 3}, []int{0}, 0, true},
		{[]int{2, 4, 6, 1, 3, 5}, []int{0, 1, 2}, 2, false},
		{[]int{2, 4, 6, 3, 5, 7}, []int{2, 3}, 2, false},
		{[]int{3, 5, 7}, []int{3}, 3, true},
		{[]int{11, 12, 13}, []int{11}, 11, true},
		{[]int{1, 2, 4, 5, 7, 8, 9, 11, 12}, nil, 0, true},
		{[]int{9, 10, 12, 13, 6, 4}, nil, 0, true},
	} {
		var certs []impl.Cert
		for _, n := range c.certified {
			certs = append(certs, cert(sums[n], tree.Blocks[n].View, 11))
		}
		checkCommits(t, tree, certs, c.heads, c.to, c.agree)
		slices.Reverse(certs)
		checkCommits(t, tree, certs, c.heads, c.to, c.agree)
	}
}

// P77: behind every head are two blocks, certified, with the next two views, behind every other block there are none; heads ascend.
func TestCommitsNeedThreeBlocks(t *testing.T) {
	t.Parallel()
	heads, apart := 0, 0
	eachCommit(func(tree impl.BlockTree, certs []impl.Cert) {
		checkPlainCommits(t, tree, certs)
		got, marks := impl.CommitHeads(tree, certs), impl.CertifiedBlocks(tree, certs)
		if !slices.IsSorted(got) || len(slices.Compact(slices.Clone(got))) != len(got) {
			t.Errorf("the heads %v of %+v do not ascend", got, tree)
		}
		for _, b := range got {
			isSecond := func(d int) bool {
				c := tree.Before[d]
				return marks[d] && c >= 0 && marks[c] && tree.Before[c] == b && tree.Blocks[c].View == tree.Blocks[b].View+1 && tree.Blocks[d].View == tree.Blocks[b].View+2
			}
			if !marks[b] || !slices.ContainsFunc(inOrder(len(tree.Blocks)), isSecond) {
				t.Errorf("of %+v, with %v certified, block %d is a head", tree, marks, b)
			}
		}
		heads += len(got)
		if !impl.CommitsAgree(tree, certs) {
			apart++
		}
	})
	if heads < 10000 || apart < 500 {
		t.Errorf("only %d heads, and %d times they do not agree", heads, apart)
	}
}

// P78: it is a head, or the first block, and no head has a greater view, nor the same one and a lesser number.
func TestHeadsHaveTheGreatestView(t *testing.T) {
	t.Parallel()
	eachCommit(func(tree impl.BlockTree, certs []impl.Cert) {
		heads, to := impl.CommitHeads(tree, certs), impl.CommittedTo(tree, certs)
		if to != 0 && !slices.Contains(heads, to) || to == 0 && len(heads) > 0 && heads[0] != 0 {
			t.Errorf("of the heads %v of %+v up to %d is committed", heads, tree, to)
			return
		}
		for _, n := range heads {
			if view := tree.Blocks[n].View; view > tree.Blocks[to].View || view == tree.Blocks[to].View && n < to {
				t.Errorf("up to %d is committed in %+v, but %d is a head", to, tree, n)
			}
		}
	})
}

// P79: if they agree, all of them are on the way to the one up to which everything is committed; if not, some of them is not.
func TestAgreeingCommitsAreOnOneWay(t *testing.T) {
	t.Parallel()
	eachCommit(func(tree impl.BlockTree, certs []impl.Cert) {
		way := plainPath(tree, impl.CommittedTo(tree, certs))
		isElsewhere := func(n int) bool { return !slices.Contains(way, n) }
		if agree := impl.CommitsAgree(tree, certs); agree == slices.ContainsFunc(impl.CommitHeads(tree, certs), isElsewhere) {
			t.Errorf("CommitsAgree(%+v, %+v) = %v, but the way is %v", tree, certs, agree, way)
		}
	})
}

// A gap between the first and the second block, between the second and the third, and in both places; and exactly three in a row.
func TestViewsThatDoNotFollowEachOther(t *testing.T) {
	for first := 1; first <= 5; first++ {
		for second := 1; second <= 5; second++ {
			tree := wayOf(0, 9, 9+first, 9+first+second)
			if first == 1 && second == 1 {
				checkCommitted(t, tree, []int{1, 2, 3}, 1)
			} else {
				checkCommitted(t, tree, []int{1, 2, 3})
			}
		}
	}
	checkCommitted(t, wayOf(0, 2, 3, 4, 6, 7, 9, 10, 11, 12), inOrder(10), 1, 6, 7)
	checkCommitted(t, wayOf(0, 1, 3, 4, 6, 7, 9, 10, 12, 13), inOrder(10))
	checkCommitted(t, wayOf(0, 1, 2, 4, 5, 6, 8, 9, 10), inOrder(9), 0, 3, 6)
}

// Of two blocks behind one only one has the next view, whichever is put first, and behind which one the third block is.
func TestTwoBlocksBehindOne(t *testing.T) {
	for third := 2; third <= 3; third++ {
		shape := []int{-1, 0, 1, 1, third}
		views := []int{0, 5, 6, 7, 7}
		if third == 3 {
			views[4] = 8
		}
		tree := viewTree(nil, shape, views)
		if third == 2 {
			checkCommitted(t, tree, inOrder(5), 1)
			checkCommitted(t, tree, []int{1, 2, 4}, 1)
			checkCommitted(t, tree, []int{1, 3, 4})
		} else {
			checkCommitted(t, tree, inOrder(5))
			checkCommitted(t, tree, []int{1, 2, 3})
		}
	}
	later := viewTree(nil, []int{-1, 0, 1, 1, 3}, []int{0, 5, 7, 6, 7})
	checkCommitted(t, later, inOrder(5), 1)
	checkCommitted(t, later, []int{1, 3, 4}, 1)
	checkCommitted(t, later, []int{1, 2, 4})
	thirds := viewTree(nil, []int{-1, 0, 1, 2, 2, 2}, []int{0, 5, 6, 8, 7, 9})
	checkCommitted(t, thirds, inOrder(6), 1)
	checkCommitted(t, thirds, []int{1, 2, 4}, 1)
	checkCommitted(t, thirds, []int{1, 2, 3, 5})
}

// The next two views behind a block are not enough if the third block is behind another one.
func TestThirdBlocksBehindOthers(t *testing.T) {
	checkCommitted(t, viewTree(nil, []int{-1, 0, 1, 1}, []int{0, 5, 6, 7}), inOrder(4))
	checkCommitted(t, viewTree(nil, []int{-1, 0, 0, 1}, []int{0, 1, 1, 2}), []int{2, 3})
	checkCommitted(t, viewTree(nil, []int{-1, 0, 0, 2}, []int{0, 1, 1, 2}), []int{2, 3}, 0)
	checkCommitted(t, viewTree(nil, []int{-1, 0, 0, 0}, []int{0, 1, 2, 3}), inOrder(4))
	checkCommitted(t, viewTree(nil, []int{-1, 0, 0, 1, 2}, []int{0, 1, 2, 4, 4}), inOrder(5))
}

// The first block needs no certificate to be a head, and is one with two blocks behind it only.
func TestTheFirstBlockAsAHead(t *testing.T) {
	tree := wayOf(0, 1, 2)
	checkCommitted(t, tree, []int{1, 2}, 0)
	checkCommitted(t, tree, []int{0, 1, 2}, 0)
	checkCommitted(t, tree, []int{0, 1})
	checkCommitted(t, tree, []int{0, 2})
	checkCommitted(t, tree, []int{0})
	checkCommitted(t, wayOf(0, 2, 3), inOrder(3))
	checkCommitted(t, wayOf(0, 1, 3), inOrder(3))
	checkCommitted(t, wayOf(0, 1), inOrder(2))
	checkCommits(t, tree, []impl.Cert{certOf(tree, 0, 0), certOf(tree, 1, 7), certOf(tree, 2, 7)}, []int{0}, 0, true)
}

// Without a certificate for one of three, or with such that do not count for it, there is no head; on a longer way only the rows without it remain.
func TestBlocksInTheMidstWithoutCertificates(t *testing.T) {
	three := wayOf(0, 7, 8, 9)
	checkCommitted(t, three, []int{1, 2, 3}, 1)
	for _, n := range []int{1, 2, 3} {
		others := slices.DeleteFunc([]int{1, 2, 3}, func(k int) bool { return k == n })
		checkCommitted(t, three, others)
		whole, good := certsOf(three, 13, others...), certOf(three, n, 11)
		for _, signers := range append(fewSigners(), invalidSigners()...) {
			checkCommits(t, three, append(whole, cert(good.Sum, good.View, signers)), nil, 0, true)
		}
		for _, view := range append(invalidViews(), 0, good.View-1, good.View+1, impl.MaxView) {
			checkCommits(t, three, append(whole, cert(good.Sum, view, 15)), nil, 0, true)
		}
		for _, sum := range append(noSums(three), 0, (good.Sum+1)%impl.SumBase) {
			checkCommits(t, three, append(whole, cert(sum, good.View, 15)), nil, 0, true)
		}
		checkCommits(t, three, append(whole, certOf(three, n, 3), certOf(three, n, 12)), nil, 0, true)
		checkCommits(t, three, append(whole, certOf(three, n, 3), good), []int{1}, 1, true)
	}
	long := wayOf(0, 1, 2, 3, 4, 5, 6, 7, 8)
	checkCommitted(t, long, inOrder(9), 0, 1, 2, 3, 4, 5, 6)
	checkCommitted(t, long, []int{1, 2, 3, 5, 6, 7, 8}, 0, 1, 5, 6)
	checkCommitted(t, long, []int{1, 2, 3, 4, 5, 6, 7}, 0, 1, 2, 3, 4, 5)
	checkCommitted(t, long, []int{2, 3, 4, 5, 6, 7, 8}, 2, 3, 4, 5, 6)
	checkCommitted(t, long, []int{1, 3, 4, 6, 7})
}

// Of heads with the same view the first one counts, also if the blocks behind the other one come first, or certificates for them do.
func TestHeadsWithTheSameView(t *testing.T) {
	tree := viewTree(nil, []int{-1, 0, 0, 2, 3, 1, 5, 0, 7, 8}, []int{0, 4, 4, 5, 6, 5, 6, 4, 5, 6})
	all := certsOf(tree, 7, inOrder(10)...)
	checkCommits(t, tree, all, []int{1, 2, 7}, 1, false)
	slices.Reverse(all)
	checkCommits(t, tree, all, []int{1, 2, 7}, 1, false)
	checkCommits(t, tree, certsOf(tree, 7, 9, 8, 7, 4, 3, 2), []int{2, 7}, 2, false)
	checkCommits(t, tree, certsOf(tree, 7, 9, 8, 7, 6, 5, 1), []int{1, 7}, 1, false)
	checkCommitted(t, tree, []int{9, 8, 7}, 7)
	higher := viewTree(nil, []int{-1, 0, 1, 2, 0, 4, 5}, []int{0, 8, 9, 10, 7, 8, 9})
	checkCommits(t, higher, certsOf(higher, 7, inOrder(7)...), []int{1, 4}, 1, false)
	greater := viewTree(nil, []int{-1, 0, 1, 2, 0, 4, 5}, []int{0, 7, 8, 9, 8, 9, 10})
	checkCommits(t, greater, certsOf(greater, 7, inOrder(7)...), []int{1, 4}, 4, false)
}

// Several branches may have heads that agree: one of them alone has some behind the trunk.
func TestHeadsOfBranches(t *testing.T) {
	shape := []int{-1, 0, 1, 2, 3, 4, 2, 6, 7, 2}
	tree := viewTree(fullStore(3, 5), shape, []int{0, 1, 2, 3, 4, 5, 4, 5, 6, 3})
	checkCommits(t, tree, certsOf(tree, 7, inOrder(10)...), []int{0, 1, 2, 3, 6}, 6, false)
	checkCommitted(t, tree, []int{1, 2, 3, 4, 5, 6, 7, 9}, 0, 1, 2, 3)
	checkCommitted(t, tree, []int{1, 2, 3, 4, 6, 7, 8, 9}, 0, 1, 2, 6)
	checkCommitted(t, tree, []int{1, 2, 3, 6, 7, 8}, 0, 1, 6)
	checkCommitted(t, tree, []int{1, 2, 9, 6, 7, 8}, 0, 1, 6)
	checkCommitted(t, tree, []int{1, 2, 9, 6, 7}, 0, 1)
}

func TestCommitsOfTheFirstBlockAlone(t *testing.T) {
	for _, s := range sampleStores() {
		tree := impl.TreeOf(s)
		for _, certs := range certLists(tree) {
			checkCommits(t, tree, certs, nil, 0, true)
		}
		checkCommits(t, tree, nil, nil, 0, true)
		checkCommits(t, tree, []impl.Cert{}, nil, 0, true)
		checkCommits(t, tree, make([]impl.Cert, 30), nil, 0, true)
		checkNoCommits(t, tree, make([]impl.Cert, 31))
	}
}

// A way of MaxBlocks with views up to MaxView: all blocks but the first one, to which there is a gap, and the last two are heads.
func TestCommitsOfMaxBlocks(t *testing.T) {
	for _, s := range fewStores() {
		tree := topTree(s)
		checkCommitted(t, tree, inOrder(14), inOrder(12)[1:]...)
		checkCommitted(t, tree, []int{11, 12, 13}, 11)
		checkCommitted(t, tree, []int{12, 13})
		checkCommitted(t, tree, nil)
		checkCommitted(t, tree, []int{1, 2, 3, 4, 5, 6, 8, 9, 10, 11, 12, 13}, 1, 2, 3, 4, 8, 9, 10, 11)
	}
	short := wayOf(inOrder(14)...)
	checkCommitted(t, short, inOrder(14), inOrder(12)...)
	checkCommitted(t, short, inOrder(14)[1:], inOrder(12)...)
	checkCommitted(t, wayOf(0, impl.MaxView-2, impl.MaxView-1, impl.MaxView), inOrder(4), 1)
	checkCommitted(t, wayOf(0, impl.MaxView-1, impl.MaxView), inOrder(3))
	checkCommitted(t, wayOf(0, impl.MaxView), inOrder(2))
}

// All blocks behind the first one, or two behind each, with all of them certified.
func TestCommitsOfGreatTrees(t *testing.T) {
	for _, shape := range greatShapes() {
		tree := viewTree(storeOf(1, 9, 3, 5), shape, heightsOf(shape))
		all := certsOf(tree, 11, inOrder(14)...)
		checkPlainCommits(t, tree, all)
		for n := range all {
			checkPlainCommits(t, tree, slices.Delete(slices.Clone(all), n, n+1))
			checkPlainCommits(t, tree, all[n:])
			checkPlainCommits(t, tree, all[:n])
		}
	}
	wide := viewTree(nil, greatShapes()[1], heightsOf(greatShapes()[1]))
	checkCommitted(t, wide, inOrder(14))
	pairs := viewTree(nil, greatShapes()[2], heightsOf(greatShapes()[2]))
	checkCommits(t, pairs, certsOf(pairs, 7, inOrder(14)...), []int{0, 1, 2}, 1, false)
}

// heightsOf are the heights of blocks with those numbers in Before.
func heightsOf(before []int) []int {
	heights := []int{0}
	for _, n := range before[1:] {
		heights = append(heights, heights[n]+1)
	}
	return heights
}

// No certificates, the same ones twice, MaxCerts of them, and more, whatever they are.
func TestCommitsByMaxCerts(t *testing.T) {
	tree := forkedBlocks()
	all := certsOf(tree, 14, inOrder(14)...)
	heads := []int{0, 1, 2, 3, 8, 11}
	checkCommits(t, tree, nil, nil, 0, true)
	checkCommits(t, tree, []impl.Cert{}, nil, 0, true)
	checkCommits(t, tree, slices.Concat(all, all), heads, 8, false)
	for _, other := range []impl.Cert{{}, all[3], cert(-1, -1, -1), certOf(tree, 5, 1)} {
		for count := 15; count <= 35; count++ {
			for _, place := range []int{0, 7, 14} {
				certs := slices.Insert(slices.Clone(all), place, slices.Repeat([]impl.Cert{other}, count-14)...)
				if count > 30 {
					checkNoCommits(t, tree, certs)
				} else {
					checkCommits(t, tree, certs, heads, 8, false)
				}
			}
		}
		checkNoCommits(t, tree, slices.Repeat([]impl.Cert{other}, 31))
		checkNoCommits(t, tree, slices.Repeat([]impl.Cert{other}, 300))
	}
	row := certsOf(tree, 7, 3, 5, 7)
	checkCommits(t, tree, slices.Repeat(row, 10), []int{3}, 3, true)
	checkNoCommits(t, tree, slices.Concat(slices.Repeat(row, 10), row[:1]))
}

// Certificates that are not valid are no reason to refuse others beside them.
func TestCommitsByInvalidCertificates(t *testing.T) {
	tree := wayOf(0, 3, 4, 5)
	row := certsOf(tree, 7, 1, 2, 3)
	for n := range tree.Blocks {
		for _, c := range invalidCerts(certOf(tree, n, 15)) {
			checkCommits(t, tree, append([]impl.Cert{c}, row...), []int{1}, 1, true)
			checkCommits(t, tree, append(slices.Clone(row), c), []int{1}, 1, true)
			checkCommits(t, tree, append([]impl.Cert{c, c}, row[:2]...), nil, 0, true)
		}
	}
}

// Blocks need not be right to be committed: the certificates alone decide.
func TestCommitsOfBlocksThatAreNotRight(t *testing.T) {
	for _, views := range [][]int{inOrder(8), {0, 2, 3, 4, 5, 7, 8, 9}} {
		tree := wayOf(views...)
		for n := 1; n < 8; n++ {
			tree = withBlock(tree, n, func(b *impl.Block) { b.Root, b.Effects = (b.Root+n)%impl.SumBase, 5 })
		}
		checkTree(t, tree, true)
		checkRightBlocks(t, tree, marksOf(8))
		if views[1] == 1 {
			checkCommitted(t, tree, inOrder(8), 0, 1, 2, 3, 4, 5)
		} else {
			checkCommitted(t, tree, inOrder(8), 1, 2, 5)
		}
	}
}

// Certificates in another order, and without those that do not count, commit the same blocks.
func TestOrdersOfCommits(t *testing.T) {
	eachSmallTree(func(tree impl.BlockTree) {
		for _, certs := range certLists(tree) {
			heads, to, agree := impl.CommitHeads(tree, certs), impl.CommittedTo(tree, certs), impl.CommitsAgree(tree, certs)
			turned := slices.Clone(certs)
			slices.Reverse(turned)
			checkCommits(t, tree, turned, heads, to, agree)
			counting := slices.DeleteFunc(turned, func(c impl.Cert) bool { return impl.CertBlock(tree, c) < 1 })
			checkCommits(t, tree, counting, heads, to, agree)
		}
	})
}

// Nothing is committed in a tree that is not valid, nor is the first block, also with too many certificates.
func TestCommitsOfInvalidTrees(t *testing.T) {
	t.Parallel()
	checkNoCommits(t, impl.BlockTree{}, nil)
	checkNoCommits(t, impl.BlockTree{}, make([]impl.Cert, 1))
	checkNoCommits(t, impl.BlockTree{}, make([]impl.Cert, 31))
	for _, right := range []impl.BlockTree{wayOf(0, 1, 2, 3), eightBlocks(), topTree(nil)} {
		certs := certsOf(right, 15, inOrder(len(right.Blocks))...)
		for _, tree := range wrongTrees(right) {
			checkNoTree(t, tree)
			checkNoCommits(t, tree, certs)
			checkNoCommits(t, tree, nil)
			checkNoCommits(t, tree, slices.Repeat(certs, 16))
		}
	}
}

// Looking for commits leaves the tree and the certificates as they are, also behind their ends; the answers share no memory with them nor with each other.
func TestCommitHeadsShareNoMemory(t *testing.T) {
	t.Parallel()
	check := func(tree impl.BlockTree, list []impl.Cert) {
		given := roomyTree(tree)
		before := wholeTree(given)
		certs := append(slices.Clone(list), cert(40, 40, 40), cert(41, 41, 41))
		whole := slices.Clone(certs)
		first, second := impl.CommitHeads(given, certs[:len(list)]), impl.CommitHeads(given, certs[:len(list)])
		impl.CommittedTo(given, certs[:len(list)])
		impl.CommitsAgree(given, certs[:len(list)])
		want := plainHeads(tree, list)
		spoilKeys(second)
		if wholeTree(given) != before || !slices.Equal(certs, whole) || !slices.Equal(first, want) {
			t.Errorf("%s has become %s, %+v has become %+v, and the heads are %v", before, wholeTree(given), whole, certs, first)
		}
		spoilTree(given)
		clear(certs)
		if !slices.Equal(first, want) {
			t.Errorf("with the arguments written over the heads are %v, not %v", first, want)
		}
	}
	eachTree(func(tree impl.BlockTree) {
		for _, list := range certLists(tree)[:4] {
			check(tree, list)
		}
	})
	eachBranched(check)
}
