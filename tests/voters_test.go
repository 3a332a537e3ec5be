package tests

import (
	"slices"
	"testing"

	"loop.example/blockexecutor/impl"
)

func voter(last int, lock int) impl.Voter {
	return impl.Voter{Last: last, Lock: lock}
}

func plainVoterValid(v impl.Voter) bool {
	return v.Last >= 0 && v.Last <= 1000 && v.Lock >= 0 && v.Lock <= 1000
}

// plainVote looks at the last three blocks on the way, with a valid voter and a valid tree.
func plainVote(v impl.Voter, tree impl.BlockTree, marks []bool, n int) (impl.Voter, bool) {
	if n < 1 || n >= len(tree.Blocks) || len(marks) != len(tree.Blocks) {
		return v, false
	}
	way := plainPath(tree, n)
	slices.Reverse(way)
	var views []int
	for _, k := range way {
		views = append(views, tree.Blocks[k].View)
	}
	if !marks[way[1]] || views[0] <= v.Last || views[1] < v.Lock {
		return v, false
	}
	locks := []int{v.Lock}
	if len(views) > 2 {
		locks = append(locks, views[2])
	}
	return voter(views[0], slices.Max(locks)), true
}

// setOf are the marks of so many blocks, of which exactly those are certified.
func setOf(count int, numbers ...int) []bool {
	marks := make([]bool, count)
	for _, n := range numbers {
		marks[n] = true
	}
	return marks
}

func allMarks(tree impl.BlockTree) []bool {
	return setOf(len(tree.Blocks), inOrder(len(tree.Blocks))...)
}

// someMarks are those with all blocks certified, all but one, one alone, none, and every second one.
func someMarks(tree impl.BlockTree) [][]bool {
	count := len(tree.Blocks)
	all := inOrder(count)
	list := [][]bool{allMarks(tree), setOf(count)}
	for n := range all {
		list = append(list, setOf(count, n), setOf(count, slices.Delete(slices.Clone(all), n, n+1)...))
	}
	for start := range 2 {
		marks := setOf(count)
		for n := start; n < count; n += 2 {
			marks[n] = true
		}
		list = append(list, marks)
	}
	return list
}

// wrongMarks are too short or too long for so many blocks, with all of them certified.
func wrongMarks(count int) [][]bool {
	list := [][]bool{nil}
	for _, other := range []int{0, 1, count / 2, count - 1, count + 1, count + 2, 2 * count, 14, 15, 300} {
		if other != count {
			list = append(list, slices.Repeat([]bool{true}, other))
		}
	}
	return list
}

// viewsAround are those views and the ones beside them, and the edges, without such that are none.
func viewsAround(views ...int) []int {
	around := []int{0, 1, impl.MaxView - 1, impl.MaxView}
	for _, view := range views {
		around = append(around, view-1, view, view+1)
	}
	slices.Sort(around)
	isNone := func(view int) bool { return view < 0 || view > impl.MaxView }
	return slices.DeleteFunc(slices.Compact(around), isNone)
}

// votersAround are the voters with the views around those of the block n for Last, and around those of the two blocks before it for Lock.
func votersAround(tree impl.BlockTree, n int) []impl.Voter {
	var locked []int
	for _, k := range plainPath(tree, n) {
		locked = append(locked, tree.Blocks[k].View)
	}
	locked = locked[max(0, len(locked)-3):]
	var voters []impl.Voter
	for _, last := range viewsAround(tree.Blocks[n].View) {
		for _, lock := range viewsAround(locked...) {
			voters = append(voters, voter(last, lock))
		}
	}
	return voters
}

// invalidVoters are those in which one view, or both, are none.
func invalidVoters() []impl.Voter {
	var voters []impl.Voter
	for _, wrong := range invalidViews() {
		for _, view := range []int{0, 1, 500, impl.MaxView} {
			voters = append(voters, voter(wrong, view), voter(view, wrong))
		}
		for _, other := range invalidViews() {
			voters = append(voters, voter(wrong, other))
		}
	}
	return voters
}

func checkVoter(t *testing.T, v impl.Voter, want bool) {
	t.Helper()
	if got := impl.VoterValid(v); got != want {
		t.Errorf("VoterValid(%+v) = %v", v, got)
	}
}

// checkVote checks both functions.
func checkVote(t *testing.T, v impl.Voter, tree impl.BlockTree, marks []bool, n int, want impl.Voter, wantOK bool) {
	t.Helper()
	if got := impl.MayVote(v, tree, marks, n); got != wantOK {
		t.Errorf("MayVote(%+v, %+v, %v, %d) = %v", v, tree, marks, n, got)
	}
	if got, ok := impl.VoteFor(v, tree, marks, n); got != want || ok != wantOK {
		t.Errorf("VoteFor(%+v, %+v, %v, %d) = %+v, %v, want %+v, %v", v, tree, marks, n, got, ok, want, wantOK)
	}
}

// checkVoted is for a vote that is possible, checkNotVoted for one that is not.
func checkVoted(t *testing.T, v impl.Voter, tree impl.BlockTree, marks []bool, n int, last int, lock int) {
	t.Helper()
	checkVote(t, v, tree, marks, n, voter(last, lock), true)
}

func checkNotVoted(t *testing.T, v impl.Voter, tree impl.BlockTree, marks []bool, n int) {
	t.Helper()
	checkVote(t, v, tree, marks, n, v, false)
}

// checkNoVotes is for a tree that is not valid.
func checkNoVotes(t *testing.T, tree impl.BlockTree, n int) {
	t.Helper()
	marks := allMarks(tree)
	checkNotVoted(t, voter(0, 0), tree, marks, n)
	checkVote(t, voter(-1, 0), tree, marks, n, impl.Voter{}, false)
}

// checkPlainVote checks a vote against the reference.
func checkPlainVote(t *testing.T, v impl.Voter, tree impl.BlockTree, marks []bool, n int) {
	t.Helper()
	want, ok := plainVote(v, tree, marks, n)
	checkVote(t, v, tree, marks, n, want, ok)
}

// mustVote checks a way of votes, all of them possible.
func mustVote(t *testing.T, v impl.Voter, tree impl.BlockTree, marks []bool, numbers ...int) impl.Voter {
	t.Helper()
	for _, n := range numbers {
		next, ok := impl.VoteFor(v, tree, marks, n)
		if !ok {
			t.Fatalf("VoteFor(%+v, %+v, %v, %d) is refused", v, tree, marks, n)
		}
		v = next
	}
	return v
}

// eachStepped visits the trees of all shapes with so many blocks in which views grow by 1 or 2.
func eachStepped(count int, visit func(tree impl.BlockTree)) {
	for i, shape := range smallShapes(count) {
		eachSet(count-1, func(steps []int) {
			views := []int{0}
			for n := 1; n < count; n++ {
				step := 1
				if slices.Contains(steps, n-1) {
					step = 2
				}
				views = append(views, views[shape[n]]+step)
			}
			visit(viewTree(fewStores()[i%6], shape, views))
		})
	}
}

// eachVote visits votes by valid voters: by all that differ for small trees with every set of their blocks certified, and by those around the edges for trees of all kinds.
func eachVote(visit func(v impl.Voter, tree impl.BlockTree, marks []bool, n int)) {
	for count := 2; count <= 4; count++ {
		eachStepped(count, func(tree impl.BlockTree) {
			eachSet(count, func(numbers []int) {
				for n := 1; n < count; n++ {
					for pair := range 64 {
						visit(voter(pair/8, pair%8), tree, setOf(count, numbers...), n)
					}
				}
			})
		})
	}
	eachSmallTree(func(tree impl.BlockTree) { eachVoteAround(tree, visit) })
	for i, tree := range greatTrees() {
		if i%4 == 0 {
			eachVoteAround(tree, visit)
		}
	}
}

// eachVoteAround visits the votes for every block of a tree by the voters around it, with all blocks certified, with the one before it alone, or with some.
func eachVoteAround(tree impl.BlockTree, visit func(v impl.Voter, tree impl.BlockTree, marks []bool, n int)) {
	list := someMarks(tree)
	for n := 1; n < len(tree.Blocks); n++ {
		for i, v := range votersAround(tree, n) {
			switch i % 3 {
			case 0:
				visit(v, tree, list[0], n)
			case 1:
				visit(v, tree, setOf(len(tree.Blocks), tree.Before[n]), n)
			}
			visit(v, tree, list[(i+n)%len(list)], n)
		}
	}
}

// P80: voters with all views, and none with a view above MaxView or below 0.
func TestVotersRememberViews(t *testing.T) {
	for view := -20; view <= 1020; view++ {
		for _, other := range []int{-1, 0, 1, 500, view, view - 1, view + 1, impl.MaxView, impl.MaxView + 1} {
			for _, v := range []impl.Voter{voter(view, other), voter(other, view)} {
				checkVoter(t, v, plainVoterValid(v))
			}
		}
	}
	checkVoter(t, impl.Voter{}, true)
	checkVoter(t, voter(impl.MaxView, impl.MaxView), true)
	checkVoter(t, voter(0, impl.MaxView), true)
	checkVoter(t, voter(impl.MaxView, 0), true)
	for _, v := range invalidVoters() {
		checkVoter(t, v, false)
	}
}

// P80: a voter that is not valid may vote for nothing, whatever else is wrong.
func TestInvalidVoters(t *testing.T) {
	t.Parallel()
	trees := []impl.BlockTree{{}, impl.TreeOf(nil), eightBlocks(), wayOf(0, 1, 2, 3), topTree(nil), wayOf(0, impl.MaxView)}
	wrong := wrongTrees(wayOf(0, 1, 2, 3))
	for i, v := range invalidVoters() {
		for _, tree := range append(trees, wrong[i%len(wrong)]) {
			marks := allMarks(tree)
			for n := -1; n <= len(tree.Blocks); n++ {
				checkVote(t, v, tree, marks, n, impl.Voter{}, false)
			}
			checkVote(t, v, tree, nil, 1, impl.Voter{}, false)
			checkVote(t, v, tree, append(marks, true), 1, impl.Voter{}, false)
			checkVote(t, v, tree, setOf(len(marks)), 1, impl.Voter{}, false)
		}
	}
}

func TestVoteValues(t *testing.T) {
	tree := forkedBlocks()
	all := inOrder(14)
	for _, c := range []struct {
		last, lock int
		certified  []int
		n          int
		wantLast   int
		wantLock   int
		ok         bool
	}{
		{0, 0, all, 1, 1, 0, true},
		{0, 0, []int{0}, 1, 1, 0, true},
		{0, 0, all[1:], 1, 0, 0, false},
		{0, 1, all, 1, 0, 1, false},
		{1, 0, all, 1, 1, 0, false},
		{1, 0, all, 2, 2, 0, true},
		{2, 0, all, 2, 2, 0, false},
		{1, 0, []int{0}, 3, 1, 0, false},
		{1, 0, []int{1}, 3, 2, 0, true},
		{1, 1, []int{1}, 3, 2, 1, true},
		{1, 2, []int{1}, 3, 1, 2, false},
		{2, 0, all, 3, 2, 0, false},
		{2, 0, all, 4, 3, 0, true},
		{0, 0, all, 5, 3, 1, true},
		{2, 1, all, 5, 3, 1, true},
		{2, 2, all, 5, 3, 2, true},
		{2, 3, all, 5, 2, 3, false},
		{3, 3, all, 8, 6, 3, true},
		{3, 4, all, 8, 6, 4, true},
		{3, 5, all, 8, 3, 5, false},
		{5, 0, all, 8, 6, 3, true},
		{6, 0, all, 8, 6, 0, false},
		{7, 0, all, 8, 7, 0, false},
		{5, 0, []int{6}, 8, 6, 3, true},
		{5, 0, []int{0, 2, 4, 8, 9, 10, 7}, 8, 5, 0, false},
		{0, 0, all, 9, 7, 4, true},
		{6, 3, all, 9, 7, 4, true},
		{6, 6, all, 9, 7, 6, true},
		{6, 7, all, 9, 6, 7, false},
		{7, 4, all, 10, 8, 6, true},
		{3, 1, all, 11, 6, 3, true},
		{6, 3, all, 11, 6, 3, false},
		{6, 4, all, 12, 7, 4, true},
		{7, 6, []int{12}, 13, 8, 6, true},
		{7, 7, []int{12}, 13, 8, 7, true},
		{7, 8, []int{12}, 13, 7, 8, false},
		{7, 6, []int{13, 11, 10, 9}, 13, 7, 6, false},
		{1000, 0, all, 13, 1000, 0, false},
		{0, 1000, all, 13, 0, 1000, false},
	} {
		checkVote(t, voter(c.last, c.lock), tree, setOf(14, c.certified...), c.n, voter(c.wantLast, c.wantLock), c.ok)
	}
}

// P81: the view of the block is greater than that of the last vote, the block before it is certified, and its view is not less than that of the block that the voter holds on to; a voter that has voted for a block may not vote for it again, nor for another one with the same view or a lesser one.
func TestVotesGoUpwards(t *testing.T) {
	t.Parallel()
	voted, refused := 0, 0
	eachVote(func(v impl.Voter, tree impl.BlockTree, marks []bool, n int) {
		checkPlainVote(t, v, tree, marks, n)
		next, ok := impl.VoteFor(v, tree, marks, n)
		if !ok {
			refused++
			return
		}
		voted++
		before := tree.Before[n]
		if tree.Blocks[n].View <= v.Last || !marks[before] || tree.Blocks[before].View < v.Lock {
			t.Errorf("%+v has voted for block %d of %+v, with %v certified", v, n, tree, marks)
		}
		if voted%19 > 0 {
			return
		}
		for k := range tree.Blocks {
			if k == n || tree.Blocks[k].View <= tree.Blocks[n].View {
				checkNotVoted(t, next, tree, marks, k)
				checkNotVoted(t, next, tree, allMarks(tree), k)
			}
		}
	})
	if voted < 5000 || refused < 5000 {
		t.Errorf("%d votes are possible, %d are not", voted, refused)
	}
}

// P82: Last grows up to the view of the block, and Lock does not sink; what is not possible changes nothing.
func TestVotersNeverGoBack(t *testing.T) {
	t.Parallel()
	grown, kept := 0, 0
	eachVote(func(v impl.Voter, tree impl.BlockTree, marks []bool, n int) {
		next, ok := impl.VoteFor(v, tree, marks, n)
		if !ok {
			if next != v {
				t.Errorf("%+v may not vote for block %d of %+v, and becomes %+v", v, n, tree, next)
			}
			return
		}
		if next.Last <= v.Last || next.Last != tree.Blocks[n].View || next.Lock < v.Lock || !impl.VoterValid(next) {
			t.Errorf("%+v votes for block %d of %+v, and becomes %+v", v, n, tree, next)
		}
		if next.Lock > v.Lock {
			grown++
		} else {
			kept++
		}
	})
	if grown < 1000 || kept < 1000 {
		t.Errorf("Lock has grown %d times, and was kept %d times", grown, kept)
	}
}

// P82: a voter that holds on to nothing, and has not voted, may vote for everything behind a certified block, and for nothing else.
func TestNewVotersMayVoteForEverything(t *testing.T) {
	t.Parallel()
	eachTree(func(tree impl.BlockTree) {
		for _, marks := range someMarks(tree) {
			checkNotVoted(t, voter(0, 0), tree, marks, 0)
			for n := 1; n < len(tree.Blocks); n++ {
				lock := 0
				if before := tree.Before[n]; before > 0 {
					lock = tree.Blocks[tree.Before[before]].View
				}
				if marks[tree.Before[n]] {
					checkVoted(t, voter(0, 0), tree, marks, n, tree.Blocks[n].View, lock)
				} else {
					checkNotVoted(t, voter(0, 0), tree, marks, n)
				}
			}
		}
	})
}

// P82: a new voter is asked for all blocks of small trees, in any order: what it votes for has ascending views, and Lock stays below Last.
func TestOrdersOfVotes(t *testing.T) {
	t.Parallel()
	eachStepped(5, func(tree impl.BlockTree) {
		for _, marks := range [][]bool{allMarks(tree), setOf(5, 0, 2, 3, 4), setOf(5, 0, 1, 3, 4)} {
			eachOrder(4, func(order []int) {
				v := voter(0, 0)
				for _, k := range order {
					want, ok := plainVote(v, tree, marks, k+1)
					next, possible := impl.VoteFor(v, tree, marks, k+1)
					if next != want || possible != ok || possible && (next.Last <= v.Last || next.Lock < v.Lock || next.Lock >= next.Last) {
						t.Errorf("asked in the order %v on %+v: %+v becomes %+v by block %d", order, tree, v, next, k+1)
					}
					v = next
				}
			})
		}
	})
}

// A way of blocks, voted for one after the other: Last is the view of the block, and Lock that of the second one before it; no block before may be voted for then.
func TestVotesOnAWay(t *testing.T) {
	for _, tree := range []impl.BlockTree{wayOf(inOrder(14)...), wayOf(0, 2, 3, 5, 8, 13, 21, 34, 55, 89, 144, 233, 377, 610), topTree(fullStore(1, 1))} {
		marks, v := allMarks(tree), voter(0, 0)
		for n := 1; n < 14; n++ {
			lock := 0
			if n > 1 {
				lock = tree.Blocks[n-2].View
			}
			checkVoted(t, v, tree, marks, n, tree.Blocks[n].View, lock)
			checkVoted(t, v, tree, setOf(14, n-1), n, tree.Blocks[n].View, lock)
			v = voter(tree.Blocks[n].View, lock)
			for k := range n + 1 {
				checkNotVoted(t, v, tree, marks, k)
			}
		}
	}
}

// Blocks of a way may be left out: any set of them, from the first one on, can be voted for.
func TestVotesForSomeBlocksOfAWay(t *testing.T) {
	tree := wayOf(0, 1, 3, 4, 5, 8, 9, 20)
	marks := allMarks(tree)
	views := []int{0, 1, 3, 4, 5, 8, 9, 20}
	eachSet(7, func(numbers []int) {
		v := voter(0, 0)
		for _, n := range numbers {
			checkVoted(t, v, tree, marks, n+1, views[n+1], views[max(0, n-1)])
			v = voter(views[n+1], views[max(0, n-1)])
		}
	})
	for n := 7; n > 0; n-- {
		v := mustVote(t, voter(0, 0), tree, marks, n)
		for k := range n {
			checkNotVoted(t, v, tree, marks, k)
		}
	}
}

// twoWays is a tree whose ways part behind block 2: the blocks 3, 4 and 5 with the views 3, 4 and 5, and the blocks 6, 7 and 8 with the views 6, 7 and 8; block 9, with the view 9, is behind block 3.
func twoWays() impl.BlockTree {
	return viewTree(nil, []int{-1, 0, 1, 2, 3, 4, 2, 6, 7, 3}, []int{0, 1, 2, 3, 4, 5, 6, 7, 8, 9})
}

// A voter that holds on to a block of one branch may not vote for a block of the other one behind an earlier view, but for one behind a later view.
func TestVotersHoldOnToBranches(t *testing.T) {
	tree := twoWays()
	marks := allMarks(tree)
	v := mustVote(t, voter(0, 0), tree, marks, 1, 2, 3, 4, 5)
	if v != voter(5, 3) {
		t.Errorf("the voter is %+v", v)
	}
	checkNotVoted(t, v, tree, marks, 6)
	checkVoted(t, v, tree, marks, 7, 7, 3)
	checkVoted(t, v, tree, marks, 8, 8, 6)
	checkVoted(t, v, tree, marks, 9, 9, 3)
	checkNotVoted(t, v, tree, setOf(10, 0, 1, 2, 3, 4, 5, 7, 8, 9), 7)
	v = mustVote(t, v, tree, marks, 7)
	checkVoted(t, v, tree, marks, 8, 8, 6)
	checkVoted(t, v, tree, marks, 9, 9, 3)
	v = mustVote(t, v, tree, marks, 8)
	checkNotVoted(t, v, tree, marks, 9)
	for n := range tree.Blocks {
		checkNotVoted(t, v, tree, marks, n)
	}
	other := mustVote(t, voter(0, 0), tree, marks, 4)
	if other != voter(4, 2) {
		t.Errorf("the other voter is %+v", other)
	}
	checkVoted(t, other, tree, marks, 6, 6, 2)
	checkVoted(t, other, tree, marks, 5, 5, 3)
}

// A vote for a block that a later vote, for the other branch, leaves behind: the voter comes back to it, unless it holds on to a later view by then.
func TestVotesAreLeftBehind(t *testing.T) {
	tree := twoWays()
	marks := allMarks(tree)
	v := mustVote(t, voter(0, 0), tree, marks, 3, 6)
	if v != voter(6, 1) {
		t.Errorf("the voter is %+v", v)
	}
	for _, n := range []int{0, 1, 2, 3, 4, 5, 6} {
		checkNotVoted(t, v, tree, marks, n)
	}
	checkVoted(t, v, tree, marks, 9, 9, 2)
	checkVoted(t, mustVote(t, v, tree, marks, 7), tree, marks, 9, 9, 2)
	checkNotVoted(t, mustVote(t, v, tree, marks, 8), tree, marks, 9)
	checkNotVoted(t, mustVote(t, v, tree, marks, 7, 8), tree, marks, 9)
	checkNotVoted(t, mustVote(t, v, tree, marks, 9), tree, marks, 8)
}

// Of several blocks with the same view, behind the same block or others, only one is voted for.
func TestOneVoteInAView(t *testing.T) {
	tree := viewTree(nil, []int{-1, 0, 0, 0, 1, 2, 3, 1}, []int{0, 4, 4, 4, 5, 5, 5, 5})
	marks := allMarks(tree)
	for _, first := range []int{1, 2, 3} {
		checkVoted(t, voter(0, 0), tree, marks, first, 4, 0)
		checkVoted(t, voter(3, 0), tree, marks, first, 4, 0)
		for _, n := range []int{1, 2, 3} {
			checkNotVoted(t, voter(4, 0), tree, marks, n)
		}
		for _, second := range []int{4, 5, 6, 7} {
			checkVoted(t, voter(4, 0), tree, marks, second, 5, 0)
			checkNotVoted(t, voter(5, 0), tree, marks, second)
		}
	}
}

// The block before must be certified; the block itself, the one before the one before and all others need not.
func TestBlocksBehindBlocksWithoutCertificate(t *testing.T) {
	for _, tree := range append(greatTrees(), eightBlocks(), forkedBlocks(), twoWays(), wayOf(0, 1, 2, 3)) {
		count := len(tree.Blocks)
		for n := 1; n < count; n++ {
			before, last := tree.Before[n], tree.Blocks[n].View
			without := func(numbers ...int) []bool {
				isOut := func(k int) bool { return slices.Contains(numbers, k) }
				return setOf(count, slices.DeleteFunc(inOrder(count), isOut)...)
			}
			lock := 0
			if before > 0 {
				lock = tree.Blocks[tree.Before[before]].View
				checkVoted(t, voter(0, 0), tree, without(tree.Before[before]), n, last, lock)
				checkVoted(t, voter(0, 0), tree, without(tree.Before[before], n), n, last, lock)
				checkNotVoted(t, voter(0, 0), tree, setOf(count, tree.Before[before]), n)
				checkNotVoted(t, voter(0, 0), tree, without(tree.Before[before], before), n)
			}
			checkVoted(t, voter(0, 0), tree, allMarks(tree), n, last, lock)
			checkVoted(t, voter(0, 0), tree, without(n), n, last, lock)
			checkVoted(t, voter(0, 0), tree, setOf(count, before), n, last, lock)
			checkNotVoted(t, voter(0, 0), tree, without(before), n)
			checkNotVoted(t, voter(0, 0), tree, without(before, n), n)
			checkNotVoted(t, voter(0, 0), tree, setOf(count, n), n)
			checkNotVoted(t, voter(0, 0), tree, setOf(count), n)
		}
	}
}

// What CertifiedBlocks answers tells what is certified.
func TestVotesByCertificates(t *testing.T) {
	tree := wayOf(0, 1, 2, 3, 4)
	certs := certsOf(tree, 11, 1, 3)
	marks := impl.CertifiedBlocks(tree, certs)
	checkVoted(t, voter(0, 0), tree, marks, 1, 1, 0)
	checkVoted(t, voter(0, 0), tree, marks, 2, 2, 0)
	checkNotVoted(t, voter(0, 0), tree, marks, 3)
	checkVoted(t, voter(0, 0), tree, marks, 4, 4, 2)
	marks = impl.CertifiedBlocks(tree, certsOf(tree, 12, 1, 3))
	checkVoted(t, voter(0, 0), tree, marks, 1, 1, 0)
	checkNotVoted(t, voter(0, 0), tree, marks, 2)
	checkNotVoted(t, voter(0, 0), tree, marks, 4)
}

// The marks alone decide, for the first block too.
func TestFirstBlocksWithoutMark(t *testing.T) {
	tree := wayOf(0, 1, 2)
	checkNotVoted(t, voter(0, 0), tree, []bool{false, true, true}, 1)
	checkNotVoted(t, voter(0, 0), tree, []bool{false, false, false}, 1)
	checkVoted(t, voter(0, 0), tree, []bool{true, false, false}, 1, 1, 0)
	checkVoted(t, voter(0, 0), tree, []bool{false, true, false}, 2, 2, 0)
	checkNotVoted(t, voter(0, 0), tree, []bool{true, false, true}, 2)
}

// All views for Last and Lock beside those of a way with the views 10, 20 and 30.
func TestViewsOfVotes(t *testing.T) {
	t.Parallel()
	tree := wayOf(0, 10, 20, 30)
	marks := allMarks(tree)
	for last := range 33 {
		for lock := range 33 {
			for n := 1; n <= 3; n++ {
				v := voter(last, lock)
				if last < 10*n && lock <= 10*(n-1) {
					checkVoted(t, v, tree, marks, n, 10*n, max(lock, 10*(n-2)))
				} else {
					checkNotVoted(t, v, tree, marks, n)
				}
			}
		}
	}
}

// Last is one below the view of the block, the same and one above.
func TestLastVotesBesideTheView(t *testing.T) {
	tree := wayOf(0, 10, 20, 30)
	marks := allMarks(tree)
	checkVoted(t, voter(0, 0), tree, marks, 3, 30, 10)
	checkVoted(t, voter(29, 0), tree, marks, 3, 30, 10)
	checkNotVoted(t, voter(30, 0), tree, marks, 3)
	checkNotVoted(t, voter(31, 0), tree, marks, 3)
	checkNotVoted(t, voter(impl.MaxView, 0), tree, marks, 3)
}

// Lock is one below the view of the block before, the same and one above; and beside that of the one before it, up to which it grows.
func TestLocksBesideTheViews(t *testing.T) {
	tree := wayOf(0, 10, 20, 30)
	marks := allMarks(tree)
	for _, c := range [][]int{{0, 10}, {1, 10}, {9, 10}, {10, 10}, {11, 11}, {15, 15}, {19, 19}, {20, 20}} {
		checkVoted(t, voter(29, c[0]), tree, marks, 3, 30, c[1])
	}
	for _, lock := range []int{21, 22, 29, 30, 31, impl.MaxView} {
		checkNotVoted(t, voter(29, lock), tree, marks, 3)
	}
}

// Behind the first block there is none before the one before: Lock stays 0, and with any other one there is no vote.
func TestVotesBehindTheFirstBlock(t *testing.T) {
	for _, view := range []int{1, 2, 500, impl.MaxView - 1, impl.MaxView} {
		tree := wayOf(0, view)
		marks := allMarks(tree)
		checkVoted(t, voter(0, 0), tree, marks, 1, view, 0)
		checkVoted(t, voter(view-1, 0), tree, marks, 1, view, 0)
		checkNotVoted(t, voter(view, 0), tree, marks, 1)
		for _, lock := range []int{1, view, impl.MaxView} {
			checkNotVoted(t, voter(0, lock), tree, marks, 1)
		}
	}
	tree := viewTree(nil, []int{-1, 0, 1, 0, 3}, []int{0, 1, 2, 3, 4})
	v := mustVote(t, voter(0, 0), tree, allMarks(tree), 1, 2, 3)
	if v != voter(3, 0) {
		t.Errorf("the voter is %+v", v)
	}
}

// A block voted for once more, directly and after others.
func TestTheSameBlockTwice(t *testing.T) {
	t.Parallel()
	eachSmallTree(func(tree impl.BlockTree) {
		marks := allMarks(tree)
		for n := 1; n < len(tree.Blocks); n++ {
			v := mustVote(t, voter(0, 0), tree, marks, n)
			checkNotVoted(t, v, tree, marks, n)
			for k := 1; k < len(tree.Blocks); k++ {
				next, _ := impl.VoteFor(v, tree, marks, k)
				checkNotVoted(t, next, tree, marks, n)
			}
		}
	})
}

// Views up to MaxView: a voter that has voted in this view has voted for the last time.
func TestVotesUpToMaxView(t *testing.T) {
	tree := topTree(fullStore(impl.MaxValue, -1))
	marks := allMarks(tree)
	checkVoted(t, voter(0, 0), tree, marks, 13, 1000, 998)
	checkVoted(t, voter(999, 997), tree, marks, 13, 1000, 998)
	checkVoted(t, voter(999, 998), tree, marks, 13, 1000, 998)
	checkVoted(t, voter(999, 999), tree, marks, 13, 1000, 999)
	checkNotVoted(t, voter(999, 1000), tree, marks, 13)
	checkNotVoted(t, voter(1000, 0), tree, marks, 13)
	checkVoted(t, voter(998, 998), tree, marks, 12, 999, 998)
	for n := range tree.Blocks {
		checkNotVoted(t, voter(1000, 0), tree, marks, n)
		checkNotVoted(t, voter(1000, 998), tree, marks, n)
		checkNotVoted(t, voter(1000, 1000), tree, marks, n)
		checkNotVoted(t, voter(0, 1000), tree, marks, n)
	}
	three := wayOf(0, 998, 999, 1000)
	checkVoted(t, voter(999, 0), three, allMarks(three), 3, 1000, 998)
	checkVoted(t, voter(998, 998), three, allMarks(three), 2, 999, 998)
}

// In a tree with the first block alone there is nothing to vote for.
func TestVotesForTheFirstBlockAlone(t *testing.T) {
	for _, s := range sampleStores() {
		tree := impl.TreeOf(s)
		for _, v := range []impl.Voter{voter(0, 0), voter(5, 3), voter(1000, 1000)} {
			for _, marks := range append(wrongMarks(1), []bool{true}, []bool{false}) {
				for _, n := range append(noBlockNumbers(1), 0) {
					checkNotVoted(t, v, tree, marks, n)
				}
			}
		}
	}
}

// Trees with MaxBlocks, of all their shapes: whatever is certified, for every block, with voters that have voted for others of its blocks.
func TestVotesOfMaxBlocks(t *testing.T) {
	t.Parallel()
	for _, tree := range greatTrees() {
		for _, marks := range someMarks(tree) {
			v := voter(0, 0)
			for step := range tree.Blocks {
				n := (step*5 + 1) % len(tree.Blocks)
				checkPlainVote(t, v, tree, marks, n)
				checkPlainVote(t, v, tree, marks, step)
				v, _ = plainVote(v, tree, marks, n)
			}
		}
	}
}

// Blocks need not be right to be voted for, nor those before them.
func TestVotesForBlocksThatAreNotRight(t *testing.T) {
	tree := wayOf(0, 1, 2, 3, 4)
	for n := 1; n < 5; n++ {
		tree = withBlock(tree, n, func(b *impl.Block) { b.Root, b.Effects = (b.Root+n)%impl.SumBase, 5 })
	}
	checkRightBlocks(t, tree, marksOf(5))
	for n := 1; n < 5; n++ {
		checkVoted(t, voter(0, 0), tree, allMarks(tree), n, n, max(0, n-2))
	}
}

// There is no vote for the first block, nor for one that the tree does not have.
func TestVotesForNoBlock(t *testing.T) {
	t.Parallel()
	eachTree(func(tree impl.BlockTree) {
		for _, v := range []impl.Voter{voter(0, 0), voter(3, 2), voter(0, 1), voter(1000, 1000)} {
			for _, marks := range [][]bool{allMarks(tree), setOf(len(tree.Blocks)), setOf(len(tree.Blocks), 0)} {
				for _, n := range append(noBlockNumbers(len(tree.Blocks)), 0) {
					checkNotVoted(t, v, tree, marks, n)
				}
			}
		}
	})
}

// A list of what is certified that is too short or too long is refused, also if it has the block before, or marks only behind the blocks.
func TestVotesWithWrongMarks(t *testing.T) {
	t.Parallel()
	eachTree(func(tree impl.BlockTree) {
		count := len(tree.Blocks)
		for n := 1; n < count; n++ {
			for _, marks := range append(wrongMarks(count), setOf(count+1, tree.Before[n]), allMarks(tree)[:n]) {
				checkNotVoted(t, voter(0, 0), tree, marks, n)
			}
			roomy := append(allMarks(tree), true, true)
			checkPlainVote(t, voter(0, 0), tree, roomy[:count], n)
			checkNotVoted(t, voter(0, 0), tree, roomy[:count+1], n)
			checkNotVoted(t, voter(0, 0), tree, roomy[:count-1], n)
		}
	})
}

// For a tree that is not valid a voter may not vote, whatever is certified, and stays as it is.
func TestVotesOnInvalidTrees(t *testing.T) {
	t.Parallel()
	voters := []impl.Voter{voter(0, 0), voter(1, 0), voter(500, 400), voter(1000, 1000)}
	for _, v := range voters {
		for n := -1; n <= 1; n++ {
			checkNotVoted(t, v, impl.BlockTree{}, nil, n)
			checkNotVoted(t, v, impl.BlockTree{}, []bool{true, true}, n)
		}
	}
	for _, right := range []impl.BlockTree{wayOf(0, 1, 2, 3), eightBlocks(), topTree(nil)} {
		for i, tree := range wrongTrees(right) {
			v := voters[i%4]
			for n := -1; n <= len(tree.Blocks); n++ {
				checkNotVoted(t, v, tree, allMarks(tree), n)
				checkNotVoted(t, v, tree, allMarks(right), n)
			}
			checkNotVoted(t, v, tree, nil, 1)
		}
	}
}

// Voting leaves the tree and what is certified as they are, also behind their ends.
func TestVotesLeaveTheirArguments(t *testing.T) {
	t.Parallel()
	eachTree(func(tree impl.BlockTree) {
		given := roomyTree(tree)
		before := wholeTree(given)
		for _, list := range someMarks(tree)[:3] {
			marks := append(slices.Clone(list), true, false)
			whole := slices.Clone(marks)
			for n := -1; n <= len(list); n++ {
				v := voter(0, 0)
				impl.MayVote(v, given, marks[:len(list)], n)
				got, ok := impl.VoteFor(v, given, marks[:len(list)], n)
				again, okAgain := impl.VoteFor(v, given, marks[:len(list)], n)
				if got != again || ok != okAgain || v != voter(0, 0) || !slices.Equal(marks, whole) {
					t.Errorf("%+v, then %+v, and %v has become %v", got, again, whole, marks)
				}
			}
		}
		if after := wholeTree(given); after != before {
			t.Errorf("%s has become %s", before, after)
		}
	})
}
