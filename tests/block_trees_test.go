package tests

import (
	"fmt"
	"math"
	"slices"
	"sync"
	"testing"

	"loop.example/blockexecutor/impl"
)

// blockTree is the tree with those blocks, each behind the one whose number is in before.
func blockTree(s []impl.Entry, blocks []impl.Block, before ...int) impl.BlockTree {
	return impl.BlockTree{Base: s, Blocks: blocks, Before: before}
}

func sameTree(a impl.BlockTree, b impl.BlockTree) bool {
	return slices.Equal(a.Base, b.Base) && slices.EqualFunc(a.Blocks, b.Blocks, sameBlock) && slices.Equal(a.Before, b.Before)
}

// copyTree is a copy that shares no memory.
func copyTree(t impl.BlockTree) impl.BlockTree {
	other := impl.BlockTree{Base: slices.Clone(t.Base), Before: slices.Clone(t.Before)}
	for _, b := range t.Blocks {
		other.Blocks = append(other.Blocks, changed(b, func(*impl.Block) {}))
	}
	return other
}

// changedTree is the tree after a change, which shares no memory with it.
func changedTree(t impl.BlockTree, change func(t *impl.BlockTree)) impl.BlockTree {
	t = copyTree(t)
	change(&t)
	return t
}

// plainTreeValid goes through the rules one by one, and looks for sums in all blocks.
func plainTreeValid(t impl.BlockTree) bool {
	if !impl.StoreValid(t.Base) || len(t.Blocks) < 1 || len(t.Blocks) > 14 || len(t.Before) != len(t.Blocks) {
		return false
	}
	var sums []int
	for _, b := range t.Blocks {
		sum := impl.BlockSum(b)
		if !impl.BlockValid(b) || slices.Contains(sums, sum) {
			return false
		}
		sums = append(sums, sum)
	}
	if !sameBlock(t.Blocks[0], impl.FirstBlock(t.Base)) || t.Before[0] != -1 {
		return false
	}
	for n, b := range t.Blocks[1:] {
		before := t.Before[n+1]
		if before < 0 || before > n || sums[before] != b.Before || t.Blocks[before].Height != b.Height-1 || t.Blocks[before].View >= b.View {
			return false
		}
	}
	return true
}

// plainPutBlock tries every number in Before.
func plainPutBlock(t impl.BlockTree, b impl.Block) (impl.BlockTree, bool) {
	for before := -1; before <= len(t.Blocks); before++ {
		put := blockTree(t.Base, append(slices.Clone(t.Blocks), b), append(slices.Clone(t.Before), before)...)
		if plainTreeValid(put) {
			return put, true
		}
	}
	return t, false
}

func plainPath(t impl.BlockTree, n int) []int {
	if n == 0 {
		return []int{0}
	}
	return append(plainPath(t, t.Before[n]), n)
}

func plainStoreOf(t impl.BlockTree, n int) []impl.Entry {
	s := t.Base
	for _, k := range plainPath(t, n) {
		s, _ = plainSerial(s, t.Blocks[k].List)
	}
	return s
}

// plainGrow puts a right block behind the block n, without asking whether the tree is valid then.
func plainGrow(t impl.BlockTree, n int, view int, list []impl.Action) impl.BlockTree {
	b := plainNext(t.Blocks[n], plainStoreOf(t, n), view, list)
	return blockTree(t.Base, append(slices.Clone(t.Blocks), b), append(slices.Clone(t.Before), n)...)
}

func plainTreeOf(s []impl.Entry) impl.BlockTree {
	return blockTree(s, []impl.Block{plainFirst(s)}, -1)
}

// relinked is the tree in which the blocks that are behind the block n, or behind those, have the sums of those they are behind, also of such that are not valid.
func relinked(t impl.BlockTree, n int) impl.BlockTree {
	t = copyTree(t)
	isBehind := make([]bool, len(t.Blocks))
	isBehind[n] = true
	for k := n + 1; k < len(t.Blocks); k++ {
		if isBehind[t.Before[k]] {
			isBehind[k] = true
			t.Blocks[k].Before = plainBlockSum(t.Blocks[t.Before[k]])
		}
	}
	return t
}

// withBlock is the tree with a change of one block, and the sums behind it.
func withBlock(t impl.BlockTree, n int, change func(b *impl.Block)) impl.BlockTree {
	return relinked(changedTree(t, func(t *impl.BlockTree) { change(&t.Blocks[n]) }), n)
}

// withHeight is the tree with another height of a block; those behind it are as much higher or lower.
func withHeight(t impl.BlockTree, n int, height int) impl.BlockTree {
	by := height - t.Blocks[n].Height
	return relinked(changedTree(t, func(other *impl.BlockTree) {
		for k := range t.Blocks {
			if slices.Contains(plainPath(t, k), n) {
				other.Blocks[k].Height += by
			}
		}
	}), n)
}

// twinOf is another block with the same sum.
func twinOf(b impl.Block) impl.Block {
	return changed(b, func(b *impl.Block) {
		b.Root = (b.Root + 1) % impl.SumBase
		b.Effects = (b.Effects + impl.SumBase - 31) % impl.SumBase
	})
}

// withSum is the block with such effects that it has a sum.
func withSum(b impl.Block, sum int) impl.Block {
	b.Effects = 0
	b.Effects = (sum - plainBlockSum(b) + impl.SumBase) % impl.SumBase
	return b
}

// eightBlocks is a tree with fixed values from a separate calculation: ways of one to four blocks, with no action, one, several and MaxActions; block 6 is not right.
func eightBlocks() impl.BlockTree {
	move := actions(action(impl.ActMove, 1, 2, 4))
	all := actions(
		action(impl.ActMove, 1, 2, 6), action(impl.ActCopy, 3, 4, 0), action(impl.ActSwap, 1, 4, 0),
		action(impl.ActAdd, 3, 3, 0), action(impl.ActTake, 3, 0, 4), action(impl.ActPut, 31, 0, impl.MaxValue))
	ten := slices.Repeat(actions(action(impl.ActAdd, 1, 1, 0)), impl.MaxActions)
	two := actions(action(impl.ActSwap, 1, 3, 0), action(impl.ActTake, 3, 0, 10))
	return blockTree(storeOf(1, 9, 3, 5), []impl.Block{
		block(0, 0, 0, nil, 90484, 21),
		block(910997, 1, 1, move, 90484, 757560),
		block(910997, 1, 7, nil, 90484, 21),
		block(316974, 2, 1000, all, 737865, 151296),
		block(910997, 1, 3, ten, 922825, 104244),
		block(473620, 2, 8, two, 247457, 886398),
		block(456315, 2, 4, actions(action(impl.ActPut, 0, 0, 1)), 0, 0),
		block(656764, 3, 6, actions(action(impl.ActCopy, 0, 5, 0)), 581680, 658301),
	}, -1, 0, 0, 1, 0, 2, 4, 6)
}

func eightSums() []int {
	return []int{910997, 316974, 473620, 573652, 456315, 384484, 656764, 866981}
}

func eightPaths() [][]int {
	return [][]int{{0}, {0, 1}, {0, 2}, {0, 1, 3}, {0, 4}, {0, 2, 5}, {0, 4, 6}, {0, 4, 6, 7}}
}

// smallShapes are the numbers in Before of all trees with so many blocks.
func smallShapes(count int) [][]int {
	if count == 1 {
		return [][]int{{-1}}
	}
	var shapes [][]int
	for _, shape := range smallShapes(count - 1) {
		for before := range count - 1 {
			shapes = append(shapes, append(slices.Clone(shape), before))
		}
	}
	return shapes
}

// greatShapes are those of trees with MaxBlocks: one way, all behind the first one, two behind each, two ways beside each other, a way with many at its end, and mixed ones.
func greatShapes() [][]int {
	rules := []func(n int) int{
		func(n int) int { return n - 1 },
		func(n int) int { return 0 },
		func(n int) int { return (n - 1) / 2 },
		func(n int) int { return max(0, n-2) },
		func(n int) int { return min(n-1, 6) },
		func(n int) int { return n * n % 17 % n },
		func(n int) int { return n * 7919 % 31 % n },
	}
	var shapes [][]int
	for _, rule := range rules {
		shape := []int{-1}
		for n := 1; n < impl.MaxBlocks; n++ {
			shape = append(shape, rule(n))
		}
		shapes = append(shapes, shape)
	}
	return shapes
}

// shapedTree is a tree of right blocks over a store, which has no, one, several and MaxActions actions in its blocks, and views that grow by 1 and more.
func shapedTree(s []impl.Entry, shape []int, seed int) impl.BlockTree {
	lists := append(busyActions(), nil)
	t := plainTreeOf(s)
	for n := 1; n < len(shape); n++ {
		view := t.Blocks[shape[n]].View + 1 + (seed+n)%3
		t = plainGrow(t, shape[n], view, lists[(seed*5+n*3)%len(lists)])
	}
	return t
}

// spoiltTree is the tree in which the root or the effects of every third block are others, so that these are not right.
func spoiltTree(t impl.BlockTree) impl.BlockTree {
	for n := range t.Blocks {
		switch n % 6 {
		case 1:
			t = withBlock(t, n, func(b *impl.Block) { b.Root = (b.Root + 1) % impl.SumBase })
		case 4:
			t = withBlock(t, n, func(b *impl.Block) { b.Effects = (b.Effects + 1) % impl.SumBase })
		}
	}
	return t
}

// topTree is a way of MaxBlocks with the greatest views, each greater by 1, over a store.
func topTree(s []impl.Entry) impl.BlockTree {
	t := plainTreeOf(s)
	for n := range impl.MaxBlocks - 1 {
		t = plainGrow(t, n, impl.MaxView-impl.MaxBlocks+2+n, busyActions()[n])
	}
	return t
}

// smallTrees are valid trees of all shapes with up to five blocks, over the empty store, full ones and others.
var smallTrees = sync.OnceValue(func() []impl.BlockTree {
	trees := []impl.BlockTree{eightBlocks()}
	for count := 1; count <= 5; count++ {
		for i, shape := range smallShapes(count) {
			t := shapedTree(fewStores()[i%6], shape, i)
			if i%2 == 1 {
				t = spoiltTree(t)
			}
			trees = append(trees, t)
		}
	}
	return trees
})

// greatTrees are valid trees of MaxBlocks, and with one block less.
var greatTrees = sync.OnceValue(func() []impl.BlockTree {
	trees := []impl.BlockTree{topTree(nil), topTree(fullStore(1, 1))}
	for i, shape := range greatShapes() {
		for k := range 2 {
			t := shapedTree(fewStores()[(i+3*k)%6], shape, i+k)
			trees = append(trees, t, spoiltTree(t))
		}
	}
	for _, t := range trees[:len(trees):len(trees)] {
		trees = append(trees, blockTree(t.Base, t.Blocks[:13], t.Before[:13]...))
	}
	return trees
})

// eachTree visits all those trees, and the trees of the first block alone over all sample stores.
func eachTree(visit func(t impl.BlockTree)) {
	for _, s := range sampleStores() {
		visit(plainTreeOf(s))
	}
	eachSmallTree(visit)
	for _, t := range greatTrees() {
		visit(copyTree(t))
	}
}

func eachSmallTree(visit func(t impl.BlockTree)) {
	for _, t := range smallTrees() {
		visit(copyTree(t))
	}
}

// noBlockNumbers are numbers that no block of a tree with so many has.
func noBlockNumbers(count int) []int {
	return []int{-1, -2, -count, count, count + 1, 100, 1 << 32, 1<<32 + 1, math.MinInt, math.MinInt + 1, math.MaxInt}
}

// noSums are numbers that are no sums, some of them near those of a tree.
func noSums(t impl.BlockTree) []int {
	sums := invalidRoots()
	for _, b := range t.Blocks {
		sum := impl.BlockSum(b)
		sums = append(sums, sum-impl.SumBase, sum+impl.SumBase, sum+1<<32)
	}
	return sums
}

func checkTree(t *testing.T, tree impl.BlockTree, want bool) {
	t.Helper()
	if got := impl.BlockTreeValid(tree); got != want {
		t.Errorf("BlockTreeValid(%+v) = %v", tree, got)
	}
}

func checkTreeOf(t *testing.T, s []impl.Entry, want impl.BlockTree) {
	t.Helper()
	if got := impl.TreeOf(s); !sameTree(got, want) {
		t.Errorf("TreeOf(%v) = %+v, want %+v", s, got, want)
	}
}

func checkFind(t *testing.T, tree impl.BlockTree, sum int, want int) {
	t.Helper()
	if got := impl.FindBlock(tree, sum); got != want {
		t.Errorf("FindBlock(%+v, %d) = %d, want %d", tree, sum, got, want)
	}
}

func checkPutBlock(t *testing.T, tree impl.BlockTree, b impl.Block, want impl.BlockTree, wantOK bool) {
	t.Helper()
	got, ok := impl.PutBlock(tree, b)
	if !sameTree(got, want) || ok != wantOK {
		t.Errorf("PutBlock(%+v, %+v) = %+v, %v, want %+v, %v", tree, b, got, ok, want, wantOK)
	}
}

func checkNotPut(t *testing.T, tree impl.BlockTree, b impl.Block) {
	t.Helper()
	checkPutBlock(t, tree, b, tree, false)
}

func checkPath(t *testing.T, tree impl.BlockTree, n int, want []int) {
	t.Helper()
	if got := impl.PathTo(tree, n); !slices.Equal(got, want) {
		t.Errorf("PathTo(%+v, %d) = %v, want %v", tree, n, got, want)
	}
}

func checkBefore(t *testing.T, tree impl.BlockTree, a int, b int, want bool) {
	t.Helper()
	if got := impl.IsBefore(tree, a, b); got != want {
		t.Errorf("IsBefore(%+v, %d, %d) = %v", tree, a, b, got)
	}
}

func mustPutBlock(t *testing.T, tree impl.BlockTree, b impl.Block) impl.BlockTree {
	t.Helper()
	put, ok := impl.PutBlock(tree, b)
	if !ok {
		t.Fatalf("PutBlock(%+v, %+v) is refused", tree, b)
	}
	return put
}

// checkNoTree checks what all functions answer for a tree that is not valid.
func checkNoTree(t *testing.T, tree impl.BlockTree) {
	t.Helper()
	checkTree(t, tree, false)
	sums, blocks := []int{-1, 0, 5, impl.SumBase}, []impl.Block{{}, plainFirst(nil)}
	for _, b := range tree.Blocks {
		sums, blocks = append(sums, impl.BlockSum(b)), append(blocks, b, block(impl.BlockSum(b), b.Height+1, b.View+1, nil, 5, 6))
	}
	for _, sum := range sums {
		checkFind(t, tree, sum, -1)
	}
	for _, b := range blocks {
		checkPutBlock(t, tree, b, impl.BlockTree{}, false)
		c := cert(impl.BlockSum(b), b.View, 15)
		checkCertBlock(t, tree, c, -1)
		checkCertified(t, tree, []impl.Cert{c}, nil)
		checkNoCommits(t, tree, []impl.Cert{c})
	}
	checkCertified(t, tree, nil, nil)
	checkNoCommits(t, tree, nil)
	checkBranchLayers(t, tree, nil)
	checkRightBlocks(t, tree, nil)
	for n := -1; n <= len(tree.Blocks); n++ {
		checkPath(t, tree, n, nil)
		checkBefore(t, tree, 0, n, false)
		checkBefore(t, tree, n, n, false)
		checkStoreOf(t, tree, n, nil)
		checkGrow(t, tree, n, impl.MaxView, nil, impl.BlockTree{}, false)
		checkNoVotes(t, tree, n)
	}
}

func TestBlockTreeConstants(t *testing.T) {
	if impl.MaxBlocks != 14 {
		t.Errorf("MaxBlocks %d", impl.MaxBlocks)
	}
}

func TestTreesOfStores(t *testing.T) {
	checkTreeOf(t, nil, blockTree(nil, []impl.Block{block(0, 0, 0, nil, 629867, 21)}, -1))
	checkTreeOf(t, fullStore(1, 1), blockTree(fullStore(1, 1), []impl.Block{block(0, 0, 0, nil, 689957, 21)}, -1))
	for _, s := range sampleStores() {
		checkTreeOf(t, s, plainTreeOf(s))
		checkTree(t, impl.TreeOf(s), true)
	}
	for _, s := range invalidStores() {
		checkTreeOf(t, s, impl.BlockTree{})
	}
}

func TestBlockTreeValues(t *testing.T) {
	tree, sums, paths := eightBlocks(), eightSums(), eightPaths()
	checkTree(t, tree, true)
	for n, sum := range sums {
		checkFind(t, tree, sum, n)
		checkFind(t, tree, sum+1, -1)
		checkPath(t, tree, n, paths[n])
		for a := range sums {
			checkBefore(t, tree, a, n, slices.Contains(paths[n], a))
		}
	}
	checkBefore(t, tree, 4, 7, true)
	checkBefore(t, tree, 7, 4, false)
	checkBefore(t, tree, 3, 7, false)
	checkPath(t, tree, 8, nil)
	checkPath(t, tree, -1, nil)
	built := impl.TreeOf(tree.Base)
	for n := 1; n < 8; n++ {
		want := blockTree(tree.Base, tree.Blocks[:n+1], tree.Before[:n+1]...)
		checkPutBlock(t, built, tree.Blocks[n], want, true)
		built = want
		checkNotPut(t, built, tree.Blocks[n])
	}
}

// Trees over the empty store and over one with all keys, with fixed values.
func TestTreesOverTheEdgesOfStores(t *testing.T) {
	put := block(631819, 1, 1, actions(action(impl.ActPut, 0, 0, 7)), 33321, 716310)
	none := block(160623, 2, 2, nil, 33321, 21)
	empty := impl.TreeOf(nil)
	one := blockTree(nil, []impl.Block{empty.Blocks[0], put}, -1, 0)
	two := blockTree(nil, []impl.Block{empty.Blocks[0], put, none}, -1, 0, 1)
	checkPutBlock(t, empty, put, one, true)
	checkPutBlock(t, one, none, two, true)
	checkNotPut(t, empty, none)
	checkFind(t, two, 160623, 1)
	checkFind(t, two, 371180, 2)
	checkPath(t, two, 2, []int{0, 1, 2})
	full := impl.TreeOf(fullStore(1, 1))
	last := block(494603, 1, 1000, actions(action(impl.ActPut, 31, 0, 0)), 689925, 717264)
	checkPutBlock(t, full, last, blockTree(fullStore(1, 1), []impl.Block{full.Blocks[0], last}, -1, 0), true)
	checkNotPut(t, full, put)
	checkFind(t, mustPutBlock(t, full, last), 480316, 1)
}

func TestSampleTreesAreValid(t *testing.T) {
	counts := map[int]int{}
	eachTree(func(tree impl.BlockTree) {
		counts[len(tree.Blocks)]++
		checkTree(t, tree, true)
		if !plainTreeValid(tree) {
			t.Errorf("%+v is not valid", tree)
		}
	})
	if counts[1] != 32 || counts[5] != 24 || counts[13] != 30 || counts[14] != 30 {
		t.Errorf("numbers of trees by their blocks: %v", counts)
	}
}

// P64: without the last block, again and again, until there is none.
func TestTreesWithoutTheirLastBlockAreValid(t *testing.T) {
	eachTree(func(tree impl.BlockTree) {
		for count := len(tree.Blocks); count > 0; count-- {
			checkTree(t, blockTree(tree.Base, tree.Blocks[:count], tree.Before[:count]...), true)
		}
		checkTree(t, blockTree(tree.Base, nil), false)
		for n := range tree.Blocks[1:] {
			b := tree.Blocks[n+1]
			before := tree.Before[n+1]
			if before < 0 || before > n || b.Before != impl.BlockSum(tree.Blocks[before]) || b.Height != tree.Blocks[before].Height+1 || b.View <= tree.Blocks[before].View {
				t.Errorf("block %d of %+v is not behind block %d", n+1, tree, before)
			}
		}
	})
}

// Without another block a tree is valid only if nothing is behind that one.
func TestTreesWithoutOtherBlocks(t *testing.T) {
	eachSmallTree(func(tree impl.BlockTree) {
		for n := range tree.Blocks {
			other := changedTree(tree, func(t *impl.BlockTree) {
				t.Blocks, t.Before = slices.Delete(t.Blocks, n, n+1), slices.Delete(t.Before, n, n+1)
				for k := range t.Before {
					if t.Before[k] > n {
						t.Before[k]--
					}
				}
			})
			checkTree(t, other, n > 0 && !slices.Contains(tree.Before, n))
		}
	})
}

// reordered is the tree with its blocks in another order, in which every block is still behind the same one.
func reordered(t impl.BlockTree, order []int) impl.BlockTree {
	other := impl.BlockTree{Base: t.Base}
	for _, n := range order {
		other.Blocks = append(other.Blocks, t.Blocks[n])
		other.Before = append(other.Before, slices.Index(order, t.Before[n]))
	}
	return other
}

// In another order a tree is valid exactly if every block is behind an earlier one: a block behind a later one is refused, although all sums, heights and views fit.
func TestTreesInOtherOrders(t *testing.T) {
	valid, wrong := 0, 0
	for _, tree := range smallTrees()[1:] {
		eachOrder(len(tree.Blocks), func(order []int) {
			other := reordered(tree, order)
			want := order[0] == 0
			for n, before := range other.Before {
				want = want && before < n
			}
			checkTree(t, other, want)
			if want {
				valid++
			} else {
				wrong++
			}
		})
	}
	if valid < 100 || wrong < 1000 {
		t.Errorf("%d orders are valid, %d are not", valid, wrong)
	}
}

// wrongStoreTrees are those with a store that is not valid, also with the first block that FirstBlock has for it, or with another store.
func wrongStoreTrees(t impl.BlockTree) []impl.BlockTree {
	var trees []impl.BlockTree
	wrong := [][]impl.Entry{storeOf(3, 0), storeOf(32, 1), storeOf(-1, 1), storeOf(3, 1, 3, 1), storeOf(4, 1, 3, 1), storeOf(3, impl.MaxValue+1)}
	for _, entry := range []impl.Entry{{Key: 32, Value: 1}, {Key: 31}, {Key: 0, Value: 1}} {
		wrong = append(wrong, append(slices.Clone(t.Base), entry))
	}
	for _, s := range wrong {
		if impl.StoreValid(s) {
			continue
		}
		other := changedTree(t, func(t *impl.BlockTree) { t.Base = s })
		trees = append(trees, other, withBlock(other, 0, func(b *impl.Block) { *b = impl.Block{} }))
	}
	for _, s := range fewStores() {
		if impl.RootOf(s) != impl.RootOf(t.Base) {
			trees = append(trees, changedTree(t, func(t *impl.BlockTree) { t.Base = s }))
		}
	}
	return trees
}

// wrongFirstTrees are those in which the first block is not FirstBlock of the store, or its number in Before is not -1.
func wrongFirstTrees(t impl.BlockTree) []impl.BlockTree {
	var trees []impl.BlockTree
	with := func(change func(b *impl.Block)) { trees = append(trees, withBlock(t, 0, change)) }
	for _, by := range []int{1, 2, impl.SumBase - 1} {
		with(func(b *impl.Block) { b.Before = by })
		with(func(b *impl.Block) { b.Root = (b.Root + by) % impl.SumBase })
		with(func(b *impl.Block) { b.Effects = (b.Effects + by) % impl.SumBase })
	}
	for _, list := range [][]impl.Action{actions(action(impl.ActSwap, 5, 5, 0)), actions(impl.Action{}), busyActions()[3]} {
		with(func(b *impl.Block) { b.List = list })
		with(func(b *impl.Block) { b.List, b.Effects = list, impl.EffectsSum([]impl.Effect{{Done: true}}) })
	}
	with(func(b *impl.Block) { *b = impl.Block{} })
	with(func(b *impl.Block) { *b = twinOf(*b) })
	with(func(b *impl.Block) { b.View = -1 })
	if len(t.Blocks) == 1 || t.Blocks[1].View > 1 {
		with(func(b *impl.Block) { b.View = 1 })
	}
	trees = append(trees, withHeight(t, 0, 1), withHeight(t, 0, -1))
	for _, before := range append(noBlockNumbers(len(t.Blocks)), 0, 1) {
		if before != -1 {
			trees = append(trees, changedTree(t, func(t *impl.BlockTree) { t.Before[0] = before }))
		}
	}
	return trees
}

// wrongCountTrees are those without blocks, with too many, and with longer or shorter Before.
func wrongCountTrees(t impl.BlockTree) []impl.BlockTree {
	trees := []impl.BlockTree{
		{}, {Base: t.Base}, {Base: t.Base, Before: t.Before}, {Base: t.Base, Blocks: []impl.Block{}, Before: []int{}},
		{Base: t.Base, Blocks: t.Blocks}, {Base: t.Base, Blocks: t.Blocks, Before: t.Before[1:]},
		{Base: t.Base, Blocks: t.Blocks, Before: t.Before[:len(t.Before)-1]}, {Base: t.Base, Blocks: t.Blocks[:len(t.Blocks)-1], Before: t.Before},
		{Base: t.Base, Blocks: t.Blocks[1:], Before: t.Before[1:]},
	}
	for _, more := range [][]int{{-1}, {0}, {len(t.Blocks) - 1}, {len(t.Blocks)}, {0, 0, 0}} {
		trees = append(trees, blockTree(t.Base, t.Blocks, append(slices.Clone(t.Before), more...)...))
	}
	for view := 500; len(t.Blocks) < 30; view++ {
		sum := impl.BlockSum(t.Blocks[0])
		t = blockTree(t.Base, append(slices.Clone(t.Blocks), block(sum, 1, view, nil, 1, 2)), append(slices.Clone(t.Before), 0)...)
		if len(t.Blocks) > 14 {
			trees = append(trees, t)
		}
	}
	return trees
}

// wrongBeforeTrees are those in which the block n has another number, or another sum, of the block that it is behind.
func wrongBeforeTrees(t impl.BlockTree, n int) []impl.BlockTree {
	var trees []impl.BlockTree
	count := len(t.Blocks)
	for _, before := range append(noBlockNumbers(count), inOrder(count)...) {
		if before != t.Before[n] {
			trees = append(trees, changedTree(t, func(t *impl.BlockTree) { t.Before[n] = before }))
		}
	}
	sums := []int{0, 5, -1, impl.SumBase, t.Blocks[n].Before + impl.SumBase, t.Blocks[n].Before - impl.SumBase, (t.Blocks[n].Before + 1) % impl.SumBase}
	for _, b := range t.Blocks {
		sums = append(sums, impl.BlockSum(b))
	}
	for _, sum := range sums {
		if sum != t.Blocks[n].Before {
			trees = append(trees, withBlock(t, n, func(b *impl.Block) { b.Before = sum }))
		}
	}
	return trees
}

// wrongPlaceTrees are those in which the block n has a height that is not greater by 1, or a view that is not greater.
func wrongPlaceTrees(t impl.BlockTree, n int) []impl.BlockTree {
	var trees []impl.BlockTree
	right := t.Blocks[n].Height
	for _, height := range []int{0, right - 1, right + 1, right + 2, 80, -1, -right, impl.MaxHeight + 1} {
		if height != right {
			trees = append(trees, withHeight(t, n, height))
		}
	}
	view := t.Blocks[t.Before[n]].View
	for _, other := range []int{view, view - 1, 0, -1, -1000} {
		if other <= view {
			trees = append(trees, withBlock(t, n, func(b *impl.Block) { b.View = other }))
		}
	}
	return trees
}

// invalidBlockTrees are those in which the block n is not valid by itself; everything behind it has the sum that its numbers would have.
func invalidBlockTrees(t impl.BlockTree, n int) []impl.BlockTree {
	var trees []impl.BlockTree
	with := func(change func(b *impl.Block)) { trees = append(trees, withBlock(t, n, change)) }
	for _, sum := range []int{-1, impl.SumBase, impl.SumBase + 5, 1 << 32} {
		with(func(b *impl.Block) { b.Root = sum })
		with(func(b *impl.Block) { b.Effects = sum })
	}
	for _, view := range []int{1001, 2000, 1 << 32} {
		with(func(b *impl.Block) { b.View = view })
	}
	wrong := wrongLists()
	for _, list := range [][]impl.Action{wrong[0], wrong[20], wrong[40], wrong[90], wrong[len(wrong)-8], actions(action(impl.ActPut, 1, 2, 5))} {
		with(func(b *impl.Block) { b.List = list })
	}
	with(func(b *impl.Block) { b.List = append(b.List, impl.Action{}) })
	return trees
}

// doubledTrees are those in which a block like the block n, or another one with the same sum, stands behind the others; it has the right number in Before.
func doubledTrees(t impl.BlockTree, n int) []impl.BlockTree {
	var trees []impl.BlockTree
	for _, b := range []impl.Block{t.Blocks[n], twinOf(t.Blocks[n])} {
		trees = append(trees, blockTree(t.Base, append(slices.Clone(t.Blocks), b), append(slices.Clone(t.Before), t.Before[n])...))
	}
	first := t.Blocks[0]
	twin := withSum(block(impl.BlockSum(first), 1, 1, nil, 3, 0), impl.BlockSum(t.Blocks[n]))
	return append(trees, blockTree(t.Base, append(slices.Clone(t.Blocks), twin), append(slices.Clone(t.Before), 0)...))
}

// wrongTrees are those with one thing wrong in a valid one.
func wrongTrees(t impl.BlockTree) []impl.BlockTree {
	trees := slices.Concat(wrongStoreTrees(t), wrongFirstTrees(t), wrongCountTrees(t))
	for n := range t.Blocks {
		trees = append(trees, doubledTrees(t, n)...)
		if n > 0 {
			trees = slices.Concat(trees, wrongBeforeTrees(t, n), wrongPlaceTrees(t, n), invalidBlockTrees(t, n))
		}
	}
	return trees
}

// Everything that makes a tree invalid, by itself, in each of the trees of up to five blocks: all functions refuse it.
func TestInvalidTrees(t *testing.T) {
	t.Parallel()
	count := 0
	eachSmallTree(func(tree impl.BlockTree) {
		for _, wrong := range wrongTrees(tree) {
			if plainTreeValid(wrong) {
				t.Errorf("%+v is valid", wrong)
			}
			checkNoTree(t, wrong)
			count++
		}
	})
	if count < 5000 {
		t.Errorf("there are only %d trees that are not valid", count)
	}
}

func TestInvalidGreatTrees(t *testing.T) {
	t.Parallel()
	for _, tree := range greatTrees() {
		for i, wrong := range wrongTrees(tree) {
			if i%7 == len(tree.Blocks)%7 {
				checkTree(t, wrong, false)
			}
		}
	}
}

// No store that is not valid has a tree, also not of the zero block, which FirstBlock has for it.
func TestTreesOverInvalidStores(t *testing.T) {
	for _, s := range invalidStores() {
		checkTree(t, blockTree(s, []impl.Block{{}}, -1), false)
		checkTree(t, blockTree(s, []impl.Block{plainFirst(nil)}, -1), false)
	}
	checkNoTree(t, blockTree(storeOf(3, 0), []impl.Block{{}}, -1))
	checkNoTree(t, impl.BlockTree{})
}

// Blocks with any one thing wrong are none of a tree.
func TestTreesHaveValidBlocks(t *testing.T) {
	tree := eightBlocks()
	for _, wrong := range wrongBlocks(tree.Blocks[7]) {
		other := changedTree(tree, func(t *impl.BlockTree) { t.Blocks[7] = wrong })
		checkTree(t, other, false)
		checkPutBlock(t, other, tree.Blocks[7], impl.BlockTree{}, false)
		checkNotPut(t, blockTree(tree.Base, tree.Blocks[:7], tree.Before[:7]...), wrong)
	}
	for _, wrong := range wrongBlocks(tree.Blocks[0]) {
		checkTree(t, blockTree(tree.Base, []impl.Block{wrong}, -1), false)
	}
}

// Two stores with the same root have the same first block, so a tree is one over both.
func TestTreesOverStoresWithTheSameRoot(t *testing.T) {
	tree := eightBlocks()
	tree.Base = storeOf(1, 5, 2, 4, 3, 5)
	checkTree(t, tree, true)
	checkPath(t, tree, 7, []int{0, 4, 6, 7})
	tree.Base = storeOf(1, 5, 2, 4, 3, 6)
	checkNoTree(t, tree)
}

// P65: the sums of all blocks are found, and nothing else is.
func TestBlocksAreFoundByTheirSums(t *testing.T) {
	eachTree(func(tree impl.BlockTree) {
		var sums []int
		for n, b := range tree.Blocks {
			sums = append(sums, impl.BlockSum(b))
			checkFind(t, tree, sums[n], n)
		}
		others := noSums(tree)
		for _, sum := range sums {
			others = append(others, sum-1, sum+1, sum^1<<9)
		}
		for _, sum := range append(others, 0, 5, 105978, impl.SumBase-1) {
			checkFind(t, tree, sum, slices.Index(sums, sum))
		}
	})
}

// In one tree, sums from below 0 to behind SumBase.
func TestSumsOfNoBlocks(t *testing.T) {
	tree, found := eightBlocks(), map[int]int{}
	for n, sum := range eightSums() {
		found[sum] = n
	}
	for sum := -20; sum < impl.SumBase+20; sum++ {
		want, isThere := found[sum]
		if !isThere {
			// Every 37th of these is enough.
			if sum%37 != 0 {
				continue
			}
			want = -1
		}
		checkFind(t, tree, sum, want)
	}
}

// 0 is a sum like all others: a block can have it, and another one can be behind that.
func TestBlocksWithTheSumZero(t *testing.T) {
	first := impl.TreeOf(storeOf(1, 9, 3, 5))
	checkFind(t, first, 0, -1)
	zero, next := block(910997, 1, 2, nil, 5, 480199), block(0, 2, 3, nil, 5, 6)
	checkBlockSum(t, zero, 0)
	checkNotPut(t, first, next)
	checkNotPut(t, first, block(0, 1, 3, nil, 5, 6))
	tree := mustPutBlock(t, first, zero)
	checkFind(t, tree, 0, 1)
	checkNotPut(t, tree, block(0, 1, 3, nil, 5, 6))
	checkPutBlock(t, tree, next, blockTree(tree.Base, []impl.Block{first.Blocks[0], zero, next}, -1, 0, 1), true)
	checkTree(t, blockTree(tree.Base, []impl.Block{first.Blocks[0], zero, next}, -1, 0, 0), false)
	checkTree(t, blockTree(tree.Base, []impl.Block{first.Blocks[0], next}, -1, 0), false)
	checkTree(t, blockTree(tree.Base, []impl.Block{first.Blocks[0], next}, -1, -1), false)
}

// A block that has its own sum in Before is behind none, whichever number is in Before.
func TestBlocksBehindThemselves(t *testing.T) {
	own := block(123456, 1, 2, nil, 77, 169425)
	checkBlockSum(t, own, 123456)
	first := impl.TreeOf(storeOf(1, 9, 3, 5))
	checkNotPut(t, first, own)
	for before := -1; before <= 2; before++ {
		checkNoTree(t, blockTree(first.Base, []impl.Block{first.Blocks[0], own}, -1, before))
	}
	flat := withSum(block(123456, 0, 0, nil, 77, 0), 123456)
	checkNotPut(t, first, flat)
	checkNoTree(t, blockTree(first.Base, []impl.Block{first.Blocks[0], flat}, -1, 1))
}

// Different blocks with the same sum are not in one tree, behind the same block or behind others, in any order; each alone is.
func TestBlocksWithTheSameSum(t *testing.T) {
	tree := eightBlocks()
	tree = blockTree(tree.Base, tree.Blocks[:2], tree.Before[:2]...)
	twins := []impl.Block{
		block(910997, 1, 2, nil, 100, 200), block(910997, 1, 2, nil, 101, 169), block(910997, 1, 3, nil, 100, 970412),
		block(316974, 2, 2, actions(action(impl.ActPut, 4, 0, 4)), 8, 272481),
	}
	before := []int{0, 0, 0, 1}
	for i, one := range twins {
		checkBlockSum(t, one, 522949)
		put := blockTree(tree.Base, append(slices.Clone(tree.Blocks), one), -1, 0, before[i])
		checkPutBlock(t, tree, one, put, true)
		checkFind(t, put, 522949, 2)
		for k, other := range twins {
			checkNotPut(t, put, other)
			checkNoTree(t, blockTree(tree.Base, append(slices.Clone(put.Blocks), other), -1, 0, before[i], before[k]))
		}
	}
	asFirst := block(910997, 1, 2, nil, 5, 391193)
	checkBlockSum(t, asFirst, 910997)
	checkNotPut(t, tree, asFirst)
	checkNoTree(t, blockTree(tree.Base, []impl.Block{tree.Blocks[0], asFirst}, -1, 0))
}

// blocksToPut are blocks that are tried behind the blocks of a tree: right and wrong ones, with heights and views around those that fit, and such as are there.
func blocksToPut(t impl.BlockTree) []impl.Block {
	list := busyActions()[13]
	blocks := []impl.Block{{}, plainFirst(nil), plainFirst(storeOf(7, 7)), block(5, 1, 1, nil, 0, 0)}
	for n, b := range t.Blocks {
		sum := impl.BlockSum(b)
		next := block(sum, b.Height+1, b.View+1, list, 3, 4)
		blocks = append(blocks, b, twinOf(b), next, plainNext(b, plainStoreOf(t, n), b.View+2, list), withSum(next, sum))
		for _, height := range []int{0, b.Height - 1, b.Height, b.Height + 2, impl.MaxHeight, impl.MaxHeight + 1} {
			blocks = append(blocks, block(sum, height, b.View+1, list, 3, 4))
		}
		for _, view := range []int{-1, 0, b.View - 1, b.View, b.View + 2, impl.MaxView, impl.MaxView + 1} {
			blocks = append(blocks, block(sum, b.Height+1, view, nil, 3, 4))
		}
		blocks = append(blocks, block((sum+1)%impl.SumBase, b.Height+1, b.View+1, nil, 3, 4), block(sum+impl.SumBase, b.Height+1, b.View+1, nil, 3, 4))
		blocks = append(blocks, block(sum, b.Height+1, b.View+1, nil, -1, 4), block(sum, b.Height+1, b.View+1, actions(impl.Action{}), 3, 4))
	}
	return blocks
}

// P66: the tree stays valid, the block is the last one, and putting it again is refused; what can't be put leaves the tree unchanged.
func TestPutBlocksAreThere(t *testing.T) {
	puts, refused := 0, 0
	eachSmallTree(func(tree impl.BlockTree) {
		for _, b := range blocksToPut(tree) {
			want, ok := plainPutBlock(tree, b)
			checkPutBlock(t, tree, b, want, ok)
			if !ok {
				refused++
				continue
			}
			puts++
			put := mustPutBlock(t, tree, b)
			checkTree(t, put, true)
			checkNotPut(t, put, b)
			last := len(put.Blocks) - 1
			if last != len(tree.Blocks) || !sameBlock(put.Blocks[last], b) || impl.FindBlock(put, b.Before) != put.Before[last] {
				t.Errorf("with %+v put into %+v it is %+v", b, tree, put)
			}
			checkFind(t, put, impl.BlockSum(b), last)
			checkPath(t, put, last, append(plainPath(put, put.Before[last]), last))
		}
	})
	if puts < 500 || refused < 1000 {
		t.Errorf("%d blocks were put, %d refused", puts, refused)
	}
}

// A put that makes a tree one of MaxBlocks, and one more, behind every block.
func TestPutsUpToMaxBlocks(t *testing.T) {
	t.Parallel()
	eachTree(func(tree impl.BlockTree) {
		if len(tree.Blocks) < 13 {
			return
		}
		for n, b := range tree.Blocks {
			if b.View > 900 {
				continue
			}
			next := plainNext(b, plainStoreOf(tree, n), b.View+50, busyActions()[n])
			want := blockTree(tree.Base, append(slices.Clone(tree.Blocks), next), append(slices.Clone(tree.Before), n)...)
			if len(tree.Blocks) == 14 {
				checkNotPut(t, tree, next)
				checkNoTree(t, want)
				continue
			}
			checkPutBlock(t, tree, next, want, true)
			checkNotPut(t, want, block(impl.BlockSum(tree.Blocks[0]), 1, 1000, nil, 0, 0))
			checkNotPut(t, want, block(impl.BlockSum(next), next.Height+1, 1000, nil, 0, 0))
		}
	})
}

// From the first block on, block by block, up to MaxBlocks, in every shape.
func TestTreesArePutTogether(t *testing.T) {
	for _, want := range greatTrees() {
		tree := impl.TreeOf(want.Base)
		for n := 1; n < len(want.Blocks); n++ {
			for _, later := range want.Blocks[n:] {
				if place := slices.IndexFunc(tree.Blocks, func(b impl.Block) bool { return impl.BlockSum(b) == later.Before }); place < 0 {
					checkNotPut(t, tree, later)
				}
			}
			tree = mustPutBlock(t, tree, want.Blocks[n])
		}
		if !sameTree(tree, want) {
			t.Errorf("put together is %+v, want %+v", tree, want)
		}
	}
}

// A way of MaxBlocks has the heights 0 to 13; its blocks can only be put in their order.
func TestTheLongestWay(t *testing.T) {
	for _, s := range fewStores() {
		want := topTree(s)
		checkTree(t, want, true)
		for n, b := range want.Blocks {
			if b.Height != n || n > 0 && b.View != 987+n {
				t.Errorf("block %d is %+v", n, b)
			}
			checkPath(t, want, n, inOrder(n+1))
			checkFind(t, want, impl.BlockSum(b), n)
			for a := range want.Blocks {
				checkBefore(t, want, a, n, a <= n)
			}
		}
		short := blockTree(s, want.Blocks[:13], want.Before[:13]...)
		checkPutBlock(t, short, want.Blocks[13], want, true)
		shorter := blockTree(s, want.Blocks[:12], want.Before[:12]...)
		checkNotPut(t, shorter, want.Blocks[13])
	}
}

// All views behind a block, and all heights: a view must be greater, by 1 or by more, and a height greater by 1.
func TestPlacesOfPutBlocks(t *testing.T) {
	tree := eightBlocks()
	for n, b := range tree.Blocks {
		sum := impl.BlockSum(b)
		for view := -2; view <= 1002; view++ {
			next := block(sum, b.Height+1, view, nil, 3, 4)
			if view > b.View && view <= 1000 {
				want := blockTree(tree.Base, append(slices.Clone(tree.Blocks), next), append(slices.Clone(tree.Before), n)...)
				checkPutBlock(t, tree, next, want, true)
			} else {
				checkNotPut(t, tree, next)
			}
		}
		for height := -2; height <= 102; height++ {
			if height != b.Height+1 {
				checkNotPut(t, tree, block(sum, height, 1000, nil, 3, 4))
			}
		}
		for _, height := range invalidHeights() {
			checkNotPut(t, tree, block(sum, height, 1000, nil, 3, 4))
		}
		for _, view := range invalidViews() {
			checkNotPut(t, tree, block(sum, b.Height+1, view, nil, 3, 4))
		}
	}
}

// Blocks that are behind none: their Before is the sum of no block, also if everything else would fit behind the first one, or behind another.
func TestBlocksBehindNone(t *testing.T) {
	tree := eightBlocks()
	sums := eightSums()
	for n, b := range tree.Blocks {
		for _, sum := range append(noSums(tree), 0, 5, impl.SumBase-1, sums[n]+1, sums[n]-1) {
			lost := block(sum, b.Height+1, 1000, nil, 3, 4)
			checkNotPut(t, tree, lost)
			for before := -1; before <= 9; before++ {
				checkTree(t, blockTree(tree.Base, append(slices.Clone(tree.Blocks), lost), append(slices.Clone(tree.Before), before)...), false)
			}
		}
	}
	other := impl.TreeOf(storeOf(2, 2))
	for _, b := range tree.Blocks {
		checkNotPut(t, other, b)
	}
	checkNotPut(t, tree, other.Blocks[0])
}

// Blocks that are not right over their store are blocks of a tree nevertheless, and so are those behind them.
func TestBlocksThatAreNotRight(t *testing.T) {
	s := storeOf(1, 9)
	tree := impl.TreeOf(s)
	for n := range impl.MaxBlocks - 1 {
		b := block(impl.BlockSum(tree.Blocks[n]), n+1, 2*n+1, busyActions()[n+1], 3*n, 5*n)
		if impl.BlockRight(b, plainStoreOf(tree, n)) {
			t.Errorf("%+v is right", b)
		}
		tree = mustPutBlock(t, tree, b)
		checkTree(t, tree, true)
		checkPath(t, tree, n+1, inOrder(n+2))
		checkFind(t, tree, impl.BlockSum(b), n+1)
	}
}

// P67: ways begin with the first block, every block on them is behind the one before, and there are as many as the height and one more.
func TestWaysBeginWithTheFirstBlock(t *testing.T) {
	eachTree(func(tree impl.BlockTree) {
		for n, b := range tree.Blocks {
			checkPath(t, tree, n, plainPath(tree, n))
			path := impl.PathTo(tree, n)
			if len(path) != b.Height+1 || path[0] != 0 || path[len(path)-1] != n {
				t.Errorf("the way to %d in %+v is %v", n, tree, path)
			}
			for place, k := range path[1:] {
				if tree.Before[k] != path[place] || tree.Blocks[k].Before != impl.BlockSum(tree.Blocks[path[place]]) {
					t.Errorf("on the way to %d in %+v, %v, %d is not behind %d", n, tree, path, k, path[place])
				}
			}
		}
		for _, n := range noBlockNumbers(len(tree.Blocks)) {
			checkPath(t, tree, n, nil)
		}
	})
}

// P68: every block is on the way to itself, the first one to all, and no two to each other.
func TestWaysAreInOrder(t *testing.T) {
	t.Parallel()
	eachTree(func(tree impl.BlockTree) {
		for b := range tree.Blocks {
			path := plainPath(tree, b)
			for a := range tree.Blocks {
				checkBefore(t, tree, a, b, slices.Contains(path, a))
				if a != b && impl.IsBefore(tree, a, b) && impl.IsBefore(tree, b, a) {
					t.Errorf("in %+v %d and %d are on the way to each other", tree, a, b)
				}
			}
			checkBefore(t, tree, b, b, true)
			checkBefore(t, tree, 0, b, true)
			checkBefore(t, tree, b, 0, b == 0)
			for _, n := range noBlockNumbers(len(tree.Blocks)) {
				checkBefore(t, tree, n, b, false)
				checkBefore(t, tree, b, n, false)
				checkBefore(t, tree, n, n, false)
			}
		}
		checkBefore(t, tree, -1, len(tree.Blocks), false)
	})
}

// spoilTree writes over everything that a tree reaches, its spare capacity included.
func spoilTree(t impl.BlockTree) {
	spoil(t.Base)
	spoilKeys(t.Before)
	blocks := t.Blocks[:cap(t.Blocks)]
	for i := range blocks {
		spoilActions(blocks[i].List)
		blocks[i] = block(-7, -7, -7, nil, -7, -7)
	}
}

// roomyTree is a tree with something behind all of its lists, which are as long as before.
func roomyTree(t impl.BlockTree) impl.BlockTree {
	t = copyTree(t)
	for n, b := range t.Blocks {
		t.Blocks[n] = roomyBlock(b)
	}
	t.Base = append(t.Base, storeOf(40, 40, 41, 41)...)[:len(t.Base)]
	t.Blocks = append(t.Blocks, block(40, 40, 40, nil, 40, 40), block(41, 41, 41, nil, 41, 41))[:len(t.Blocks)]
	t.Before = append(t.Before, 40, 41)[:len(t.Before)]
	return t
}

// wholeTree is a tree with all that is behind its lists.
func wholeTree(t impl.BlockTree) string {
	text := fmt.Sprint(t.Base[:cap(t.Base)], t.Blocks[:cap(t.Blocks)], t.Before[:cap(t.Before)])
	for _, b := range t.Blocks {
		text += fmt.Sprint(b.List[:cap(b.List)])
	}
	return text
}

// checkListsApart fills the actions of every block with a number of its own, the spare capacity included, and checks that none was written over by those of another one.
func checkListsApart(t *testing.T, tree impl.BlockTree) {
	t.Helper()
	for n, b := range tree.Blocks {
		for i := range b.List[:cap(b.List)] {
			b.List[:cap(b.List)][i] = action(n, n, n, n)
		}
	}
	for n, b := range tree.Blocks {
		for _, a := range b.List[:cap(b.List)] {
			if a != action(n, n, n, n) {
				t.Errorf("the actions of block %d share memory with those of block %d", n, a.Kind)
			}
		}
	}
}

// checkTreeApart checks that a tree made of another one shares no memory with it, nor with another tree made of that, and that the argument is left as it is.
func checkTreeApart(t *testing.T, tree impl.BlockTree, maker func(impl.BlockTree) impl.BlockTree) {
	t.Helper()
	given := roomyTree(tree)
	before := wholeTree(given)
	first, second := maker(given), maker(given)
	want := copyTree(first)
	spoilTree(second)
	if wholeTree(given) != before {
		t.Errorf("%s has become %s", before, wholeTree(given))
	}
	spoilTree(given)
	if !sameTree(first, want) {
		t.Errorf("with the argument written over %+v has become %+v", want, first)
	}
	checkListsApart(t, first)
}

// What is written over a tree with a block put is not seen in the one before, also not behind its lists, nor in another one, nor the other way round; and no lists of one tree share memory.
func TestPutTreesShareNoMemory(t *testing.T) {
	eachTree(func(tree impl.BlockTree) {
		for _, b := range blocksToPut(tree)[:10] {
			checkTreeApart(t, tree, func(tree impl.BlockTree) impl.BlockTree {
				put, _ := impl.PutBlock(tree, b)
				return put
			})
		}
		for _, b := range tree.Blocks {
			next := block(impl.BlockSum(b), b.Height+1, b.View+1, busyActions()[7], 3, 4)
			checkTreeApart(t, tree, func(tree impl.BlockTree) impl.BlockTree {
				put, _ := impl.PutBlock(tree, next)
				return put
			})
		}
	})
}

// The block that is put is left as it is, and its actions are not those of the tree.
func TestPutBlocksShareNoMemory(t *testing.T) {
	for _, list := range serialActions() {
		tree := eightBlocks()
		b := roomyBlock(block(866981, 4, 7, list, 3, 4))
		whole := slices.Clone(b.List[:cap(b.List)])
		first, second := mustPutBlock(t, tree, b), mustPutBlock(t, tree, b)
		spoilTree(second)
		if !slices.Equal(b.List[:cap(b.List)], whole) {
			t.Errorf("%+v has become %+v", whole, b.List[:cap(b.List)])
		}
		spoilActions(b.List)
		if !slices.Equal(first.Blocks[8].List, list) {
			t.Errorf("with the block written over its actions are %+v, not %+v", first.Blocks[8].List, list)
		}
	}
}

// A block can be put with the actions of one that is there.
func TestPutBlocksWithTheSameActions(t *testing.T) {
	eachSmallTree(func(tree impl.BlockTree) {
		for _, b := range tree.Blocks {
			next := block(impl.BlockSum(b), b.Height+1, b.View+1, b.List, 3, 4)
			if put, ok := impl.PutBlock(tree, next); ok {
				checkListsApart(t, put)
			}
		}
	})
}

func TestTreesOfStoresShareNoMemory(t *testing.T) {
	for _, s := range sampleStores() {
		store := append(slices.Clone(s), storeOf(40, 40, 41, 41)...)
		whole := slices.Clone(store)
		first, second := impl.TreeOf(store[:len(s)]), impl.TreeOf(store[:len(s)])
		spoilTree(second)
		if !slices.Equal(store, whole) {
			t.Errorf("%v has become %v", whole, store)
		}
		spoil(store)
		if !sameTree(first, plainTreeOf(s)) {
			t.Errorf("with the store written over the tree is %+v", first)
		}
	}
}

// Ways share no memory with the tree nor with each other, and looking at a tree leaves it as it is.
func TestTreesAreLeftAlone(t *testing.T) {
	eachTree(func(tree impl.BlockTree) {
		given := roomyTree(tree)
		before := wholeTree(given)
		var paths [][]int
		for n, b := range tree.Blocks {
			impl.BlockTreeValid(given)
			impl.FindBlock(given, impl.BlockSum(b))
			impl.IsBefore(given, 0, n)
			paths = append(paths, impl.PathTo(given, n))
			spoilKeys(impl.PathTo(given, n))
		}
		if wholeTree(given) != before {
			t.Errorf("%s has become %s", before, wholeTree(given))
		}
		spoilTree(given)
		for n, path := range paths {
			if !slices.Equal(path, plainPath(tree, n)) {
				t.Errorf("with the tree written over the way to %d is %v", n, path)
			}
		}
		checkApart(t, nil, paths)
	})
}
