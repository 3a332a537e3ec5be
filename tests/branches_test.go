package tests

import (
	"math"
	"slices"
	"testing"

	"loop.example/blockexecutor/impl"
)

func checkStoreOf(t *testing.T, tree impl.BlockTree, n int, want []impl.Entry) {
	t.Helper()
	if got := impl.StoreOf(tree, n); !slices.Equal(got, want) {
		t.Errorf("StoreOf(%+v, %d) = %v, want %v", tree, n, got, want)
	}
}

func checkGrow(t *testing.T, tree impl.BlockTree, n int, view int, list []impl.Action, want impl.BlockTree, wantOK bool) {
	t.Helper()
	got, ok := impl.GrowTree(tree, n, view, list)
	if !sameTree(got, want) || ok != wantOK {
		t.Errorf("GrowTree(%+v, %d, %d, %+v) = %+v, %v, want %+v, %v", tree, n, view, list, got, ok, want, wantOK)
	}
}

func checkNotGrown(t *testing.T, tree impl.BlockTree, n int, view int, list []impl.Action) {
	t.Helper()
	checkGrow(t, tree, n, view, list, tree, false)
}

func mustGrow(t *testing.T, tree impl.BlockTree, n int, view int, list []impl.Action) impl.BlockTree {
	t.Helper()
	grown, ok := impl.GrowTree(tree, n, view, list)
	if !ok {
		t.Fatalf("GrowTree(%+v, %d, %d, %+v) is refused", tree, n, view, list)
	}
	return grown
}

func checkBranchLayers(t *testing.T, tree impl.BlockTree, want []impl.Layer) {
	t.Helper()
	if got := impl.BranchLayers(tree); !sameLayers(got, want) {
		t.Errorf("BranchLayers(%+v) = %v, want %v", tree, got, want)
	}
}

func checkRightBlocks(t *testing.T, tree impl.BlockTree, want []bool) {
	t.Helper()
	if got := impl.RightBlocks(tree); !slices.Equal(got, want) {
		t.Errorf("RightBlocks(%+v) = %v, want %v", tree, got, want)
	}
}

// checkBranches checks the stores, the layers and what is right of a tree against the references, also those of layers and of right blocks.
func checkBranches(t *testing.T, tree impl.BlockTree) {
	t.Helper()
	layers := plainBranchLayers(tree)
	checkBranchLayers(t, tree, layers)
	checkRightBlocks(t, tree, plainRightBlocks(tree))
	for n := range tree.Blocks {
		after := plainStoreOf(tree, n)
		checkStoreOf(t, tree, n, after)
		checkLayerStore(t, tree.Base, layers, n, after)
	}
}

// plainStoreBefore is the store over which the block n is run.
func plainStoreBefore(t impl.BlockTree, n int) []impl.Entry {
	if n == 0 {
		return t.Base
	}
	return plainStoreOf(t, t.Before[n])
}

// plainBranchLayers asks for every key whether some action of the block writes it, and for its value in the store after all of them.
func plainBranchLayers(t impl.BlockTree) []impl.Layer {
	var layers []impl.Layer
	for n, b := range t.Blocks {
		after, effects := plainSerial(plainStoreBefore(t, n), b.List)
		values, l := plainValues(after), layer(t.Before[n])
		for key := range impl.MaxKey + 1 {
			if slices.ContainsFunc(effects, func(e impl.Effect) bool { return writesKey(impl.Layer{Writes: e.Writes}, key) }) {
				l.Writes = append(l.Writes, impl.Entry{Key: key, Value: values[key]})
			}
		}
		layers = append(layers, l)
	}
	return layers
}

// plainRightBlocks asks for every block whether all blocks on the way to it are right.
func plainRightBlocks(t impl.BlockTree) []bool {
	var right []bool
	for n := range t.Blocks {
		isWrong := func(k int) bool { return !plainRight(t.Blocks[k], plainStoreBefore(t, k)) }
		right = append(right, !slices.ContainsFunc(plainPath(t, n), isWrong))
	}
	return right
}

// firstBlocks is the tree with only so many blocks.
func firstBlocks(t impl.BlockTree, count int) impl.BlockTree {
	return blockTree(t.Base, t.Blocks[:count], t.Before[:count]...)
}

// mixedBlocks is a tree with MaxBlocks over the empty store, with fixed values from a separate calculation: behind block 1 the same actions with another Root, other Effects, both, and as it is right; right blocks behind the wrong ones; and wrong ones without actions.
func mixedBlocks() impl.BlockTree {
	copied, added := actions(action(impl.ActCopy, 3, 4, 0)), actions(action(impl.ActAdd, 3, 4, 0))
	several := actions(
		action(impl.ActPut, 3, 0, 1), action(impl.ActMove, 4, 3, 11), action(impl.ActPut, 3, 0, 2),
		action(impl.ActSwap, 4, 7, 0), action(impl.ActMove, 5, 5, 1))
	return blockTree(nil, []impl.Block{
		block(0, 0, 0, nil, 629867, 21),
		block(631819, 1, 1, actions(action(impl.ActPut, 3, 0, 5)), 778822, 716401),
		block(39808, 2, 2, copied, 396413, 751491),
		block(39808, 2, 2, copied, 396412, 751492),
		block(39808, 2, 2, copied, 396411, 751493),
		block(39808, 2, 2, copied, 396412, 751491),
		block(196093, 3, 3, added, 14002, 50383),
		block(516791, 4, 4, nil, 14002, 21),
		block(196062, 3, 3, added, 14002, 50383),
		block(196033, 3, 3, actions(action(impl.ActTake, 3, 0, 9)), 247457, 751452),
		block(631819, 1, 2, actions(action(impl.ActPut, 3, 0, 0)), 629867, 716396),
		block(948983, 2, 3, nil, 629874, 21),
		block(631819, 1, 3, nil, 629867, 30),
		block(413474, 4, 1000, several, 699059, 634288),
	}, -1, 0, 1, 1, 1, 1, 2, 6, 5, 4, 0, 10, 0, 8)
}

// wrongSums are changes of Root, of Effects and of both, after which a right block is not right.
func wrongSums() []func(b *impl.Block) {
	var changes []func(b *impl.Block)
	for _, by := range [][]int{{1, 0}, {0, 1}, {1, 1}, {1, impl.SumBase - 1}, {impl.SumBase - 1, 0}, {0, impl.SumBase - 1}, {impl.SumBase - 1, 1}, {1, impl.SumBase - 31}, {500, 0}, {0, 500}} {
		changes = append(changes, func(b *impl.Block) {
			b.Root, b.Effects = (b.Root+by[0])%impl.SumBase, (b.Effects+by[1])%impl.SumBase
		})
	}
	return append(changes, func(b *impl.Block) { b.Root, b.Effects = (b.Root+9)%impl.SumBase, b.Root })
}

// rightTrees are trees of right blocks of all shapes with up to five blocks, and of some shapes with MaxBlocks.
func rightTrees() []impl.BlockTree {
	trees := []impl.BlockTree{topTree(nil), topTree(fullStore(1, 1))}
	for count := 1; count <= 5; count++ {
		for i, shape := range smallShapes(count) {
			trees = append(trees, shapedTree(fewStores()[i%6], shape, i))
		}
	}
	for i, shape := range greatShapes() {
		trees = append(trees, shapedTree(fewStores()[i%6], shape, i))
	}
	return trees
}

// Fixed values from a separate calculation; block 6 is not right, but its action is run all the same.
func TestStoreOfValues(t *testing.T) {
	tree := eightBlocks()
	for n, want := range [][]impl.Entry{
		storeOf(1, 9, 3, 5), storeOf(1, 5, 2, 4, 3, 5), storeOf(1, 9, 3, 5), storeOf(1, 5, 2, 4, 3, 6, 4, 5, 31, impl.MaxValue),
		storeOf(1, 9216, 3, 5), storeOf(1, 5), storeOf(0, 1, 1, 9216, 3, 5), storeOf(0, 1, 1, 9216, 3, 5, 5, 1),
	} {
		checkStoreOf(t, tree, n, want)
	}
	for _, n := range noBlockNumbers(8) {
		checkStoreOf(t, tree, n, nil)
	}
}

func TestGrowTreeValues(t *testing.T) {
	want := eightBlocks()
	tree := impl.TreeOf(want.Base)
	for n := 1; n < 8; n++ {
		b, next := want.Blocks[n], blockTree(want.Base, want.Blocks[:n+1], want.Before[:n+1]...)
		if n == 6 {
			tree = mustPutBlock(t, tree, b)
			continue
		}
		checkGrow(t, tree, want.Before[n], b.View, b.List, next, true)
		checkNotGrown(t, next, want.Before[n], b.View, b.List)
		tree = next
	}
}

// The store after every block of every tree, also behind blocks that are not right.
func TestStoresAfterBlocks(t *testing.T) {
	eachTree(func(tree impl.BlockTree) {
		for n := range tree.Blocks {
			checkStoreOf(t, tree, n, plainStoreOf(tree, n))
		}
		checkStoreOf(t, tree, -1, nil)
		checkStoreOf(t, tree, len(tree.Blocks), nil)
	})
}

// Behind every block, with the least view, a greater one and the greatest one, with no actions and with some.
func TestTreesGrowBehindEveryBlock(t *testing.T) {
	t.Parallel()
	grown := 0
	eachTree(func(tree impl.BlockTree) {
		for n, b := range tree.Blocks {
			for i, view := range []int{b.View + 1, b.View + 9, impl.MaxView} {
				list := busyActions()[(5*n+14*i)%44]
				if len(tree.Blocks) == 14 || view > 1000 || view <= b.View {
					checkNotGrown(t, tree, n, view, list)
					continue
				}
				want := plainGrow(tree, n, view, list)
				if !plainTreeValid(want) {
					want = tree
				}
				checkGrow(t, tree, n, view, list, want, len(want.Blocks) > len(tree.Blocks))
				grown++
			}
		}
	})
	if grown < 800 {
		t.Errorf("only %d blocks have grown", grown)
	}
}

// The new block is right over the store after the one that it is behind, and is the last one.
func TestGrownBlocksAreRight(t *testing.T) {
	eachSmallTree(func(tree impl.BlockTree) {
		for n, b := range tree.Blocks {
			if b.View == impl.MaxView {
				continue
			}
			grown := mustGrow(t, tree, n, impl.MaxView, busyActions()[8])
			last := len(grown.Blocks) - 1
			checkTree(t, grown, true)
			checkRight(t, grown.Blocks[last], impl.StoreOf(tree, n), true)
			checkPath(t, grown, last, append(plainPath(tree, n), last))
		}
	})
}

func TestGrowTreeRefuses(t *testing.T) {
	t.Parallel()
	tree, put := eightBlocks(), actions(action(impl.ActPut, 9, 0, 5))
	for _, n := range noBlockNumbers(8) {
		checkNotGrown(t, tree, n, 1000, put)
	}
	for n, b := range tree.Blocks {
		for _, view := range append(invalidViews(), b.View, b.View-1, 0, 1<<32+b.View+1, math.MinInt+b.View+1) {
			checkNotGrown(t, tree, n, view, put)
		}
		for _, list := range wrongLists() {
			checkNotGrown(t, tree, n, impl.MaxView, list)
		}
	}
	for _, a := range invalidActions() {
		checkNotGrown(t, tree, 2, impl.MaxView, actions(a))
	}
}

// A right block is refused if the tree has another one with its sum.
func TestGrowTreeWithTheSameSum(t *testing.T) {
	tree, put := eightBlocks(), actions(action(impl.ActPut, 9, 0, 5))
	twin := twinOf(plainNext(tree.Blocks[5], storeOf(1, 5), 10, put))
	with := mustPutBlock(t, tree, twin)
	checkNotGrown(t, with, 5, 10, put)
	checkGrow(t, with, 5, 11, put, plainGrow(with, 5, 11, put), true)
	checkGrow(t, tree, 5, 10, put, plainGrow(tree, 5, 10, put), true)
}

// Grown trees share no memory with the tree before, with the actions, nor with another one.
func TestGrownTreesShareNoMemory(t *testing.T) {
	t.Parallel()
	eachTree(func(tree impl.BlockTree) {
		for n := -1; n < len(tree.Blocks); n++ {
			list := busyActions()[(n+9)%11]
			given := append(slices.Clone(list), action(40, 40, 40, 40))
			whole := slices.Clone(given)
			checkTreeApart(t, tree, func(tree impl.BlockTree) impl.BlockTree {
				grown, _ := impl.GrowTree(tree, n, impl.MaxView, given[:len(list)])
				return grown
			})
			if !slices.Equal(given, whole) {
				t.Errorf("%+v has become %+v", whole, given)
			}
			if grown, ok := impl.GrowTree(tree, n, impl.MaxView, given[:len(list)]); ok {
				spoilActions(given)
				if last := grown.Blocks[len(tree.Blocks)]; !slices.Equal(last.List, list) {
					t.Errorf("with the actions written over those of the block are %+v, not %+v", last.List, list)
				}
			}
		}
	})
}

func TestStoresAfterBlocksShareNoMemory(t *testing.T) {
	t.Parallel()
	eachTree(func(tree impl.BlockTree) {
		given := roomyTree(tree)
		before := wholeTree(given)
		var stores [][]impl.Entry
		for n := range tree.Blocks {
			stores = append(stores, impl.StoreOf(given, n))
			spoil(impl.StoreOf(given, n))
		}
		if wholeTree(given) != before {
			t.Errorf("%s has become %s", before, wholeTree(given))
		}
		spoilTree(given)
		for n, s := range stores {
			if !slices.Equal(s, plainStoreOf(tree, n)) {
				t.Errorf("with the tree written over the store after block %d is %v", n, s)
			}
		}
		checkApart(t, stores, nil)
	})
}

func TestBranchLayersValues(t *testing.T) {
	checkBranchLayers(t, eightBlocks(), []impl.Layer{
		layer(-1), layer(0, 1, 5, 2, 4), layer(0), layer(1, 1, 5, 3, 6, 4, 5, 31, impl.MaxValue),
		layer(0, 1, 9216), layer(2, 1, 5, 3, 0), layer(4, 0, 1), layer(6, 5, 1),
	})
	checkBranchLayers(t, mixedBlocks(), []impl.Layer{
		layer(-1), layer(0, 3, 5), layer(1, 4, 5), layer(1, 4, 5), layer(1, 4, 5), layer(1, 4, 5), layer(2, 4, 10), layer(6),
		layer(5, 4, 10), layer(4, 3, 0), layer(0, 3, 0), layer(10), layer(0), layer(8, 3, 2, 4, 0, 7, 10),
	})
}

func TestRightBlocksValues(t *testing.T) {
	checkRightBlocks(t, eightBlocks(), []bool{true, true, true, true, true, true, false, false})
	checkRightBlocks(t, mixedBlocks(), []bool{true, true, false, false, false, true, false, false, true, false, true, false, false, true})
}

func TestStoresOfMixedBlocks(t *testing.T) {
	tree := mixedBlocks()
	checkTree(t, tree, true)
	for n, want := range [][]impl.Entry{
		nil, storeOf(3, 5), storeOf(3, 5, 4, 5), storeOf(3, 5, 4, 5), storeOf(3, 5, 4, 5), storeOf(3, 5, 4, 5), storeOf(3, 5, 4, 10),
		storeOf(3, 5, 4, 10), storeOf(3, 5, 4, 10), storeOf(4, 5), nil, nil, nil, storeOf(3, 2, 7, 10),
	} {
		checkStoreOf(t, tree, n, want)
		checkLayerStore(t, nil, impl.BranchLayers(tree), n, want)
	}
	checkStoreOf(t, tree, -1, nil)
	checkStoreOf(t, tree, 14, nil)
}

// Block by block: a wrong one is put, and a right one grows, behind wrong ones too, until there are MaxBlocks.
func TestMixedBlocksGrow(t *testing.T) {
	want, right := mixedBlocks(), []int{1, 5, 6, 7, 8, 10, 13}
	for n := 1; n < 14; n++ {
		tree, next, b := firstBlocks(want, n), firstBlocks(want, n+1), want.Blocks[n]
		if !slices.Contains(right, n) {
			checkPutBlock(t, tree, b, next, true)
			continue
		}
		checkGrow(t, tree, want.Before[n], b.View, b.List, next, true)
		checkNotGrown(t, next, want.Before[n], b.View, b.List)
	}
	for n, b := range want.Blocks {
		checkNotGrown(t, want, n, b.View+1, nil)
		checkNotGrown(t, want, n, impl.MaxView, actions(action(impl.ActPut, 9, 0, 9)))
	}
}

// P63: the tree is valid, the store after its block is that of the tree, and so is what the layer shows; the block is right.
func TestNewTreesHaveTheFirstBlock(t *testing.T) {
	for _, s := range sampleStores() {
		tree := impl.TreeOf(s)
		checkTreeOf(t, s, blockTree(s, []impl.Block{plainFirst(s)}, -1))
		checkTree(t, tree, true)
		checkStoreOf(t, tree, 0, s)
		checkStoreOf(t, tree, -1, nil)
		checkStoreOf(t, tree, 1, nil)
		checkBranchLayers(t, tree, []impl.Layer{layer(-1)})
		checkLayerStore(t, s, impl.BranchLayers(tree), 0, s)
		checkRightBlocks(t, tree, []bool{true})
	}
	for _, s := range invalidStores() {
		checkTreeOf(t, s, impl.BlockTree{})
		checkNoTree(t, impl.TreeOf(s))
	}
}

// What a block behind the first one, over {1 9} {3 5}, has in its layer.
func TestLayersOfBlocks(t *testing.T) {
	top := impl.MaxValue
	put := func(key int, value int) impl.Action { return action(impl.ActPut, key, 0, value) }
	var upwards, downwards, swaps []impl.Action
	full := layer(0)
	for n := range impl.MaxActions {
		upwards, downwards = append(upwards, put(22+n, n)), append(downwards, put(31-n, 9-n))
		swaps = append(swaps, action(impl.ActSwap, 31-n, n+4, 0))
		full.Writes = append(full.Writes, impl.Entry{Key: 22 + n, Value: n})
	}
	for _, c := range []struct {
		list  []impl.Action
		pairs []int
	}{
		{nil, nil},
		{actions(action(impl.ActMove, 1, 2, 10), action(impl.ActMove, 1, 1, 10)), nil},
		{actions(put(4, top), action(impl.ActAdd, 4, 1, 0), action(impl.ActMove, 1, 4, 1)), []int{4, top}},
		{actions(action(impl.ActTake, 1, 0, 9)), []int{1, 0}},
		{actions(action(impl.ActTake, 1, 0, 100), action(impl.ActTake, 5, 0, 1)), []int{1, 0, 5, 0}},
		{actions(action(impl.ActMove, 1, 3, 9)), []int{1, 0, 3, 14}},
		{actions(action(impl.ActCopy, 2, 1, 0)), []int{1, 0}},
		{actions(put(3, 0), put(7, 0)), []int{3, 0, 7, 0}},
		{actions(put(1, 9)), []int{1, 9}},
		{actions(action(impl.ActSwap, 3, 3, 0), action(impl.ActMove, 1, 1, 9), action(impl.ActCopy, 0, 0, 0)), []int{0, 0, 1, 9, 3, 5}},
		{actions(action(impl.ActTake, 3, 0, 0), action(impl.ActMove, 1, 2, 0), action(impl.ActAdd, 2, 1, 0)), []int{1, 9, 2, 0, 3, 5}},
		{actions(put(1, 5), put(1, 9)), []int{1, 9}},
		{actions(put(1, 5), put(1, 0), put(1, 7)), []int{1, 7}},
		{actions(put(1, 5), put(3, 6), put(1, 7), action(impl.ActTake, 1, 0, 7)), []int{1, 0, 3, 6}},
		{actions(action(impl.ActMove, 1, 2, 4), action(impl.ActMove, 2, 1, 4)), []int{1, 9, 2, 0}},
		{slices.Repeat(actions(action(impl.ActSwap, 1, 3, 0)), impl.MaxActions), []int{1, 9, 3, 5}},
		{slices.Repeat(actions(action(impl.ActSwap, 1, 3, 0)), impl.MaxActions-1), []int{1, 5, 3, 9}},
		{slices.Repeat(actions(action(impl.ActTake, 1, 0, 1)), impl.MaxActions), []int{1, 0}},
		{swaps, []int{4, 0, 5, 0, 6, 0, 7, 0, 8, 0, 9, 0, 10, 0, 11, 0, 12, 0, 13, 0, 22, 0, 23, 0, 24, 0, 25, 0, 26, 0, 27, 0, 28, 0, 29, 0, 30, 0, 31, 0}},
	} {
		tree := mustGrow(t, impl.TreeOf(storeOf(1, 9, 3, 5)), 0, 1, c.list)
		checkBranchLayers(t, tree, []impl.Layer{layer(-1), layer(0, c.pairs...)})
		checkBranches(t, tree)
	}
	for _, list := range [][]impl.Action{upwards, downwards} {
		checkBranchLayers(t, mustGrow(t, impl.TreeOf(nil), 0, 1000, list), []impl.Layer{layer(-1), full})
		checkBranchLayers(t, mustGrow(t, impl.TreeOf(fullStore(top, -1)), 0, 1000, list), []impl.Layer{layer(-1), full})
	}
}

// Over a store with all keys, every key is taken away, block by block, and comes back on another branch.
func TestLayersOverAFullStore(t *testing.T) {
	s := fullStore(5, 3)
	tree, want := impl.TreeOf(s), []impl.Layer{layer(-1)}
	for n := range 4 {
		var list []impl.Action
		l := layer(n)
		for key := 8 * n; key < 8*n+8; key++ {
			list, l.Writes = append(list, action(impl.ActTake, key, 0, impl.MaxValue)), append(l.Writes, impl.Entry{Key: key})
		}
		tree, want = mustGrow(t, tree, n, n+1, list), append(want, l)
	}
	tree = mustGrow(t, tree, 4, 5, actions(action(impl.ActCopy, 0, 31, 0), action(impl.ActPut, 7, 0, 1)))
	tree = mustGrow(t, tree, 0, 1, actions(action(impl.ActPut, 0, 0, 5)))
	tree = mustGrow(t, tree, 6, 2, nil)
	checkBranchLayers(t, tree, append(want, layer(4, 7, 1, 31, 0), layer(0, 0, 5), layer(6)))
	checkBranches(t, tree)
	for n, after := range [][]impl.Entry{s, s[8:], s[16:], s[24:], nil, storeOf(7, 1), s, s} {
		checkStoreOf(t, tree, n, after)
	}
}

// P6: in the layer of every block the store is that after the block, key by key too.
func TestLayersShowAllBranches(t *testing.T) {
	eachTree(func(tree impl.BlockTree) {
		layers := impl.BranchLayers(tree)
		if !impl.LayersValid(layers) || len(layers) != len(tree.Blocks) {
			t.Errorf("the layers of %+v are %v", tree, layers)
		}
		for n, l := range layers {
			after := impl.StoreOf(tree, n)
			checkLayerStore(t, tree.Base, layers, n, after)
			values := plainValues(after)
			for key := range impl.MaxKey + 1 {
				checkRead(t, tree.Base, layers, n, key, values[key])
			}
			if l.Below != tree.Before[n] {
				t.Errorf("in %+v the layer of block %d is over layer %d", tree, n, l.Below)
			}
		}
		checkLayerStore(t, tree.Base, layers, -1, tree.Base)
	})
}

func TestLayersOfSampleTrees(t *testing.T) {
	t.Parallel()
	checkBranches(t, mixedBlocks())
	eachTree(func(tree impl.BlockTree) { checkBranches(t, tree) })
}

// P6: without the blocks that are not on the way to it the store after a block, its layer and whether it is right are the same.
func TestBranchesAreApart(t *testing.T) {
	eachTree(func(tree impl.BlockTree) {
		layers, right := impl.BranchLayers(tree), impl.RightBlocks(tree)
		for n := range tree.Blocks {
			alone := blockTree(tree.Base, nil)
			var want []impl.Layer
			var wantRight []bool
			for place, k := range plainPath(tree, n) {
				alone.Blocks, alone.Before = append(alone.Blocks, tree.Blocks[k]), append(alone.Before, place-1)
				want, wantRight = append(want, impl.Layer{Below: place - 1, Writes: layers[k].Writes}), append(wantRight, right[k])
			}
			checkStoreOf(t, alone, len(alone.Blocks)-1, impl.StoreOf(tree, n))
			checkBranchLayers(t, alone, want)
			checkRightBlocks(t, alone, wantRight)
		}
	})
}

// P6: a block more, behind any block, whatever it writes, changes no store, no layer and nothing that is right of all others.
func TestGrownBlocksDisturbNoOthers(t *testing.T) {
	eachSmallTree(func(tree impl.BlockTree) {
		layers, right := impl.BranchLayers(tree), impl.RightBlocks(tree)
		for n, b := range tree.Blocks {
			if b.View == impl.MaxView {
				continue
			}
			grown := mustGrow(t, tree, n, b.View+1, slices.Repeat(actions(action(impl.ActPut, 1, 0, 77), action(impl.ActSwap, 1, 3, 0)), 5))
			last := len(tree.Blocks)
			if got := impl.BranchLayers(grown); !sameLayers(got[:last], layers) || got[last].Below != n {
				t.Errorf("with a block behind block %d of %+v the layers are %v", n, tree, got)
			}
			checkRightBlocks(t, grown, append(slices.Clone(right), right[n]))
			for k := range tree.Blocks {
				checkStoreOf(t, grown, k, plainStoreOf(tree, k))
			}
		}
	})
}

// P6: what is written over the layer of a block is not seen in those of other branches.
func TestLayersOfBranchesAreWrittenApart(t *testing.T) {
	tree := eightBlocks()
	layers, paths := impl.BranchLayers(tree), eightPaths()
	for n := range tree.Blocks {
		for _, key := range []int{0, 1, 3, 5, 31} {
			written := mustWrite(t, mustFork(t, layers, n), 8, key, 123456)
			checkRead(t, tree.Base, written, 8, key, 123456)
			below := mustWrite(t, layers, n, key, 123456)
			for k := range tree.Blocks {
				checkLayerStore(t, tree.Base, written, k, impl.StoreOf(tree, k))
				if !slices.Contains(paths[k], n) {
					checkLayerStore(t, tree.Base, below, k, impl.StoreOf(tree, k))
				}
			}
		}
	}
}

// P69: the store after a block is that after the block before it, with the actions of the block run; after the first one it is that of the tree.
func TestStoresGrowBlockByBlock(t *testing.T) {
	eachTree(func(tree impl.BlockTree) {
		checkStoreOf(t, tree, 0, tree.Base)
		for n, b := range tree.Blocks[1:] {
			after, _ := mustRun(t, impl.StoreOf(tree, tree.Before[n+1]), b.List)
			checkStoreOf(t, tree, n+1, after)
		}
	})
}

// P70: the first block is right, and another one exactly if the one before it is, and it is right over the store after that.
func TestRightBlocksAreBehindRightOnes(t *testing.T) {
	eachTree(func(tree impl.BlockTree) {
		right := impl.RightBlocks(tree)
		if len(right) != len(tree.Blocks) || !right[0] || !impl.BlockRight(tree.Blocks[0], tree.Base) {
			t.Errorf("of %+v the blocks %v are right", tree, right)
		}
		for n, b := range tree.Blocks[1:] {
			before := tree.Before[n+1]
			if right[n+1] != (right[before] && impl.BlockRight(b, impl.StoreOf(tree, before))) {
				t.Errorf("of %+v the blocks %v are right", tree, right)
			}
		}
	})
}

// A tree of right blocks has no others; with one of them wrong, in any way, that one and all behind it are, and the stores and layers stay.
func TestOneWrongBlock(t *testing.T) {
	t.Parallel()
	for i, tree := range rightTrees() {
		checkRightBlocks(t, tree, slices.Repeat([]bool{true}, len(tree.Blocks)))
		layers := plainBranchLayers(tree)
		for n := 1; n < len(tree.Blocks); n++ {
			for k, change := range wrongSums() {
				if len(tree.Blocks) > 5 && k%4 != (i+n)%4 {
					continue
				}
				wrong := withBlock(tree, n, change)
				var right []bool
				for k := range tree.Blocks {
					right = append(right, !slices.Contains(plainPath(tree, k), n))
				}
				checkRightBlocks(t, wrong, right)
				checkBranchLayers(t, wrong, layers)
				checkStoreOf(t, wrong, len(tree.Blocks)-1, plainStoreOf(tree, len(tree.Blocks)-1))
			}
		}
	}
}

// A block that is right over the store after another block is not right behind its own, unless it leads to the same there.
func TestBlocksRightOverOtherStores(t *testing.T) {
	t.Parallel()
	counts := map[bool]int{}
	list := actions(action(impl.ActCopy, 1, 0, 0), action(impl.ActAdd, 3, 1, 0), action(impl.ActTake, 31, 0, 7))
	for _, tree := range rightTrees() {
		if len(tree.Blocks) == impl.MaxBlocks {
			tree = firstBlocks(tree, impl.MaxBlocks-1)
		}
		for n, b := range tree.Blocks {
			for k := range tree.Blocks {
				next := plainNext(b, plainStoreOf(tree, k), b.View+1, list)
				put := mustPutBlock(t, tree, next)
				want := plainRight(next, plainStoreOf(tree, n))
				counts[want]++
				checkRightBlocks(t, put, append(slices.Repeat([]bool{true}, len(tree.Blocks)), want))
			}
		}
	}
	if counts[true] < 100 || counts[false] < 500 {
		t.Errorf("numbers of blocks by whether they are right: %v", counts)
	}
}

// P71: the new block is behind the block, it is right over the store after that, and it is right in the tree exactly if that is.
func TestGrownTreesHaveRightBlocks(t *testing.T) {
	counts := map[bool]int{}
	trees := append(slices.Clone(smallTrees()), firstBlocks(mixedBlocks(), 13))
	for i, tree := range trees {
		right := impl.RightBlocks(tree)
		for n, b := range tree.Blocks {
			for k, view := range []int{b.View + 1, impl.MaxView} {
				list := busyActions()[(i+7*n+k)%44]
				// It may be above MaxView, and the block may be there already.
				if view <= b.View || !plainTreeValid(plainGrow(tree, n, view, list)) {
					checkNotGrown(t, tree, n, view, list)
					continue
				}
				grown, last := mustGrow(t, tree, n, view, list), len(tree.Blocks)
				checkTree(t, grown, true)
				checkRightBlocks(t, grown, append(slices.Clone(right), right[n]))
				checkRight(t, grown.Blocks[last], impl.StoreOf(tree, n), true)
				checkPath(t, grown, last, append(plainPath(tree, n), last))
				checkStoreOf(t, grown, last, plainStoreOf(grown, last))
				if grown.Before[last] != n || grown.Blocks[last].View != view || !slices.Equal(grown.Blocks[last].List, list) {
					t.Errorf("grown behind block %d of %+v with %+v it is %+v", n, tree, list, grown)
				}
				counts[right[n]]++
			}
		}
	}
	if counts[true] < 100 || counts[false] < 50 {
		t.Errorf("numbers of grown blocks by whether they are right: %v", counts)
	}
}

// P114: a way of blocks with one action each leads to the store of the serial run of all actions, and every block on it to that of those so far.
func TestBlocksOfOneActionAreActions(t *testing.T) {
	for _, s := range fewStores() {
		for i, list := range serialActions() {
			tree := impl.TreeOf(s)
			for n, a := range list {
				tree = mustGrow(t, tree, n, 2*n+1+i%2, actions(a))
			}
			after, effects := mustRun(t, s, list)
			checkStoreOf(t, tree, len(list), after)
			checkRightBlocks(t, tree, slices.Repeat([]bool{true}, len(list)+1))
			layers := impl.BranchLayers(tree)
			for n, e := range effects {
				if l := (impl.Layer{Below: n, Writes: e.Writes}); !sameLayers(layers[n+1:n+2], []impl.Layer{l}) {
					t.Errorf("the action %+v has the effect %+v, and its block the layer %v", list[n], e, layers[n+1])
				}
				part, _ := mustRun(t, s, list[:n])
				checkStoreOf(t, tree, n, part)
			}
		}
	}
}

// P114: also with as many blocks as fit into a tree, which are more than MaxActions, and beside another way that writes the same keys.
func TestLongWaysOfOneAction(t *testing.T) {
	for _, s := range sampleStores() {
		for _, from := range []int{10, 21, 32, 43} {
			list := slices.Concat(busyActions()[from], busyActions()[from-1])[:impl.MaxBlocks-1]
			tree := impl.TreeOf(s)
			for n, a := range list {
				tree = mustGrow(t, tree, n, n+1, actions(a))
			}
			middle, _ := mustRun(t, s, list[:10])
			after, _ := mustRun(t, middle, list[10:])
			checkStoreOf(t, tree, 10, middle)
			checkStoreOf(t, tree, 13, after)
			beside := impl.TreeOf(s)
			for n, a := range list[:6] {
				beside = mustGrow(t, beside, max(0, 2*n-1), n+1, actions(a))
				beside = mustGrow(t, beside, 2*n, n+2, actions(action(impl.ActPut, 1, 0, n), action(impl.ActSwap, 1, 3, 0)))
			}
			six, _ := mustRun(t, s, list[:6])
			checkStoreOf(t, beside, 11, six)
		}
	}
}

// Layers share no memory with the tree, with each other nor with other ones.
func TestBranchLayersShareNoMemory(t *testing.T) {
	eachTree(func(tree impl.BlockTree) {
		given := roomyTree(tree)
		before := wholeTree(given)
		first := impl.BranchLayers(given)
		spoilLayers(impl.BranchLayers(given))
		if wholeTree(given) != before {
			t.Errorf("%s has become %s", before, wholeTree(given))
		}
		spoilTree(given)
		if !sameLayers(first, plainBranchLayers(tree)) {
			t.Errorf("with the tree written over the layers are %v", first)
		}
		checkNoneShared(t, first)
	})
}

func TestRightBlocksShareNoMemory(t *testing.T) {
	eachTree(func(tree impl.BlockTree) {
		given := roomyTree(tree)
		before := wholeTree(given)
		first, second := impl.RightBlocks(given), impl.RightBlocks(given)
		for n := range second[:cap(second)] {
			second[:cap(second)][n] = !second[:cap(second)][n]
		}
		if wholeTree(given) != before || !slices.Equal(first, plainRightBlocks(tree)) {
			t.Errorf("%s has become %s, and of its blocks %v are right", before, wholeTree(given), first)
		}
	})
}
