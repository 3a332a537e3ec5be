package tests

import (
	"math"
	"slices"
	"testing"

	"loop.example/blockexecutor/impl"
)

func checkStoreOf(t *testing.T, tree impl.BlockTree, n int, want []impl.Entry) {
	t.Helper()
	if got := impl.StoreOf(tree, n); !slices.Equal(got, want) {
		t.Errorf("StoreOf(%+v, %d) = %v, want %v", tree, n, got, want)
	}
}

func checkGrow(t *testing.T, tree impl.BlockTree, n int, view int, list []impl.Action, want impl.BlockTree, wantOK bool) {
	t.Helper()
	got, ok := impl.GrowTree(tree, n, view, list)
	if !sameTree(got, want) || ok != wantOK {
		t.Errorf("GrowTree(%+v, %d, %d, %+v) = %+v, %v, want %+v, %v", tree, n, view, list, got, ok, want, wantOK)
	}
}

func checkNotGrown(t *testing.T, tree impl.BlockTree, n int, view int, list []impl.Action) {
	t.Helper()
	checkGrow(t, tree, n, view, list, tree, false)
}

func mustGrow(t *testing.T, tree impl.BlockTree, n int, view int, list []impl.Action) impl.BlockTree {
	t.Helper()
	grown, ok := impl.GrowTree(tree, n, view, list)
	if !ok {
		t.Fatalf("GrowTree(%+v, %d, %d, %+v) is refused", tree, n, view, list)
	}
	return grown
}

// Fixed values from a separate calculation; block 6 is not right, but its action is run all the same.
func TestStoreOfValues(t *testing.T) {
	tree := eightBlocks()
	for n, want := range [][]impl.Entry{
		storeOf(1, 9, 3, 5), storeOf(1, 5, 2, 4, 3, 5), storeOf(1, 9, 3, 5), storeOf(1, 5, 2, 4, 3, 6, 4, 5, 31, impl.MaxValue),
		storeOf(1, 9216, 3, 5), storeOf(1, 5), storeOf(0, 1, 1, 9216, 3, 5), storeOf(0, 1, 1, 9216, 3, 5, 5, 1),
	} {
		checkStoreOf(t, tree, n, want)
	}
	for _, n := range noBlockNumbers(8) {
		checkStoreOf(t, tree, n, nil)
	}
}

func TestGrowTreeValues(t *testing.T) {
	want := eightBlocks()
	tree := impl.TreeOf(want.Base)
	for n := 1; n < 8; n++ {
		b, next := want.Blocks[n], blockTree(want.Base, want.Blocks[:n+1], want.Before[:n+1]...)
		if n == 6 {
			tree = mustPutBlock(t, tree, b)
			continue
		}
		checkGrow(t, tree, want.Before[n], b.View, b.List, next, true)
		checkNotGrown(t, next, want.Before[n], b.View, b.List)
		tree = next
	}
}

// The store after every block of every tree, also behind blocks that are not right.
func TestStoresAfterBlocks(t *testing.T) {
	eachTree(func(tree impl.BlockTree) {
		for n := range tree.Blocks {
			checkStoreOf(t, tree, n, plainStoreOf(tree, n))
		}
		checkStoreOf(t, tree, -1, nil)
		checkStoreOf(t, tree, len(tree.Blocks), nil)
	})
}

// Behind every block, with the least view, a greater one and the greatest one, with no actions and with some.
func TestTreesGrowBehindEveryBlock(t *testing.T) {
	grown := 0
	eachTree(func(tree impl.BlockTree) {
		for n, b := range tree.Blocks {
			for i, view := range []int{b.View + 1, b.View + 9, impl.MaxView} {
				list := busyActions()[(5*n+14*i)%44]
				if len(tree.Blocks) == 14 || view > 1000 || view <= b.View {
					checkNotGrown(t, tree, n, view, list)
					continue
				}
				want := plainGrow(tree, n, view, list)
				if !plainTreeValid(want) {
					want = tree
				}
				checkGrow(t, tree, n, view, list, want, len(want.Blocks) > len(tree.Blocks))
				grown++
			}
		}
	})
	if grown < 800 {
		t.Errorf("only %d blocks have grown", grown)
	}
}

// The new block is right over the store after the one that it is behind, and is the last one.
func TestGrownBlocksAreRight(t *testing.T) {
	eachSmallTree(func(tree impl.BlockTree) {
		for n, b := range tree.Blocks {
			if b.View == impl.MaxView {
				continue
			}
			grown := mustGrow(t, tree, n, impl.MaxView, busyActions()[8])
			last := len(grown.Blocks) - 1
			checkTree(t, grown, true)
			checkRight(t, grown.Blocks[last], impl.StoreOf(tree, n), true)
			checkPath(t, grown, last, append(plainPath(tree, n), last))
		}
	})
}

func TestGrowTreeRefuses(t *testing.T) {
	tree, put := eightBlocks(), actions(action(impl.ActPut, 9, 0, 5))
	for _, n := range noBlockNumbers(8) {
		checkNotGrown(t, tree, n, 1000, put)
	}
	for n, b := range tree.Blocks {
		for _, view := range append(invalidViews(), b.View, b.View-1, 0, 1<<32+b.View+1, math.MinInt+b.View+1) {
			checkNotGrown(t, tree, n, view, put)
		}
		for _, list := range wrongLists() {
			checkNotGrown(t, tree, n, impl.MaxView, list)
		}
	}
	for _, a := range invalidActions() {
		checkNotGrown(t, tree, 2, impl.MaxView, actions(a))
	}
}

// A right block is refused if the tree has another one with its sum.
func TestGrowTreeWithTheSameSum(t *testing.T) {
	tree, put := eightBlocks(), actions(action(impl.ActPut, 9, 0, 5))
	twin := twinOf(plainNext(tree.Blocks[5], storeOf(1, 5), 10, put))
	with := mustPutBlock(t, tree, twin)
	checkNotGrown(t, with, 5, 10, put)
	checkGrow(t, with, 5, 11, put, plainGrow(with, 5, 11, put), true)
	checkGrow(t, tree, 5, 10, put, plainGrow(tree, 5, 10, put), true)
}

// Grown trees share no memory with the tree before, with the actions, nor with another one.
func TestGrownTreesShareNoMemory(t *testing.T) {
	eachTree(func(tree impl.BlockTree) {
		for n := -1; n < len(tree.Blocks); n++ {
			list := busyActions()[(n+9)%11]
			given := append(slices.Clone(list), action(40, 40, 40, 40))
			whole := slices.Clone(given)
			checkTreeApart(t, tree, func(tree impl.BlockTree) impl.BlockTree {
				grown, _ := impl.GrowTree(tree, n, impl.MaxView, given[:len(list)])
				return grown
			})
			if !slices.Equal(given, whole) {
				t.Errorf("%+v has become %+v", whole, given)
			}
			if grown, ok := impl.GrowTree(tree, n, impl.MaxView, given[:len(list)]); ok {
				spoilActions(given)
				if last := grown.Blocks[len(tree.Blocks)]; !slices.Equal(last.List, list) {
					t.Errorf("with the actions written over those of the block are %+v, not %+v", last.List, list)
				}
			}
		}
	})
}

func TestStoresAfterBlocksShareNoMemory(t *testing.T) {
	eachTree(func(tree impl.BlockTree) {
		given := roomyTree(tree)
		before := wholeTree(given)
		var stores [][]impl.Entry
		for n := range tree.Blocks {
			stores = append(stores, impl.StoreOf(given, n))
			spoil(impl.StoreOf(given, n))
		}
		if wholeTree(given) != before {
			t.Errorf("%s has become %s", before, wholeTree(given))
		}
		spoilTree(given)
		for n, s := range stores {
			if !slices.Equal(s, plainStoreOf(tree, n)) {
				t.Errorf("with the tree written over the store after block %d is %v", n, s)
			}
		}
		checkApart(t, stores, nil)
	})
}
