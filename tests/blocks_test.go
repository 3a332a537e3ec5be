package tests

import (
	"math"
	"slices"
	"testing"

	"loop.example/blockexecutor/impl"
)

func block(before int, height int, view int, list []impl.Action, root int, effects int) impl.Block {
	return impl.Block{Before: before, Height: height, View: view, List: list, Root: root, Effects: effects}
}

func sameBlock(a impl.Block, b impl.Block) bool {
	sameNumbers := a.Before == b.Before && a.Height == b.Height && a.View == b.View && a.Root == b.Root && a.Effects == b.Effects
	return sameNumbers && slices.Equal(a.List, b.List)
}

// changed is the block after a change, which shares no memory with it.
func changed(b impl.Block, change func(b *impl.Block)) impl.Block {
	b.List = slices.Clone(b.List)
	change(&b)
	return b
}

func plainBlockSum(b impl.Block) int {
	list := []int{b.Before, b.Height, b.View, len(b.List)}
	for _, a := range b.List {
		list = append(list, a.Kind, a.From, a.To, a.Amount)
	}
	return closedSum(5, append(list, b.Root, b.Effects))
}

// plainOutcome is the root of the store, and the sum of the effects, after actions, by the references for those.
func plainOutcome(s []impl.Entry, list []impl.Action) (int, int) {
	after, effects := plainSerial(s, list)
	var sums []int
	for _, e := range effects {
		sums = append(sums, closedSum(3, plainNumbers(e)))
	}
	return plainRoot(plainValues(after), 0, 32), closedSum(4, sums)
}

func plainFirst(s []impl.Entry) impl.Block {
	return block(0, 0, 0, nil, plainRoot(plainValues(s), 0, 32), 21)
}

func plainNext(b impl.Block, s []impl.Entry, view int, list []impl.Action) impl.Block {
	root, effects := plainOutcome(s, list)
	return block(plainBlockSum(b), b.Height+1, view, list, root, effects)
}

func plainBlockValid(b impl.Block) bool {
	for _, sum := range []int{b.Before, b.Root, b.Effects} {
		if sum < 0 || sum > 1000002 {
			return false
		}
	}
	return b.Height >= 0 && b.Height <= 100 && b.View >= 0 && b.View <= 1000 && impl.ActionsValid(b.List)
}

// plainRight tells whether a valid block is one over a valid store.
func plainRight(b impl.Block, s []impl.Entry) bool {
	root, effects := plainOutcome(s, b.List)
	return b.Root == root && b.Effects == effects
}

func invalidHeights() []int {
	return []int{-1, -2, -100, 101, 102, 1000, 1 << 32, 1<<32 + 5, math.MinInt, math.MaxInt - 1, math.MaxInt}
}

func invalidViews() []int {
	return []int{-1, -2, -1000, 1001, 1002, 1 << 32, 1<<32 + 500, math.MinInt, math.MaxInt - 1, math.MaxInt}
}

// edgeBlocks are valid blocks, most of which are right over no store: with all edges of their numbers, and no action, one action and MaxActions of them.
func edgeBlocks() []impl.Block {
	lists := [][]impl.Action{nil, actions(action(impl.ActMove, 31, 0, impl.MaxValue)), chainedActions(impl.MaxActions)}
	sums := []int{0, 77, impl.SumBase - 1}
	var blocks []impl.Block
	for _, list := range lists {
		for _, before := range sums {
			for _, root := range sums {
				for _, effects := range sums {
					for _, height := range []int{0, 1, 99, 100} {
						for _, view := range []int{0, 1, 999, 1000} {
							blocks = append(blocks, block(before, height, view, list, root, effects))
						}
					}
				}
			}
		}
	}
	return blocks
}

// plainChain are blocks behind each other, from the first one on, and the stores over which they are; their views ascend with gaps.
func plainChain(s []impl.Entry, lists ...[]impl.Action) ([]impl.Block, [][]impl.Entry) {
	blocks, stores := []impl.Block{plainFirst(s)}, [][]impl.Entry{s}
	for n, list := range lists {
		b := blocks[n]
		blocks, stores = append(blocks, plainNext(b, s, b.View+1+n%3, list)), append(stores, s)
		s, _ = plainSerial(s, list)
	}
	return blocks, stores
}

// blocksBefore are blocks with the most different numbers behind which another one can be: the first one of a store, others that are right somewhere, and such that are right nowhere.
func blocksBefore(s []impl.Entry) []impl.Block {
	chain, _ := plainChain(storeOf(1, 9, 3, 5), busyActions()[1:9]...)
	return []impl.Block{
		plainFirst(s), chain[2], chain[8], {},
		block(impl.SumBase-1, impl.MaxHeight-1, impl.MaxView-1, chainedActions(impl.MaxActions), impl.SumBase-1, impl.SumBase-1),
	}
}

// eachNext visits all sample stores with the sample actions, behind those blocks in turn, with the least view, the greatest one, and one between.
func eachNext(visit func(b impl.Block, s []impl.Entry, view int, list []impl.Action)) {
	count := 0
	for _, s := range sampleStores() {
		before := blocksBefore(s)
		for _, list := range serialActions() {
			b := before[count%len(before)]
			views := []int{b.View + 1, impl.MaxView, (b.View + 1 + impl.MaxView) / 2}
			visit(b, s, views[count%3], list)
			count++
		}
	}
}

// eachRight visits the blocks that are made that way, and first blocks, with the stores over which they are right.
func eachRight(visit func(b impl.Block, s []impl.Entry)) {
	for _, s := range sampleStores() {
		visit(plainFirst(s), s)
	}
	eachNext(func(b impl.Block, s []impl.Entry, view int, list []impl.Action) {
		visit(plainNext(b, s, view, list), s)
	})
}

// wrongBlocks are blocks with one thing wrong in a valid one.
func wrongBlocks(b impl.Block) []impl.Block {
	var blocks []impl.Block
	with := func(change func(b *impl.Block)) { blocks = append(blocks, changed(b, change)) }
	for _, sum := range invalidRoots() {
		with(func(b *impl.Block) { b.Before = sum })
		with(func(b *impl.Block) { b.Root = sum })
		with(func(b *impl.Block) { b.Effects = sum })
	}
	for _, height := range invalidHeights() {
		with(func(b *impl.Block) { b.Height = height })
	}
	for _, view := range invalidViews() {
		with(func(b *impl.Block) { b.View = view })
	}
	for _, list := range wrongLists() {
		with(func(b *impl.Block) { b.List = list })
	}
	for n := range b.List {
		with(func(b *impl.Block) { b.List[n] = impl.Action{} })
		with(func(b *impl.Block) { b.List[n].From = -1 })
		with(func(b *impl.Block) { b.List[n].Amount = impl.MaxValue + 1 })
	}
	with(func(b *impl.Block) { b.List = append(b.List, impl.Action{}) })
	return blocks
}

func checkBlock(t *testing.T, b impl.Block, want bool) {
	t.Helper()
	if got := impl.BlockValid(b); got != want {
		t.Errorf("BlockValid(%+v) = %v", b, got)
	}
}

func checkBlockSum(t *testing.T, b impl.Block, want int) {
	t.Helper()
	if got := impl.BlockSum(b); got != want {
		t.Errorf("BlockSum(%+v) = %d, want %d", b, got, want)
	}
}

func checkFirst(t *testing.T, s []impl.Entry, want impl.Block) {
	t.Helper()
	if got := impl.FirstBlock(s); !sameBlock(got, want) {
		t.Errorf("FirstBlock(%v) = %+v, want %+v", s, got, want)
	}
}

func checkNext(t *testing.T, b impl.Block, s []impl.Entry, view int, list []impl.Action, want impl.Block, wantOK bool) {
	t.Helper()
	got, ok := impl.NextBlock(b, s, view, list)
	if !sameBlock(got, want) || ok != wantOK {
		t.Errorf("NextBlock(%+v, %v, %d, %+v) = %+v, %v, want %+v, %v", b, s, view, list, got, ok, want, wantOK)
	}
}

func checkNoNext(t *testing.T, b impl.Block, s []impl.Entry, view int, list []impl.Action) {
	t.Helper()
	checkNext(t, b, s, view, list, impl.Block{}, false)
}

func checkRight(t *testing.T, b impl.Block, s []impl.Entry, want bool) {
	t.Helper()
	if got := impl.BlockRight(b, s); got != want {
		t.Errorf("BlockRight(%+v, %v) = %v", b, s, got)
	}
}

func mustNext(t *testing.T, b impl.Block, s []impl.Entry, view int, list []impl.Action) impl.Block {
	t.Helper()
	next, ok := impl.NextBlock(b, s, view, list)
	if !ok {
		t.Fatalf("NextBlock(%+v, %v, %d, %+v) is refused", b, s, view, list)
	}
	return next
}

func TestBlockConstants(t *testing.T) {
	if impl.MaxHeight != 100 || impl.MaxView != 1000 {
		t.Errorf("MaxHeight %d, MaxView %d", impl.MaxHeight, impl.MaxView)
	}
}

func TestFirstBlockValues(t *testing.T) {
	top := impl.MaxValue
	for _, c := range []struct {
		s    []impl.Entry
		root int
		sum  int
	}{
		{nil, 629867, 631819}, {[]impl.Entry{}, 629867, 631819}, {storeOf(1, 9, 3, 5), 90484, 910997}, {storeOf(0, top), 742672, 128762},
		{storeOf(31, 1), 629868, 631850}, {fullStore(top, 0), 966874, 79003}, {fullStore(1, 1), 689957, 494603},
	} {
		want := block(0, 0, 0, nil, c.root, 21)
		checkFirst(t, c.s, want)
		checkBlock(t, want, true)
		checkBlockSum(t, want, c.sum)
		checkRight(t, want, c.s, true)
	}
}

func TestBlockSumValues(t *testing.T) {
	last := impl.SumBase - 1
	checkBlockSum(t, impl.Block{}, 105978)
	checkBlockSum(t, block(0, 0, 0, []impl.Action{}, 0, 0), 105978)
	checkBlockSum(t, block(last, 0, 0, nil, 0, 0), 476914)
	checkBlockSum(t, block(0, 100, 0, nil, 0, 0), 457802)
	checkBlockSum(t, block(0, 0, 1000, nil, 0, 0), 896891)
	checkBlockSum(t, block(0, 0, 0, nil, last, 0), 105947)
	checkBlockSum(t, block(0, 0, 0, nil, 0, last), 105977)
	full := slices.Repeat(actions(action(impl.ActMove, 31, 31, impl.MaxValue)), impl.MaxActions)
	checkBlockSum(t, block(last, 100, 1000, full, last, last), 487090)
}

// A block of one action of each kind, done and not done, behind the first one.
func TestBlocksOfOneAction(t *testing.T) {
	s := storeOf(1, 9, 3, 5)
	for _, c := range []struct {
		a       impl.Action
		root    int
		effects int
		sum     int
	}{
		{action(impl.ActPut, 3, 0, 7), 150066, 716403, 815701},
		{action(impl.ActMove, 1, 3, 9), 46938, 999453, 775115},
		{action(impl.ActMove, 1, 3, 10), 90484, 990176, 116719},
		{action(impl.ActCopy, 1, 0, 0), 752072, 695633, 861428},
		{action(impl.ActSwap, 1, 3, 0), 515576, 4250, 557130},
		{action(impl.ActAdd, 1, 3, 0), 358603, 456509, 772305},
		{action(impl.ActTake, 1, 0, 9), 778822, 695655, 586541},
	} {
		want := block(910997, 1, 2, actions(c.a), c.root, c.effects)
		checkNext(t, impl.FirstBlock(s), s, 2, actions(c.a), want, true)
		checkBlockSum(t, want, c.sum)
		checkRight(t, want, s, true)
	}
}

// Blocks behind each other: with one action, and with one of every kind, of which the first is not done; and such without actions, and with MaxActions.
func TestNextBlockValues(t *testing.T) {
	s := storeOf(1, 9, 3, 5)
	first := impl.FirstBlock(s)
	move := actions(action(impl.ActMove, 1, 2, 4))
	one := block(910997, 1, 1, move, 90484, 757560)
	checkNext(t, first, s, 1, move, one, true)
	checkBlockSum(t, one, 316974)
	after := storeOf(1, 5, 2, 4, 3, 5)
	all := actions(
		action(impl.ActMove, 1, 2, 6), action(impl.ActCopy, 3, 4, 0), action(impl.ActSwap, 1, 4, 0),
		action(impl.ActAdd, 3, 3, 0), action(impl.ActTake, 3, 0, 4), action(impl.ActPut, 31, 0, impl.MaxValue))
	two := block(316974, 2, 1000, all, 737865, 151296)
	checkNext(t, one, after, 1000, all, two, true)
	checkBlockSum(t, two, 573652)
	checkRight(t, two, after, true)
	checkNoNext(t, two, storeOf(1, 5, 2, 4, 3, 6, 4, 5, 31, impl.MaxValue), 1001, nil)
	none := block(910997, 1, 7, nil, 90484, 21)
	checkNext(t, first, s, 7, nil, none, true)
	checkNext(t, first, s, 7, []impl.Action{}, none, true)
	checkBlockSum(t, none, 473620)
	full := slices.Repeat(actions(action(impl.ActAdd, 1, 1, 0)), impl.MaxActions)
	ten := block(910997, 1, 3, full, 922825, 104244)
	checkNext(t, first, s, 3, full, ten, true)
	checkBlockSum(t, ten, 456315)
	checkNoNext(t, first, s, 3, append(slices.Clone(full), full[0]))
}

// P58: with a view above MaxView, and with everything else that is wrong, in blocks with all edges and in right ones.
func TestBlocksHaveLimits(t *testing.T) {
	for _, b := range edgeBlocks() {
		checkBlock(t, b, true)
		for _, view := range []int{1001, 1002, 1 << 32, math.MaxInt} {
			checkBlock(t, changed(b, func(b *impl.Block) { b.View = view }), false)
		}
	}
	for _, s := range fewStores() {
		for _, b := range blocksBefore(s) {
			for _, wrong := range wrongBlocks(b) {
				checkBlock(t, wrong, false)
				checkBlockSum(t, wrong, -1)
			}
		}
	}
	eachRight(func(b impl.Block, _ []impl.Entry) { checkBlock(t, b, true) })
}

// P58, with a separate rule for every field, for all combinations of numbers around their limits.
func TestFieldsOfBlocks(t *testing.T) {
	sums := []int{-1, 0, 1, 1000002, 1000003}
	lists := [][]impl.Action{nil, chainedActions(10), chainedActions(11), actions(impl.Action{})}
	for _, before := range sums {
		for _, root := range sums {
			for _, effects := range sums {
				for _, height := range []int{-1, 0, 100, 101} {
					for _, view := range []int{-1, 0, 1000, 1001} {
						for _, list := range lists {
							b := block(before, height, view, list, root, effects)
							want := plainBlockValid(b)
							checkBlock(t, b, want)
							if !want {
								checkBlockSum(t, b, -1)
							}
						}
					}
				}
			}
		}
	}
}

func TestBlocksHaveValidActions(t *testing.T) {
	for _, list := range append(serialActions(), wrongLists()...) {
		checkBlock(t, block(1, 2, 3, list, 4, 5), impl.ActionsValid(list))
	}
	for _, a := range invalidActions() {
		checkBlock(t, block(1, 2, 3, actions(a), 4, 5), false)
		checkBlockSum(t, block(1, 2, 3, actions(a), 4, 5), -1)
	}
	eachValidAction(func(_ actionRule, a impl.Action) {
		checkBlock(t, block(1, 2, 3, actions(a), 4, 5), true)
	})
}

func TestBlockSumsAreExact(t *testing.T) {
	for _, b := range edgeBlocks() {
		checkBlockSum(t, b, plainBlockSum(b))
	}
	eachRight(func(b impl.Block, _ []impl.Entry) { checkBlockSum(t, b, plainBlockSum(b)) })
}

// checkOther checks that a block, changed to another valid one, has another sum.
func checkOther(t *testing.T, b impl.Block, change func(b *impl.Block)) {
	t.Helper()
	other := changed(b, change)
	if sum, otherSum := impl.BlockSum(b), impl.BlockSum(other); sum == otherSum || otherSum < 0 || sum < 0 {
		t.Errorf("the sum of %+v is %d, and that of %+v is %d", b, sum, other, otherSum)
	}
}

// P59: with any other view and any other height.
func TestBlocksHaveSumsOfTheirPlaces(t *testing.T) {
	for i, b := range edgeBlocks() {
		if i%11 != 0 {
			continue
		}
		for view := range impl.MaxView + 1 {
			if view != b.View {
				checkOther(t, b, func(b *impl.Block) { b.View = view })
			}
		}
		for height := range impl.MaxHeight + 1 {
			if height != b.Height {
				checkOther(t, b, func(b *impl.Block) { b.Height = height })
			}
		}
	}
}

// P59: with another root, another block before, and other effects, by 1 and by more.
func TestBlocksHaveSumsOfTheirSums(t *testing.T) {
	for _, b := range edgeBlocks() {
		for _, by := range []int{1, 2, 31, 961, 500001, impl.SumBase - 1} {
			other := func(sum int) int { return (sum + by) % impl.SumBase }
			checkOther(t, b, func(b *impl.Block) { b.Root = other(b.Root) })
			checkOther(t, b, func(b *impl.Block) { b.Before = other(b.Before) })
			checkOther(t, b, func(b *impl.Block) { b.Effects = other(b.Effects) })
		}
	}
}

// With another action, in which one field is different, at every place, with less actions, and with a further one.
func TestBlocksHaveSumsOfTheirActions(t *testing.T) {
	eachRight(func(b impl.Block, _ []impl.Entry) {
		for n := range b.List {
			checkOther(t, b, func(b *impl.Block) { b.List = b.List[:n] })
			checkOther(t, b, func(b *impl.Block) { b.List[n].From ^= 1 })
			switch b.List[n].Kind {
			case impl.ActCopy, impl.ActSwap:
				checkOther(t, b, func(b *impl.Block) { b.List[n].Kind ^= impl.ActCopy ^ impl.ActSwap })
				checkOther(t, b, func(b *impl.Block) { b.List[n].To ^= 16 })
			case impl.ActPut, impl.ActTake:
				checkOther(t, b, func(b *impl.Block) { b.List[n].Kind ^= impl.ActPut ^ impl.ActTake })
				checkOther(t, b, func(b *impl.Block) { b.List[n].Amount = neighbours(b.List[n].Amount)[0] })
			case impl.ActMove:
				checkOther(t, b, func(b *impl.Block) { b.List[n].To ^= 1 })
				checkOther(t, b, func(b *impl.Block) { b.List[n].Amount = neighbours(b.List[n].Amount)[0] })
			}
		}
		if len(b.List) < impl.MaxActions {
			checkOther(t, b, func(b *impl.Block) { b.List = append(b.List, action(impl.ActSwap, 0, 0, 0)) })
		}
	})
}

// P60: over every store, with no actions.
func TestFirstBlocksAreRight(t *testing.T) {
	for _, s := range sampleStores() {
		checkFirst(t, s, plainFirst(s))
		b := impl.FirstBlock(s)
		checkBlock(t, b, true)
		checkRight(t, b, s, true)
		if len(b.List) != 0 || b.Before != 0 || b.Height != 0 || b.View != 0 || b.Root != impl.RootOf(s) || b.Effects != impl.EffectsSum(nil) {
			t.Errorf("the first block over %v is %+v", s, b)
		}
	}
}

// P61: the block is valid, right over its store, behind the block, and one higher.
func TestNextBlocksAreRight(t *testing.T) {
	eachNext(func(b impl.Block, s []impl.Entry, view int, list []impl.Action) {
		checkNext(t, b, s, view, list, plainNext(b, s, view, list), true)
		next := mustNext(t, b, s, view, list)
		checkBlock(t, next, true)
		checkRight(t, next, s, true)
		if next.Before != impl.BlockSum(b) || next.Height != b.Height+1 || next.View != view || !slices.Equal(next.List, list) {
			t.Errorf("behind %+v with the view %d and %+v is %+v", b, view, list, next)
		}
		after, effects := mustRun(t, s, list)
		if next.Root != impl.RootOf(after) || next.Effects != impl.EffectsSum(effects) {
			t.Errorf("over %v %+v leads to %v, %+v", s, next, after, effects)
		}
	})
}

// P61, from block to block: each is right over the store after the one before, from the first one to one behind many.
func TestBlocksAreBehindEachOther(t *testing.T) {
	for _, s := range sampleStores() {
		lists := append(busyActions()[20:34], nil, chainedActions(impl.MaxActions), nil)
		want, stores := plainChain(s, lists...)
		b := impl.FirstBlock(s)
		for n, list := range lists {
			b = mustNext(t, b, stores[n+1], want[n+1].View, list)
			if !sameBlock(b, want[n+1]) || b.Height != n+1 {
				t.Errorf("block %d is %+v, want %+v", n+1, b, want[n+1])
			}
			checkRight(t, b, stores[n+1], true)
		}
	}
}

// P62: with the root changed by 1, in both directions; the sum before the first one and the one behind the last one are no sums at all.
func TestRightBlocksHaveTheRootOfTheirStore(t *testing.T) {
	eachRight(func(b impl.Block, s []impl.Entry) {
		checkRight(t, b, s, true)
		for _, root := range []int{b.Root - 1, b.Root + 1, 0, impl.SumBase - 1, b.Root - impl.SumBase, b.Root + impl.SumBase} {
			checkRight(t, changed(b, func(b *impl.Block) { b.Root = root }), s, root == b.Root)
		}
	})
}

func TestRightBlocksHaveTheirEffects(t *testing.T) {
	eachRight(func(b impl.Block, s []impl.Entry) {
		for _, effects := range []int{b.Effects - 1, b.Effects + 1, 0, impl.SumBase - 1, b.Effects - impl.SumBase, b.Effects + impl.SumBase} {
			checkRight(t, changed(b, func(b *impl.Block) { b.Effects = effects }), s, effects == b.Effects)
		}
		if len(b.List) > 0 {
			checkRight(t, changed(b, func(b *impl.Block) { b.Effects = 21 }), s, false)
		}
	})
}

// Where a block is does not matter for being right, as long as it is valid.
func TestRightBlocksCanBeAnywhere(t *testing.T) {
	eachRight(func(b impl.Block, s []impl.Entry) {
		for _, before := range []int{0, impl.SumBase - 1, -1, impl.SumBase} {
			checkRight(t, changed(b, func(b *impl.Block) { b.Before = before }), s, before >= 0 && before < 1000003)
		}
		for _, height := range []int{0, impl.MaxHeight, -1, impl.MaxHeight + 1} {
			checkRight(t, changed(b, func(b *impl.Block) { b.Height = height }), s, height >= 0 && height <= 100)
		}
		for _, view := range []int{0, impl.MaxView, -1, impl.MaxView + 1} {
			checkRight(t, changed(b, func(b *impl.Block) { b.View = view }), s, view >= 0 && view <= 1000)
		}
	})
}

// Blocks over other stores, against the references: most are not right.
func TestBlocksOverOtherStores(t *testing.T) {
	t.Parallel()
	right, wrong := 0, 0
	eachRight(func(b impl.Block, s []impl.Entry) {
		for _, other := range fewStores() {
			want := plainRight(b, other)
			checkRight(t, b, other, want)
			if want {
				right++
			} else {
				wrong++
			}
		}
	})
	if right < 300 || wrong < 5000 {
		t.Errorf("%d are right, %d are not", right, wrong)
	}
}

// Blocks with other actions over the same store, against the references.
func TestBlocksWithOtherActions(t *testing.T) {
	s := storeOf(1, 9, 3, 5)
	for _, list := range serialActions() {
		b := plainNext(plainFirst(s), s, 1, list)
		for _, other := range serialActions() {
			b.List = other
			checkRight(t, b, s, plainRight(b, s))
		}
	}
}

// Either of both can be wrong alone: what was read is in the effects only, and what no action uses is in the root only.
func TestRootsAndEffectsAreBothCompared(t *testing.T) {
	take := block(0, 0, 0, actions(action(impl.ActTake, 3, 0, 9)), 0, 0)
	take.Root, take.Effects = plainOutcome(storeOf(3, 5), take.List)
	checkRight(t, take, storeOf(3, 5), true)
	checkRight(t, take, storeOf(3, 6), false)
	if impl.RootOf(nil) != take.Root {
		t.Errorf("the root of %+v is not that of no values", take)
	}
	put := block(0, 0, 0, actions(action(impl.ActPut, 3, 0, 9)), 0, 0)
	put.Root, put.Effects = plainOutcome(nil, put.List)
	checkRight(t, put, nil, true)
	checkRight(t, put, storeOf(3, 5), true)
	checkRight(t, put, storeOf(4, 5), false)
}

// Two stores can have the same root, and then a block can be right over both: the sums alone decide.
func TestStoresWithTheSameRoot(t *testing.T) {
	one, other := storeOf(1, 9, 3, 5), storeOf(1, 5, 2, 4, 3, 5)
	checkFirst(t, one, impl.FirstBlock(other))
	checkRight(t, impl.FirstBlock(one), other, true)
	put, copied := actions(action(impl.ActPut, 7, 0, 1)), actions(action(impl.ActCopy, 1, 7, 0))
	checkRight(t, mustNext(t, impl.FirstBlock(one), one, 1, put), other, true)
	checkRight(t, mustNext(t, impl.FirstBlock(one), one, 1, copied), other, false)
}

// A block of actions that are not done has the root of the store, but effects as well; they are others than those of no actions, and of actions that are done.
func TestBlocksOfActionsThatAreNotDone(t *testing.T) {
	s := storeOf(1, 4, 2, impl.MaxValue)
	moves := actions(action(impl.ActMove, 1, 3, 5), action(impl.ActMove, 1, 2, 1), action(impl.ActAdd, 1, 2, 0))
	for count := 1; count <= 3; count++ {
		b := mustNext(t, impl.FirstBlock(s), s, 1, moves[:count])
		_, effects := mustRun(t, s, moves[:count])
		if b.Root != impl.RootOf(s) || b.Effects == 21 || impl.DoneCount(effects) != 0 {
			t.Errorf("the block of %+v is %+v", moves[:count], b)
		}
		checkRight(t, b, s, true)
		checkRight(t, changed(b, func(b *impl.Block) { b.List = nil }), s, false)
		done := impl.Effect{Done: true, Reads: effects[0].Reads}
		checkRight(t, changed(b, func(b *impl.Block) { b.Effects = impl.EffectsSum(append([]impl.Effect{done}, effects[1:]...)) }), s, false)
	}
}

// The zero value is a valid block, which is right over no sample store.
func TestTheZeroBlock(t *testing.T) {
	checkBlock(t, impl.Block{}, true)
	for _, s := range sampleStores() {
		checkRight(t, impl.Block{}, s, false)
		checkNext(t, impl.Block{}, s, 1, nil, block(105978, 1, 1, nil, plainRoot(plainValues(s), 0, 32), 21), true)
	}
}

// All views, behind blocks with views at the edges and between: a view must be greater, and at most MaxView.
func TestViewsOfNextBlocks(t *testing.T) {
	s, list := storeOf(1, 9), actions(action(impl.ActTake, 1, 0, 3))
	root, effects := plainOutcome(s, list)
	for _, before := range []int{0, 1, 2, 500, 998, 999, 1000} {
		b := block(7, 3, before, nil, 8, 9)
		sum := plainBlockSum(b)
		for view := -3; view <= 1003; view++ {
			if view > before && view <= 1000 {
				checkNext(t, b, s, view, list, block(sum, 4, view, list, root, effects), true)
			} else {
				checkNoNext(t, b, s, view, list)
			}
		}
		for _, view := range append(invalidViews(), 1<<32+before+1, math.MinInt+before+1) {
			checkNoNext(t, b, s, view, list)
		}
	}
}

// All heights: behind one of MaxHeight-1 there is one of MaxHeight, and behind that none.
func TestHeightsOfNextBlocks(t *testing.T) {
	s, list := storeOf(1, 9), actions(action(impl.ActTake, 1, 0, 3))
	root, effects := plainOutcome(s, list)
	for height := -3; height <= 103; height++ {
		b := block(7, height, 5, nil, 8, 9)
		if height >= 0 && height < 100 {
			checkNext(t, b, s, 6, list, block(plainBlockSum(b), height+1, 6, list, root, effects), true)
		} else {
			checkNoNext(t, b, s, 6, list)
		}
	}
	for _, height := range invalidHeights() {
		checkNoNext(t, block(7, height, 5, nil, 8, 9), s, 6, list)
	}
}

// Blocks up to MaxHeight, each behind the one before; there is none behind the last one, which is right nevertheless.
func TestBlocksUpToMaxHeight(t *testing.T) {
	s := storeOf(1, 200)
	b, list := impl.FirstBlock(s), actions(action(impl.ActMove, 1, 2, 1))
	for height := range impl.MaxHeight {
		next := mustNext(t, b, s, b.View+1+height%9, list)
		if next.Height != height+1 || next.Before != impl.BlockSum(b) {
			t.Errorf("behind %+v is %+v", b, next)
		}
		checkRight(t, next, s, true)
		b = next
		s, _ = mustRun(t, s, list)
	}
	checkBlock(t, b, true)
	checkNoNext(t, b, s, b.View+1, list)
	checkNoNext(t, b, s, impl.MaxView, nil)
}

// The block before need not be right over the store, nor anywhere: its store is only asked to be valid.
func TestBlocksBehindBlocksThatAreNotRight(t *testing.T) {
	for _, s := range fewStores() {
		for i, b := range edgeBlocks() {
			if i%17 != 0 || b.Height == impl.MaxHeight || b.View == impl.MaxView {
				continue
			}
			list := busyActions()[i%40]
			checkNext(t, b, s, impl.MaxView, list, plainNext(b, s, impl.MaxView, list), true)
		}
	}
}

// Nothing over a store that is not valid, also if no action reads or writes anything: then what is nowhere in it must not be taken for no values.
func TestInvalidStoresHaveNoBlocks(t *testing.T) {
	empty, put := impl.FirstBlock(nil), actions(action(impl.ActPut, 1, 0, 5))
	one := mustNext(t, empty, nil, 1, put)
	noRun := block(0, 0, 0, put, 629867, 21)
	for _, s := range invalidStores() {
		checkFirst(t, s, impl.Block{})
		for _, b := range []impl.Block{empty, one, noRun, {}} {
			checkRight(t, b, s, false)
			checkNoNext(t, b, s, 2, nil)
			checkNoNext(t, b, s, 2, put)
		}
	}
}

// Nothing behind invalid blocks, and none of them is right, also with the root and the effects to which nothing leads, or its valid actions do.
func TestInvalidBlocksAreNotRight(t *testing.T) {
	for _, s := range fewStores() {
		for _, b := range append(blocksBefore(s), plainNext(plainFirst(s), s, 1, busyActions()[3])) {
			for _, wrong := range wrongBlocks(b) {
				checkRight(t, wrong, s, false)
				checkNoNext(t, wrong, s, impl.MaxView, nil)
				checkNoNext(t, wrong, s, impl.MaxView, busyActions()[2])
			}
		}
	}
	for _, list := range wrongLists() {
		checkRight(t, block(0, 0, 0, list, 629867, 21), nil, false)
		checkNoNext(t, block(0, 0, 0, list, 629867, 21), nil, 1, nil)
	}
}

// Behind a block there is none with actions that are not valid.
func TestNextBlocksHaveValidActions(t *testing.T) {
	t.Parallel()
	for _, s := range fewStores() {
		for _, list := range wrongLists() {
			for _, b := range blocksBefore(s) {
				checkNoNext(t, b, s, b.View+1, list)
			}
		}
	}
	for _, a := range invalidActions() {
		checkNoNext(t, impl.FirstBlock(nil), nil, 1, actions(a))
	}
}

// roomyBlock is a block with something behind its actions, which are as many as before.
func roomyBlock(b impl.Block) impl.Block {
	b.List = append(slices.Clone(b.List), action(40, 40, 40, 40), action(41, 41, 41, 41))[:len(b.List)]
	return b
}

// What is written over a block is not seen in its arguments, also not behind them, nor in another block, nor the other way round.
func TestBlocksShareNoMemory(t *testing.T) {
	eachNext(func(b impl.Block, s []impl.Entry, view int, list []impl.Action) {
		before, given := roomyBlock(b), append(slices.Clone(list), action(40, 40, 40, 40), action(41, 41, 41, 41))
		store := append(slices.Clone(s), storeOf(40, 40, 41, 41)...)
		wholeBefore, wholeGiven, wholeStore := slices.Clone(before.List[:cap(before.List)]), slices.Clone(given), slices.Clone(store)
		first := mustNext(t, before, store[:len(s)], view, given[:len(list)])
		second := mustNext(t, before, store[:len(s)], view, given[:len(list)])
		spoilActions(second.List)
		if !slices.Equal(before.List[:cap(before.List)], wholeBefore) || !slices.Equal(given, wholeGiven) || !slices.Equal(store, wholeStore) {
			t.Errorf("%+v, %v and %+v have become %+v, %v and %+v", wholeBefore, wholeStore, wholeGiven, before.List[:cap(before.List)], store, given)
		}
		spoilActions(given)
		spoilActions(before.List)
		spoil(store)
		if !sameBlock(first, plainNext(b, s, view, list)) {
			t.Errorf("with the arguments written over the block behind %+v is %+v", b, first)
		}
	})
}

// A block can be given its own actions for the next one, and still both are apart.
func TestBlocksOfTheSameActionsShareNoMemory(t *testing.T) {
	s := storeOf(1, 9, 3, 5)
	for _, list := range serialActions() {
		b := plainNext(plainFirst(s), s, 1, slices.Clone(list))
		next := mustNext(t, b, s, 2, b.List)
		spoilActions(next.List)
		if !slices.Equal(b.List, list) {
			t.Errorf("the actions %+v have become %+v", list, b.List)
		}
	}
}

// Blocks that are asked, and their stores, stay as they are, also what lies behind them.
func TestBlocksAreLeftAlone(t *testing.T) {
	eachRight(func(b impl.Block, s []impl.Entry) {
		given, store := roomyBlock(b), append(slices.Clone(s), storeOf(40, 40, 41, 41)...)
		whole, wholeStore := slices.Clone(given.List[:cap(given.List)]), slices.Clone(store)
		impl.BlockValid(given)
		impl.BlockSum(given)
		impl.BlockRight(given, store[:len(s)])
		first := impl.FirstBlock(store[:len(s)])
		spoilActions(first.List)
		if !slices.Equal(given.List[:cap(given.List)], whole) || !slices.Equal(store, wholeStore) {
			t.Errorf("%+v and %v have become %+v and %v", whole, wholeStore, given.List[:cap(given.List)], store)
		}
	})
}
