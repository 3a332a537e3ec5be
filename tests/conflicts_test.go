package tests

import (
	"math"
	"slices"
	"testing"

	"loop.example/blockexecutor/impl"
)

func haveCommon(a []int, b []int) bool {
	return slices.ContainsFunc(a, func(key int) bool { return slices.Contains(b, key) })
}

// plainConflict tells of two valid actions by the rules of their kinds whether they are in conflict.
func plainConflict(a impl.Action, b impl.Action) bool {
	aReads, aWrites := plainKeys(a, ruleOf(a.Kind).reads), plainKeys(a, ruleOf(a.Kind).writes)
	bReads, bWrites := plainKeys(b, ruleOf(b.Kind).reads), plainKeys(b, ruleOf(b.Kind).writes)
	return haveCommon(aWrites, bReads) || haveCommon(aReads, bWrites) || haveCommon(aWrites, bWrites)
}

// plainLevels are levels that are found by rounds: again and again all actions are taken away that are in conflict with none of those before them that are still there.
func plainLevels(list []impl.Action) []int {
	levels := slices.Repeat([]int{-1}, len(list))
	for round := 0; slices.Contains(levels, -1); round++ {
		before := slices.Clone(levels)
		for n, a := range list {
			waits := false
			for m := range n {
				waits = waits || before[m] == -1 && plainConflict(a, list[m])
			}
			if before[n] == -1 && !waits {
				levels[n] = round
			}
		}
	}
	return levels
}

// plainLevelOrder goes through the levels, and through the actions of each from behind.
func plainLevelOrder(list []impl.Action) []int {
	levels := plainLevels(list)
	var order []int
	for level := range list {
		for n := len(list) - 1; n >= 0; n-- {
			if levels[n] == level {
				order = append(order, n)
			}
		}
	}
	return order
}

// plainFits looks at the numbers, and then at every two places.
func plainFits(list []impl.Action, order []int) bool {
	if !slices.Equal(slices.Sorted(slices.Values(order)), inOrder(len(list))) {
		return false
	}
	for place, later := range order {
		for _, earlier := range order[:place] {
			if earlier > later && plainConflict(list[earlier], list[later]) {
				return false
			}
		}
	}
	return true
}

// inOrder are the numbers of so many actions.
func inOrder(count int) []int {
	order := make([]int, count)
	for n := range order {
		order[n] = n
	}
	return order
}

// eachOrder visits all orders of so many actions.
func eachOrder(count int, visit func(order []int)) {
	var grow func(order []int)
	grow = func(order []int) {
		if len(order) == count {
			visit(slices.Clone(order))
		}
		for n := range count {
			if !slices.Contains(order, n) {
				grow(append(slices.Clone(order), n))
			}
		}
	}
	grow(nil)
}

// ordersOf are orders for actions, which fit or not: all of them if there are few actions, and otherwise the one of the numbers, the reverse one, all with two numbers exchanged, and others.
func ordersOf(count int) [][]int {
	var orders [][]int
	if count <= 4 {
		eachOrder(count, func(order []int) { orders = append(orders, order) })
		return orders
	}
	reverse := inOrder(count)
	slices.Reverse(reverse)
	orders = append(orders, inOrder(count), reverse)
	for a := range count {
		for b := range a {
			order := inOrder(count)
			order[a], order[b] = order[b], order[a]
			orders = append(orders, order)
		}
	}
	for step := range count {
		order := inOrder(count)
		slices.SortStableFunc(order, func(a, b int) int { return (a*7+step)%count - (b*7+step)%count })
		orders = append(orders, order)
	}
	return orders
}

// fittingOrders are orders that fit, made by taking again and again one of those actions that wait for no other one any more: always the last one, the first one, or others.
func fittingOrders(list []impl.Action) [][]int {
	var orders [][]int
	for round := range 12 {
		var order []int
		for len(order) < len(list) {
			var ready []int
			for n := range list {
				if !slices.Contains(order, n) && allPlaced(list, order, n) {
					ready = append(ready, n)
				}
			}
			order = append(order, ready[(len(ready)-1+round*(len(order)+1))%len(ready)])
		}
		orders = append(orders, order)
	}
	return orders
}

// allPlaced tells whether all that the action n waits for are in an order.
func allPlaced(list []impl.Action, order []int, n int) bool {
	for m := range n {
		if plainConflict(list[m], list[n]) && !slices.Contains(order, m) {
			return false
		}
	}
	return true
}

// invalidOrders are wrong for any actions of this number: nil, with a number twice, left out, negative or too great, too short and too long.
func invalidOrders(count int) [][]int {
	orders := [][]int{append(inOrder(count), count), append([]int{count}, inOrder(count)...), append(inOrder(count), -1), make([]int, count+1), make([]int, count+1000), inOrder(1000)}
	if count > 0 {
		orders = append(orders, nil, []int{})
	}
	for place := range count {
		short := slices.Delete(inOrder(count), place, place+1)
		orders = append(orders, short, append(inOrder(count), place), append([]int{place}, inOrder(count)...), inOrder(count)[:place])
		for _, n := range []int{-1, -2, count, count + 1, impl.MaxActions, 64, 1 << 32, 1<<32 + place, math.MinInt, math.MaxInt} {
			if n < 0 || n >= count {
				order := inOrder(count)
				order[place] = n
				orders = append(orders, order)
			}
		}
		for n := range count {
			if n != place {
				order := inOrder(count)
				order[place] = n
				orders = append(orders, order)
			}
		}
	}
	return orders
}

// chainedActions are so many copies from key to key, of which each waits for the one before alone.
func chainedActions(count int) []impl.Action {
	var list []impl.Action
	for n := range count {
		list = append(list, action(impl.ActCopy, n, n+1, 0))
	}
	return list
}

// looseLists are lists of which no action is in conflict with another one: they use different keys, or read what none writes.
func looseLists(count int) [][]impl.Action {
	lists := make([][]impl.Action, 4)
	for n := range count {
		lists[0] = append(lists[0], action(impl.ActPut, 31-n, 0, n))
		lists[1] = append(lists[1], action(impl.ActCopy, 0, n+1, 0))
		lists[2] = append(lists[2], action(impl.ActAdd, 31, 2*n, 0))
		lists[3] = append(lists[3], action(impl.ActSwap, n, 31-n, 0))
	}
	return lists
}

// tightLists are lists of which every action is in conflict with every other one: they write the same key, or read what the others write.
func tightLists(count int) [][]impl.Action {
	kinds := []int{impl.ActPut, impl.ActMove, impl.ActCopy, impl.ActSwap, impl.ActAdd, impl.ActTake}
	lists := make([][]impl.Action, 4)
	for n := range count {
		lists[0] = append(lists[0], action(impl.ActPut, 3, 0, n))
		lists[1] = append(lists[1], action(impl.ActCopy, n+4, 3, 0))
		lists[2] = append(lists[2], action(impl.ActMove, 3, n+4, 1))
		lists[3] = append(lists[3], action(kinds[n%6], 0, 0, 0))
	}
	return lists
}

// conflictLists are valid actions with few, some and many conflicts.
func conflictLists() [][]impl.Action {
	lists := append(serialActions(), actionsAmong(0, 1, 2, 3, 7, 8, 15, 16, 30, 31)...)
	for _, count := range []int{1, 2, 3, 6, impl.MaxActions} {
		lists = append(lists, chainedActions(count))
		lists = append(lists, looseLists(count)...)
		lists = append(lists, tightLists(count)...)
	}
	return lists
}

// listsOfSix are lists of six actions with few, some and many conflicts.
func listsOfSix() [][]impl.Action {
	lists := [][]impl.Action{chainedActions(6), busyActions()[6], busyActions()[17]}
	for _, list := range actionsAmong(0, 1, 2, 3, 4, 5, 6, 7) {
		if len(list) == 6 {
			lists = append(lists, list)
		}
	}
	return append(append(lists, looseLists(6)...), tightLists(6)...)
}

// fewStores are some of the sample stores, the empty and the full ones among them.
func fewStores() [][]impl.Entry {
	stores := sampleStores()
	return [][]impl.Entry{nil, storeOf(1, 9, 3, 5), fullStore(1, 1), fullStore(impl.MaxValue, -1), stores[19], stores[25]}
}

func checkConflict(t *testing.T, a impl.Action, b impl.Action, want bool) {
	t.Helper()
	if got, back := impl.Conflict(a, b), impl.Conflict(b, a); got != want || back != want {
		t.Errorf("Conflict of %+v and %+v is %v, and %v in the other direction, want %v", a, b, got, back, want)
	}
}

func checkLevels(t *testing.T, list []impl.Action, want []int, wantOrder []int) {
	t.Helper()
	if got := impl.LevelsOf(list); !slices.Equal(got, want) {
		t.Errorf("LevelsOf(%+v) = %v, want %v", list, got, want)
	}
	if got := impl.LevelOrder(list); !slices.Equal(got, wantOrder) {
		t.Errorf("LevelOrder(%+v) = %v, want %v", list, got, wantOrder)
	}
}

func checkFits(t *testing.T, list []impl.Action, order []int, want bool) {
	t.Helper()
	if got := impl.OrderFits(list, order); got != want {
		t.Errorf("OrderFits(%+v, %v) = %v", list, order, got)
	}
}

func checkRunOrder(t *testing.T, s []impl.Entry, list []impl.Action, order []int, want []impl.Entry, wantEffects []impl.Effect) {
	t.Helper()
	got, effects := impl.RunOrder(s, list, order)
	if !slices.Equal(got, want) || !sameEffects(effects, wantEffects) {
		t.Errorf("RunOrder(%v, %+v, %v) = %v, %+v, want %v, %+v", s, list, order, got, effects, want, wantEffects)
	}
}

// checkNotRun checks that an order does not fit, and so nothing is run.
func checkNotRun(t *testing.T, s []impl.Entry, list []impl.Action, order []int) {
	t.Helper()
	checkFits(t, list, order, false)
	checkRunOrder(t, s, list, order, nil, nil)
}

func TestConflictValues(t *testing.T) {
	put, other := action(impl.ActPut, 1, 0, 5), action(impl.ActPut, 2, 0, 5)
	from, to := action(impl.ActCopy, 1, 2, 0), action(impl.ActCopy, 2, 1, 0)
	checkConflict(t, put, other, false)
	checkConflict(t, put, action(impl.ActPut, 1, 0, 7), true)
	checkConflict(t, put, from, true)
	checkConflict(t, put, to, true)
	checkConflict(t, from, to, true)
	checkConflict(t, action(impl.ActTake, 1, 0, 5), action(impl.ActTake, 2, 0, 5), false)
	checkConflict(t, action(impl.ActTake, 1, 0, 5), from, true)
	checkConflict(t, action(impl.ActMove, 1, 2, 5), action(impl.ActSwap, 3, 4, 0), false)
	checkConflict(t, action(impl.ActMove, 1, 2, 5), action(impl.ActSwap, 3, 1, 0), true)
	checkConflict(t, action(impl.ActMove, 1, 2, 5), action(impl.ActSwap, 2, 3, 0), true)
	checkConflict(t, action(impl.ActPut, 31, 0, 5), action(impl.ActPut, 0, 0, 5), false)
}

// Two that read the same key, and write none that the other one reads or writes.
func TestReadingTheSameKeyIsNoConflict(t *testing.T) {
	for key := range impl.MaxKey - 1 {
		checkConflict(t, action(impl.ActCopy, key, key+1, 0), action(impl.ActCopy, key, key+2, 0), false)
		checkConflict(t, action(impl.ActCopy, key, key+1, 0), action(impl.ActAdd, key, key+2, 0), false)
		checkConflict(t, action(impl.ActAdd, key, key+1, 0), action(impl.ActAdd, key, key+2, 0), false)
	}
}

// One writes what the other one reads, in both directions, and does not read it; the other one writes another key.
func TestWritingWhatIsReadIsAConflict(t *testing.T) {
	for key := range impl.MaxKey {
		reader := action(impl.ActCopy, key, key+1, 0)
		checkConflict(t, action(impl.ActPut, key, 0, 5), reader, true)
		checkConflict(t, action(impl.ActCopy, 31-key, key, 0), reader, true)
		checkConflict(t, action(impl.ActPut, key, 0, 5), action(impl.ActAdd, key, key+1, 0), true)
	}
}

// Both write a key that neither reads.
func TestWritingTheSameKeyIsAConflict(t *testing.T) {
	for key := range impl.MaxKey - 1 {
		checkConflict(t, action(impl.ActPut, key, 0, 5), action(impl.ActPut, key, 0, 6), true)
		checkConflict(t, action(impl.ActPut, key, 0, 5), action(impl.ActCopy, key+1, key, 0), true)
		checkConflict(t, action(impl.ActCopy, key+1, key, 0), action(impl.ActCopy, key+2, key, 0), true)
	}
}

// It does not matter what an action would do with some store: one that would not be done, or write what is there, is in conflict too.
func TestWhatMayBeWrittenCounts(t *testing.T) {
	move, put := action(impl.ActMove, 1, 2, impl.MaxValue), action(impl.ActPut, 2, 0, 0)
	checkConflict(t, move, put, true)
	checkConflict(t, action(impl.ActTake, 1, 0, 0), action(impl.ActCopy, 1, 5, 0), true)
	checkConflict(t, action(impl.ActSwap, 1, 1, 0), action(impl.ActCopy, 1, 5, 0), true)
	list := actions(move, put)
	checkNotRun(t, nil, list, []int{1, 0})
	checkRunOrder(t, nil, list, []int{0, 1}, nil, []impl.Effect{effect(false, storeOf(1, 0, 2, 0), nil), effect(true, nil, storeOf(2, 0))})
}

// Conflicts against the rules of the kinds, also from a key to itself: all pairs of kinds and of some keys, and of each kind with itself for all keys.
func TestConflictsAreExact(t *testing.T) {
	var some []impl.Action
	eachValidAction(func(_ actionRule, a impl.Action) {
		few := []int{0, 1, 15, 16, 31}
		if slices.Contains(few, a.From) && slices.Contains(few, a.To) && a.Amount <= 1 {
			some = append(some, a)
		}
	})
	for _, a := range some {
		for _, b := range some {
			checkConflict(t, a, b, plainConflict(a, b))
		}
	}
	for a := range impl.MaxKey + 1 {
		for b := range impl.MaxKey + 1 {
			checkConflict(t, action(impl.ActPut, a, 0, 5), action(impl.ActPut, b, 0, 5), a == b)
			checkConflict(t, action(impl.ActTake, a, 0, 5), action(impl.ActTake, b, 0, 5), a == b)
			checkConflict(t, action(impl.ActCopy, a, a, 0), action(impl.ActPut, b, 0, 5), a == b)
		}
	}
}

// An action that is not valid is in conflict with nothing, the first or the second, nor is it with itself.
func TestInvalidActionsHaveNoConflicts(t *testing.T) {
	for _, wrong := range invalidActions() {
		checkConflict(t, wrong, wrong, false)
		for _, key := range []int{0, 1, 11, 21, 31} {
			checkConflict(t, wrong, action(impl.ActPut, key, 0, 5), false)
			checkConflict(t, wrong, action(impl.ActSwap, 1, key, 0), false)
			checkConflict(t, wrong, action(impl.ActMove, key, 0, 0), false)
		}
	}
}

// P44: two that are not in conflict may change their order, over every store, also next to the limits of values.
func TestConflictsGoInBothDirections(t *testing.T) {
	var some []impl.Action
	eachValidAction(func(_ actionRule, a impl.Action) {
		few := []int{0, 1, 3, 31}
		if slices.Contains(few, a.From) && slices.Contains(few, a.To) && a.Amount != 7 && a.Amount != 2 {
			some = append(some, a)
		}
	})
	apart := 0
	for _, s := range fewStores() {
		for _, a := range some {
			for _, b := range some {
				if impl.Conflict(a, b) != impl.Conflict(b, a) {
					t.Errorf("%+v and %+v are in conflict in one direction", a, b)
				}
				if impl.Conflict(a, b) {
					continue
				}
				apart++
				checkChange(t, s, a, b)
			}
		}
	}
	if apart < 10000 {
		t.Errorf("only %d pairs are not in conflict", apart)
	}
}

// checkChange checks that two actions may change their order: each has the same effect in both.
func checkChange(t *testing.T, s []impl.Entry, a impl.Action, b impl.Action) {
	t.Helper()
	one, effects := mustRun(t, s, actions(a, b))
	other, otherEffects := mustRun(t, s, actions(b, a))
	slices.Reverse(otherEffects)
	if !slices.Equal(one, other) || !sameEffects(effects, otherEffects) {
		t.Errorf("%+v and %+v lead from %v to %v, %+v, and in the other order to %v, %+v", a, b, s, one, effects, other, otherEffects)
	}
}

// P110: every valid action is in conflict with itself, so two equal ones stay in their order.
func TestActionsAreInConflictWithThemselves(t *testing.T) {
	eachValidAction(func(_ actionRule, a impl.Action) {
		if !impl.Conflict(a, a) || len(impl.ActionWrites(a)) == 0 {
			t.Errorf("%+v is in conflict with itself: %v; it writes %v", a, impl.Conflict(a, a), impl.ActionWrites(a))
		}
		if a.From%10 != 1 {
			return
		}
		checkLevels(t, actions(a, a), []int{0, 1}, []int{0, 1})
		checkFits(t, actions(a, a), []int{0, 1}, true)
		checkNotRun(t, storeOf(1, 4, 3, 5), actions(a, a), []int{1, 0})
	})
}

func TestLevelValues(t *testing.T) {
	put, other, copied := action(impl.ActPut, 1, 0, 5), action(impl.ActPut, 2, 0, 6), action(impl.ActCopy, 1, 3, 0)
	checkLevels(t, actions(put), []int{0}, []int{0})
	checkLevels(t, actions(put, other), []int{0, 0}, []int{1, 0})
	checkLevels(t, actions(put, copied), []int{0, 1}, []int{0, 1})
	checkLevels(t, actions(copied, put), []int{0, 1}, []int{0, 1})
	checkLevels(t, actions(put, other, copied), []int{0, 0, 1}, []int{1, 0, 2})
	checkLevels(t, actions(put, copied, other), []int{0, 1, 0}, []int{2, 0, 1})
	checkLevels(t, actions(put, copied, put, other, copied), []int{0, 1, 2, 0, 3}, []int{3, 0, 1, 2, 4})
}

// One action waits for two others of different levels, whichever of them stands first; it is behind the greater one.
func TestActionsThatWaitForDifferentLevels(t *testing.T) {
	low, under, high := action(impl.ActPut, 5, 0, 1), action(impl.ActPut, 1, 0, 2), action(impl.ActCopy, 1, 2, 0)
	waits := action(impl.ActAdd, 5, 2, 0)
	checkLevels(t, actions(low, under, high, waits), []int{0, 0, 1, 2}, []int{1, 0, 2, 3})
	checkLevels(t, actions(under, high, low, waits), []int{0, 1, 0, 2}, []int{2, 0, 1, 3})
	checkLevels(t, actions(low, under, waits, high), []int{0, 0, 1, 2}, []int{1, 0, 2, 3})
	list := append(chainedActions(5), action(impl.ActPut, 20, 0, 1), action(impl.ActMove, 20, 5, 0), action(impl.ActSwap, 20, 21, 0))
	checkLevels(t, list, []int{0, 1, 2, 3, 4, 0, 5, 6}, []int{5, 0, 1, 2, 3, 4, 6, 7})
}

// Levels are about actions before alone: the levels of a beginning do not depend on what follows.
func TestLevelsOfBeginnings(t *testing.T) {
	for _, list := range conflictLists() {
		levels := impl.LevelsOf(list)
		for count := range len(list) + 1 {
			if got := impl.LevelsOf(list[:count]); !slices.Equal(got, levels[:count]) {
				t.Errorf("LevelsOf(%+v) = %v, but with more behind them %v", list[:count], got, levels)
			}
		}
	}
}

func TestLevelsAreExact(t *testing.T) {
	for _, list := range conflictLists() {
		checkLevels(t, list, plainLevels(list), plainLevelOrder(list))
	}
}

// No action in conflict with another one, and each with every other one, up to MaxActions.
func TestLevelsWithNoneAndAllInConflict(t *testing.T) {
	for _, count := range []int{1, 2, 3, 6, 9, impl.MaxActions} {
		reverse := inOrder(count)
		slices.Reverse(reverse)
		for _, list := range looseLists(count) {
			checkLevels(t, list, make([]int, count), reverse)
			checkFits(t, list, reverse, true)
		}
		for _, list := range append(tightLists(count), chainedActions(count)) {
			checkLevels(t, list, inOrder(count), inOrder(count))
			checkFits(t, list, reverse, count == 1)
		}
	}
}

// P45: two of the same level are not in conflict, and each one waits for one of the level below.
func TestLevelsKeepConflictsApart(t *testing.T) {
	for _, list := range conflictLists() {
		levels := impl.LevelsOf(list)
		if len(levels) != len(list) {
			t.Fatalf("LevelsOf(%+v) = %v", list, levels)
		}
		for n, a := range list {
			waits := levels[n] == 0
			for m, b := range list[:n] {
				if levels[m] == levels[n] && impl.Conflict(b, a) {
					t.Errorf("%+v and %+v are in conflict, but of the level %d", b, a, levels[n])
				}
				waits = waits || levels[m] == levels[n]-1 && impl.Conflict(b, a)
			}
			if !waits || levels[n] < 0 {
				t.Errorf("of %+v with the levels %v the action %d waits for none of the level below", list, levels, n)
			}
		}
	}
}

// P46: the order of the numbers and that of levels fit; with two equal numbers none does.
func TestFittingOrdersKeepConflictsInOrder(t *testing.T) {
	for _, list := range conflictLists() {
		checkFits(t, list, inOrder(len(list)), true)
		checkFits(t, list, impl.LevelOrder(list), true)
		if len(list) < 2 {
			continue
		}
		for _, order := range append(ordersOf(len(list)), fittingOrders(list)...) {
			order[1] = order[0]
			checkFits(t, list, order, false)
		}
	}
}

// P47: the levels do not descend, within one the numbers do, and every action is there once.
func TestLevelsFollowEachOther(t *testing.T) {
	for _, list := range conflictLists() {
		levels, order := impl.LevelsOf(list), impl.LevelOrder(list)
		if !slices.Equal(slices.Sorted(slices.Values(order)), inOrder(len(list))) {
			t.Fatalf("LevelOrder(%+v) = %v", list, order)
		}
		for place := 1; place < len(order); place++ {
			before, n := order[place-1], order[place]
			if levels[before] > levels[n] || levels[before] == levels[n] && before < n {
				t.Errorf("%v, of the levels %v, has %d before %d", order, levels, before, n)
			}
		}
	}
}

func TestOrderFitsValues(t *testing.T) {
	list := actions(action(impl.ActPut, 1, 0, 5), action(impl.ActPut, 2, 0, 6), action(impl.ActCopy, 1, 3, 0), action(impl.ActPut, 1, 0, 7))
	fitting := [][]int{{0, 1, 2, 3}, {1, 0, 2, 3}, {0, 2, 1, 3}, {0, 2, 3, 1}}
	eachOrder(4, func(order []int) {
		want := slices.ContainsFunc(fitting, func(f []int) bool { return slices.Equal(f, order) })
		checkFits(t, list, order, want)
	})
	checkFits(t, actions(list[0]), []int{0}, true)
	checkFits(t, actions(list[0], list[1]), []int{1, 0}, true)
	checkFits(t, actions(list[0], list[3]), []int{1, 0}, false)
}

// Fitting against a rule for every two places: all orders of up to four actions, and of some lists of six, and many of others.
func TestFittingIsExact(t *testing.T) {
	for _, list := range conflictLists() {
		for _, order := range append(ordersOf(len(list)), fittingOrders(list)...) {
			checkFits(t, list, order, plainFits(list, order))
		}
	}
	for _, list := range listsOfSix() {
		eachOrder(len(list), func(order []int) { checkFits(t, list, order, plainFits(list, order)) })
	}
}

// The effect of an action stands in its place by the number, wherever it was run.
func TestRunOrderValues(t *testing.T) {
	list := actions(action(impl.ActPut, 1, 0, 5), action(impl.ActMove, 6, 7, 3), action(impl.ActCopy, 1, 3, 0), action(impl.ActPut, 1, 0, 7))
	s := storeOf(3, 4, 6, 9)
	after := storeOf(1, 7, 3, 5, 6, 6, 7, 3)
	effects := []impl.Effect{
		effect(true, nil, storeOf(1, 5)), effect(true, storeOf(6, 9, 7, 0), storeOf(6, 6, 7, 3)),
		effect(true, storeOf(1, 5), storeOf(3, 5)), effect(true, nil, storeOf(1, 7)),
	}
	for _, order := range [][]int{{0, 1, 2, 3}, {1, 0, 2, 3}, {0, 2, 1, 3}, {0, 2, 3, 1}} {
		checkRunOrder(t, s, list, order, after, effects)
	}
	for _, order := range [][]int{{2, 0, 1, 3}, {0, 1, 3, 2}, {3, 2, 0, 1}, {3, 0, 1, 2}, {1, 2, 0, 3}} {
		checkNotRun(t, s, list, order)
	}
}

// Three actions in a circle of places, where going there and going back are different.
func TestEffectsAreInTheOrderOfTheNumbers(t *testing.T) {
	list := actions(action(impl.ActPut, 1, 0, 5), action(impl.ActTake, 2, 0, 1), action(impl.ActAdd, 3, 4, 0))
	s := storeOf(2, 6, 3, impl.MaxValue, 4, 1)
	effects := []impl.Effect{effect(true, nil, storeOf(1, 5)), effect(true, storeOf(2, 6), storeOf(2, 5)), effect(false, storeOf(3, impl.MaxValue, 4, 1), nil)}
	eachOrder(3, func(order []int) {
		checkRunOrder(t, s, list, order, storeOf(1, 5, 2, 5, 3, impl.MaxValue, 4, 1), effects)
	})
}

// P2: orders that fit lead to the store and the effects of the serial run; others to nothing.
func TestFittingOrdersLeadToTheSame(t *testing.T) {
	fitting, others := 0, 0
	for _, list := range conflictLists() {
		orders := append(ordersOf(len(list)), fittingOrders(list)...)
		for _, s := range fewStores() {
			want, effects := mustRun(t, s, list)
			for _, order := range orders {
				if !impl.OrderFits(list, order) {
					others++
					checkRunOrder(t, s, list, order, nil, nil)
					continue
				}
				if !slices.Equal(order, inOrder(len(list))) {
					fitting++
				}
				checkRunOrder(t, s, list, order, want, effects)
			}
		}
	}
	if fitting < 1000 || others < 1000 {
		t.Errorf("%d orders that are not that of the numbers fit, and %d do not fit", fitting, others)
	}
}

// P2, for all orders that there are of six actions.
func TestAllFittingOrdersLeadToTheSame(t *testing.T) {
	t.Parallel()
	for _, list := range listsOfSix() {
		eachOrder(len(list), func(order []int) {
			fits := impl.OrderFits(list, order)
			for _, s := range fewStores() {
				if fits {
					want, effects := mustRun(t, s, list)
					checkRunOrder(t, s, list, order, want, effects)
				} else {
					checkRunOrder(t, s, list, order, nil, nil)
				}
			}
		})
	}
}

// P2, by references alone: orders that are made to fit lead to the plain serial run over all stores, and so does that of levels.
func TestOrdersThatAreMadeToFit(t *testing.T) {
	t.Parallel()
	for _, list := range conflictLists() {
		orders := append(fittingOrders(list), impl.LevelOrder(list))
		for _, s := range sampleStores() {
			want, effects := plainSerial(s, list)
			for _, order := range orders {
				checkRunOrder(t, s, list, order, want, effects)
			}
		}
	}
}

// No actions: the empty order fits and leads to the store itself, and no other one does.
func TestNoActionsInOrder(t *testing.T) {
	for _, none := range [][]impl.Action{nil, {}, busyActions()[20][:0]} {
		checkLevels(t, none, nil, nil)
		for _, s := range sampleStores() {
			for _, order := range [][]int{nil, {}, inOrder(3)[:0]} {
				checkFits(t, none, order, true)
				checkRunOrder(t, s, none, order, s, nil)
			}
			for _, order := range append(invalidOrders(0), []int{0}, []int{-1}, []int{0, 0}) {
				checkNotRun(t, s, none, order)
			}
		}
	}
}

func TestOneActionInOrder(t *testing.T) {
	eachRun(func(s []impl.Entry, _ actionRule, a impl.Action) {
		want, effects := mustRun(t, s, actions(a))
		checkRunOrder(t, s, actions(a), []int{0}, want, effects)
	})
	s, put := storeOf(1, 4), action(impl.ActPut, 1, 0, 5)
	checkLevels(t, actions(put), []int{0}, []int{0})
	checkFits(t, actions(put), []int{0}, true)
	for _, order := range [][]int{nil, {}, {1}, {-1}, {0, 0}, {0, 1}, {1, 0}, {math.MinInt}, {math.MaxInt}, {1 << 32}} {
		checkNotRun(t, s, actions(put), order)
	}
}

// A number twice, left out, negative or too great, too many or too few of them, whether the actions are in conflict or not.
func TestOrdersWithWrongNumbers(t *testing.T) {
	for _, list := range conflictLists() {
		for _, order := range invalidOrders(len(list)) {
			checkNotRun(t, storeOf(1, 9, 3, 5), list, order)
		}
	}
}

// Two that are in conflict the wrong way round, at any two places of an order that fits otherwise.
func TestOrdersThatAreTheWrongWayRound(t *testing.T) {
	for _, list := range append(tightLists(impl.MaxActions), tightLists(2)...) {
		for place := 1; place < len(list); place++ {
			order := inOrder(len(list))
			order[place-1], order[place] = place, place-1
			checkNotRun(t, storeOf(1, 9, 3, 5), list, order)
		}
	}
	for a := range impl.MaxActions {
		for b := range a {
			list := slices.Clone(looseLists(impl.MaxActions)[0])
			list[a].From = list[b].From
			order := inOrder(len(list))
			order[a], order[b] = b, a
			checkNotRun(t, nil, list, order)
			slices.Reverse(order)
			checkFits(t, list, order, true)
		}
	}
}

func TestInvalidStoresAreNotRunInOrder(t *testing.T) {
	lists := append(busyActions()[:11], actions(action(impl.ActPut, 1, 0, 5)), actions(impl.Action{}))
	for _, s := range invalidStores() {
		for _, list := range lists {
			checkRunOrder(t, s, list, inOrder(len(list)), nil, nil)
			checkRunOrder(t, s, list, impl.LevelOrder(list), nil, nil)
		}
	}
}

// Actions of which one is not valid, the first, the last or any other one, or of which there are too many, have no levels, and no order fits.
func TestInvalidActionsHaveNoOrder(t *testing.T) {
	for _, list := range wrongLists() {
		checkLevels(t, list, nil, nil)
		reverse := inOrder(len(list))
		slices.Reverse(reverse)
		for _, order := range [][]int{inOrder(len(list)), reverse, nil, inOrder(len(list) - 1), inOrder(impl.MaxActions)} {
			checkNotRun(t, storeOf(1, 9, 3, 5), list, order)
			checkRunOrder(t, storeOf(1, 0), list, order, nil, nil)
		}
	}
	for _, a := range invalidActions() {
		checkLevels(t, actions(a), nil, nil)
		checkNotRun(t, nil, actions(a), []int{0})
	}
}

// Eleven actions are too many also if none is in conflict with another one.
func TestTooManyActionsHaveNoOrder(t *testing.T) {
	for _, list := range append(looseLists(impl.MaxActions+1), tightLists(impl.MaxActions+1)...) {
		checkLevels(t, list, nil, nil)
		checkNotRun(t, nil, list, inOrder(len(list)))
		checkNotRun(t, nil, list, inOrder(impl.MaxActions))
	}
}

// What is written over levels or an order is seen in no other result, whether it was made before or after.
func TestLevelsShareNoMemory(t *testing.T) {
	for _, list := range conflictLists() {
		given := append(slices.Clone(list), action(40, 40, 40, 40))
		before := slices.Clone(given)
		levels, order := impl.LevelsOf(given[:len(list)]), impl.LevelOrder(given[:len(list)])
		keptLevels, keptOrder := slices.Clone(levels), slices.Clone(order)
		spoilKeys(impl.LevelsOf(list))
		spoilKeys(impl.LevelOrder(list))
		if !slices.Equal(levels, keptLevels) || !slices.Equal(order, keptOrder) {
			t.Errorf("the levels and the order of %+v have become %v and %v", list, levels, order)
		}
		spoilKeys(levels)
		spoilKeys(order)
		checkLevels(t, list, keptLevels, keptOrder)
		if !slices.Equal(given, before) {
			t.Errorf("%+v have become %+v", before, given)
		}
	}
}

// What is written over the store is not seen in the effects, and neither is seen in the arguments, which are left alone.
func TestRunsInOrderShareNoMemory(t *testing.T) {
	for _, s := range fewStores() {
		for _, list := range conflictLists() {
			order := impl.LevelOrder(list)
			store, given := append(slices.Clone(s), storeOf(40, 40, 41, 41)...), append(slices.Clone(list), action(40, 40, 40, 40))
			numbers := append(slices.Clone(order), 40, 41)
			storeBefore, givenBefore, numbersBefore := slices.Clone(store), slices.Clone(given), slices.Clone(numbers)
			impl.OrderFits(given[:len(list)], numbers[:len(list)])
			after, effects := impl.RunOrder(store[:len(s)], given[:len(list)], numbers[:len(list)])
			want, kept := slices.Clone(after), copyEffects(effects)
			spoil(after)
			if !sameEffects(effects, kept) {
				t.Errorf("with the store written over the effects of %+v have become %+v", list, effects)
			}
			spoilEffects(t, effects, kept)
			if !slices.Equal(store, storeBefore) || !slices.Equal(given, givenBefore) || !slices.Equal(numbers, numbersBefore) {
				t.Errorf("%v, %+v and %v have become %v, %+v and %v", storeBefore, givenBefore, numbersBefore, store, given, numbers)
			}
			checkRunOrder(t, s, list, order, want, kept)
		}
	}
}
