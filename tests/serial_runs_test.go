package tests

import (
	"slices"
	"testing"

	"loop.example/blockexecutor/impl"
)

func actions(list ...impl.Action) []impl.Action { return list }

func sameEffects(a []impl.Effect, b []impl.Effect) bool {
	return slices.EqualFunc(a, b, sameEffect)
}

// copyEffects is a copy that shares no memory.
func copyEffects(effects []impl.Effect) []impl.Effect {
	var other []impl.Effect
	for _, e := range effects {
		other = append(other, copyEffect(e))
	}
	return other
}

// plainSerial is the store and the effects of a serial run, one action after the other by the references for one action.
func plainSerial(s []impl.Entry, list []impl.Action) ([]impl.Entry, []impl.Effect) {
	var effects []impl.Effect
	for _, a := range list {
		effects = append(effects, plainEffect(s, ruleOf(a.Kind), a))
		after, _ := plainAfter(s, a)
		s = plainStore(after)
	}
	return s, effects
}

// actionsAmong are valid lists of up to MaxActions actions of all kinds with those keys.
func actionsAmong(keys ...int) [][]impl.Action {
	// A fixed sequence of numbers, so that every run checks the same.
	number := 2027
	next := func(limit int) int {
		number = (number*48271 + 11) % 2147483647
		return number % limit
	}
	amounts := []int{0, 1, 4, 9, 500000, impl.MaxValue - 1, impl.MaxValue}
	var lists [][]impl.Action
	for round := range 44 {
		var list []impl.Action
		for range round % (impl.MaxActions + 1) {
			rule := actionRules()[next(6)]
			a := action(rule.kind, keys[next(len(keys))], keys[next(len(keys))], amounts[next(len(amounts))])
			if rule.noTo {
				a.To = 0
			}
			if rule.noAmount {
				a.Amount = 0
			}
			list = append(list, a)
		}
		lists = append(lists, list)
	}
	return lists
}

// busyActions are among few keys, so that most of them read what earlier ones have written.
func busyActions() [][]impl.Action {
	return actionsAmong(0, 1, 3, 31)
}

// serialActions are lists without actions, with one, with several and with MaxActions of them.
func serialActions() [][]impl.Action {
	return append(sampleActions(), busyActions()...)
}

// eachSerial visits all sample stores with all those actions.
func eachSerial(visit func(s []impl.Entry, list []impl.Action)) {
	for _, s := range sampleStores() {
		for _, list := range serialActions() {
			visit(s, list)
		}
	}
}

// wrongLists are lists that are not valid: one wrong action at every place among others, and more than MaxActions actions that are each valid.
func wrongLists() [][]impl.Action {
	put, tenth := action(impl.ActPut, 1, 0, 5), action(impl.ActMove, 1, 3, 1)
	wrong := []impl.Action{
		{}, action(7, 1, 0, 0), action(-1, 1, 0, 0), action(impl.ActPut, 1, 2, 5), action(impl.ActTake, 1, 1, 0), action(impl.ActCopy, 1, 2, 1),
		action(impl.ActSwap, -1, 2, 0), action(impl.ActAdd, 1, 32, 0), action(impl.ActMove, 1, 2, -1), action(impl.ActMove, 1, 2, impl.MaxValue+1),
	}
	var lists [][]impl.Action
	for _, a := range wrong {
		for _, count := range []int{1, 2, 3, impl.MaxActions} {
			for place := range count {
				list := slices.Repeat(actions(put), count)
				list[place] = a
				lists = append(lists, list)
			}
		}
	}
	for _, count := range []int{11, 12, 20, 1000} {
		lists = append(lists, slices.Repeat(actions(put), count), slices.Repeat(actions(tenth), count))
	}
	return lists
}

func checkSerial(t *testing.T, s []impl.Entry, list []impl.Action, want []impl.Entry, wantEffects []impl.Effect) {
	t.Helper()
	got, effects := impl.RunSerial(s, list)
	if !slices.Equal(got, want) || !sameEffects(effects, wantEffects) {
		t.Errorf("RunSerial(%v, %+v) = %v, %+v, want %v, %+v", s, list, got, effects, want, wantEffects)
	}
}

// mustRun is a serial run that has the effects of all actions.
func mustRun(t *testing.T, s []impl.Entry, list []impl.Action) ([]impl.Entry, []impl.Effect) {
	t.Helper()
	after, effects := impl.RunSerial(s, list)
	if len(effects) != len(list) {
		t.Fatalf("RunSerial(%v, %+v) has the effects %+v", s, list, effects)
	}
	return after, effects
}

func checkCount(t *testing.T, effects []impl.Effect, want int) {
	t.Helper()
	if got := impl.DoneCount(effects); got != want {
		t.Errorf("DoneCount(%+v) = %d, want %d", effects, got, want)
	}
}

func checkEffectsSum(t *testing.T, effects []impl.Effect, want int) {
	t.Helper()
	if got := impl.EffectsSum(effects); got != want {
		t.Errorf("EffectsSum(%+v) = %d, want %d", effects, got, want)
	}
}

// An action reads what earlier ones have written, and not what those that are not done would have written.
func TestRunSerialValues(t *testing.T) {
	s := storeOf(1, 4)
	move, copied := action(impl.ActMove, 1, 2, 3), action(impl.ActCopy, 2, 5, 0)
	first := effect(true, storeOf(1, 4, 2, 0), storeOf(1, 1, 2, 3))
	checkSerial(t, s, actions(move), storeOf(1, 1, 2, 3), []impl.Effect{first})
	second := effect(true, storeOf(2, 3), storeOf(5, 3))
	third := effect(false, storeOf(1, 1, 2, 3), nil)
	checkSerial(t, s, actions(move, copied), storeOf(1, 1, 2, 3, 5, 3), []impl.Effect{first, second})
	checkSerial(t, s, actions(move, copied, move), storeOf(1, 1, 2, 3, 5, 3), []impl.Effect{first, second, third})
	checkSerial(t, s, actions(move, move, copied), storeOf(1, 1, 2, 3, 5, 3), []impl.Effect{first, third, second})
	checkSerial(t, s, actions(copied, move), storeOf(1, 1, 2, 3), []impl.Effect{effect(true, storeOf(2, 0), storeOf(5, 0)), first})
	notDone := effect(false, storeOf(1, 4, 2, 0), nil)
	more := action(impl.ActMove, 1, 2, 5)
	checkSerial(t, s, actions(more, move, copied), storeOf(1, 1, 2, 3, 5, 3), []impl.Effect{notDone, first, second})
	checkSerial(t, s, actions(more, more), s, []impl.Effect{notDone, notDone})
}

// A value that becomes 0 is read as 0 then, has no entry, and can be written again.
func TestValuesBecomeZeroAndAreWrittenAgain(t *testing.T) {
	take, put := action(impl.ActTake, 1, 0, 9), action(impl.ActPut, 1, 0, 7)
	taken, again := effect(true, storeOf(1, 4), storeOf(1, 0)), effect(true, nil, storeOf(1, 7))
	s := storeOf(0, 2, 1, 4, 3, 5)
	checkSerial(t, s, actions(take), storeOf(0, 2, 3, 5), []impl.Effect{taken})
	checkSerial(t, s, actions(take, put), storeOf(0, 2, 1, 7, 3, 5), []impl.Effect{taken, again})
	checkSerial(t, s, actions(take, take), storeOf(0, 2, 3, 5), []impl.Effect{taken, effect(true, storeOf(1, 0), storeOf(1, 0))})
	checkSerial(t, s, actions(take, put, take), storeOf(0, 2, 3, 5), []impl.Effect{taken, again, effect(true, storeOf(1, 7), storeOf(1, 0))})
	checkSerial(t, s, actions(put, take), storeOf(0, 2, 3, 5), []impl.Effect{again, effect(true, storeOf(1, 7), storeOf(1, 0))})
	zero := effect(true, nil, storeOf(1, 0))
	checkSerial(t, storeOf(1, 4), actions(action(impl.ActPut, 1, 0, 0)), nil, []impl.Effect{zero})
	checkSerial(t, storeOf(1, 4), actions(action(impl.ActPut, 1, 0, 0), put), storeOf(1, 7), []impl.Effect{zero, again})
}

// A move of exactly what there is, and of one more, also of what came by the action before.
func TestSerialMovesOfWhatThereIs(t *testing.T) {
	s := storeOf(1, 4, 2, 6)
	all, back := action(impl.ActMove, 1, 2, 4), action(impl.ActMove, 2, 1, 10)
	moved := effect(true, storeOf(1, 4, 2, 6), storeOf(1, 0, 2, 10))
	checkSerial(t, s, actions(all), storeOf(2, 10), []impl.Effect{moved})
	checkSerial(t, s, actions(all, back), storeOf(1, 10), []impl.Effect{moved, effect(true, storeOf(2, 10, 1, 0), storeOf(1, 10, 2, 0))})
	checkSerial(t, s, actions(all, action(impl.ActMove, 2, 1, 11)), storeOf(2, 10), []impl.Effect{moved, effect(false, storeOf(2, 10, 1, 0), nil)})
	checkSerial(t, s, actions(all, all), storeOf(2, 10), []impl.Effect{moved, effect(false, storeOf(1, 0, 2, 10), nil)})
	checkSerial(t, s, actions(action(impl.ActMove, 1, 2, 5), all), storeOf(2, 10), []impl.Effect{effect(false, storeOf(1, 4, 2, 6), nil), moved})
}

// MaxActions actions, every one of which reads what the one before has written.
func TestSerialRunsOfMaxActions(t *testing.T) {
	var puts, copies []impl.Action
	var putEffects, copyEffects []impl.Effect
	for n := range impl.MaxActions {
		puts = append(puts, action(impl.ActPut, n, 0, n))
		putEffects = append(putEffects, effect(true, nil, storeOf(n, n)))
		copies = append(copies, action(impl.ActCopy, n, n+1, 0))
		copyEffects = append(copyEffects, effect(true, storeOf(n, 7), storeOf(n+1, 7)))
	}
	checkSerial(t, storeOf(0, 5), puts, storeOf(1, 1, 2, 2, 3, 3, 4, 4, 5, 5, 6, 6, 7, 7, 8, 8, 9, 9), putEffects)
	checkSerial(t, storeOf(0, 7), copies, fullStore(7, 0)[:11], copyEffects)
	doubled, after := action(impl.ActAdd, 0, 0, 0), []impl.Effect(nil)
	for n := range impl.MaxActions {
		after = append(after, effect(true, storeOf(0, 1<<n), storeOf(0, 2<<n)))
	}
	checkSerial(t, storeOf(0, 1), slices.Repeat(actions(doubled), impl.MaxActions), storeOf(0, 1024), after)
}

// A run without actions leads to the store itself, and has no effects.
func TestRunsWithoutActions(t *testing.T) {
	for _, none := range [][]impl.Action{nil, {}, busyActions()[20][:0]} {
		checkSerial(t, nil, none, nil, nil)
		checkSerial(t, []impl.Entry{}, none, nil, nil)
		for _, s := range sampleStores() {
			checkSerial(t, s, none, s, nil)
		}
		for _, s := range invalidStores() {
			checkSerial(t, s, none, nil, nil)
		}
	}
}

func TestSerialRunsAreExact(t *testing.T) {
	eachSerial(func(s []impl.Entry, list []impl.Action) {
		want, effects := plainSerial(s, list)
		checkSerial(t, s, list, want, effects)
	})
}

// A run of one action is this action, for all the edges of its amounts.
func TestSerialRunsOfOneAction(t *testing.T) {
	eachRun(func(s []impl.Entry, _ actionRule, a impl.Action) {
		e := impl.RunAction(s, a)
		checkSerial(t, s, actions(a), impl.ApplyEffect(s, e), []impl.Effect{e})
	})
}

// The runs that the tests visit have actions that are not done before, between and behind others that are, and such that read what an earlier one has changed.
func TestSerialRunsAreMixed(t *testing.T) {
	before, between, behind, changed := 0, 0, 0, 0
	eachSerial(func(s []impl.Entry, list []impl.Action) {
		_, effects := mustRun(t, s, list)
		for n, e := range effects {
			earlier, later := impl.DoneCount(effects[:n]) > 0, impl.DoneCount(effects[n:]) > 0
			switch {
			case !e.Done && earlier && later:
				between++
			case !e.Done && earlier:
				behind++
			case !e.Done && later:
				before++
			case !sameEffect(e, impl.RunAction(s, list[n])):
				changed++
			}
		}
	})
	if before < 100 || between < 100 || behind < 100 || changed < 1000 {
		t.Errorf("not done are %d before, %d between and %d behind others; %d read something changed", before, between, behind, changed)
	}
}

// P41: at every place where the actions can be parted, the beginning and the end included.
func TestRunsGoOn(t *testing.T) {
	eachSerial(func(s []impl.Entry, list []impl.Action) {
		want, wantEffects := mustRun(t, s, list)
		for part := range len(list) + 1 {
			middle, effects := mustRun(t, s, list[:part])
			after, more := mustRun(t, middle, list[part:])
			if !slices.Equal(after, want) || !sameEffects(slices.Concat(effects, more), wantEffects) {
				t.Errorf("parted at %d, %+v leads from %v to %v, %+v, %+v, and not to %v, %+v", part, list, s, after, effects, more, want, wantEffects)
			}
		}
	})
}

// P41, as one action after the other: every effect is that over the store before it, and every store is valid.
func TestRunsGoOnActionByAction(t *testing.T) {
	eachSerial(func(s []impl.Entry, list []impl.Action) {
		_, effects := mustRun(t, s, list)
		store := s
		for n, a := range list {
			checkRun(t, store, a, effects[n])
			store = impl.ApplyEffect(store, effects[n])
			checkSerial(t, s, list[:n+1], store, effects[:n+1])
			if !impl.StoreValid(store) {
				t.Errorf("after %d of %+v the store is %v, which is not valid", n+1, list, store)
			}
		}
	})
}

func TestDoneCountValues(t *testing.T) {
	done, not := impl.Effect{Done: true}, impl.Effect{}
	checkCount(t, nil, 0)
	checkCount(t, []impl.Effect{}, 0)
	checkCount(t, []impl.Effect{not}, 0)
	checkCount(t, []impl.Effect{done}, 1)
	checkCount(t, []impl.Effect{done, not, done}, 2)
	checkCount(t, []impl.Effect{not, done, not}, 1)
	checkCount(t, slices.Repeat([]impl.Effect{done}, impl.MaxActions), impl.MaxActions)
}

// What else is in an effect does not count, nor that it is no effect of an action, nor that there are more than MaxActions.
func TestDoneCountOfAnyEffects(t *testing.T) {
	wrong := []impl.Effect{
		effect(false, nil, storeOf(1, 4)), effect(true, storeOf(-1, -1), nil), effect(true, nil, storeOf(5, 1, 4, 1)),
		effect(false, storeOf(40, -1), storeOf(40, 1)), effect(true, nil, nil), effect(false, nil, storeOf(2, 6)),
	}
	checkCount(t, wrong, 3)
	for _, times := range []int{2, 3, 1000} {
		checkCount(t, slices.Repeat(wrong, times), 3*times)
	}
}

// P42: not more than effects, two parts add up, and as many as are marked.
func TestDoneEffectsAreCounted(t *testing.T) {
	eachSerial(func(s []impl.Entry, list []impl.Action) {
		_, effects := mustRun(t, s, list)
		want := 0
		for _, e := range effects {
			if e.Done {
				want++
			}
		}
		checkCount(t, effects, want)
		for part := range len(effects) + 1 {
			first, second := impl.DoneCount(effects[:part]), impl.DoneCount(effects[part:])
			if first+second != want || first < 0 || first > part || second < 0 || second > len(effects)-part {
				t.Errorf("of %+v %d are done, of the first %d %d, and of the others %d", effects, want, part, first, second)
			}
		}
	})
}

func TestEffectsSumValues(t *testing.T) {
	none, done, writes := impl.Effect{}, impl.Effect{Done: true}, effect(true, nil, storeOf(3, 5))
	checkEffectsSum(t, nil, 21)
	checkEffectsSum(t, []impl.Effect{}, 21)
	checkEffectsSum(t, []impl.Effect{none}, 20102)
	checkEffectsSum(t, []impl.Effect{done}, 20133)
	checkEffectsSum(t, []impl.Effect{writes}, 716401)
	checkEffectsSum(t, []impl.Effect{none, done}, 642644)
	checkEffectsSum(t, []impl.Effect{done, none}, 643574)
	checkEffectsSum(t, []impl.Effect{writes, none}, 227816)
	checkEffectsSum(t, []impl.Effect{none, writes}, 338909)
	checkEffectsSum(t, slices.Repeat([]impl.Effect{none}, impl.MaxActions), 422768)
	checkEffectsSum(t, slices.Repeat([]impl.Effect{done}, impl.MaxActions), 462861)
	_, effects := mustRun(t, storeOf(1, 4), actions(action(impl.ActMove, 1, 2, 3), action(impl.ActCopy, 2, 5, 0), action(impl.ActMove, 1, 2, 3)))
	checkEffectsSum(t, effects, 199635)
}

func TestEffectsSumsAreExact(t *testing.T) {
	eachSerial(func(s []impl.Entry, list []impl.Action) {
		_, effects := mustRun(t, s, list)
		var sums []int
		for _, e := range effects {
			sums = append(sums, closedSum(3, plainNumbers(e)))
		}
		checkEffectsSum(t, effects, closedSum(4, sums))
	})
}

// P43: an effect more, of a run or any other one, as long as there is room for it.
func TestEffectsSumsGoOn(t *testing.T) {
	more := append(sampleEffects()[:25:25], effect(true, nil, storeOf(impl.MaxSummed, impl.MaxSummed)))
	for _, s := range sampleStores() {
		for _, list := range busyActions() {
			_, effects := mustRun(t, s, list)
			for n, e := range effects {
				checkEffectsSum(t, effects[:n+1], impl.SumMore(impl.EffectsSum(effects[:n]), impl.EffectSum(e)))
			}
			for _, e := range more {
				want := -1
				if len(effects) < impl.MaxActions {
					want = impl.SumMore(impl.EffectsSum(effects), impl.EffectSum(e))
				}
				checkEffectsSum(t, append(slices.Clone(effects), e), want)
			}
		}
	}
}

// MaxActions effects have a sum, and one more has none, whatever they are.
func TestEffectsSumsOfMaxActions(t *testing.T) {
	for _, e := range sampleEffects() {
		for _, count := range []int{9, 10, 11, 12, 20, 1000} {
			want := -1
			if count <= 10 {
				want = closedSum(4, slices.Repeat([]int{closedSum(3, plainNumbers(e))}, count))
			}
			checkEffectsSum(t, slices.Repeat([]impl.Effect{e}, count), want)
		}
	}
}

// One effect without a sum, at every place, makes that all have none.
func TestEffectsWithoutSums(t *testing.T) {
	var wrong []impl.Effect
	for _, number := range invalidNumbers() {
		wrong = append(wrong, effect(true, storeOf(number, 0), nil), effect(false, storeOf(0, number), nil), effect(true, nil, storeOf(number, 0)), effect(false, nil, storeOf(1, 4, 2, number)))
	}
	for _, e := range wrong {
		checkEffectSum(t, e, -1)
		for _, count := range []int{1, 2, 3, impl.MaxActions} {
			for place := range count {
				effects := slices.Repeat(sampleEffects()[3:4], count)
				effects[place] = e
				checkEffectsSum(t, effects, -1)
			}
		}
	}
}

// P108: for all keys of every sample store, keys without entries and a key with itself included, and with both keys in either order.
func TestSwappingTwiceChangesNothing(t *testing.T) {
	for _, s := range sampleStores() {
		for a := range impl.MaxKey + 1 {
			for b := range impl.MaxKey + 1 {
				one, other := action(impl.ActSwap, a, b, 0), action(impl.ActSwap, b, a, 0)
				for _, list := range [][]impl.Action{{one, one}, {one, other}} {
					after, effects := mustRun(t, s, list)
					if !slices.Equal(after, s) || impl.DoneCount(effects) != 2 {
						t.Errorf("%+v lead from %v to %v, %+v", list, s, after, effects)
					}
				}
			}
		}
	}
}

// P108, one swap after the other: after the first one the values are exchanged.
func TestSwapsExchangeValues(t *testing.T) {
	s := storeOf(1, 4, 3, 5)
	swap := func(a, b int) []impl.Action { return actions(action(impl.ActSwap, a, b, 0)) }
	checkSerial(t, s, swap(1, 3), storeOf(1, 5, 3, 4), []impl.Effect{effect(true, s, storeOf(1, 5, 3, 4))})
	checkSerial(t, s, swap(3, 2), storeOf(1, 4, 2, 5), []impl.Effect{effect(true, storeOf(3, 5, 2, 0), storeOf(2, 5, 3, 0))})
	checkSerial(t, s, swap(0, 2), s, []impl.Effect{effect(true, storeOf(0, 0, 2, 0), storeOf(0, 0, 2, 0))})
	checkSerial(t, s, swap(3, 3), s, []impl.Effect{effect(true, storeOf(3, 5), storeOf(3, 5))})
	checkSerial(t, nil, swap(7, 7), nil, []impl.Effect{effect(true, storeOf(7, 0), storeOf(7, 0))})
}

// P109: every move that is done; one that is not changes nothing that could be moved back.
func TestMovesCanBeMovedBack(t *testing.T) {
	done, not := 0, 0
	eachRun(func(s []impl.Entry, _ actionRule, a impl.Action) {
		if a.Kind != impl.ActMove {
			return
		}
		after, effects := mustRun(t, s, actions(a))
		if impl.DoneCount(effects) == 0 {
			not++
			checkSerial(t, s, actions(a), s, []impl.Effect{impl.RunAction(s, a)})
			return
		}
		done++
		back := action(impl.ActMove, a.To, a.From, a.Amount)
		both, bothEffects := mustRun(t, s, actions(a, back))
		if !slices.Equal(both, s) || impl.DoneCount(bothEffects) != 2 {
			t.Errorf("%+v and back leads from %v over %v to %v, %+v", a, s, after, both, bothEffects)
		}
	})
	if done < 1000 || not < 1000 {
		t.Errorf("%d moves are done, %d are not", done, not)
	}
}

// P109, over all keys: everything that there is, as far as there is room, and half of it.
func TestMovesOfAllKeysCanBeMovedBack(t *testing.T) {
	for _, s := range sampleStores() {
		for from := range impl.MaxKey + 1 {
			for to := range impl.MaxKey + 1 {
				all := impl.ValueAt(s, from)
				if to != from {
					all = min(all, impl.MaxValue-impl.ValueAt(s, to))
				}
				for _, amount := range []int{0, all / 2, all} {
					list := actions(action(impl.ActMove, from, to, amount), action(impl.ActMove, to, from, amount))
					after, effects := mustRun(t, s, list)
					if !slices.Equal(after, s) || impl.DoneCount(effects) != 2 {
						t.Errorf("%+v lead from %v to %v, %+v", list, s, after, effects)
					}
				}
			}
		}
	}
}

// Nothing over a store that is not valid, for all actions, also if none of them reads anything.
func TestInvalidStoresAreNotRun(t *testing.T) {
	lists := append(busyActions()[:11], actions(action(impl.ActPut, 1, 0, 5)), actions(action(impl.ActSwap, 3, 3, 0)), actions(impl.Action{}))
	for _, s := range invalidStores() {
		for _, list := range lists {
			checkSerial(t, s, list, nil, nil)
		}
	}
}

// Nothing with actions of which one is not valid, the first, the last or any other one, or of which there are too many.
func TestInvalidActionsAreNotRun(t *testing.T) {
	for _, list := range wrongLists() {
		for _, s := range sampleStores() {
			checkSerial(t, s, list, nil, nil)
		}
		checkSerial(t, storeOf(1, 0), list, nil, nil)
	}
	for _, a := range invalidActions() {
		checkSerial(t, storeOf(1, 9, 3, 5), actions(a), nil, nil)
	}
}

// What is written over a store that a run has returned is seen neither in the argument nor in the effects.
func TestStoresOfRunsShareNoMemory(t *testing.T) {
	eachSerial(func(s []impl.Entry, list []impl.Action) {
		store := append(slices.Clone(s), storeOf(40, 40, 41, 41)...)
		given := append(slices.Clone(list), action(40, 40, 40, 40))
		storeBefore, givenBefore := slices.Clone(store), slices.Clone(given)
		after, effects := impl.RunSerial(store[:len(s)], given[:len(list)])
		want, kept := slices.Clone(after), copyEffects(effects)
		spoil(after)
		if !sameEffects(effects, kept) {
			t.Errorf("with the store written over the effects of %+v have become %+v", list, effects)
		}
		if !slices.Equal(store, storeBefore) || !slices.Equal(given, givenBefore) {
			t.Errorf("%v and %+v have become %v and %+v", storeBefore, givenBefore, store, given)
		}
		checkSerial(t, s, list, want, kept)
	})
}

// spoilEffects writes over one effect after the other, and checks that this is not seen in the next ones.
func spoilEffects(t *testing.T, effects []impl.Effect, kept []impl.Effect) {
	t.Helper()
	for n := range effects {
		spoil(effects[n].Reads)
		if !slices.Equal(effects[n].Writes, kept[n].Writes) || !sameEffects(effects[n+1:], kept[n+1:]) {
			t.Errorf("with the reads of effect %d written over the effects are %+v", n, effects)
		}
		spoil(effects[n].Writes)
		if !sameEffects(effects[n+1:], kept[n+1:]) {
			t.Errorf("with the writes of effect %d written over the effects are %+v", n, effects)
		}
	}
}

// What is written over one effect of a run is seen in no other one, nor in the store.
func TestEffectsOfRunsShareNoMemory(t *testing.T) {
	for _, s := range sampleStores() {
		for _, list := range busyActions() {
			store := append(slices.Clone(s), storeOf(40, 40, 41, 41)...)
			after, effects := mustRun(t, store[:len(s)], list)
			want, kept := slices.Clone(after), copyEffects(effects)
			spoilEffects(t, effects, kept)
			if !slices.Equal(after, want) || !slices.Equal(store, append(slices.Clone(s), storeOf(40, 40, 41, 41)...)) {
				t.Errorf("with the effects written over %v leads to %v and %v", s, after, store)
			}
		}
	}
}

// Counting and summing up leave the effects as they are, also those behind them.
func TestEffectsAreLeftAlone(t *testing.T) {
	for _, list := range busyActions() {
		_, effects := mustRun(t, storeOf(1, 4, 3, 9, 31, impl.MaxValue), list)
		backing := append(slices.Clone(effects), effect(true, storeOf(40, 40), storeOf(41, 41)))
		kept := copyEffects(backing)
		impl.DoneCount(backing[:len(list)])
		impl.EffectsSum(backing[:len(list)])
		if !sameEffects(backing, kept) {
			t.Errorf("%+v have become %+v", kept, backing)
		}
	}
}
