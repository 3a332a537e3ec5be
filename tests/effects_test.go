package tests

import (
	"slices"
	"testing"

	"loop.example/blockexecutor/impl"
)

func effect(done bool, reads []impl.Entry, writes []impl.Entry) impl.Effect {
	return impl.Effect{Done: done, Reads: reads, Writes: writes}
}

func sameEffect(a impl.Effect, b impl.Effect) bool {
	return a.Done == b.Done && slices.Equal(a.Reads, b.Reads) && slices.Equal(a.Writes, b.Writes)
}

// copyEffect is a copy that shares no memory.
func copyEffect(e impl.Effect) impl.Effect {
	return effect(e.Done, slices.Clone(e.Reads), slices.Clone(e.Writes))
}

// plainAfter are the values after an action, and whether it is done. Each kind does what it says one key after the other, and whether that may be is told by what comes out.
func plainAfter(s []impl.Entry, a impl.Action) (map[int]int, bool) {
	before, after := plainValues(s), plainValues(s)
	done := true
	switch a.Kind {
	case impl.ActPut:
		after[a.From] = a.Amount
	case impl.ActMove:
		after[a.From] -= a.Amount
		after[a.To] += a.Amount
		done = before[a.From] >= a.Amount
	case impl.ActCopy:
		after[a.To] = before[a.From]
	case impl.ActSwap:
		after[a.From], after[a.To] = before[a.To], before[a.From]
	case impl.ActAdd:
		after[a.To] += before[a.From]
	case impl.ActTake:
		after[a.From] -= min(a.Amount, before[a.From])
	}
	for _, value := range after {
		done = done && value >= 0 && value <= 1000000
	}
	if !done {
		return before, false
	}
	return after, true
}

// plainEffect is the effect of a valid action, with the keys that the rule of its kind tells.
func plainEffect(s []impl.Entry, rule actionRule, a impl.Action) impl.Effect {
	before := plainValues(s)
	after, done := plainAfter(s, a)
	e := impl.Effect{Done: done}
	for _, key := range plainKeys(a, rule.reads) {
		e.Reads = append(e.Reads, impl.Entry{Key: key, Value: before[key]})
	}
	if !done {
		return e
	}
	keys := plainKeys(a, rule.writes)
	slices.Sort(keys)
	for _, key := range keys {
		e.Writes = append(e.Writes, impl.Entry{Key: key, Value: after[key]})
	}
	return e
}

// plainNumbers are the numbers that are summed up of an effect.
func plainNumbers(e impl.Effect) []int {
	list := []int{0, len(e.Reads)}
	if e.Done {
		list[0] = 1
	}
	for _, entry := range e.Reads {
		list = append(list, entry.Key, entry.Value)
	}
	for _, entry := range e.Writes {
		list = append(list, entry.Key, entry.Value)
	}
	return list
}

// amountsAround are the edges of amounts for two values: nothing, all that there is, all that there is room for, and one less or more.
func amountsAround(from int, to int) []int {
	var amounts []int
	for _, edge := range []int{0, from, impl.MaxValue - to, impl.MaxValue} {
		for _, amount := range []int{edge - 1, edge, edge + 1} {
			if amount >= 0 && amount <= impl.MaxValue && !slices.Contains(amounts, amount) {
				amounts = append(amounts, amount)
			}
		}
	}
	return amounts
}

// eachRun visits valid actions of every kind over every sample store: among some keys, the edges and the same key twice included, with the amounts around their values.
func eachRun(visit func(s []impl.Entry, rule actionRule, a impl.Action)) {
	keys := []int{0, 1, 3, 16, 31}
	for _, s := range sampleStores() {
		for _, rule := range actionRules() {
			for _, from := range keys {
				for _, to := range keys {
					if rule.noTo {
						to = 0
					}
					amounts := amountsAround(impl.ValueAt(s, from), impl.ValueAt(s, to))
					if rule.noAmount {
						amounts = []int{0}
					}
					for _, amount := range amounts {
						visit(s, rule, action(rule.kind, from, to, amount))
					}
					if rule.noTo {
						break
					}
				}
			}
		}
	}
}

// sampleEffects are effects of actions, and others that no action has: without reads and writes, not done but writing, with all keys, and with the edges of numbers.
func sampleEffects() []impl.Effect {
	top := impl.MaxValue
	effects := []impl.Effect{{}, {Done: true}, {Reads: []impl.Entry{}, Writes: []impl.Entry{}}}
	for _, done := range []bool{false, true} {
		effects = append(effects,
			effect(done, nil, storeOf(3, 5)), effect(done, storeOf(3, 5), nil), effect(done, storeOf(3, 5), storeOf(3, 5)),
			effect(done, nil, storeOf(0, 0)), effect(done, storeOf(0, 0), nil), effect(done, nil, storeOf(0, top, 31, 0)),
			effect(done, storeOf(31, top, 0, 0), storeOf(31, top)), effect(done, storeOf(7, 1, 7, 2), storeOf(1, 0, 2, 0, 30, 4)),
			effect(done, nil, hiding(-1).Writes), effect(done, fullStore(1, 1), fullStore(top, -1)), effect(done, fullStore(1, 0), fullStore(top, 0)))
	}
	s := storeOf(1, 4, 2, 6, 31, top)
	eachValidAction(func(_ actionRule, a impl.Action) {
		if a.From%15 == 1 && (a.To%15 == 1 || a.To == 0) {
			effects = append(effects, impl.RunAction(s, a))
		}
	})
	return effects
}

func checkRun(t *testing.T, s []impl.Entry, a impl.Action, want impl.Effect) {
	t.Helper()
	if got := impl.RunAction(s, a); !sameEffect(got, want) {
		t.Errorf("RunAction(%v, %+v) = %+v, want %+v", s, a, got, want)
	}
}

// checkDone checks a run that is done.
func checkDone(t *testing.T, s []impl.Entry, a impl.Action, reads []impl.Entry, writes []impl.Entry) {
	t.Helper()
	checkRun(t, s, a, effect(true, reads, writes))
}

// checkNotDone checks a run that is not done: it has read, but writes nothing.
func checkNotDone(t *testing.T, s []impl.Entry, a impl.Action, reads []impl.Entry) {
	t.Helper()
	checkRun(t, s, a, effect(false, reads, nil))
	if got := impl.ApplyEffect(s, impl.RunAction(s, a)); !slices.Equal(got, s) {
		t.Errorf("%+v is not done, but makes %v of %v", a, got, s)
	}
}

func checkApply(t *testing.T, s []impl.Entry, e impl.Effect, want []impl.Entry) {
	t.Helper()
	if got := impl.ApplyEffect(s, e); !slices.Equal(got, want) {
		t.Errorf("ApplyEffect(%v, %+v) = %v, want %v", s, e, got, want)
	}
}

func checkEffectSum(t *testing.T, e impl.Effect, want int) {
	t.Helper()
	if got := impl.EffectSum(e); got != want {
		t.Errorf("EffectSum(%+v) = %d, want %d", e, got, want)
	}
}

func TestPutsAreRun(t *testing.T) {
	top := impl.MaxValue
	s := storeOf(1, 4)
	checkDone(t, s, action(impl.ActPut, 1, 0, 9), nil, storeOf(1, 9))
	checkDone(t, s, action(impl.ActPut, 1, 0, 4), nil, storeOf(1, 4))
	checkDone(t, s, action(impl.ActPut, 1, 0, 0), nil, storeOf(1, 0))
	checkDone(t, s, action(impl.ActPut, 5, 0, 0), nil, storeOf(5, 0))
	checkDone(t, nil, action(impl.ActPut, 0, 0, top), nil, storeOf(0, top))
	checkDone(t, nil, action(impl.ActPut, 31, 0, 1), nil, storeOf(31, 1))
}

func TestTakesAreRun(t *testing.T) {
	top := impl.MaxValue
	s := storeOf(0, 1, 1, 4, 31, top)
	checkDone(t, s, action(impl.ActTake, 1, 0, 3), storeOf(1, 4), storeOf(1, 1))
	checkDone(t, s, action(impl.ActTake, 1, 0, 4), storeOf(1, 4), storeOf(1, 0))
	checkDone(t, s, action(impl.ActTake, 1, 0, 5), storeOf(1, 4), storeOf(1, 0))
	checkDone(t, s, action(impl.ActTake, 1, 0, top), storeOf(1, 4), storeOf(1, 0))
	checkDone(t, s, action(impl.ActTake, 1, 0, 0), storeOf(1, 4), storeOf(1, 4))
	checkDone(t, s, action(impl.ActTake, 0, 0, 1), storeOf(0, 1), storeOf(0, 0))
	checkDone(t, s, action(impl.ActTake, 31, 0, top), storeOf(31, top), storeOf(31, 0))
	checkDone(t, s, action(impl.ActTake, 31, 0, 1), storeOf(31, top), storeOf(31, top-1))
	checkDone(t, s, action(impl.ActTake, 5, 0, 7), storeOf(5, 0), storeOf(5, 0))
	checkDone(t, nil, action(impl.ActTake, 5, 0, 0), storeOf(5, 0), storeOf(5, 0))
}

func TestCopiesAreRun(t *testing.T) {
	top := impl.MaxValue
	s := storeOf(1, 4, 2, 6, 3, 4, 31, top)
	checkDone(t, s, action(impl.ActCopy, 1, 2, 0), storeOf(1, 4), storeOf(2, 4))
	checkDone(t, s, action(impl.ActCopy, 2, 1, 0), storeOf(2, 6), storeOf(1, 6))
	checkDone(t, s, action(impl.ActCopy, 1, 3, 0), storeOf(1, 4), storeOf(3, 4))
	checkDone(t, s, action(impl.ActCopy, 5, 1, 0), storeOf(5, 0), storeOf(1, 0))
	checkDone(t, s, action(impl.ActCopy, 1, 1, 0), storeOf(1, 4), storeOf(1, 4))
	checkDone(t, s, action(impl.ActCopy, 5, 5, 0), storeOf(5, 0), storeOf(5, 0))
	checkDone(t, s, action(impl.ActCopy, 31, 0, 0), storeOf(31, top), storeOf(0, top))
	checkDone(t, s, action(impl.ActCopy, 0, 31, 0), storeOf(0, 0), storeOf(31, 0))
	checkDone(t, nil, action(impl.ActCopy, 1, 2, 0), storeOf(1, 0), storeOf(2, 0))
}

func TestSwapsAreRun(t *testing.T) {
	top := impl.MaxValue
	s := storeOf(1, 4, 2, 6, 3, 4, 31, top)
	checkDone(t, s, action(impl.ActSwap, 1, 2, 0), storeOf(1, 4, 2, 6), storeOf(1, 6, 2, 4))
	checkDone(t, s, action(impl.ActSwap, 2, 1, 0), storeOf(2, 6, 1, 4), storeOf(1, 6, 2, 4))
	checkDone(t, s, action(impl.ActSwap, 1, 3, 0), storeOf(1, 4, 3, 4), storeOf(1, 4, 3, 4))
	checkDone(t, s, action(impl.ActSwap, 5, 1, 0), storeOf(5, 0, 1, 4), storeOf(1, 0, 5, 4))
	checkDone(t, s, action(impl.ActSwap, 1, 1, 0), storeOf(1, 4), storeOf(1, 4))
	checkDone(t, s, action(impl.ActSwap, 0, 31, 0), storeOf(0, 0, 31, top), storeOf(0, top, 31, 0))
	checkDone(t, s, action(impl.ActSwap, 31, 31, 0), storeOf(31, top), storeOf(31, top))
	checkDone(t, nil, action(impl.ActSwap, 2, 1, 0), storeOf(2, 0, 1, 0), storeOf(1, 0, 2, 0))
}

func TestAddsAreRun(t *testing.T) {
	top := impl.MaxValue
	s := storeOf(1, 4, 2, 6, 31, top)
	checkDone(t, s, action(impl.ActAdd, 1, 2, 0), storeOf(1, 4, 2, 6), storeOf(2, 10))
	checkDone(t, s, action(impl.ActAdd, 2, 1, 0), storeOf(2, 6, 1, 4), storeOf(1, 10))
	checkDone(t, s, action(impl.ActAdd, 1, 1, 0), storeOf(1, 4), storeOf(1, 8))
	checkDone(t, s, action(impl.ActAdd, 5, 1, 0), storeOf(5, 0, 1, 4), storeOf(1, 4))
	checkDone(t, s, action(impl.ActAdd, 31, 0, 0), storeOf(31, top, 0, 0), storeOf(0, top))
	checkDone(t, s, action(impl.ActAdd, 0, 31, 0), storeOf(0, 0, 31, top), storeOf(31, top))
	checkDone(t, nil, action(impl.ActAdd, 3, 3, 0), storeOf(3, 0), storeOf(3, 0))
	checkNotDone(t, s, action(impl.ActAdd, 31, 1, 0), storeOf(31, top, 1, 4))
	checkNotDone(t, s, action(impl.ActAdd, 1, 31, 0), storeOf(1, 4, 31, top))
	checkNotDone(t, s, action(impl.ActAdd, 31, 31, 0), storeOf(31, top))
}

func TestAddsUpToMaxValue(t *testing.T) {
	exact, above := storeOf(1, 400000, 2, 600000), storeOf(1, 400000, 2, 600001)
	checkDone(t, exact, action(impl.ActAdd, 1, 2, 0), exact, storeOf(2, impl.MaxValue))
	checkNotDone(t, above, action(impl.ActAdd, 1, 2, 0), above)
	half, more := storeOf(1, 500000), storeOf(1, 500001)
	checkDone(t, half, action(impl.ActAdd, 1, 1, 0), half, storeOf(1, impl.MaxValue))
	checkNotDone(t, more, action(impl.ActAdd, 1, 1, 0), more)
}

func TestMovesAreRun(t *testing.T) {
	top := impl.MaxValue
	s := storeOf(1, 4, 2, 6, 31, top)
	checkDone(t, s, action(impl.ActMove, 1, 2, 1), storeOf(1, 4, 2, 6), storeOf(1, 3, 2, 7))
	checkDone(t, s, action(impl.ActMove, 2, 1, 1), storeOf(2, 6, 1, 4), storeOf(1, 5, 2, 5))
	checkDone(t, s, action(impl.ActMove, 1, 2, 0), storeOf(1, 4, 2, 6), storeOf(1, 4, 2, 6))
	checkDone(t, s, action(impl.ActMove, 1, 2, 4), storeOf(1, 4, 2, 6), storeOf(1, 0, 2, 10))
	checkNotDone(t, s, action(impl.ActMove, 1, 2, 5), storeOf(1, 4, 2, 6))
	checkNotDone(t, s, action(impl.ActMove, 2, 1, 7), storeOf(2, 6, 1, 4))
	checkDone(t, s, action(impl.ActMove, 31, 0, top), storeOf(31, top, 0, 0), storeOf(0, top, 31, 0))
	checkDone(t, s, action(impl.ActMove, 31, 1, top-4), storeOf(31, top, 1, 4), storeOf(1, top, 31, 4))
	checkNotDone(t, s, action(impl.ActMove, 31, 1, top-3), storeOf(31, top, 1, 4))
	checkNotDone(t, s, action(impl.ActMove, 1, 31, 1), storeOf(1, 4, 31, top))
	checkDone(t, s, action(impl.ActMove, 1, 31, 0), storeOf(1, 4, 31, top), storeOf(1, 4, 31, top))
	checkNotDone(t, s, action(impl.ActMove, 1, 31, 5), storeOf(1, 4, 31, top))
	checkDone(t, nil, action(impl.ActMove, 2, 1, 0), storeOf(2, 0, 1, 0), storeOf(1, 0, 2, 0))
	checkNotDone(t, nil, action(impl.ActMove, 2, 1, 1), storeOf(2, 0, 1, 0))
}

// It depends on From alone, as nothing is added to what is there.
func TestMovesFromAKeyToItself(t *testing.T) {
	top := impl.MaxValue
	s := storeOf(1, 4, 31, top)
	for _, amount := range []int{0, 1, 3, 4} {
		checkDone(t, s, action(impl.ActMove, 1, 1, amount), storeOf(1, 4), storeOf(1, 4))
	}
	for _, amount := range []int{5, 6, 8, top} {
		checkNotDone(t, s, action(impl.ActMove, 1, 1, amount), storeOf(1, 4))
	}
	for _, amount := range []int{0, 1, top - 1, top} {
		checkDone(t, s, action(impl.ActMove, 31, 31, amount), storeOf(31, top), storeOf(31, top))
	}
	checkDone(t, s, action(impl.ActMove, 0, 0, 0), storeOf(0, 0), storeOf(0, 0))
	checkNotDone(t, s, action(impl.ActMove, 0, 0, 1), storeOf(0, 0))
}

// Both kinds that may not be done, on both sides of the limits.
func TestMovesUpToMaxValue(t *testing.T) {
	s := storeOf(1, 400000, 2, 600000)
	checkDone(t, s, action(impl.ActMove, 1, 2, 400000), s, storeOf(1, 0, 2, impl.MaxValue))
	checkNotDone(t, s, action(impl.ActMove, 1, 2, 400001), s)
	above := storeOf(1, 400001, 2, 600000)
	checkDone(t, above, action(impl.ActMove, 1, 2, 400000), above, storeOf(1, 1, 2, impl.MaxValue))
	checkNotDone(t, above, action(impl.ActMove, 1, 2, 400001), above)
}

// Effects against a reference: the edges of amounts over all sample stores, and all pairs of keys over some.
func TestEffectsAreExact(t *testing.T) {
	t.Parallel()
	eachRun(func(s []impl.Entry, rule actionRule, a impl.Action) {
		checkRun(t, s, a, plainEffect(s, rule, a))
	})
	stores := [][]impl.Entry{nil, fullStore(1, 1), fullStore(impl.MaxValue, -1), sampleStores()[20]}
	eachValidAction(func(rule actionRule, a impl.Action) {
		for _, s := range stores {
			checkRun(t, s, a, plainEffect(s, rule, a))
		}
	})
}

// The runs that the tests visit are of every kind, and of those that may fail both done and not done.
func TestRunsAreDoneAndNotDone(t *testing.T) {
	counts := map[int][2]int{}
	eachRun(func(s []impl.Entry, _ actionRule, a impl.Action) {
		count := counts[a.Kind]
		if impl.RunAction(s, a).Done {
			count[0]++
		} else {
			count[1]++
		}
		counts[a.Kind] = count
	})
	for _, rule := range actionRules() {
		mayFail := rule.kind == impl.ActMove || rule.kind == impl.ActAdd
		if count := counts[rule.kind]; count[0] == 0 || (count[1] > 0) != mayFail {
			t.Errorf("%d runs of the kind %d are done, %d are not", count[0], rule.kind, count[1])
		}
	}
}

// P36: with another value for a key that is not read, the written ones included, and for all of them at once.
func TestOnlyWhatIsReadMatters(t *testing.T) {
	eachRun(func(s []impl.Entry, rule actionRule, a impl.Action) {
		want := impl.RunAction(s, a)
		reads := plainKeys(a, rule.reads)
		all := plainValues(s)
		for key := range impl.MaxKey + 1 {
			if !slices.Contains(reads, key) {
				all[key] = (all[key] + 1000*key + 1) % (impl.MaxValue + 1)
			}
		}
		checkRun(t, plainStore(all), a, want)
		for _, key := range []int{a.From, a.To, 0, 2, 31} {
			if slices.Contains(reads, key) {
				continue
			}
			for _, value := range append(neighbours(impl.ValueAt(s, key)), 0, impl.MaxValue) {
				checkRun(t, mustPut(t, s, key, value), a, want)
			}
		}
	})
}

// What an action reads is enough: over a store of only that it has the same effect.
func TestReadValuesAreEnough(t *testing.T) {
	eachRun(func(s []impl.Entry, _ actionRule, a impl.Action) {
		want := impl.RunAction(s, a)
		checkRun(t, plainStore(plainValues(want.Reads)), a, want)
	})
}

// P37: of those that an action may write, all if it is done, and none otherwise.
func TestOnlyWhatMayBeWrittenChanges(t *testing.T) {
	eachRun(func(s []impl.Entry, _ actionRule, a impl.Action) {
		e := impl.RunAction(s, a)
		var keys []int
		for i, entry := range e.Writes {
			if i > 0 && entry.Key <= keys[i-1] {
				t.Errorf("the keys of %+v do not ascend", e)
			}
			keys = append(keys, entry.Key)
		}
		want := impl.ActionWrites(a)
		if !e.Done {
			want = nil
		}
		if !slices.Equal(keys, want) {
			t.Errorf("RunAction(%v, %+v) = %+v writes %v, want %v", s, a, e, keys, want)
		}
		for _, key := range impl.ChangedKeys(s, impl.ApplyEffect(s, e)) {
			if !slices.Contains(impl.ActionWrites(a), key) {
				t.Errorf("%+v changes key %d of %v", a, key, s)
			}
		}
	})
}

// P38: totals, actions that are not done, and what is read.
func TestActionsKeepTotals(t *testing.T) {
	eachRun(func(s []impl.Entry, _ actionRule, a impl.Action) {
		e := impl.RunAction(s, a)
		after := impl.ApplyEffect(s, e)
		if a.Kind == impl.ActMove || a.Kind == impl.ActSwap {
			if got, want := impl.StoreTotal(after), impl.StoreTotal(s); got != want {
				t.Errorf("%+v changes the total of %v from %d to %d", a, s, want, got)
			}
		}
		if !e.Done && (len(e.Writes) > 0 || !slices.Equal(after, s)) {
			t.Errorf("RunAction(%v, %+v) = %+v makes %v", s, a, e, after)
		}
		var want []impl.Entry
		for _, key := range impl.ActionReads(a) {
			want = append(want, impl.Entry{Key: key, Value: impl.ValueAt(s, key)})
		}
		if !slices.Equal(e.Reads, want) {
			t.Errorf("RunAction(%v, %+v) reads %v, want %v", s, a, e.Reads, want)
		}
	})
}

// All other kinds change the total by what they put, take or add.
func TestActionsChangeTotals(t *testing.T) {
	eachRun(func(s []impl.Entry, _ actionRule, a impl.Action) {
		from, to := impl.ValueAt(s, a.From), impl.ValueAt(s, a.To)
		want := 0
		switch a.Kind {
		case impl.ActPut:
			want = a.Amount - from
		case impl.ActTake:
			want = -min(a.Amount, from)
		case impl.ActCopy:
			want = from - to
		case impl.ActAdd:
			if from+to <= impl.MaxValue {
				want = from
			}
		}
		if got := impl.StoreTotal(impl.ApplyEffect(s, impl.RunAction(s, a))) - impl.StoreTotal(s); got != want {
			t.Errorf("%+v changes the total of %v by %d, want %d", a, s, got, want)
		}
	})
}

// An effect need not be that of an action, nor be done: what it writes is in the store then, and nothing else counts.
func TestApplyEffectValues(t *testing.T) {
	top := impl.MaxValue
	s := storeOf(1, 4, 3, 5)
	for _, done := range []bool{false, true} {
		for _, reads := range [][]impl.Entry{nil, storeOf(1, 9), storeOf(-1, -1, 32, top+1), storeOf(5, 1, 4, 1, 4, 0)} {
			checkApply(t, s, effect(done, reads, nil), s)
			checkApply(t, s, effect(done, reads, []impl.Entry{}), s)
			checkApply(t, s, effect(done, reads, storeOf(1, 4)), s)
			checkApply(t, s, effect(done, reads, storeOf(1, 0)), storeOf(3, 5))
			checkApply(t, s, effect(done, reads, storeOf(1, 0, 3, 0)), nil)
			checkApply(t, s, effect(done, reads, storeOf(2, 0)), s)
			checkApply(t, s, effect(done, reads, storeOf(2, 7, 3, 6)), storeOf(1, 4, 2, 7, 3, 6))
			checkApply(t, s, effect(done, reads, storeOf(0, top, 31, 1)), storeOf(0, top, 1, 4, 3, 5, 31, 1))
			checkApply(t, s, effect(done, reads, hiding(-1).Writes), nil)
			checkApply(t, s, effect(done, reads, fullStore(top, 0)), fullStore(top, 0))
			checkApply(t, nil, effect(done, reads, storeOf(1, 0, 2, 1)), storeOf(2, 1))
			checkApply(t, nil, effect(done, reads, nil), nil)
		}
	}
}

// checkApplied is P39 for one effect: the exact store, every single key, and applying again.
func checkApplied(t *testing.T, s []impl.Entry, e impl.Effect) {
	t.Helper()
	values := plainValues(s)
	for _, entry := range e.Writes {
		values[entry.Key] = entry.Value
	}
	after := impl.ApplyEffect(s, e)
	checkApply(t, s, e, plainStore(values))
	if !impl.StoreValid(after) {
		t.Errorf("ApplyEffect(%v, %+v) = %v, which is not valid", s, e, after)
	}
	for key := range impl.MaxKey + 1 {
		if got := impl.ValueAt(after, key); got != values[key] {
			t.Errorf("after %+v %v has %d for key %d, want %d", e, s, got, key, values[key])
		}
	}
	checkApply(t, after, e, after)
}

// P39 for the effects of actions, over their own store, and for all sample effects over every sample store.
func TestEffectsAreApplied(t *testing.T) {
	eachRun(func(s []impl.Entry, _ actionRule, a impl.Action) {
		e := impl.RunAction(s, a)
		checkApply(t, s, e, impl.ApplyEffect(impl.ApplyEffect(s, e), e))
		after, _ := plainAfter(s, a)
		checkApply(t, s, e, plainStore(after))
	})
	for _, s := range sampleStores() {
		for _, e := range sampleEffects() {
			checkApplied(t, s, e)
		}
	}
}

func TestEffectSumValues(t *testing.T) {
	top := impl.MaxSummed
	checkEffectSum(t, impl.Effect{}, 19444)
	checkEffectSum(t, effect(true, nil, nil), 19475)
	checkEffectSum(t, effect(true, []impl.Entry{}, []impl.Entry{}), 19475)
	checkEffectSum(t, effect(true, nil, storeOf(3, 5)), 715743)
	checkEffectSum(t, effect(false, storeOf(3, 5), nil), 686913)
	checkEffectSum(t, effect(true, storeOf(3, 5), nil), 716704)
	checkEffectSum(t, effect(false, storeOf(1, 4, 2, 0), nil), 984677)
	checkEffectSum(t, effect(true, storeOf(2, 0, 1, 4), storeOf(1, 0, 2, 4)), 839512)
	checkEffectSum(t, effect(true, storeOf(1, 4), storeOf(1, 8)), 690200)
	checkEffectSum(t, effect(true, nil, storeOf(0, 0)), 715645)
	checkEffectSum(t, effect(false, nil, storeOf(0, 0)), 685854)
	checkEffectSum(t, effect(false, storeOf(0, 0), nil), 686815)
	checkEffectSum(t, effect(true, storeOf(0, 0), storeOf(0, 0)), 656526)
	checkEffectSum(t, effect(true, nil, storeOf(top, top)), 715453)
	checkEffectSum(t, effect(true, storeOf(top, 0), storeOf(0, top)), 477774)
}

// Neither keys nor values have to be those of stores, and no keys have to ascend.
func TestEffectSumsAreExact(t *testing.T) {
	effects := sampleEffects()
	for _, list := range sampleLists() {
		pairs := storeOf(list[:len(list)/2*2]...)
		for split := range len(pairs) + 1 {
			effects = append(effects, effect(split%2 == 0, pairs[:split], pairs[split:]))
		}
	}
	for _, e := range effects {
		checkEffectSum(t, e, closedSum(3, plainNumbers(e)))
	}
}

// P40, and both sums are sums.
func TestEffectsHaveSums(t *testing.T) {
	for _, e := range sampleEffects() {
		other := copyEffect(e)
		other.Done = !e.Done
		a, b := impl.EffectSum(e), impl.EffectSum(other)
		if a < 0 || b < 0 || a >= impl.SumBase || b >= impl.SumBase || a == b {
			t.Errorf("%+v has the sum %d, and %d if Done is %v", e, a, b, other.Done)
		}
	}
	eachRun(func(s []impl.Entry, _ actionRule, a impl.Action) {
		e := impl.RunAction(s, a)
		sum := impl.EffectSum(e)
		e.Done = !e.Done
		if other := impl.EffectSum(e); sum < 0 || other < 0 || sum == other {
			t.Errorf("%+v has the sum %d, and %d otherwise", e, other, sum)
		}
	})
}

// An entry counts in another way if it is read or if it is written, and at another place.
func TestEffectSumsTellReadsAndWrites(t *testing.T) {
	sums := map[int]impl.Effect{}
	for _, e := range []impl.Effect{
		{}, effect(false, storeOf(1, 4), nil), effect(false, nil, storeOf(1, 4)), effect(false, storeOf(4, 1), nil), effect(false, nil, storeOf(4, 1)),
		effect(false, storeOf(1, 4, 2, 6), nil), effect(false, storeOf(2, 6, 1, 4), nil), effect(false, storeOf(1, 4), storeOf(2, 6)),
		effect(false, storeOf(2, 6), storeOf(1, 4)), effect(false, nil, storeOf(1, 4, 2, 6)), effect(false, nil, storeOf(2, 6, 1, 4)),
	} {
		sum := impl.EffectSum(e)
		if other, found := sums[sum]; found || sum < 0 {
			t.Errorf("%+v and %+v have the sum %d", e, other, sum)
		}
		sums[sum] = e
	}
}

// P107: over the store itself, and over the store as a layer shows it.
func TestEffectsFitIntoLayers(t *testing.T) {
	eachRun(func(s []impl.Entry, _ actionRule, a impl.Action) {
		e := impl.RunAction(s, a)
		list := mustFork(t, nil, -1)
		for _, entry := range e.Writes {
			list = mustWrite(t, list, 0, entry.Key, entry.Value)
		}
		checkLayerStore(t, s, list, 0, impl.ApplyEffect(s, e))
		if given := []impl.Layer{{Below: -1, Writes: e.Writes}}; !sameLayers(list, given) {
			t.Errorf("written one by one %+v makes the layers %v", e, list)
		}
	})
	for _, s := range sampleStores() {
		list := mustFork(t, nil, -1)
		want := s
		for _, e := range sampleEffects()[:19] {
			top := len(list) - 1
			for _, entry := range e.Writes {
				list = mustWrite(t, list, top, entry.Key, entry.Value)
			}
			want = impl.ApplyEffect(want, e)
			checkLayerStore(t, s, list, top, want)
			list = mustFork(t, list, top)
		}
	}
}

// The zero value for invalid actions, over valid stores and invalid ones.
func TestInvalidActionsHaveNoEffect(t *testing.T) {
	stores := [][]impl.Entry{nil, storeOf(1, 9, 3, 5), fullStore(impl.MaxValue, 0), storeOf(1, 0), storeOf(32, 1)}
	for _, a := range invalidActions() {
		for _, s := range stores {
			checkRun(t, s, a, impl.Effect{})
		}
	}
}

// The zero value over invalid stores, for every kind, also if the action reads nothing, or nothing that is wrong.
func TestInvalidStoresHaveNoEffects(t *testing.T) {
	for _, s := range invalidStores() {
		for _, rule := range actionRules() {
			checkRun(t, s, action(rule.kind, 1, 0, 0), impl.Effect{})
		}
		checkRun(t, s, action(impl.ActMove, 20, 31, 0), impl.Effect{})
		checkRun(t, s, action(impl.ActPut, 31, 0, 5), impl.Effect{})
		for _, e := range []impl.Effect{{}, {Done: true}, effect(true, nil, storeOf(3, 5)), effect(true, nil, fullStore(1, 0)), effect(true, nil, storeOf(32, 0))} {
			checkApply(t, s, e, nil)
		}
	}
}

func TestInvalidWritesAreNotApplied(t *testing.T) {
	for _, s := range sampleStores() {
		for _, writes := range invalidWrites() {
			checkApply(t, s, effect(true, nil, writes), nil)
			checkApply(t, s, effect(false, writes, writes), nil)
		}
	}
}

// One number of an effect that is out of its limits, at every place.
func TestInvalidNumbersOfEffects(t *testing.T) {
	effects := append(sampleEffects()[:25:25], effect(true, slices.Repeat(storeOf(3, 5), 30), slices.Repeat(storeOf(impl.MaxSummed, 0), 30)))
	for _, e := range effects {
		for _, number := range invalidNumbers() {
			for i := range len(e.Reads) + len(e.Writes) {
				checkWrongEntry(t, e, i, func(entry *impl.Entry) { entry.Key = number })
				checkWrongEntry(t, e, i, func(entry *impl.Entry) { entry.Value = number })
			}
		}
	}
}

// checkWrongEntry spoils one entry of an effect, the reads counted before the writes.
func checkWrongEntry(t *testing.T, e impl.Effect, i int, change func(*impl.Entry)) {
	t.Helper()
	other := copyEffect(e)
	if i < len(e.Reads) {
		change(&other.Reads[i])
	} else {
		change(&other.Writes[i-len(e.Reads)])
	}
	checkEffectSum(t, other, -1)
}

// The number of reads is summed up too; that of writes is not.
func TestEffectSumsOfManyEntries(t *testing.T) {
	many := make([]impl.Entry, impl.MaxSummed+1)
	if sum := impl.EffectSum(effect(true, many, nil)); sum != -1 {
		t.Errorf("with %d reads the sum is %d", len(many), sum)
	}
	if sum := impl.EffectSum(effect(true, many[1:], nil)); sum < 0 {
		t.Errorf("with %d reads the sum is %d", len(many)-1, sum)
	}
	if sum := impl.EffectSum(effect(true, nil, many)); sum < 0 {
		t.Errorf("with %d writes the sum is %d", len(many), sum)
	}
}

// What is written over one part of an effect is not seen in the other part, in another effect or in the store.
func TestEffectsShareNoMemory(t *testing.T) {
	eachRun(func(s []impl.Entry, rule actionRule, a impl.Action) {
		want := plainEffect(s, rule, a)
		backing := append(slices.Clone(s), storeOf(40, 40, 41, 41)...)
		argument := backing[:len(s)]
		first, second := impl.RunAction(argument, a), impl.RunAction(argument, a)
		spoil(first.Reads)
		if !slices.Equal(first.Writes, want.Writes) {
			t.Errorf("with its reads written over %+v writes %v", a, first.Writes)
		}
		spoil(first.Writes)
		spoil(second.Writes)
		if !slices.Equal(second.Reads, want.Reads) {
			t.Errorf("with its writes written over %+v reads %v", a, second.Reads)
		}
		if want := append(slices.Clone(s), storeOf(40, 40, 41, 41)...); !slices.Equal(backing, want) {
			t.Errorf("%v has become %v", want, backing)
		}
	})
}

func TestAppliedEffectsShareNoMemory(t *testing.T) {
	for _, s := range sampleStores() {
		for _, e := range append(sampleEffects()[:25:25], effect(true, storeOf(-1, 0), storeOf(5, 1, 4, 1))) {
			store := append(slices.Clone(s), storeOf(40, 40)...)
			reads := append(slices.Clone(e.Reads), storeOf(41, 41)...)
			writes := append(slices.Clone(e.Writes), storeOf(42, 42)...)
			argument := effect(e.Done, reads[:len(e.Reads)], writes[:len(e.Writes)])
			spoil(impl.ApplyEffect(store[:len(s)], argument))
			impl.EffectSum(argument)
			kept := slices.Equal(store, append(slices.Clone(s), storeOf(40, 40)...)) &&
				slices.Equal(reads, append(slices.Clone(e.Reads), storeOf(41, 41)...)) &&
				slices.Equal(writes, append(slices.Clone(e.Writes), storeOf(42, 42)...))
			if !kept {
				t.Errorf("%v with %+v has become %v, %v and %v", s, e, store, reads, writes)
			}
		}
	}
}
