package tests

import (
	"fmt"
	"math"
	"slices"
	"testing"

	"loop.example/blockexecutor/impl"
)

// plainStep is an engine after a step by the reference, and whether the step is possible.
func plainStep(e impl.Engine, n int) (impl.Engine, bool) {
	if n < 0 || n >= len(e.Slots) {
		return e, false
	}
	s := e.Slots[n]
	isTried := s.Stage == impl.StageNew && s.Tries < 1000
	isChecked := s.Stage == impl.StageTried && allAreChecked(e.Slots[:n])
	if !isTried && !isChecked {
		return e, false
	}
	return stepped(e, n), true
}

func plainRun(e impl.Engine, script []int) (impl.Engine, int) {
	count := 0
	for _, n := range script {
		after, ok := plainStep(e, n)
		if ok {
			count++
		}
		e = after
	}
	return e, count
}

// plainFinish looks before every step for the first action that is not checked.
func plainFinish(e impl.Engine) (impl.Engine, int) {
	count := 0
	for {
		n := slices.IndexFunc(e.Slots, func(s impl.Slot) bool { return s.Stage != impl.StageChecked })
		if n < 0 {
			return e, count
		}
		e, _ = plainStep(e, n)
		count++
	}
}

func plainTries(e impl.Engine) int {
	tries := 0
	for _, s := range e.Slots {
		tries += s.Tries
	}
	return tries
}

func checkStep(t *testing.T, e impl.Engine, n int, want impl.Engine, wantOK bool) {
	t.Helper()
	if got, ok := impl.EngineStep(e, n); ok != wantOK || !sameEngine(got, want) {
		t.Errorf("EngineStep(%+v, %d) = %+v, %v, want %+v, %v", e, n, got, ok, want, wantOK)
	}
}

// checkSteps checks a step with every action, and with numbers of none, against the reference.
func checkSteps(t *testing.T, e impl.Engine) {
	t.Helper()
	for n := -1; n <= len(e.Slots); n++ {
		want, wantOK := plainStep(e, n)
		checkStep(t, e, n, want, wantOK)
	}
}

func checkEngineRun(t *testing.T, e impl.Engine, script []int, want impl.Engine, wantSteps int) {
	t.Helper()
	if got, steps := impl.EngineRun(e, script); steps != wantSteps || !sameEngine(got, want) {
		t.Errorf("EngineRun(%+v, %v) = %+v, %d, want %+v, %d", e, script, got, steps, want, wantSteps)
	}
}

func checkFinish(t *testing.T, e impl.Engine, want impl.Engine, wantSteps int) {
	t.Helper()
	if got, steps := impl.EngineFinish(e); steps != wantSteps || !sameEngine(got, want) {
		t.Errorf("EngineFinish(%+v) = %+v, %d, want %+v, %d", e, got, steps, want, wantSteps)
	}
}

func checkResult(t *testing.T, e impl.Engine, want []impl.Entry, wantEffects []impl.Effect, wantOK bool) {
	t.Helper()
	if s, effects, ok := impl.EngineResult(e); ok != wantOK || !slices.Equal(s, want) || !sameEffects(effects, wantEffects) {
		t.Errorf("EngineResult(%+v) = %v, %+v, %v, want %v, %+v, %v", e, s, effects, ok, want, wantEffects, wantOK)
	}
}

// checkSerialResult checks that a done engine has the store and the effects of the serial run, by the reference and by RunSerial.
func checkSerialResult(t *testing.T, e impl.Engine) {
	t.Helper()
	after, effects := plainSerial(e.Base, e.List)
	checkResult(t, e, after, effects, true)
	checkSerial(t, e.Base, e.List, after, effects)
}

func checkTries(t *testing.T, e impl.Engine, want int) {
	t.Helper()
	if got := impl.TriesOf(e); got != want {
		t.Errorf("TriesOf(%+v) = %d, want %d", e, got, want)
	}
}

// checkNoEngine checks that each function answers what is no valid engine, whatever the other argument is.
func checkNoEngine(t *testing.T, e impl.Engine) {
	t.Helper()
	checkEngine(t, e, false)
	for n := -1; n <= min(len(e.Slots), impl.MaxActions)+1; n++ {
		checkStep(t, e, n, impl.Engine{}, false)
		checkEngineRun(t, e, []int{n}, impl.Engine{}, -1)
	}
	for _, script := range [][]int{nil, {}, {0, 0, 1}, make([]int, 200), make([]int, 201)} {
		checkEngineRun(t, e, script, impl.Engine{}, -1)
	}
	checkFinish(t, e, impl.Engine{}, -1)
	checkResult(t, e, nil, nil, false)
	checkTries(t, e, -1)
}

// withTries is an engine with other Tries of one action.
func withTries(e impl.Engine, n int, tries int) impl.Engine {
	e = copyEngine(e)
	e.Slots[n].Tries = tries
	return e
}

// allTries is an engine with the same Tries of all actions, but at least once for those that were tried.
func allTries(e impl.Engine, tries int) impl.Engine {
	e = copyEngine(e)
	for n := range e.Slots {
		e.Slots[n].Tries = tries
		if tries == 0 && e.Slots[n].Stage != impl.StageNew {
			e.Slots[n].Tries = 1
		}
	}
	return e
}

func reversed(count int) []int {
	order := inOrder(count)
	slices.Reverse(order)
	return order
}

// noActions are numbers of no action, however many there are.
func noActions() []int {
	return []int{-1, -2, 10, 11, 100, 1 << 32, -1 << 32, math.MinInt, math.MaxInt}
}

// The four actions in an order in which two of them read too early, step by step.
func TestEngineStepValues(t *testing.T) {
	e := impl.EngineOf(storeOf(3, 6, 7, 8), fourActions())
	results := fourResults(impl.StageTried)
	early := triedSlot([]int{-1, -1}, effect(false, storeOf(2, 0, 3, 6), nil))
	earlyCopy := triedSlot([]int{-1}, effect(true, storeOf(1, 0), storeOf(2, 0)))
	stages := func(s impl.Slot, stage int, tries int) impl.Slot { return slot(stage, tries, s.From, s.Result) }
	for i, step := range []struct {
		n        int
		ok       bool
		after    impl.Slot
		versions []impl.Version
	}{
		{2, true, early, nil},
		{1, true, earlyCopy, versionsOf(2, 1, 0)},
		{1, false, earlyCopy, versionsOf(2, 1, 0)},
		{0, true, results[0], versionsOf(1, 0, 5, 2, 1, 0)},
		{1, false, earlyCopy, versionsOf(1, 0, 5, 2, 1, 0)},
		{0, true, stages(results[0], 2, 1), versionsOf(1, 0, 5, 2, 1, 0)},
		{0, false, stages(results[0], 2, 1), versionsOf(1, 0, 5, 2, 1, 0)},
		{1, true, newSlot(1), versionsOf(1, 0, 5)},
		{2, false, early, versionsOf(1, 0, 5)},
		{1, true, stages(results[1], 1, 2), versionsOf(1, 0, 5, 2, 1, 5)},
		{1, true, stages(results[1], 2, 2), versionsOf(1, 0, 5, 2, 1, 5)},
		{2, true, newSlot(1), versionsOf(1, 0, 5, 2, 1, 5)},
		{2, true, stages(results[2], 1, 2), versionsOf(1, 0, 5, 2, 1, 5, 2, 2, 1, 3, 2, 10)},
		{4, false, impl.Slot{}, versionsOf(1, 0, 5, 2, 1, 5, 2, 2, 1, 3, 2, 10)},
		{3, true, results[3], versionsOf(1, 0, 5, 2, 1, 5, 2, 2, 1, 3, 2, 10, 7, 3, 8)},
		{2, true, stages(results[2], 2, 2), versionsOf(1, 0, 5, 2, 1, 5, 2, 2, 1, 3, 2, 10, 7, 3, 8)},
		{3, true, stages(results[3], 2, 1), versionsOf(1, 0, 5, 2, 1, 5, 2, 2, 1, 3, 2, 10, 7, 3, 8)},
	} {
		want := copyEngine(e)
		want.Versions = step.versions
		if step.n < 4 {
			want.Slots[step.n] = step.after
		}
		checkStep(t, e, step.n, want, step.ok)
		if t.Failed() {
			t.Fatalf("step %d is wrong", i)
		}
		e = want
	}
	checkTries(t, e, 6)
	checkEngine(t, e, true)
	checkResult(t, e, storeOf(1, 5, 2, 1, 3, 10, 7, 8), []impl.Effect{results[0].Result, results[1].Result, results[2].Result, results[3].Result}, true)
	checkFinish(t, e, e, 0)
}

// P3, with a step of every action of engines in which anything was tried, in many orders: the engine stays valid, no other action changes its stage, and what is checked stays checked.
func TestEnginesStayValid(t *testing.T) {
	possible, refused := 0, 0
	eachEngine(func(e impl.Engine) {
		checkSteps(t, e)
		for n := range e.Slots {
			after, ok := impl.EngineStep(e, n)
			checkEngine(t, after, true)
			if len(after.Slots) != len(e.Slots) {
				t.Fatalf("after a step %+v is %+v", e, after)
			}
			for other, s := range e.Slots {
				if other != n && !sameSlot(after.Slots[other], s) {
					t.Errorf("a step with %d makes slot %d of %+v to %+v", n, other, e, after.Slots[other])
				}
				if s.Stage == impl.StageChecked && !sameSlot(after.Slots[other], s) {
					t.Errorf("a step with %d changes what is checked in %+v", n, e)
				}
			}
			if ok {
				possible++
			} else {
				refused++
			}
		}
	})
	if possible < 1000 || refused < 1000 {
		t.Errorf("%d steps are possible, %d are not", possible, refused)
	}
}

// eachReachable visits every engine that steps lead to from one in which nothing was tried, as long as no action is tried more often than the limit.
func eachReachable(first impl.Engine, limit int, visit func(e impl.Engine)) {
	seen := map[string]bool{}
	waiting := []impl.Engine{first}
	for len(waiting) > 0 {
		e := waiting[len(waiting)-1]
		waiting = waiting[:len(waiting)-1]
		name := fmt.Sprint(e.Versions, e.Slots)
		if seen[name] {
			continue
		}
		seen[name] = true
		visit(e)
		for n, s := range e.Slots {
			if s.Stage != impl.StageNew || s.Tries < limit {
				after, _ := impl.EngineStep(e, n)
				waiting = append(waiting, after)
			}
		}
	}
}

// P3, P4 and P5, with all orders of steps of few actions: every engine that there can be is valid, ends, and has then the results of the serial run.
func TestAllReachableEngines(t *testing.T) {
	one, two := action(impl.ActPut, 1, 0, 5), action(impl.ActCopy, 1, 2, 0)
	three, four := action(impl.ActAdd, 2, 1, 0), action(impl.ActTake, 1, 0, 3)
	lists := [][]impl.Action{
		nil, actions(one), actions(four), actions(one, two), actions(two, one), actions(one, two, three), actions(three, two, one), actions(one, two, three, four), actions(four, three, two, one),
		actions(action(impl.ActMove, 1, 2, 3), action(impl.ActSwap, 2, 3, 0), action(impl.ActMove, 3, 1, 4), action(impl.ActAdd, 1, 1, 0)),
		chainedActions(4), slices.Repeat(actions(three), 3), slices.Repeat(actions(four), 4), looseLists(3)[0],
	}
	states, done := 0, 0
	for _, s := range [][]impl.Entry{nil, storeOf(0, 7, 1, 4, 2, 3, 3, 1), storeOf(1, impl.MaxValue, 2, 5)} {
		for _, list := range lists {
			eachReachable(newEngine(s, list), 3, func(e impl.Engine) {
				states++
				checkEngine(t, e, true)
				checkSteps(t, e)
				want, steps := plainFinish(e)
				checkFinish(t, e, want, steps)
				checkSerialResult(t, want)
				if steps > 3*len(list) {
					t.Errorf("%+v needs %d steps", e, steps)
				}
				if allAreChecked(e.Slots) {
					done++
					checkSerialResult(t, e)
				}
			})
		}
	}
	if states < 2000 || done < 100 {
		t.Errorf("there are %d engines, and %d of them are done", states, done)
	}
}

// checkEnd checks that an engine comes to an end, with the results of the serial run, and with at most three steps for every action.
func checkEnd(t *testing.T, e impl.Engine) {
	t.Helper()
	want, wantSteps := plainFinish(e)
	checkFinish(t, e, want, wantSteps)
	after, steps := impl.EngineFinish(e)
	checkEngine(t, after, true)
	if !impl.EngineDone(after) || steps > 3*len(e.List) {
		t.Errorf("after %d steps %+v is %+v", steps, e, after)
	}
	checkSerialResult(t, after)
	for n, s := range e.Slots {
		if len(after.Slots) != len(e.Slots) || after.Slots[n].Tries > s.Tries+1 || s.Stage == impl.StageChecked && !sameSlot(after.Slots[n], s) {
			t.Errorf("%+v ends with %+v", e, after)
		}
	}
}

// P4, from engines in which nothing, something or everything was tried, also if they were tried up to 900 times.
func TestEnginesComeToAnEnd(t *testing.T) {
	t.Parallel()
	most := 0
	eachEngine(func(e impl.Engine) {
		checkEnd(t, e)
		checkEnd(t, allTries(e, 900))
		if _, steps := impl.EngineFinish(e); len(e.List) > 0 {
			most = max(most, steps*100/len(e.List))
		}
	})
	// Chained actions that were all tried too early need three steps for every one but the first.
	if most < 250 {
		t.Errorf("the engines need at most %d steps for 100 actions", most)
	}
}

// oddEngines visits valid engines that no steps lead to: with slots that read what nobody wrote, or of another writer, and with any Tries.
func oddEngines(t *testing.T, visit func(e impl.Engine)) {
	t.Helper()
	count := 0
	someEngines(func(e impl.Engine) {
		for n, s := range e.Slots {
			var others []impl.Slot
			for place, read := range s.Result.Reads {
				for _, value := range []int{0, 1, 5, impl.MaxValue} {
					for _, from := range []int{-1, n - 1} {
						reads, writers := slices.Clone(s.Result.Reads), slices.Clone(s.From)
						reads[place], writers[place] = impl.Entry{Key: read.Key, Value: value}, from
						others = append(others, slot(s.Stage, 900, writers, plainEffect(reads, ruleOf(e.List[n].Kind), e.List[n])))
					}
				}
			}
			for _, other := range append(others, newSlot(0), newSlot(900), slot(impl.StageTried, s.Tries, s.From, s.Result)) {
				odd := engine(e.Base, e.List, withSlot(e, n, other))
				if plainEngineValid(odd) && !sameEngine(odd, e) {
					visit(odd)
					count++
				}
			}
		}
	})
	if count < 2000 {
		t.Errorf("there are only %d odd engines", count)
	}
}

// P3 and P4, for engines that are valid, although no steps lead to them.
func TestOddEnginesComeToAnEnd(t *testing.T) {
	t.Parallel()
	oddEngines(t, func(e impl.Engine) {
		checkEnd(t, e)
		checkSteps(t, e)
		for n := range e.Slots {
			after, _ := impl.EngineStep(e, n)
			checkEngine(t, after, true)
		}
		checkTries(t, e, plainTries(e))
		if !impl.EngineDone(e) {
			checkResult(t, e, nil, nil, false)
		}
	})
}

// P5, without EngineFinish: steps with actions in no order, until the engine is done by itself.
func TestResultsAreThoseOfTheSerialRun(t *testing.T) {
	t.Parallel()
	number := 90125
	eachNewEngine(func(e impl.Engine) {
		for range 4 {
			after := impl.EngineOf(e.Base, e.List)
			for step := 0; !impl.EngineDone(after); step++ {
				number = (number*48271 + 11) % 2147483647
				after, _ = impl.EngineStep(after, number/7%len(e.List))
				if step > 100000 {
					t.Fatalf("%+v does not come to an end", e)
				}
			}
			checkSerialResult(t, after)
		}
	})
}

// P5, for lists of any number of actions over all sample stores, without and with trying all of them in reverse order first.
func TestFinishedEnginesHaveSerialResults(t *testing.T) {
	eachSerial(func(s []impl.Entry, list []impl.Action) {
		e := impl.EngineOf(s, list)
		after, steps := impl.EngineFinish(e)
		if steps != 2*len(list) {
			t.Errorf("EngineFinish(%+v) needs %d steps", e, steps)
		}
		checkSerialResult(t, after)
		checkTries(t, after, len(list))
		e, _ = impl.EngineRun(e, reversed(len(list)))
		after, _ = impl.EngineFinish(e)
		checkSerialResult(t, after)
	})
}

// P53: a new engine is valid, done only without actions, and nothing in it was tried.
func TestTriesOfNewEngines(t *testing.T) {
	eachSerial(func(s []impl.Entry, list []impl.Action) {
		e := impl.EngineOf(s, list)
		checkTries(t, e, 0)
		checkEngine(t, e, true)
		if len(list) == 0 {
			checkResult(t, e, s, nil, true)
		} else {
			checkResult(t, e, nil, nil, false)
		}
	})
	checkTries(t, impl.EngineOf(storeOf(1, 0), nil), 0)
}

// P56: a script in two parts, divided at every place, also with numbers of no action in it.
func TestScriptsAreRunStepByStep(t *testing.T) {
	eachNewEngine(func(e impl.Engine) {
		for i, script := range stepScripts(len(e.List)) {
			if i%2 == 0 {
				script = slices.Insert(slices.Clone(script), len(script)/2, -1, len(e.List))
			}
			want, wantSteps := plainRun(e, script)
			checkEngineRun(t, e, script, want, wantSteps)
			for place := range len(script) + 1 {
				first, firstSteps := impl.EngineRun(e, script[:place])
				checkEngineRun(t, first, script[place:], want, wantSteps-firstSteps)
			}
		}
	})
}

// P56, one step after the other by EngineStep.
func TestScriptsDoSteps(t *testing.T) {
	someEngines(func(e impl.Engine) {
		for _, script := range stepScripts(len(e.List)) {
			after, possible := e, 0
			for _, n := range script {
				next, ok := impl.EngineStep(after, n)
				if ok {
					possible++
				}
				after = next
			}
			checkEngineRun(t, e, script, after, possible)
		}
	})
}

// P57: what is not new was tried; a step adds a try exactly if it tries.
func TestTriesAreCounted(t *testing.T) {
	eachEngine(func(e impl.Engine) {
		checkTries(t, e, plainTries(e))
		for n, s := range e.Slots {
			after, ok := impl.EngineStep(e, n)
			want := plainTries(e)
			if ok && s.Stage == impl.StageNew {
				want++
			}
			checkTries(t, after, want)
			for place, other := range after.Slots {
				if other.Stage != impl.StageNew && other.Tries < 1 {
					t.Errorf("slot %d of %+v was never tried", place, after)
				}
			}
		}
	})
	for _, tries := range []int{0, 1, 7, 999, 1000} {
		many := newEngine(nil, slices.Repeat(actions(action(impl.ActPut, 1, 0, 5)), impl.MaxActions))
		checkTries(t, allTries(many, tries), 10*tries)
		checkTries(t, withTries(many, 9, tries), tries)
		checkTries(t, withTries(fourEngine(4), 2, max(tries, 1)), 3+max(tries, 1))
	}
}

// P112: after all actions were tried in reverse order each is tried at most once more, and is checked after at most three steps.
func TestTheWorstOrderIsNotSoBad(t *testing.T) {
	again := 0
	eachNewEngine(func(e impl.Engine) {
		for _, tries := range []int{0, 5, 899} {
			worst, steps := impl.EngineRun(allTries(e, tries), reversed(len(e.List)))
			if steps != len(e.List) {
				t.Errorf("%+v allows %d of %d tries", e, steps, len(e.List))
			}
			checkTries(t, worst, (tries+1)*len(e.List))
			checkEnd(t, worst)
			after, _ := impl.EngineFinish(worst)
			for n, s := range after.Slots {
				if s.Tries < tries+1 || s.Tries > tries+2 {
					t.Errorf("action %d of %+v was tried %d times", n, worst, s.Tries)
				}
				again += s.Tries - tries - 1
			}
		}
	})
	if again < 300 {
		t.Errorf("only %d actions were tried again", again)
	}
	// Chained actions, which all but the first one read too early: three steps for each of them, and one for the first one.
	worst, _ := impl.EngineRun(newEngine(storeOf(0, 7), chainedActions(10)), reversed(10))
	after, steps := impl.EngineFinish(worst)
	if steps != 28 || impl.TriesOf(after) != 19 {
		t.Errorf("%d steps lead to %+v", steps, after)
	}
}

// P113: a done engine stays as it is, with any Tries up to 900; above there is nothing, although it is done.
func TestDoneEnginesStay(t *testing.T) {
	eachNewEngine(func(e impl.Engine) {
		e = finished(e)
		checkFinish(t, e, e, 0)
		checkFinish(t, allTries(e, 900), allTries(e, 900), 0)
		after, _ := impl.EngineFinish(e)
		checkFinish(t, after, e, 0)
		for n := range e.Slots {
			checkFinish(t, withTries(e, n, 899), withTries(e, n, 899), 0)
			checkFinish(t, withTries(e, n, 900), withTries(e, n, 900), 0)
			for _, tries := range []int{901, 902, 999, 1000} {
				checkFinish(t, withTries(e, n, tries), impl.Engine{}, -1)
			}
			checkSteps(t, e)
			checkSerialResult(t, withTries(e, n, 901))
			checkSerialResult(t, withTries(e, n, 1000))
		}
	})
}

// No action may have more than 900 Tries, whatever its stage and its place.
func TestLimitOfTriesToFinish(t *testing.T) {
	for checked := range 5 {
		e := fourEngine(checked)
		for n := range e.Slots {
			for _, tries := range []int{1, 899, 900, 901, 902, 999, 1000} {
				cases := []impl.Engine{withTries(e, n, tries)}
				if n >= checked {
					cases = append(cases, engine(e.Base, e.List, withSlot(e, n, newSlot(tries))))
				}
				for _, given := range cases {
					if tries <= 900 {
						checkEnd(t, given)
					} else {
						checkEngine(t, given, true)
						checkFinish(t, given, impl.Engine{}, -1)
					}
				}
			}
		}
	}
	// The last try is the one above the limit; a new one needs two steps, one that read too early three.
	e := withTries(newEngine(nil, actions(action(impl.ActCopy, 1, 2, 0))), 0, 900)
	result := effect(true, storeOf(1, 0), storeOf(2, 0))
	checkFinish(t, e, engine(nil, e.List, slots(slot(2, 901, []int{-1}, result))), 2)
	early := engine(nil, e.List, slots(slot(1, 900, []int{-1}, effect(true, storeOf(1, 3), storeOf(2, 3)))))
	checkFinish(t, early, engine(nil, e.List, slots(slot(2, 901, []int{-1}, result))), 3)
}

// Without actions there is no step, and the result is there at once.
func TestStepsOfEnginesWithoutActions(t *testing.T) {
	for _, s := range sampleStores() {
		e := impl.Engine{Base: s}
		for _, n := range append(noActions(), 0, 1) {
			checkStep(t, e, n, e, false)
			checkEngineRun(t, e, []int{n, n}, e, 0)
		}
		checkEngineRun(t, e, nil, e, 0)
		checkEngineRun(t, e, make([]int, 200), e, 0)
		checkEngineRun(t, e, make([]int, 201), impl.Engine{}, -1)
		checkFinish(t, e, e, 0)
		checkResult(t, e, s, nil, true)
		checkTries(t, e, 0)
	}
	checkStep(t, impl.Engine{}, 0, impl.Engine{}, false)
	checkFinish(t, impl.Engine{}, impl.Engine{}, 0)
	checkResult(t, impl.Engine{}, nil, nil, true)
	checkTries(t, impl.Engine{}, 0)
}

// One action, from new to checked.
func TestStepsOfOneAction(t *testing.T) {
	for _, s := range fewStores() {
		for _, a := range actions(action(impl.ActPut, 31, 0, 6), action(impl.ActTake, 3, 0, 4), action(impl.ActMove, 1, 3, 2), action(impl.ActAdd, 1, 1, 0), action(impl.ActSwap, 0, 31, 0), action(impl.ActMove, 5, 5, 1)) {
			made := plainEffect(s, ruleOf(a.Kind), a)
			var from []int
			for range made.Reads {
				from = append(from, -1)
			}
			e, after := newEngine(s, actions(a)), engine(s, actions(a), slots(triedSlot(from, made)))
			done := engine(s, actions(a), slots(checkedSlot(from, made)))
			checkStep(t, e, 0, after, true)
			checkStep(t, after, 0, done, true)
			checkStep(t, done, 0, done, false)
			checkEngineRun(t, e, []int{0}, after, 1)
			checkEngineRun(t, e, []int{0, 0}, done, 2)
			checkEngineRun(t, e, []int{0, 1, -1, 0, 0}, done, 2)
			checkFinish(t, e, done, 2)
			checkFinish(t, after, done, 1)
			checkSerialResult(t, done)
		}
	}
}

// MaxActions actions, which all read the one before: the last one is tried and checked as any other.
func TestStepsOfMaxActions(t *testing.T) {
	e := newEngine(storeOf(0, 7), chainedActions(impl.MaxActions))
	want, steps := plainRun(e, slices.Concat(reversed(10), inOrder(10)))
	checkEngineRun(t, e, slices.Concat(reversed(10), inOrder(10)), want, steps)
	checkStep(t, e, 10, e, false)
	var rounds []int
	for range 20 {
		rounds = append(rounds, reversed(10)...)
	}
	want, steps = plainRun(e, rounds)
	checkEngineRun(t, e, rounds, want, steps)
	checkSerialResult(t, finished(e))
	// Each number twice in order leaves nothing to do.
	var twice []int
	for n := range 10 {
		twice = append(twice, n, n)
	}
	checkEngineRun(t, e, twice, finished(e), 20)
	checkFinish(t, e, finished(e), 20)
}

// A number of -1, one behind the last one, and others of no action, whatever the actions are.
func TestStepsWithNoAction(t *testing.T) {
	someEngines(func(e impl.Engine) {
		for _, n := range append(noActions(), len(e.List), len(e.List)+1) {
			checkStep(t, e, n, e, false)
			checkEngineRun(t, e, []int{n}, e, 0)
		}
		checkEngineRun(t, e, append(noActions(), len(e.List)), e, 0)
	})
}

// A tried action waits for the one before it, whether that is new or tried; only that one decides, as those before it are checked then.
func TestTriedActionsWait(t *testing.T) {
	for checked := range 5 {
		e := fourEngine(checked)
		for n := range e.Slots {
			want := copyEngine(e)
			if n == checked {
				want.Slots[n].Stage = impl.StageChecked
			}
			checkStep(t, e, n, want, n == checked)
		}
		for n := checked; n < 4; n++ {
			waiting := engine(e.Base, e.List, withSlot(e, n, newSlot(3)))
			for later := n + 1; later < 4; later++ {
				checkStep(t, waiting, later, waiting, false)
			}
		}
	}
}

// An action that read the value of the store before an earlier one wrote it is new again, with the same Tries, and without its versions.
func TestActionsThatReadTooEarly(t *testing.T) {
	put, copied := action(impl.ActPut, 1, 0, 5), action(impl.ActCopy, 1, 2, 0)
	for _, s := range [][]impl.Entry{nil, storeOf(1, 4), storeOf(1, 5), storeOf(2, 5), storeOf(1, impl.MaxValue, 2, 1)} {
		for _, tries := range []int{1, 2, 500, 1000} {
			e, _ := plainRun(newEngine(s, actions(put, copied)), []int{1, 0, 0})
			e = withTries(e, 1, tries)
			want := engine(s, e.List, slots(checkedSlot(nil, effect(true, nil, storeOf(1, 5))), newSlot(tries)))
			checkStep(t, e, 1, want, true)
			checkEngineRun(t, e, []int{1}, want, 1)
			if !slices.Equal(want.Versions, versionsOf(1, 0, 5)) {
				t.Fatalf("the versions are %v", want.Versions)
			}
		}
	}
	// Tried behind the put, checked or not, it has read what is there.
	for _, script := range [][]int{{0, 1, 0}, {0, 0, 1}} {
		e, _ := impl.EngineRun(newEngine(storeOf(1, 4), actions(put, copied)), script)
		checkStep(t, e, 1, finished(e), true)
	}
}

// The same value from another writer, and another value from the same writer: both are read too early.
func TestWritersAndValuesAreChecked(t *testing.T) {
	put := action(impl.ActPut, 1, 0, 5)
	list := actions(put, put, action(impl.ActCopy, 1, 2, 0))
	e, _ := impl.EngineRun(newEngine(storeOf(1, 5), list), []int{0, 2, 1, 0, 1})
	if !slices.Equal(e.Slots[2].From, []int{0}) {
		t.Fatalf("the copy has read %v", e.Slots[2])
	}
	want := engine(e.Base, list, withSlot(e, 2, newSlot(1)))
	checkStep(t, e, 2, want, true)

	// The copy of the copy has read what the first copy wrote before it was tried again.
	list = actions(put, action(impl.ActCopy, 1, 2, 0), action(impl.ActCopy, 2, 3, 0))
	e, _ = impl.EngineRun(newEngine(nil, list), []int{1, 2, 0, 0, 1, 1, 1})
	if !slices.Equal(e.Slots[2].From, []int{1}) || e.Slots[1].Stage != impl.StageChecked || e.Slots[1].Tries != 2 {
		t.Fatalf("the copies are %+v", e.Slots)
	}
	want = engine(nil, list, withSlot(e, 2, newSlot(1)))
	checkStep(t, e, 2, want, true)

	// If the first copy writes the same value again, the second one has read the right thing.
	e, _ = impl.EngineRun(newEngine(storeOf(1, 5), list), []int{1, 2, 0, 0, 1, 1, 1})
	want = engine(e.Base, list, withSlot(e, 2, slot(2, 1, []int{1}, effect(true, storeOf(2, 5), storeOf(3, 5)))))
	checkStep(t, e, 2, want, true)
}

// Of two keys that are read either one can be read too early, or neither.
func TestEveryReadIsChecked(t *testing.T) {
	for key, want := range map[int]bool{2: false, 3: false, 4: true} {
		for _, kind := range []int{impl.ActMove, impl.ActSwap, impl.ActAdd} {
			list := actions(action(impl.ActPut, key, 0, 6), action(kind, 2, 3, 0))
			e, _ := impl.EngineRun(newEngine(storeOf(2, 6, 3, 6), list), []int{1, 0, 0})
			after, ok := impl.EngineStep(e, 1)
			if !ok || (after.Slots[1].Stage == impl.StageChecked) != want {
				t.Errorf("after a put for key %d the check of kind %d leads to %+v", key, kind, after)
			}
			checkSteps(t, e)
		}
	}
}

// An action that was not done, since it read too early, is done then, and the other way round.
func TestEarlyReadsDecideWhatIsDone(t *testing.T) {
	move := action(impl.ActMove, 1, 2, 4)
	e, _ := impl.EngineRun(newEngine(nil, actions(action(impl.ActPut, 1, 0, 5), move)), []int{1})
	if e.Slots[1].Result.Done || len(e.Versions) != 0 {
		t.Fatalf("the move is done in %+v", e)
	}
	checkEnd(t, e)
	after, _ := impl.EngineFinish(e)
	checkResult(t, after, storeOf(1, 1, 2, 4), []impl.Effect{effect(true, nil, storeOf(1, 5)), effect(true, storeOf(1, 5, 2, 0), storeOf(1, 1, 2, 4))}, true)

	e, _ = impl.EngineRun(newEngine(storeOf(1, 5), actions(action(impl.ActTake, 1, 0, 2), move)), []int{1})
	if !e.Slots[1].Result.Done || !slices.Equal(e.Versions, versionsOf(1, 1, 1, 2, 1, 4)) {
		t.Fatalf("the move is not done in %+v", e)
	}
	after, steps := impl.EngineFinish(e)
	checkResult(t, after, storeOf(1, 3), []impl.Effect{effect(true, storeOf(1, 5), storeOf(1, 3)), effect(false, storeOf(1, 3, 2, 0), nil)}, true)
	if steps != 5 || len(after.Versions) != 1 {
		t.Errorf("%d steps lead to %+v", steps, after)
	}
}

// Writing a key that a later action has read from the store or from an earlier one makes that one read too early; a later writer, or one before the one that was read, does not.
func TestWritesUnderLaterReads(t *testing.T) {
	put := func(amount int) impl.Action { return action(impl.ActPut, 1, 0, amount) }
	list := actions(put(5), put(6), action(impl.ActCopy, 1, 2, 0), put(7))
	for _, c := range []struct {
		tried []int
		from  int
		right bool
	}{
		{[]int{2}, -1, false}, {[]int{0, 2}, 0, false}, {[]int{1, 2}, 1, true}, {[]int{0, 1, 2}, 1, true}, {[]int{3, 2}, -1, false}, {[]int{3, 1, 2}, 1, true}, {[]int{3, 0, 2}, 0, false},
	} {
		e, steps := impl.EngineRun(newEngine(storeOf(1, 9), list), c.tried)
		if steps != len(c.tried) || !slices.Equal(e.Slots[2].From, []int{c.from}) {
			t.Errorf("after %v the copy has read %+v", c.tried, e.Slots[2])
		}
		for _, n := range []int{0, 1, 3} {
			if !slices.Contains(c.tried, n) {
				e, _ = impl.EngineStep(e, n)
			}
		}
		e, steps = impl.EngineRun(e, []int{0, 1, 2})
		if steps != 3 || (e.Slots[2].Stage == impl.StageChecked) != c.right || e.Slots[2].Tries != 1 {
			t.Errorf("after %v the copy is %+v", c.tried, e.Slots[2])
		}
		checkEnd(t, e)
	}
}

// An action does not read its own versions, whether it is tried or checked; actions that read nothing are always right.
func TestActionsDoNotReadTheirOwn(t *testing.T) {
	take := action(impl.ActTake, 1, 0, 2)
	e := newEngine(storeOf(1, 9), actions(take, take))
	checkEngineRun(t, e, []int{0, 0, 1, 1}, engine(e.Base, e.List, slots(
		checkedSlot([]int{-1}, effect(true, storeOf(1, 9), storeOf(1, 7))),
		checkedSlot([]int{0}, effect(true, storeOf(1, 7), storeOf(1, 5))),
	)), 4)
	puts := newEngine(storeOf(1, 9), slices.Repeat(actions(action(impl.ActPut, 1, 0, 5)), 10))
	after, steps := impl.EngineRun(puts, slices.Concat(reversed(10), inOrder(10)))
	if steps != 20 || !impl.EngineDone(after) || impl.TriesOf(after) != 10 {
		t.Errorf("%d steps lead to %+v", steps, after)
	}
}

// Tries 999 and 1000: a new action is tried with 999, and not with 1000; a tried one is checked with both.
func TestStepsAtTheLimitOfTries(t *testing.T) {
	for checked := range 4 {
		e := fourEngine(checked)
		s := e.Slots[checked]
		for _, tries := range []int{998, 999} {
			given := engine(e.Base, e.List, withSlot(e, checked, newSlot(tries)))
			checkStep(t, given, checked, withTries(e, checked, tries+1), true)
		}
		given := engine(e.Base, e.List, withSlot(e, checked, newSlot(1000)))
		checkStep(t, given, checked, given, false)
		checkEngineRun(t, given, slices.Repeat([]int{checked}, 200), given, 0)
		for _, tries := range []int{999, 1000} {
			want := engine(e.Base, e.List, withSlot(e, checked, slot(2, tries, s.From, s.Result)))
			checkStep(t, withTries(e, checked, tries), checked, want, true)
		}
	}
	// A step with the last try, which reads too early; then there is none any more.
	list := actions(action(impl.ActPut, 1, 0, 5), action(impl.ActCopy, 1, 2, 0))
	e := withTries(newEngine(nil, list), 1, 999)
	want := engine(nil, list, slots(checkedSlot(nil, effect(true, nil, storeOf(1, 5))), newSlot(1000)))
	checkEngineRun(t, e, []int{1, 0, 0, 1, 1, 1, 0}, want, 4)
	checkStep(t, want, 1, want, false)
	checkTries(t, want, 1001)
	checkFinish(t, want, impl.Engine{}, -1)
	checkResult(t, want, nil, nil, false)
	// With one try less it comes to an end.
	done := finished(withTries(newEngine(nil, list), 1, 999))
	checkEngineRun(t, withTries(newEngine(nil, list), 1, 998), []int{1, 0, 0, 1, 1, 1}, done, 6)
	checkSerialResult(t, done)
}

// Scripts without steps, of up to 200 steps, also if none of them is possible, and of more, whatever these are.
func TestLengthsOfScripts(t *testing.T) {
	someEngines(func(e impl.Engine) {
		checkEngineRun(t, e, nil, e, 0)
		checkEngineRun(t, e, []int{}, e, 0)
		for _, n := range []int{-1, 0, len(e.List) - 1, len(e.List)} {
			for _, length := range []int{199, 200} {
				script := slices.Repeat([]int{n}, length)
				want, steps := plainRun(e, script)
				checkEngineRun(t, e, script, want, steps)
			}
			for _, length := range []int{201, 202, 1000} {
				checkEngineRun(t, e, slices.Repeat([]int{n}, length), impl.Engine{}, -1)
			}
		}
	})
	// The last step of 200 is done; one more is too much, and nothing is done at all.
	e := newEngine(nil, actions(action(impl.ActPut, 1, 0, 5)))
	script := append(slices.Repeat([]int{-1}, 199), 0)
	checkEngineRun(t, e, script, stepped(e, 0), 1)
	checkEngineRun(t, e, append([]int{-1}, script...), impl.Engine{}, -1)
	checkEngineRun(t, e, append(slices.Clone(script), -1), impl.Engine{}, -1)
}

// The order of a script matters: a step that is not possible yet is lost.
func TestStepsThatAreNotPossibleAreLost(t *testing.T) {
	list := actions(action(impl.ActPut, 1, 0, 5), action(impl.ActPut, 2, 0, 6))
	e := newEngine(nil, list)
	first, second := effect(true, nil, storeOf(1, 5)), effect(true, nil, storeOf(2, 6))
	checkEngineRun(t, e, []int{1, 1, 1}, engine(nil, list, slots(newSlot(0), triedSlot(nil, second))), 1)
	checkEngineRun(t, e, []int{1, 1, 0, 1, 0}, engine(nil, list, slots(checkedSlot(nil, first), triedSlot(nil, second))), 3)
	checkEngineRun(t, e, []int{1, 0, 0, 1, 1}, engine(nil, list, slots(checkedSlot(nil, first), checkedSlot(nil, second))), 4)
}

// Finishing always goes on with the first action that is not checked: what is tried behind it waits.
func TestFinishGoesOnWithTheFirst(t *testing.T) {
	e := newEngine(storeOf(0, 7), chainedActions(3))
	checkFinish(t, e, finished(e), 6)
	// The last one read the value of the store, which it reads too late as well.
	e, _ = impl.EngineRun(e, []int{2})
	after, steps := impl.EngineFinish(e)
	if steps != 7 || !slices.Equal([]int{after.Slots[0].Tries, after.Slots[1].Tries, after.Slots[2].Tries}, []int{1, 1, 2}) {
		t.Errorf("%d steps lead to %+v", steps, after)
	}
}

// Engines that are valid, but not done, have no result, however little is missing.
func TestResultsOfEnginesThatAreNotDone(t *testing.T) {
	eachEngine(func(e impl.Engine) {
		if !allAreChecked(e.Slots) {
			checkResult(t, e, nil, nil, false)
			return
		}
		checkSerialResult(t, e)
		if last := len(e.Slots) - 1; last >= 0 {
			s := copySlot(e.Slots[last])
			s.Stage = impl.StageTried
			checkResult(t, engine(e.Base, e.List, withSlot(e, last, s)), nil, nil, false)
			checkResult(t, engine(e.Base, e.List, withSlot(e, last, newSlot(1))), nil, nil, false)
		}
	})
}

// A result has the last value of every key; a last value of 0 is no entry, and what was not done is left out.
func TestEngineResultValues(t *testing.T) {
	list := actions(action(impl.ActPut, 1, 0, 5), action(impl.ActTake, 1, 0, 5), action(impl.ActMove, 1, 2, 3), action(impl.ActCopy, 4, 1, 0), action(impl.ActCopy, 9, 3, 0))
	e, steps := impl.EngineFinish(impl.EngineOf(storeOf(1, 2, 3, 6, 4, 8), list))
	if steps != 10 {
		t.Errorf("there are %d steps", steps)
	}
	checkResult(t, e, storeOf(1, 8, 4, 8), []impl.Effect{
		effect(true, nil, storeOf(1, 5)), effect(true, storeOf(1, 5), storeOf(1, 0)), effect(false, storeOf(1, 0, 2, 0), nil),
		effect(true, storeOf(4, 8), storeOf(1, 8)), effect(true, storeOf(9, 0), storeOf(3, 0)),
	}, true)
}

// wrongEngines are engines that are not valid, in each way of the chapter on engines, with one thing wrong in an engine in which some actions are checked.
func wrongEngines() []impl.Engine {
	var list []impl.Engine
	for checked := range 5 {
		e := fourEngine(checked)
		for _, s := range [][]impl.Entry{storeOf(3, 0), storeOf(7, 8, 3, 6), storeOf(3, 6, 3, 6), storeOf(3, 6, 7, 8, 32, 1), storeOf(-1, 1, 3, 6, 7, 8), storeOf(3, 6, 7, 8, 9, impl.MaxValue+1)} {
			list = append(list, engine(s, e.List, e.Slots))
		}
		for n := range e.List {
			for _, a := range actions(impl.Action{}, action(7, 1, 0, 0), action(impl.ActPut, 1, 2, 5), action(impl.ActPut, 9, 0, 5), action(impl.ActCopy, 1, 32, 0)) {
				other := copyEngine(e)
				other.List[n] = a
				list = append(list, other)
			}
			list = append(list, engine(e.Base, e.List, slices.Delete(copyEngine(e).Slots, n, n+1)), engine(e.Base, slices.Delete(slices.Clone(e.List), n, n+1), e.Slots))
			for _, s := range otherSlots(e.Slots[n], n) {
				list = append(list, engine(e.Base, e.List, withSlot(e, n, s)), impl.Engine{Base: e.Base, List: e.List, Versions: e.Versions, Slots: withSlot(e, n, s)})
			}
		}
		for i := range e.Versions {
			list = append(list, impl.Engine{Base: e.Base, List: e.List, Slots: e.Slots, Versions: slices.Delete(slices.Clone(e.Versions), i, i+1)})
			list = append(list, impl.Engine{Base: e.Base, List: e.List, Slots: e.Slots, Versions: slices.Insert(slices.Clone(e.Versions), i, e.Versions[i])})
		}
		list = append(list, impl.Engine{Base: e.Base, List: e.List, Slots: e.Slots, Versions: append(slices.Clone(e.Versions), versionsOf(31, 9, 1)...)})
		list = append(list, impl.Engine{Base: e.Base, List: e.List, Slots: append(copyEngine(e).Slots, newSlot(0)), Versions: e.Versions})
	}
	return slices.DeleteFunc(list, plainEngineValid)
}

func TestFunctionsOfInvalidEngines(t *testing.T) {
	list := wrongEngines()
	for _, e := range list {
		checkNoEngine(t, e)
	}
	if len(list) < 2000 {
		t.Errorf("there are only %d engines that are not valid", len(list))
	}
}

// Stores, actions, stages and Tries that are not valid, each with everything else right.
func TestStepsOfInvalidParts(t *testing.T) {
	for _, s := range invalidStores() {
		checkNoEngine(t, impl.Engine{Base: s})
		checkNoEngine(t, newEngine(s, actions(action(impl.ActPut, 1, 0, 5))))
	}
	for _, list := range wrongLists() {
		checkNoEngine(t, newEngine(nil, list))
	}
	for _, a := range invalidActions() {
		checkNoEngine(t, newEngine(storeOf(1, 9), actions(a)))
	}
	one := newEngine(nil, actions(action(impl.ActPut, 1, 0, 5)))
	result := effect(true, nil, storeOf(1, 5))
	for _, tries := range []int{math.MinInt, -1, 1001, 1 << 32, math.MaxInt} {
		checkNoEngine(t, engine(nil, one.List, slots(newSlot(tries))))
		checkNoEngine(t, engine(nil, one.List, slots(slot(1, tries, nil, result))))
		checkNoEngine(t, engine(nil, one.List, slots(slot(2, tries, nil, result))))
	}
	checkNoEngine(t, engine(nil, one.List, slots(slot(1, 0, nil, result))))
	checkNoEngine(t, engine(nil, one.List, slots(slot(2, 0, nil, result))))
	for _, stage := range []int{math.MinInt, -1, 3, 4, 1 << 32, math.MaxInt} {
		checkNoEngine(t, engine(nil, one.List, slots(slot(stage, 1, nil, result))))
	}
	many := slices.Repeat(actions(action(impl.ActPut, 1, 0, 5)), 11)
	checkNoEngine(t, newEngine(nil, many))
	checkNoEngine(t, engine(nil, many, slices.Repeat(slots(checkedSlot(nil, result)), 11)))
}

// spoilEngine writes over everything that an engine reaches.
func spoilEngine(e impl.Engine) {
	spoil(e.Base)
	spoilActions(e.List)
	spoilVersions(e.Versions)
	spoilSlots(e.Slots)
}

// behindSlots are slots with something behind each of their lists, which are as long as before.
func behindSlots(list []impl.Slot) []impl.Slot {
	var roomy []impl.Slot
	for _, s := range list {
		s = copySlot(s)
		s.From = append(s.From, 40, 41)[:len(s.From)]
		s.Result.Reads = append(s.Result.Reads, storeOf(40, 40, 41, 41)...)[:len(s.Result.Reads)]
		s.Result.Writes = append(s.Result.Writes, storeOf(40, 40, 41, 41)...)[:len(s.Result.Writes)]
		roomy = append(roomy, s)
	}
	return append(roomy, newSlot(40), newSlot(41))[:len(list)]
}

// roomyEngine is an engine with something behind all of its lists, which are as long as before.
func roomyEngine(e impl.Engine) impl.Engine {
	e = copyEngine(e)
	e.Base = append(e.Base, storeOf(40, 40, 41, 41)...)[:len(e.Base)]
	e.List = append(e.List, action(40, 40, 40, 40), action(41, 41, 41, 41))[:len(e.List)]
	e.Versions = append(e.Versions, versionsOf(40, 40, 40, 41, 41, 41)...)[:len(e.Versions)]
	e.Slots = behindSlots(e.Slots)
	return e
}

// wholeEngine is an engine with all that is behind its lists.
func wholeEngine(e impl.Engine) string {
	text := fmt.Sprint(e.Base[:cap(e.Base)], e.List[:cap(e.List)], e.Versions[:cap(e.Versions)], e.Slots[:cap(e.Slots)])
	for _, s := range e.Slots {
		text += fmt.Sprint(s.From[:cap(s.From)], s.Result.Reads[:cap(s.Result.Reads)], s.Result.Writes[:cap(s.Result.Writes)])
	}
	return text
}

// checkApart fills every list with a number of its own, the spare capacity included, and checks that none was written over by another one.
func checkApart(t *testing.T, entries [][]impl.Entry, numbers [][]int) {
	t.Helper()
	for i, list := range entries {
		for place := range list[:cap(list)] {
			list[:cap(list)][place] = impl.Entry{Key: i, Value: place}
		}
	}
	for i, list := range numbers {
		for place := range list[:cap(list)] {
			list[:cap(list)][place] = 100*i + place
		}
	}
	for i, list := range entries {
		for place, entry := range list[:cap(list)] {
			if entry != (impl.Entry{Key: i, Value: place}) {
				t.Errorf("list %d shares memory with list %d", i, entry.Key)
			}
		}
	}
	for i, list := range numbers {
		for place, number := range list[:cap(list)] {
			if number != 100*i+place {
				t.Errorf("the writers of %d share memory with those of %d", i, number/100)
			}
		}
	}
}

func checkPartsApart(t *testing.T, e impl.Engine) {
	t.Helper()
	entries, numbers := [][]impl.Entry{e.Base}, [][]int(nil)
	for _, s := range e.Slots {
		entries, numbers = append(entries, s.Result.Reads, s.Result.Writes), append(numbers, s.From)
	}
	checkApart(t, entries, numbers)
}

// engineMakers are all ways to make an engine of another one: steps that are possible or not, scripts, and finishing it.
func engineMakers(e impl.Engine) []func(impl.Engine) impl.Engine {
	var makers []func(impl.Engine) impl.Engine
	run := func(script ...int) {
		makers = append(makers, func(e impl.Engine) impl.Engine {
			after, _ := impl.EngineRun(e, script)
			return after
		})
	}
	for n := -1; n <= len(e.Slots); n++ {
		makers = append(makers, func(e impl.Engine) impl.Engine {
			after, _ := impl.EngineStep(e, n)
			return after
		})
		run(n, n, n-1, n)
	}
	run()
	run(reversed(len(e.Slots))...)
	return append(makers, func(e impl.Engine) impl.Engine {
		after, _ := impl.EngineFinish(e)
		return after
	})
}

// What is written over an engine after steps is not seen in the one before, also not behind its lists, nor in another one, nor the other way round; and no lists of one engine share memory.
func TestSteppedEnginesShareNoMemory(t *testing.T) {
	t.Parallel()
	someEngines(func(e impl.Engine) {
		for i, maker := range engineMakers(e) {
			given := roomyEngine(e)
			before := wholeEngine(given)
			first, second := maker(given), maker(given)
			want := copyEngine(first)
			spoilEngine(second)
			if wholeEngine(given) != before {
				t.Errorf("%s has become %s", before, wholeEngine(given))
			}
			spoilEngine(given)
			if !sameEngine(first, want) {
				t.Errorf("with the argument written over result %d of %+v is %+v, not %+v", i, e, first, want)
			}
			checkPartsApart(t, first)
		}
	})
}

// Results share no memory with the engine that has them, nor with each other.
func TestEngineResultsShareNoMemory(t *testing.T) {
	eachNewEngine(func(e impl.Engine) {
		given := roomyEngine(finished(e))
		before := wholeEngine(given)
		first, firstEffects, _ := impl.EngineResult(given)
		second, secondEffects, _ := impl.EngineResult(given)
		impl.TriesOf(given)
		spoil(second)
		for _, made := range secondEffects {
			spoil(made.Reads)
			spoil(made.Writes)
		}
		if wholeEngine(given) != before {
			t.Errorf("%s has become %s", before, wholeEngine(given))
		}
		spoilEngine(given)
		want, wantEffects := plainSerial(e.Base, e.List)
		if !slices.Equal(first, want) || !sameEffects(firstEffects, wantEffects) {
			t.Errorf("with the engine written over the result of %+v is %v, %+v", e, first, firstEffects)
		}
		lists := [][]impl.Entry{first}
		for _, made := range firstEffects {
			lists = append(lists, made.Reads, made.Writes)
		}
		checkApart(t, lists, nil)
	})
}

// Scripts are left as they are, also what lies behind them.
func TestScriptsAreLeftAlone(t *testing.T) {
	eachNewEngine(func(e impl.Engine) {
		for _, script := range stepScripts(len(e.List)) {
			given := append(slices.Clone(script), 40, 41)
			before := slices.Clone(given)
			impl.EngineRun(e, given[:len(script)])
			if !slices.Equal(given, before) {
				t.Errorf("%v has become %v", before, given)
			}
		}
	})
}
