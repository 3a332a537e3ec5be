package tests

import (
	"math"
	"slices"
	"testing"

	"loop.example/blockexecutor/impl"
)

func slot(stage int, tries int, from []int, result impl.Effect) impl.Slot {
	return impl.Slot{Stage: stage, Tries: tries, From: from, Result: result}
}

func newSlot(tries int) impl.Slot { return impl.Slot{Tries: tries} }

func triedSlot(from []int, result impl.Effect) impl.Slot {
	return slot(impl.StageTried, 1, from, result)
}

func checkedSlot(from []int, result impl.Effect) impl.Slot {
	return slot(impl.StageChecked, 1, from, result)
}

func slots(list ...impl.Slot) []impl.Slot { return list }

// engine has exactly the versions of what its slots have written.
func engine(s []impl.Entry, list []impl.Action, slots []impl.Slot) impl.Engine {
	return impl.Engine{Base: s, List: list, Versions: plainVersions(slots), Slots: slots}
}

// plainVersions are the versions of what slots have written, looked for key by key.
func plainVersions(slots []impl.Slot) []impl.Version {
	var list []impl.Version
	for key := range impl.MaxKey + 1 {
		for n, slot := range slots {
			for _, entry := range slot.Result.Writes {
				if entry.Key == key {
					list = append(list, impl.Version{Key: key, By: n, Value: entry.Value})
				}
			}
		}
	}
	return list
}

func copySlot(s impl.Slot) impl.Slot {
	return slot(s.Stage, s.Tries, slices.Clone(s.From), copyEffect(s.Result))
}

// copyEngine is a copy that shares no memory.
func copyEngine(e impl.Engine) impl.Engine {
	other := impl.Engine{Base: slices.Clone(e.Base), List: slices.Clone(e.List), Versions: slices.Clone(e.Versions)}
	for _, s := range e.Slots {
		other.Slots = append(other.Slots, copySlot(s))
	}
	return other
}

func sameSlot(a impl.Slot, b impl.Slot) bool {
	return a.Stage == b.Stage && a.Tries == b.Tries && slices.Equal(a.From, b.From) && sameEffect(a.Result, b.Result)
}

func sameEngine(a impl.Engine, b impl.Engine) bool {
	return slices.Equal(a.Base, b.Base) && slices.Equal(a.List, b.List) && slices.Equal(a.Versions, b.Versions) && slices.EqualFunc(a.Slots, b.Slots, sameSlot)
}

// plainReads are the values that an action of an engine reads now, and who wrote them.
func plainReads(e impl.Engine, n int) ([]impl.Entry, []int) {
	var reads []impl.Entry
	var from []int
	for _, key := range plainKeys(e.List[n], ruleOf(e.List[n].Kind).reads) {
		value, writer := plainRead(e.Base, e.Versions, key, n)
		reads, from = append(reads, impl.Entry{Key: key, Value: value}), append(from, writer)
	}
	return reads, from
}

// plainSlotFits tells whether a slot is one that its action can have, apart from the other slots.
func plainSlotFits(s impl.Slot, n int, a impl.Action) bool {
	if s.Stage == 0 {
		return s.Tries >= 0 && s.Tries <= 1000 && sameSlot(s, newSlot(s.Tries))
	}
	if s.Stage != 1 && s.Stage != 2 || s.Tries < 1 || s.Tries > 1000 || len(s.From) != len(s.Result.Reads) {
		return false
	}
	for i, read := range s.Result.Reads {
		if read.Value < 0 || read.Value > 1000000 || s.From[i] < -1 || s.From[i] >= n {
			return false
		}
	}
	return sameEffect(s.Result, plainEffect(s.Result.Reads, ruleOf(a.Kind), a))
}

// plainEngineValid goes through the rules one after the other, and looks at all slots for each of them.
func plainEngineValid(e impl.Engine) bool {
	if !impl.StoreValid(e.Base) || !impl.ActionsValid(e.List) || len(e.Slots) != len(e.List) {
		return false
	}
	for n, s := range e.Slots {
		if !plainSlotFits(s, n, e.List[n]) {
			return false
		}
	}
	if !slices.Equal(e.Versions, plainVersions(e.Slots)) {
		return false
	}
	for n, s := range e.Slots {
		reads, from := plainReads(e, n)
		isNow := slices.Equal(s.Result.Reads, reads) && slices.Equal(s.From, from)
		if s.Stage == 2 && (!allAreChecked(e.Slots[:n]) || !isNow) {
			return false
		}
	}
	return true
}

func allAreChecked(slots []impl.Slot) bool {
	return !slices.ContainsFunc(slots, func(s impl.Slot) bool { return s.Stage != impl.StageChecked })
}

func newEngine(s []impl.Entry, list []impl.Action) impl.Engine {
	return engine(s, list, make([]impl.Slot, len(list)))
}

// stepped is an engine in which an action was tried, or checked, if that is possible.
func stepped(e impl.Engine, n int) impl.Engine {
	e = copyEngine(e)
	s := &e.Slots[n]
	reads, from := plainReads(e, n)
	switch {
	case s.Stage == impl.StageNew:
		*s = slot(impl.StageTried, s.Tries+1, from, plainEffect(reads, ruleOf(e.List[n].Kind), e.List[n]))
	case s.Stage == impl.StageTried && allAreChecked(e.Slots[:n]):
		if slices.Equal(s.Result.Reads, reads) && slices.Equal(s.From, from) {
			s.Stage = impl.StageChecked
		} else {
			*s = newSlot(s.Tries)
		}
	}
	e.Versions = plainVersions(e.Slots)
	return e
}

func steppedBy(e impl.Engine, script []int) impl.Engine {
	for _, n := range script {
		e = stepped(e, n)
	}
	return e
}

// finished is an engine after steps with the first action that is not checked, until all are.
func finished(e impl.Engine) impl.Engine {
	for n := range e.Slots {
		for e.Slots[n].Stage != impl.StageChecked {
			e = stepped(e, n)
		}
	}
	return e
}

// stepScripts are numbers of so many actions to step with: none, each once in both orders, each twice, some of them, and others in no order.
func stepScripts(count int) [][]int {
	each, reverse, twice := inOrder(count), inOrder(count), inOrder(2*count)
	slices.Reverse(reverse)
	for i := range twice {
		twice[i] /= 2
	}
	scripts := [][]int{nil, each, reverse, twice, slices.Concat(reverse, each), slices.Concat(reverse, each, each), twice[:count], reverse[:count/2], slices.Concat(twice[:count], reverse[:count/3])}
	// A fixed sequence of numbers, so that every run checks the same.
	number := 3371
	for length := 2; length <= 32 && count > 0; length *= 2 {
		var script []int
		for range length {
			number = (number*48271 + 11) % 2147483647
			script = append(script, number/7%count)
		}
		scripts = append(scripts, script)
	}
	return scripts
}

// engineStores are the stores of the sample engines: some of the sample stores, so that every engine can be spoilt.
func engineStores() [][]impl.Entry {
	return [][]impl.Entry{nil, storeOf(1, 9, 3, 5), storeOf(0, 500000, 3, impl.MaxValue, 31, 4), fullStore(impl.MaxValue, -1)}
}

// engineLists are the actions of the sample engines: of any number, with few and many conflicts.
func engineLists() [][]impl.Action {
	lists := [][]impl.Action{actions(action(impl.ActPut, 31, 0, impl.MaxValue)), actions(action(impl.ActMove, 3, 3, 5)), chainedActions(4), chainedActions(impl.MaxActions)}
	lists = append(lists, looseLists(3)...)
	lists = append(lists, tightLists(5)...)
	return append(lists, busyActions()[:22]...)
}

// eachNewEngine visits the sample engines before anything was tried.
func eachNewEngine(visit func(e impl.Engine)) {
	for _, s := range engineStores() {
		for _, list := range engineLists() {
			visit(newEngine(s, list))
		}
	}
}

// eachEngine visits valid engines, in which nothing, something or everything was tried and checked.
func eachEngine(visit func(e impl.Engine)) {
	eachNewEngine(func(e impl.Engine) {
		for _, script := range stepScripts(len(e.List)) {
			visit(steppedBy(e, script))
		}
		visit(finished(e))
	})
}

// someEngines visits every seventh of those engines, so that much can be tried with each of them. No stores, actions or scripts are left out.
func someEngines(visit func(e impl.Engine)) {
	count := 0
	eachEngine(func(e impl.Engine) {
		if count%7 == 0 {
			visit(e)
		}
		count++
	})
}

func checkEngine(t *testing.T, e impl.Engine, want bool) {
	t.Helper()
	if got := impl.EngineValid(e); got != want {
		t.Errorf("EngineValid(%+v) = %v", e, got)
	}
	wantDone := want && allAreChecked(e.Slots)
	if got := impl.EngineDone(e); got != wantDone {
		t.Errorf("EngineDone(%+v) = %v", e, got)
	}
}

func checkEngineOf(t *testing.T, s []impl.Entry, list []impl.Action, want impl.Engine) {
	t.Helper()
	if got := impl.EngineOf(s, list); !sameEngine(got, want) {
		t.Errorf("EngineOf(%v, %+v) = %+v, want %+v", s, list, got, want)
	}
}

// checkSlots checks an engine whose versions are those of the slots, whatever these are, so that the slots alone decide.
func checkSlots(t *testing.T, e impl.Engine, slots []impl.Slot, want bool) {
	t.Helper()
	checkEngine(t, engine(e.Base, e.List, slots), want)
}

// withSlot are the slots of an engine with another one at a place.
func withSlot(e impl.Engine, n int, s impl.Slot) []impl.Slot {
	list := copyEngine(e).Slots
	list[n] = s
	return list
}

// fourActions are a put that reads no key, a copy of what it wrote, a move that reads two keys, of which one is the copied one, and a swap of a key with itself.
func fourActions() []impl.Action {
	return actions(action(impl.ActPut, 1, 0, 5), action(impl.ActCopy, 1, 2, 0), action(impl.ActMove, 2, 3, 4), action(impl.ActSwap, 7, 7, 0))
}

// fourResults are their slots, in the order of the actions, over the store 3: 6, 7: 8.
func fourResults(stage int) []impl.Slot {
	return slots(
		slot(stage, 1, nil, effect(true, nil, storeOf(1, 5))),
		slot(stage, 1, []int{0}, effect(true, storeOf(1, 5), storeOf(2, 5))),
		slot(stage, 1, []int{1, -1}, effect(true, storeOf(2, 5, 3, 6), storeOf(2, 1, 3, 10))),
		slot(stage, 1, []int{-1}, effect(true, storeOf(7, 8), storeOf(7, 8))),
	)
}

// fourEngine has those actions, of which so many are checked, and the others tried.
func fourEngine(checked int) impl.Engine {
	list := append(fourResults(impl.StageChecked)[:checked], fourResults(impl.StageTried)[checked:]...)
	return engine(storeOf(3, 6, 7, 8), fourActions(), list)
}

func TestEngineOfValues(t *testing.T) {
	s, put := storeOf(1, 4), action(impl.ActPut, 1, 0, 5)
	checkEngineOf(t, s, actions(put), impl.Engine{Base: s, List: actions(put), Slots: slots(impl.Slot{})})
	checkEngineOf(t, nil, actions(put, put), impl.Engine{List: actions(put, put), Slots: make([]impl.Slot, 2)})
	checkEngineOf(t, s, nil, impl.Engine{Base: s})
	checkEngineOf(t, nil, nil, impl.Engine{})
	full := slices.Repeat(actions(put), impl.MaxActions)
	checkEngineOf(t, fullStore(1, 1), full, impl.Engine{Base: fullStore(1, 1), List: full, Slots: make([]impl.Slot, 10)})
}

// P53, as far as it does not count tries: the new engine is valid, and done only without actions; every slot is the zero value.
func TestNewEnginesHaveTriedNothing(t *testing.T) {
	eachSerial(func(s []impl.Entry, list []impl.Action) {
		checkEngineOf(t, s, list, newEngine(s, list))
		e := impl.EngineOf(s, list)
		checkEngine(t, e, true)
		if impl.EngineDone(e) != (len(list) == 0) {
			t.Errorf("EngineDone(%+v) = %v", e, impl.EngineDone(e))
		}
	})
}

// Engines without actions are done over every store, whatever kind of nothing their lists are, and have no slot and no version.
func TestEnginesWithoutActions(t *testing.T) {
	checkEngine(t, impl.Engine{}, true)
	for _, s := range sampleStores() {
		checkEngineOf(t, s, nil, impl.Engine{Base: s})
		checkEngineOf(t, s, []impl.Action{}, impl.Engine{Base: s})
		checkEngine(t, impl.EngineOf(s, nil), true)
		checkEngine(t, impl.Engine{Base: s, List: []impl.Action{}, Versions: []impl.Version{}, Slots: []impl.Slot{}}, true)
		for _, more := range append(fourResults(impl.StageChecked), newSlot(0), newSlot(1), triedSlot(nil, impl.Effect{})) {
			checkEngine(t, engine(s, nil, slots(more)), false)
		}
		for _, list := range [][]impl.Version{versionsOf(0, 0, 0), versionsOf(3, 4, 5), fullVersions(1, 1)} {
			checkEngine(t, impl.Engine{Base: s, Versions: list}, false)
		}
	}
	for _, s := range invalidStores() {
		checkEngine(t, impl.Engine{Base: s}, false)
	}
}

func TestInvalidArgumentsHaveNoEngine(t *testing.T) {
	for _, s := range invalidStores() {
		for _, list := range [][]impl.Action{nil, busyActions()[1], busyActions()[10], actions(impl.Action{})} {
			checkEngineOf(t, s, list, impl.Engine{})
		}
	}
	for _, list := range wrongLists() {
		for _, s := range fewStores() {
			checkEngineOf(t, s, list, impl.Engine{})
		}
	}
	for _, a := range invalidActions() {
		checkEngineOf(t, storeOf(1, 9), actions(a), impl.Engine{})
	}
}

// Engines in which one action more is checked each time, up to the one that is done.
func TestEngineValidValues(t *testing.T) {
	e := impl.EngineOf(storeOf(3, 6, 7, 8), fourActions())
	checkEngine(t, e, true)
	for checked := range 5 {
		e = fourEngine(checked)
		checkEngine(t, e, true)
		if impl.EngineDone(e) != (checked == 4) {
			t.Errorf("with %d checked actions EngineDone is %v", checked, impl.EngineDone(e))
		}
		for n := range 4 {
			checkSlots(t, e, withSlot(e, n, newSlot(7)), n >= checked-1)
		}
	}
	e = fourEngine(1)
	want := versionsOf(1, 0, 5, 2, 1, 5, 2, 2, 1, 3, 2, 10, 7, 3, 8)
	if !slices.Equal(e.Versions, want) {
		t.Fatalf("the versions are %v, not %v", e.Versions, want)
	}
}

// A tried action may have read too early, also what nobody has written, and by whom it was not written; checked it may not.
func TestTriedActionsMayHaveReadTooEarly(t *testing.T) {
	e := fourEngine(1)
	for _, early := range []impl.Slot{
		triedSlot([]int{-1}, effect(true, storeOf(1, 0), storeOf(2, 0))),
		triedSlot([]int{0}, effect(true, storeOf(1, 0), storeOf(2, 0))),
		triedSlot([]int{-1}, effect(true, storeOf(1, 5), storeOf(2, 5))),
		triedSlot([]int{0}, effect(true, storeOf(1, 77), storeOf(2, 77))),
	} {
		checkSlots(t, e, withSlot(e, 1, early), true)
		early.Stage = impl.StageChecked
		checkSlots(t, e, withSlot(e, 1, early), false)
	}
	e = fourEngine(2)
	for _, from := range [][]int{{-1, -1}, {0, 0}, {1, 1}, {0, 1}, {1, 0}, {-1, 1}} {
		for _, reads := range [][]impl.Entry{storeOf(2, 5, 3, 6), storeOf(2, 4, 3, 0), storeOf(2, impl.MaxValue, 3, 9)} {
			result := effect(true, reads, storeOf(2, reads[0].Value-4, 3, reads[1].Value+4))
			checkSlots(t, e, withSlot(e, 2, triedSlot(from, result)), true)
			checkSlots(t, e, withSlot(e, 2, checkedSlot(from, result)), false)
		}
	}
}

// An action that is not done has read, but has no versions; if its result has some nevertheless, or is said to be done, it is not valid.
func TestActionsThatAreNotDoneHaveNoVersions(t *testing.T) {
	list := actions(action(impl.ActMove, 1, 2, 5), action(impl.ActAdd, 3, 4, 0), action(impl.ActCopy, 2, 6, 0))
	s := storeOf(1, 4, 3, 9, 4, impl.MaxValue)
	for _, stage := range []int{impl.StageTried, impl.StageChecked} {
		move := slot(stage, 1, []int{-1, -1}, effect(false, storeOf(1, 4, 2, 0), nil))
		add := slot(stage, 1, []int{-1, -1}, effect(false, storeOf(3, 9, 4, impl.MaxValue), nil))
		copied := slot(stage, 1, []int{-1}, effect(true, storeOf(2, 0), storeOf(6, 0)))
		e := engine(s, list, slots(move, add, copied))
		checkEngine(t, e, true)
		if !slices.Equal(e.Versions, versionsOf(6, 2, 0)) {
			t.Fatalf("the versions are %v", e.Versions)
		}
		move.Result = effect(true, storeOf(1, 4, 2, 0), nil)
		checkSlots(t, e, withSlot(e, 0, move), false)
		move.Result = effect(false, storeOf(1, 4, 2, 0), storeOf(1, 4, 2, 0))
		checkSlots(t, e, withSlot(e, 0, move), false)
		move.Result = effect(true, storeOf(1, 4, 2, 0), storeOf(1, 0, 2, 4))
		checkSlots(t, e, withSlot(e, 0, move), false)
		add.Result = effect(false, storeOf(3, 9, 4, impl.MaxValue), storeOf(4, impl.MaxValue))
		checkSlots(t, e, withSlot(e, 1, add), false)
	}
}

// From a key to itself: each kind that reads it has it once, and its writer once.
func TestSlotsOfActionsFromAKeyToItself(t *testing.T) {
	for _, stage := range []int{impl.StageTried, impl.StageChecked} {
		for kind, want := range map[int]impl.Effect{
			impl.ActMove: effect(true, storeOf(5, 8), storeOf(5, 8)), impl.ActCopy: effect(true, storeOf(5, 8), storeOf(5, 8)),
			impl.ActSwap: effect(true, storeOf(5, 8), storeOf(5, 8)), impl.ActAdd: effect(true, storeOf(5, 8), storeOf(5, 16)),
		} {
			e := newEngine(storeOf(5, 8), actions(action(kind, 5, 5, 0)))
			checkSlots(t, e, slots(slot(stage, 1, []int{-1}, want)), true)
			checkSlots(t, e, slots(slot(stage, 1, []int{-1, -1}, want)), false)
			twice := effect(true, append(storeOf(5, 8), want.Reads...), want.Writes)
			checkSlots(t, e, slots(slot(stage, 1, []int{-1, -1}, twice)), false)
			twice = effect(true, want.Reads, append(storeOf(5, 8), want.Writes...))
			checkSlots(t, e, slots(slot(stage, 1, []int{-1}, twice)), false)
		}
	}
	e := newEngine(storeOf(5, 8), actions(action(impl.ActMove, 5, 5, 9)))
	checkSlots(t, e, slots(checkedSlot([]int{-1}, effect(false, storeOf(5, 8), nil))), true)
	checkSlots(t, e, slots(checkedSlot([]int{-1}, effect(true, storeOf(5, 8), storeOf(5, 8)))), false)
}

// MaxActions actions, of which each reads what the one directly before it wrote.
func TestEnginesOfMaxActions(t *testing.T) {
	list := chainedActions(impl.MaxActions)
	var chained []impl.Slot
	for n := range list {
		chained = append(chained, checkedSlot([]int{n - 1}, effect(true, storeOf(n, 7), storeOf(n+1, 7))))
	}
	e := engine(storeOf(0, 7), list, chained)
	checkEngine(t, e, true)
	for n := range list {
		for _, from := range []int{-2, -1, 0, n - 2, n - 1, n, n + 1, 9, 10} {
			other := withSlot(e, n, checkedSlot([]int{from}, chained[n].Result))
			checkSlots(t, e, other, from == n-1)
			for i := n; i < len(other); i++ {
				other[i].Stage = impl.StageTried
			}
			checkSlots(t, e, other, from >= -1 && from < n)
		}
	}
	// A slot more for an action more, which is one too many.
	e.List = append(slices.Clone(e.List), action(impl.ActPut, 20, 0, 1))
	checkSlots(t, e, append(slices.Clone(chained), newSlot(0)), false)
	checkSlots(t, e, append(slices.Clone(chained), triedSlot(nil, effect(true, nil, storeOf(20, 1)))), false)
	checkSlots(t, e, chained, false)
}

// The sample engines are valid, and done exactly if everything in them is checked; they are of all sorts.
func TestSteppedEnginesAreValid(t *testing.T) {
	untouched, tried, done, mixed, early, again := 0, 0, 0, 0, 0, 0
	eachEngine(func(e impl.Engine) {
		checkEngine(t, e, true)
		if !plainEngineValid(e) {
			t.Errorf("%+v is not valid", e)
		}
		stages := [3]int{}
		for n, s := range e.Slots {
			stages[s.Stage]++
			if _, from := plainReads(e, n); s.Stage == impl.StageTried && !slices.Equal(from, s.From) {
				early++
			}
			if s.Stage == impl.StageNew && s.Tries > 0 {
				again++
			}
		}
		switch {
		case stages[0] == len(e.Slots):
			untouched++
		case stages[1] == len(e.Slots):
			tried++
		case stages[2] == len(e.Slots):
			done++
		case stages[0] > 0 && stages[1] > 0 && stages[2] > 0:
			mixed++
		}
	})
	if untouched < 100 || tried < 100 || done < 100 || mixed < 100 || early < 100 || again < 100 {
		t.Errorf("%d engines are untouched, %d tried, %d done and %d mixed; %d actions read too early, %d are to be tried again", untouched, tried, done, mixed, early, again)
	}
}

// P55: a done engine has only checked actions, and with one of them tried or new it is not done any more.
func TestDoneEnginesAreDone(t *testing.T) {
	t.Parallel()
	eachEngine(func(e impl.Engine) {
		if impl.EngineDone(e) != allAreChecked(e.Slots) {
			t.Errorf("EngineDone(%+v) = %v", e, impl.EngineDone(e))
		}
		e = finished(e)
		checkEngine(t, e, true)
		if !impl.EngineDone(e) {
			t.Errorf("%+v is not done", e)
		}
		for n := range e.Slots {
			last := n == len(e.Slots)-1
			s := copySlot(e.Slots[n])
			s.Stage = impl.StageTried
			checkSlots(t, e, withSlot(e, n, s), last)
			checkSlots(t, e, withSlot(e, n, newSlot(s.Tries)), last)
		}
	})
}

// P55: the slots of a done engine have the effects of the serial run, and the versions leave its store.
func TestDoneEnginesHaveSerialRuns(t *testing.T) {
	eachSerial(func(s []impl.Entry, list []impl.Action) {
		after, effects := mustRun(t, s, list)
		var done []impl.Slot
		for n, e := range effects {
			var from []int
			for _, read := range e.Reads {
				from = append(from, lastWriter(effects, read.Key, n))
			}
			done = append(done, checkedSlot(from, e))
		}
		e := engine(s, list, done)
		checkEngine(t, e, true)
		checkLast(t, s, e.Versions, after)
		if !impl.EngineDone(e) {
			t.Errorf("EngineDone(%+v) is false", e)
		}
	})
}

// P54: a version more, of any key and any action, with the edges of values, in its place and at the end.
func TestVersionsMoreAreInvalid(t *testing.T) {
	t.Parallel()
	someEngines(func(e impl.Engine) {
		full := len(e.List) == impl.MaxActions
		for key := range impl.MaxKey + 1 {
			for by := range impl.MaxActions {
				// All keys and actions for the largest engines, and some for all others.
				if !full && (key*7+by)%5 > 0 {
					continue
				}
				for _, value := range []int{0, 5, impl.MaxValue} {
					more := impl.Version{Key: key, By: by, Value: value}
					place := len(e.Versions)
					for place > 0 && (e.Versions[place-1].Key > key || e.Versions[place-1].Key == key && e.Versions[place-1].By > by) {
						place--
					}
					other := e
					other.Versions = slices.Insert(slices.Clone(e.Versions), place, more)
					checkEngine(t, other, false)
					other.Versions = append(slices.Clone(e.Versions), more)
					checkEngine(t, other, false)
				}
			}
		}
	})
}

// P54: any other versions than those of the results: one twice, one less, one changed in a number, two exchanged, and none.
func TestOtherVersionsAreInvalid(t *testing.T) {
	t.Parallel()
	eachEngine(func(e impl.Engine) {
		if len(e.Versions) > 0 {
			checkEngine(t, impl.Engine{Base: e.Base, List: e.List, Slots: e.Slots}, false)
		}
		for i, old := range e.Versions {
			other := e
			other.Versions = slices.Insert(slices.Clone(e.Versions), i, old)
			checkEngine(t, other, false)
			other.Versions = append(slices.Clone(e.Versions), old)
			checkEngine(t, other, false)
			other.Versions = slices.Delete(slices.Clone(e.Versions), i, i+1)
			checkEngine(t, other, false)
			for _, change := range [][3]int{{1, 0, 0}, {-1, 0, 0}, {0, 1, 0}, {0, -1, 0}, {0, 10, 0}, {0, 0, 1}, {0, 0, -1}, {0, 0, impl.MaxValue + 1}, {32, 0, 0}} {
				other.Versions = slices.Clone(e.Versions)
				other.Versions[i] = impl.Version{Key: old.Key + change[0], By: old.By + change[1], Value: old.Value + change[2]}
				checkEngine(t, other, false)
			}
			if i > 0 {
				other.Versions = slices.Clone(e.Versions)
				other.Versions[i-1], other.Versions[i] = old, e.Versions[i-1]
				checkEngine(t, other, false)
			}
		}
	})
}

// Versions of an action that is new, also if it is the only one, and if it was tried before.
func TestNewActionsHaveNoVersions(t *testing.T) {
	for _, tries := range []int{0, 1, 1000} {
		e := engine(nil, fourActions(), slots(newSlot(tries), newSlot(tries), newSlot(tries), newSlot(tries)))
		checkEngine(t, e, true)
		for n, s := range fourResults(impl.StageTried) {
			for _, entry := range s.Result.Writes {
				e.Versions = versionsOf(entry.Key, n, entry.Value)
				checkEngine(t, e, false)
			}
		}
	}
}

// The limits of Tries, for slots of every stage and at every place.
func TestLimitsOfTries(t *testing.T) {
	for _, tries := range []int{math.MinInt, -1001, -2, -1, 0, 1, 2, 900, 901, 999, 1000, 1001, 1002, 2000, 1 << 32, 1<<32 + 1, math.MaxInt} {
		for checked := range 5 {
			e := fourEngine(checked)
			for n := range 4 {
				s := copySlot(e.Slots[n])
				s.Tries = tries
				checkSlots(t, e, withSlot(e, n, s), tries >= 1 && tries <= 1000)
				if n >= checked {
					checkSlots(t, e, withSlot(e, n, newSlot(tries)), tries >= 0 && tries <= 1000)
				}
			}
		}
	}
	e := fourEngine(4)
	for n := range e.Slots {
		e.Slots[n].Tries = 1000
	}
	checkEngine(t, e, true)
	checkSlots(t, e, slots(newSlot(1000), newSlot(1000), newSlot(1000), newSlot(1000)), true)
}

// Stages below StageNew and above StageChecked, for what is otherwise a slot of one of them.
func TestOtherStagesAreInvalid(t *testing.T) {
	for _, stage := range []int{math.MinInt, -2, -1, 3, 4, 10, 1 << 32, 1<<32 + 1, 1<<32 + 2, math.MaxInt} {
		for checked := range 5 {
			e := fourEngine(checked)
			for n := range 4 {
				s := copySlot(e.Slots[n])
				s.Stage = stage
				checkSlots(t, e, withSlot(e, n, s), false)
				checkSlots(t, e, withSlot(e, n, slot(stage, 0, nil, impl.Effect{})), false)
				checkSlots(t, e, withSlot(e, n, slot(stage, 1, nil, impl.Effect{})), false)
			}
		}
		// One action alone, whose result is nothing but what its stage makes of it.
		one := newEngine(nil, actions(action(impl.ActPut, 1, 0, 5)))
		checkSlots(t, one, slots(slot(stage, 1, nil, effect(true, nil, storeOf(1, 5)))), false)
	}
}

// A slot of StageNew is otherwise the zero value: it has neither a result nor a part of one, nor a writer.
func TestNewSlotsHaveNothingElse(t *testing.T) {
	e := fourEngine(0)
	for n, s := range e.Slots {
		for _, tries := range []int{0, 1, 1000} {
			checkSlots(t, e, withSlot(e, n, slot(impl.StageNew, tries, []int{}, effect(false, []impl.Entry{}, []impl.Entry{}))), true)
			checkSlots(t, e, withSlot(e, n, slot(impl.StageNew, tries, nil, effect(true, nil, nil))), false)
			checkSlots(t, e, withSlot(e, n, slot(impl.StageNew, tries, nil, s.Result)), false)
			checkSlots(t, e, withSlot(e, n, slot(impl.StageNew, tries, s.From, s.Result)), false)
			checkSlots(t, e, withSlot(e, n, slot(impl.StageNew, tries, nil, effect(false, nil, s.Result.Writes))), false)
			for _, from := range [][]int{{-1}, {0}, {-1, -1}} {
				checkSlots(t, e, withSlot(e, n, slot(impl.StageNew, tries, from, impl.Effect{})), false)
			}
			for _, reads := range [][]impl.Entry{s.Result.Reads, storeOf(0, 0), storeOf(1, 5)} {
				checkSlots(t, e, withSlot(e, n, slot(impl.StageNew, tries, nil, effect(false, reads, nil))), len(reads) == 0)
			}
		}
	}
}

// An action that was tried has a result, also if it read and wrote nothing.
func TestTriedSlotsHaveResults(t *testing.T) {
	for checked := range 5 {
		e := fourEngine(checked)
		for n, s := range e.Slots {
			for _, from := range [][]int{nil, s.From} {
				checkSlots(t, e, withSlot(e, n, slot(s.Stage, 1, from, impl.Effect{})), false)
				checkSlots(t, e, withSlot(e, n, slot(s.Stage, 1, from, effect(true, nil, nil))), false)
			}
		}
	}
}

// From has a writer for every read: one less, one more, and none.
func TestWritersAreThoseOfReads(t *testing.T) {
	for checked := range 5 {
		e := fourEngine(checked)
		for n, s := range e.Slots {
			for length := range 5 {
				if length == len(s.From) {
					continue
				}
				from := append(slices.Clone(s.From), -1, -1, -1, -1, -1)[:length]
				checkSlots(t, e, withSlot(e, n, slot(s.Stage, 1, from, s.Result)), false)
			}
			checkSlots(t, e, withSlot(e, n, slot(s.Stage, 1, slices.Repeat([]int{-1}, 1000), s.Result)), false)
		}
	}
}

// Writers are the store or earlier actions, for every read of every action.
func TestWritersAreEarlier(t *testing.T) {
	numbers := []int{math.MinInt, -1000, -3, -2, -1, 0, 1, 2, 3, 4, 9, 10, 11, 1 << 32, math.MaxInt}
	e := fourEngine(0)
	for n, s := range e.Slots {
		for place := range s.From {
			for _, writer := range numbers {
				from := slices.Clone(s.From)
				from[place] = writer
				checkSlots(t, e, withSlot(e, n, triedSlot(from, s.Result)), writer >= -1 && writer < n)
			}
		}
	}
	done := fourEngine(4)
	for n, s := range done.Slots {
		for place := range s.From {
			for _, writer := range numbers {
				from := slices.Clone(s.From)
				from[place] = writer
				checkSlots(t, done, withSlot(done, n, checkedSlot(from, s.Result)), writer == s.From[place])
			}
		}
	}
}

// Values that were read are in 0..MaxValue, also where the result would be what its action makes of them.
func TestReadValuesHaveLimits(t *testing.T) {
	top := impl.MaxValue
	for _, value := range append(invalidValues(), 0, 1, top-1, top) {
		right := value >= 0 && value <= top
		for _, stage := range []int{impl.StageTried, impl.StageChecked} {
			// The store has the value, as far as it can, so that it is what a checked action reads.
			base := []impl.Entry(nil)
			if right && value > 0 {
				base = storeOf(4, value)
			}
			check := func(a impl.Action, from []int, result impl.Effect) {
				t.Helper()
				e := newEngine(base, actions(a))
				checkSlots(t, e, slots(slot(stage, 1, from, result)), right)
			}
			check(action(impl.ActCopy, 4, 5, 0), []int{-1}, effect(true, storeOf(4, value), storeOf(5, value)))
			check(action(impl.ActSwap, 4, 5, 0), []int{-1, -1}, effect(true, storeOf(4, value, 5, 0), storeOf(4, 0, 5, value)))
			check(action(impl.ActSwap, 5, 4, 0), []int{-1, -1}, effect(true, storeOf(5, 0, 4, value), storeOf(4, 0, 5, value)))
			check(action(impl.ActTake, 4, 0, 0), []int{-1}, effect(true, storeOf(4, value), storeOf(4, value)))
			check(action(impl.ActTake, 4, 0, top), []int{-1}, effect(true, storeOf(4, value), storeOf(4, max(0, value-top))))
			check(action(impl.ActMove, 4, 4, 0), []int{-1}, effect(true, storeOf(4, value), storeOf(4, value)))
			check(action(impl.ActAdd, 5, 4, 0), []int{-1, -1}, effect(true, storeOf(5, 0, 4, value), storeOf(4, value)))
		}
	}
	// Not done because of a value that there can't be.
	for _, value := range invalidValues() {
		e := newEngine(nil, actions(action(impl.ActMove, 4, 5, 1)))
		checkSlots(t, e, slots(triedSlot([]int{-1, -1}, effect(false, storeOf(4, value, 5, 0), nil))), false)
		checkSlots(t, e, slots(triedSlot([]int{-1, -1}, effect(false, storeOf(4, 1, 5, value), nil))), false)
		e = newEngine(nil, actions(action(impl.ActAdd, 4, 5, 0)))
		checkSlots(t, e, slots(triedSlot([]int{-1, -1}, effect(false, storeOf(4, value, 5, impl.MaxValue), nil))), false)
	}
}

// Reads are of the keys of the action, in their order, each once; no key that there can't be is one.
func TestReadKeysAreThoseOfTheAction(t *testing.T) {
	for _, key := range append(invalidKeys(), 0, 3, 6, 31) {
		for _, kind := range []int{impl.ActCopy, impl.ActTake, impl.ActSwap, impl.ActMove, impl.ActAdd} {
			a := action(kind, 4, 5, 0)
			if kind == impl.ActTake {
				a.To = 0
			}
			e := newEngine(nil, actions(a))
			reads, from := plainReads(e, 0)
			result := plainEffect(nil, ruleOf(kind), a)
			checkSlots(t, e, slots(triedSlot(from, result)), true)
			for place := range reads {
				other := copyEffect(result)
				other.Reads[place].Key = key
				checkSlots(t, e, slots(triedSlot(from, other)), false)
				other = copyEffect(result)
				other.Reads = slices.Insert(other.Reads, place, impl.Entry{Key: key})
				checkSlots(t, e, slots(triedSlot(append(from, -1), other)), false)
			}
			other := copyEffect(result)
			other.Reads = append(other.Reads, impl.Entry{Key: key})
			checkSlots(t, e, slots(triedSlot(append(from, -1), other)), false)
		}
		put := newEngine(nil, actions(action(impl.ActPut, 4, 0, 7)))
		checkSlots(t, put, slots(triedSlot([]int{-1}, effect(true, storeOf(key, 0), storeOf(4, 7)))), false)
	}
	e := newEngine(storeOf(4, 1, 5, 1), actions(action(impl.ActSwap, 4, 5, 0)))
	checkSlots(t, e, slots(triedSlot([]int{-1, -1}, effect(true, storeOf(4, 1, 5, 1), storeOf(4, 1, 5, 1)))), true)
	checkSlots(t, e, slots(triedSlot([]int{-1, -1}, effect(true, storeOf(5, 1, 4, 1), storeOf(4, 1, 5, 1)))), false)
	checkSlots(t, e, slots(triedSlot([]int{-1}, effect(true, storeOf(4, 1), storeOf(4, 0, 5, 1)))), false)
	checkSlots(t, e, slots(triedSlot([]int{-1, -1, -1}, effect(true, storeOf(4, 1, 5, 1, 5, 1), storeOf(4, 1, 5, 1)))), false)
}

// otherResults are a result with one thing changed: whether it is done, a key, a value, or an entry more or less.
func otherResults(result impl.Effect) []impl.Effect {
	list := []impl.Effect{effect(!result.Done, result.Reads, result.Writes)}
	for part := range 2 {
		entries := func(e *impl.Effect) *[]impl.Entry {
			if part == 0 {
				return &e.Reads
			}
			return &e.Writes
		}
		change := func(do func(s []impl.Entry) []impl.Entry) {
			other := copyEffect(result)
			*entries(&other) = do(*entries(&other))
			list = append(list, other)
		}
		for i := range *entries(&result) {
			change(func(s []impl.Entry) []impl.Entry { return slices.Delete(s, i, i+1) })
			change(func(s []impl.Entry) []impl.Entry { return slices.Insert(s, i, s[i]) })
			for _, by := range []int{-1, 1, 32, -32} {
				change(func(s []impl.Entry) []impl.Entry { s[i].Key += by; return s })
			}
			for _, by := range []int{-1, 1, -impl.MaxValue - 1, impl.MaxValue + 1} {
				change(func(s []impl.Entry) []impl.Entry { s[i].Value += by; return s })
			}
		}
		for _, entry := range storeOf(0, 0, 2, 9, 31, impl.MaxValue, 32, 1) {
			change(func(s []impl.Entry) []impl.Entry { return append(s, entry) })
			change(func(s []impl.Entry) []impl.Entry { return append([]impl.Entry{entry}, s...) })
		}
		change(func(s []impl.Entry) []impl.Entry { slices.Reverse(s); return s })
	}
	return list
}

// otherSlots are a slot with one thing changed, in what belongs to its result or beside it.
func otherSlots(s impl.Slot, n int) []impl.Slot {
	var list []impl.Slot
	for _, stage := range []int{-1, 0, 1, 2, 3} {
		list = append(list, slot(stage, s.Tries, s.From, s.Result))
	}
	for _, tries := range []int{-1, 0, 1, 500, 1000, 1001} {
		list = append(list, slot(s.Stage, tries, s.From, s.Result), newSlot(tries))
	}
	for place := range s.From {
		for _, writer := range []int{-2, -1, 0, n - 1, n, n + 1, 9, 10} {
			from := slices.Clone(s.From)
			from[place] = writer
			list = append(list, slot(s.Stage, s.Tries, from, s.Result))
		}
		list = append(list, slot(s.Stage, s.Tries, slices.Delete(slices.Clone(s.From), place, place+1), s.Result))
	}
	list = append(list, slot(s.Stage, s.Tries, append(slices.Clone(s.From), -1), s.Result))
	for _, result := range otherResults(s.Result) {
		list = append(list, slot(s.Stage, s.Tries, s.From, result))
	}
	return list
}

// Every slot of sample engines with one thing changed, with the versions as they were and as they would be then, against the reference.
func TestChangedSlotsAreExact(t *testing.T) {
	t.Parallel()
	valid, invalid := 0, 0
	check := func(e impl.Engine) {
		want := plainEngineValid(e)
		checkEngine(t, e, want)
		if want {
			valid++
		} else {
			invalid++
		}
	}
	someEngines(func(e impl.Engine) {
		for n, s := range e.Slots {
			for _, other := range otherSlots(s, n) {
				list := withSlot(e, n, other)
				check(impl.Engine{Base: e.Base, List: e.List, Versions: e.Versions, Slots: list})
				check(engine(e.Base, e.List, list))
			}
		}
	})
	if valid < 10000 || invalid < 10000 {
		t.Errorf("%d changed engines are valid, %d are not", valid, invalid)
	}
}

// Results that are not those of their actions, at every place of the four actions, also if the versions are theirs.
func TestOtherResultsAreInvalid(t *testing.T) {
	for checked := range 5 {
		e := fourEngine(checked)
		for n, s := range e.Slots {
			for _, result := range otherResults(s.Result) {
				if sameEffect(result, s.Result) {
					continue
				}
				other := slot(s.Stage, 1, s.From, result)
				checkEngine(t, impl.Engine{Base: e.Base, List: e.List, Versions: e.Versions, Slots: withSlot(e, n, other)}, false)
				checkSlots(t, e, withSlot(e, n, other), false)
				for len(other.From) < len(result.Reads) {
					other.From = append(slices.Clone(other.From), -1)
				}
				checkSlots(t, e, withSlot(e, n, slot(s.Stage, 1, other.From[:len(result.Reads)], result)), false)
			}
		}
	}
}

// The stages of ten actions, each of them new, tried or checked: no action is checked behind one that is not.
func TestCheckedActionsAreFirst(t *testing.T) {
	t.Parallel()
	list := looseLists(impl.MaxActions)[0]
	for stages := range 59049 {
		var given []impl.Slot
		rest, last, want := stages, impl.StageChecked, true
		for _, a := range list {
			stage := rest % 3
			rest /= 3
			s := slot(stage, 1, nil, effect(true, nil, storeOf(a.From, a.Amount)))
			if stage == impl.StageNew {
				s = newSlot(0)
			}
			given = append(given, s)
			want = want && (stage != impl.StageChecked || last == impl.StageChecked)
			last = stage
		}
		// The puts write descending keys, so the versions are in the reverse order of the actions.
		var versions []impl.Version
		for n, s := range slices.Backward(given) {
			if s.Stage != impl.StageNew {
				versions = append(versions, impl.Version{Key: list[n].From, By: n, Value: list[n].Amount})
			}
		}
		checkEngine(t, impl.Engine{Base: storeOf(1, 9), List: list, Versions: versions, Slots: given}, want)
	}
}

// A checked action behind one that is not, although it reads nothing of it.
func TestCheckedBehindNotChecked(t *testing.T) {
	put := actions(action(impl.ActPut, 1, 0, 5), action(impl.ActPut, 2, 0, 6))
	first, second := effect(true, nil, storeOf(1, 5)), effect(true, nil, storeOf(2, 6))
	e := newEngine(nil, put)
	checkSlots(t, e, slots(checkedSlot(nil, first), checkedSlot(nil, second)), true)
	checkSlots(t, e, slots(checkedSlot(nil, first), triedSlot(nil, second)), true)
	checkSlots(t, e, slots(checkedSlot(nil, first), newSlot(0)), true)
	checkSlots(t, e, slots(newSlot(0), triedSlot(nil, second)), true)
	checkSlots(t, e, slots(triedSlot(nil, first), checkedSlot(nil, second)), false)
	checkSlots(t, e, slots(newSlot(0), checkedSlot(nil, second)), false)
	checkSlots(t, e, slots(newSlot(3), checkedSlot(nil, second)), false)
}

// A checked action read what it reads now: with another value, or the same value from another writer, it is not valid; if it is only tried, it is.
func TestCheckedActionsReadTheSame(t *testing.T) {
	wrong := 0
	eachNewEngine(func(e impl.Engine) {
		e = finished(e)
		for n, s := range e.Slots {
			for place, read := range s.Result.Reads {
				others := [][2]int{{read.Value - 1, s.From[place]}, {read.Value + 1, s.From[place]}, {impl.MaxValue, s.From[place]}, {0, s.From[place]}}
				for from := -1; from < n; from++ {
					others = append(others, [2]int{read.Value, from}, [2]int{impl.MaxValue - read.Value, from})
				}
				for _, other := range others {
					if other[0] < 0 || other[0] > impl.MaxValue || other == [2]int{read.Value, s.From[place]} {
						continue
					}
					reads, from := slices.Clone(s.Result.Reads), slices.Clone(s.From)
					reads[place].Value, from[place] = other[0], other[1]
					result := plainEffect(reads, ruleOf(e.List[n].Kind), e.List[n])
					checkSlots(t, e, withSlot(e, n, checkedSlot(from, result)), false)
					triedFrom := withSlot(e, n, triedSlot(from, result))
					for later := n + 1; later < len(triedFrom); later++ {
						triedFrom[later].Stage = impl.StageTried
					}
					checkSlots(t, e, triedFrom, true)
					wrong++
				}
			}
		}
	})
	if wrong < 1000 {
		t.Errorf("only %d reads are changed", wrong)
	}
}

// Another store under the same slots: a checked action that reads the store does not read the same any more.
func TestCheckedActionsReadTheirStore(t *testing.T) {
	for checked := range 5 {
		e := fourEngine(checked)
		for _, key := range []int{0, 1, 2, 3, 7, 31} {
			for _, value := range []int{0, 1, 5, 6, 8, impl.MaxValue} {
				other := e
				other.Base = mustPut(t, e.Base, key, value)
				readsOther := checked > 2 && key == 3 && value != 6 || checked > 3 && key == 7 && value != 8
				checkEngine(t, other, !readsOther)
			}
		}
	}
}

// As many slots as actions: fewer and more of them, at both ends and in between.
func TestThereIsASlotForEveryAction(t *testing.T) {
	eachEngine(func(e impl.Engine) {
		for n := range e.Slots {
			checkSlots(t, e, slices.Delete(copyEngine(e).Slots, n, n+1), false)
			checkSlots(t, e, slices.Insert(copyEngine(e).Slots, n, copySlot(e.Slots[n])), false)
			checkSlots(t, e, e.Slots[:n], false)
		}
		for _, more := range []impl.Slot{newSlot(0), newSlot(1), triedSlot(nil, impl.Effect{}), checkedSlot(nil, impl.Effect{})} {
			checkSlots(t, e, append(copyEngine(e).Slots, more), false)
			checkSlots(t, e, append(slots(more), e.Slots...), false)
		}
		if len(e.Slots) > 0 {
			checkSlots(t, e, nil, false)
		}
	})
	checkSlots(t, newEngine(nil, fourActions()), make([]impl.Slot, 1000), false)
}

func TestEnginesOverInvalidStores(t *testing.T) {
	for _, s := range invalidStores() {
		for _, list := range [][]impl.Action{nil, fourActions(), looseLists(impl.MaxActions)[0]} {
			checkEngine(t, newEngine(s, list), false)
		}
		// Actions that read nothing do not see what is wrong with the store.
		put := slots(checkedSlot(nil, effect(true, nil, storeOf(1, 5))))
		checkEngine(t, engine(s, actions(action(impl.ActPut, 1, 0, 5)), put), false)
	}
}

// Actions of which one is not valid, or that are too many, with a slot for each: new ones, and results that are nothing, as no effect is one of such an action.
func TestEnginesOfInvalidActions(t *testing.T) {
	lists := wrongLists()
	for _, a := range invalidActions() {
		lists = append(lists, actions(a))
	}
	for _, list := range lists {
		for _, made := range []impl.Slot{newSlot(0), newSlot(1), triedSlot(nil, impl.Effect{}), checkedSlot(nil, impl.Effect{})} {
			checkEngine(t, engine(nil, list, slices.Repeat(slots(made), len(list))), false)
		}
	}
	// Eleven puts, of which each has its result.
	many := slices.Repeat(actions(action(impl.ActPut, 1, 0, 5)), 11)
	result := effect(true, nil, storeOf(1, 5))
	checkEngine(t, engine(nil, many, slices.Repeat(slots(triedSlot(nil, result)), 11)), false)
	checkEngine(t, engine(nil, many, slices.Repeat(slots(checkedSlot(nil, result)), 11)), false)
	checkEngine(t, engine(nil, many[:10], slices.Repeat(slots(checkedSlot(nil, result)), 10)), true)
	// An action that is changed to another valid one has not the result any more.
	for checked := range 5 {
		e := fourEngine(checked)
		for n := range e.List {
			for _, a := range actions(action(impl.ActPut, 9, 0, 5), action(impl.ActCopy, 9, 2, 0), action(impl.ActSwap, 2, 3, 0), action(impl.ActMove, 7, 7, 9)) {
				other := copyEngine(e)
				other.List[n] = a
				checkEngine(t, other, false)
			}
		}
	}
}

// spoilActions writes over everything that a result reaches, its spare capacity included.
func spoilActions(list []impl.Action) {
	list = list[:cap(list)]
	for i := range list {
		list[i] = action(-7, -7, -7, -7)
	}
}

// spoilSlots writes over everything that slots reach, their spare capacity included.
func spoilSlots(list []impl.Slot) {
	list = list[:cap(list)]
	for i := range list {
		spoilKeys(list[i].From)
		spoil(list[i].Result.Reads)
		spoil(list[i].Result.Writes)
		list[i] = newSlot(-7)
	}
}

// What is written over a new engine is not seen in the arguments, also not behind them, nor in another engine of them, nor the other way round.
func TestNewEnginesShareNoMemory(t *testing.T) {
	eachSerial(func(s []impl.Entry, list []impl.Action) {
		store := append(slices.Clone(s), storeOf(40, 40, 41, 41)...)
		given := append(slices.Clone(list), action(40, 40, 40, 40))
		storeBefore, givenBefore := slices.Clone(store), slices.Clone(given)
		first := impl.EngineOf(store[:len(s)], given[:len(list)])
		second := impl.EngineOf(store[:len(s)], given[:len(list)])
		spoil(second.Base)
		spoilActions(second.List)
		spoilVersions(second.Versions)
		spoilSlots(second.Slots)
		if !slices.Equal(store, storeBefore) || !slices.Equal(given, givenBefore) {
			t.Errorf("%v and %+v have become %v and %+v", storeBefore, givenBefore, store, given)
		}
		spoil(store)
		spoilActions(given)
		if !sameEngine(first, newEngine(s, list)) {
			t.Errorf("with the arguments written over the engine of %v and %+v is %+v", s, list, first)
		}
	})
}

// The slots of a new engine share no memory: what is appended to one is not seen in the next one.
func TestNewSlotsShareNoMemory(t *testing.T) {
	e := impl.EngineOf(storeOf(1, 9), slices.Repeat(actions(action(impl.ActPut, 1, 0, 5)), impl.MaxActions))
	for n := range e.Slots {
		e.Slots[n].Tries = n
		e.Slots[n].From = append(e.Slots[n].From, n)
		e.Slots[n].Result.Reads = append(e.Slots[n].Result.Reads, impl.Entry{Key: n})
	}
	for n, s := range e.Slots {
		if !sameSlot(s, slot(0, n, []int{n}, effect(false, storeOf(n, 0), nil))) {
			t.Errorf("slot %d has become %+v", n, s)
		}
	}
}

// Looking at an engine leaves it as it is, also what lies behind its lists.
func TestEnginesAreLeftAlone(t *testing.T) {
	eachEngine(func(e impl.Engine) {
		behind := copyEngine(e)
		behind.Base = append(behind.Base, storeOf(40, 40)...)
		behind.List = append(behind.List, action(40, 40, 40, 40))
		behind.Versions = append(behind.Versions, versionsOf(40, 40, 40)...)
		behind.Slots = append(behind.Slots, slot(40, 40, []int{40}, effect(true, storeOf(40, 40), storeOf(40, 40))))
		before := copyEngine(behind)
		argument := impl.Engine{Base: behind.Base[:len(e.Base)], List: behind.List[:len(e.List)], Versions: behind.Versions[:len(e.Versions)], Slots: behind.Slots[:len(e.Slots)]}
		checkEngine(t, argument, true)
		checkEngine(t, behind, false)
		if !sameEngine(behind, before) || !sameEngine(argument, e) {
			t.Errorf("%+v has become %+v", before, behind)
		}
	})
}
