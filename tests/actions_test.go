package tests

import (
	"math"
	"slices"
	"testing"

	"loop.example/blockexecutor/impl"
)

// actionRule says of a kind of action which keys it reads and may write, F for From and T for To, and which fields have to be 0.
type actionRule struct {
	kind     int
	reads    string
	writes   string
	noTo     bool
	noAmount bool
}

func actionRules() []actionRule {
	return []actionRule{
		{kind: impl.ActPut, reads: "", writes: "F", noTo: true},
		{kind: impl.ActMove, reads: "FT", writes: "FT"},
		{kind: impl.ActCopy, reads: "F", writes: "T", noAmount: true},
		{kind: impl.ActSwap, reads: "FT", writes: "FT", noAmount: true},
		{kind: impl.ActAdd, reads: "FT", writes: "T", noAmount: true},
		{kind: impl.ActTake, reads: "F", writes: "F", noTo: true},
	}
}

func ruleOf(kind int) actionRule {
	n := slices.IndexFunc(actionRules(), func(rule actionRule) bool { return rule.kind == kind })
	return actionRules()[n]
}

func action(kind int, from int, to int, amount int) impl.Action {
	return impl.Action{Kind: kind, From: from, To: to, Amount: amount}
}

// plainKeys are the keys of an action for which letters stand, in their order, each once.
func plainKeys(a impl.Action, letters string) []int {
	var keys []int
	for _, letter := range letters {
		key := a.From
		if letter == 'T' {
			key = a.To
		}
		if !slices.Contains(keys, key) {
			keys = append(keys, key)
		}
	}
	return keys
}

// eachValidAction calls check for valid actions of every kind: all pairs of keys, from a key to itself included, and the sample values.
func eachValidAction(check func(rule actionRule, a impl.Action)) {
	for _, rule := range actionRules() {
		tos, amounts := impl.MaxKey+1, sampleValues()
		if rule.noTo {
			tos = 1
		}
		if rule.noAmount {
			amounts = []int{0}
		}
		for from := range impl.MaxKey + 1 {
			for to := range tos {
				for _, amount := range amounts {
					check(rule, action(rule.kind, from, to, amount))
				}
			}
		}
	}
}

func invalidKinds() []int {
	return []int{0, -1, -2, -6, 7, 8, 10, 1 << 32, 1<<32 + 1, math.MinInt, math.MaxInt}
}

// invalidActions are valid actions, each with one thing wrong, and the zero value.
func invalidActions() []impl.Action {
	list := []impl.Action{{}}
	eachValidAction(func(rule actionRule, a impl.Action) {
		if a.From%10 != 1 || a.To%10 > 1 {
			return
		}
		for _, kind := range invalidKinds() {
			list = append(list, action(kind, a.From, a.To, a.Amount))
		}
		for _, key := range invalidKeys() {
			list = append(list, action(a.Kind, key, a.To, a.Amount), action(a.Kind, a.From, key, a.Amount), action(a.Kind, key, key, a.Amount))
		}
		for _, amount := range invalidValues() {
			list = append(list, action(a.Kind, a.From, a.To, amount))
		}
		if rule.noTo {
			list = append(list, action(a.Kind, a.From, 1, a.Amount), action(a.Kind, a.From, a.From, a.Amount), action(a.Kind, a.From, impl.MaxKey, a.Amount))
		}
		if rule.noAmount {
			list = append(list, action(a.Kind, a.From, a.To, 1), action(a.Kind, a.From, a.To, impl.MaxValue))
		}
	})
	return list
}

// sampleActions are valid lists: none, MaxActions, all of one kind, kinds in turn, from keys to themselves, and others.
func sampleActions() [][]impl.Action {
	top := impl.MaxValue
	lists := [][]impl.Action{
		nil, {},
		{action(impl.ActPut, 0, 0, 0)}, {action(impl.ActPut, 31, 0, top)},
		{action(impl.ActMove, 5, 2, 1), action(impl.ActMove, 2, 5, 1), action(impl.ActMove, 5, 5, top)},
		{action(impl.ActSwap, 3, 3, 0), action(impl.ActCopy, 3, 3, 0), action(impl.ActAdd, 3, 3, 0)},
	}
	for _, rule := range actionRules() {
		lists = append(lists, slices.Repeat([]impl.Action{action(rule.kind, 4, 0, 0)}, impl.MaxActions))
	}
	var all []impl.Action
	eachValidAction(func(_ actionRule, a impl.Action) { all = append(all, a) })
	for count := range impl.MaxActions + 1 {
		var list []impl.Action
		for n := range count {
			list = append(list, all[(n*7919+count*104729)%len(all)])
		}
		lists = append(lists, list)
	}
	return lists
}

func checkReadsAndWrites(t *testing.T, a impl.Action, reads []int, writes []int) {
	t.Helper()
	if got := impl.ActionReads(a); !slices.Equal(got, reads) {
		t.Errorf("ActionReads(%+v) = %v, want %v", a, got, reads)
	}
	if got := impl.ActionWrites(a); !slices.Equal(got, writes) {
		t.Errorf("ActionWrites(%+v) = %v, want %v", a, got, writes)
	}
}

func checkActions(t *testing.T, list []impl.Action, want bool) {
	t.Helper()
	if got := impl.ActionsValid(list); got != want {
		t.Errorf("ActionsValid(%+v) = %v", list, got)
	}
}

func TestActionConstants(t *testing.T) {
	got := []int{impl.ActPut, impl.ActMove, impl.ActCopy, impl.ActSwap, impl.ActAdd, impl.ActTake, impl.MaxActions}
	if !slices.Equal(got, []int{1, 2, 3, 4, 5, 6, 10}) {
		t.Errorf("the kinds and MaxActions are %v", got)
	}
}

func TestActionValues(t *testing.T) {
	none := []int{}
	checkReadsAndWrites(t, action(impl.ActPut, 5, 0, 2), none, []int{5})
	checkReadsAndWrites(t, action(impl.ActPut, 0, 0, 0), none, []int{0})
	checkReadsAndWrites(t, action(impl.ActMove, 2, 5, 1), []int{2, 5}, []int{2, 5})
	checkReadsAndWrites(t, action(impl.ActMove, 5, 2, 1), []int{5, 2}, []int{2, 5})
	checkReadsAndWrites(t, action(impl.ActMove, 31, 0, impl.MaxValue), []int{31, 0}, []int{0, 31})
	checkReadsAndWrites(t, action(impl.ActCopy, 2, 5, 0), []int{2}, []int{5})
	checkReadsAndWrites(t, action(impl.ActCopy, 5, 2, 0), []int{5}, []int{2})
	checkReadsAndWrites(t, action(impl.ActSwap, 2, 5, 0), []int{2, 5}, []int{2, 5})
	checkReadsAndWrites(t, action(impl.ActSwap, 5, 2, 0), []int{5, 2}, []int{2, 5})
	checkReadsAndWrites(t, action(impl.ActAdd, 2, 5, 0), []int{2, 5}, []int{5})
	checkReadsAndWrites(t, action(impl.ActAdd, 5, 2, 0), []int{5, 2}, []int{2})
	checkReadsAndWrites(t, action(impl.ActTake, 5, 0, 2), []int{5}, []int{5})
	checkReadsAndWrites(t, action(impl.ActTake, 31, 0, 0), []int{31}, []int{31})
}

// An action from a key to itself has this key once, with each kind that has two keys.
func TestActionsFromAKeyToItself(t *testing.T) {
	for _, key := range []int{0, 1, 17, 31} {
		for _, kind := range []int{impl.ActMove, impl.ActCopy, impl.ActSwap, impl.ActAdd} {
			a := action(kind, key, key, 0)
			if !impl.ActionValid(a) {
				t.Errorf("%+v is not valid", a)
			}
			checkReadsAndWrites(t, a, []int{key}, []int{key})
		}
	}
}

// Every kind with all keys and the sample values, against the rules: with ascending writes, and never without.
func TestReadsAndWritesOfValidActions(t *testing.T) {
	eachValidAction(func(rule actionRule, a impl.Action) {
		if !impl.ActionValid(a) {
			t.Errorf("%+v is not valid", a)
		}
		writes := plainKeys(a, rule.writes)
		slices.Sort(writes)
		checkReadsAndWrites(t, a, plainKeys(a, rule.reads), writes)
	})
}

// P34, as it stands: the kind 7 and negative keys, for every valid action.
func TestActionsHaveKinds(t *testing.T) {
	eachValidAction(func(_ actionRule, a impl.Action) {
		for _, wrong := range []impl.Action{
			action(7, a.From, a.To, a.Amount),
			action(a.Kind, -1, a.To, a.Amount),
			action(a.Kind, a.From, -1, a.Amount),
		} {
			if impl.ActionValid(wrong) {
				t.Errorf("%+v is valid", wrong)
			}
		}
	})
}

// P34, with a separate rule for every field, for all combinations of values around their limits.
func TestFieldsOfActions(t *testing.T) {
	kinds := append(invalidKinds(), impl.ActPut, impl.ActMove, impl.ActCopy, impl.ActSwap, impl.ActAdd, impl.ActTake)
	keys := append(invalidKeys(), 0, 1, 30, 31)
	amounts := append(invalidValues(), sampleValues()...)
	for _, kind := range kinds {
		n := slices.IndexFunc(actionRules(), func(rule actionRule) bool { return rule.kind == kind })
		for _, from := range keys {
			for _, to := range keys {
				for _, amount := range amounts {
					want := n >= 0 && from >= 0 && from <= 31 && to >= 0 && to <= 31 && amount >= 0 && amount <= 1000000
					if want {
						rule := actionRules()[n]
						want = !(rule.noTo && to != 0) && !(rule.noAmount && amount != 0)
					}
					a := action(kind, from, to, amount)
					if got := impl.ActionValid(a); got != want {
						t.Errorf("ActionValid(%+v) = %v", a, got)
					}
				}
			}
		}
	}
}

func TestFieldsThatAKindHasNoUseFor(t *testing.T) {
	for _, kind := range []int{impl.ActPut, impl.ActTake} {
		for to := range impl.MaxKey + 1 {
			if got := impl.ActionValid(action(kind, 3, to, 5)); got != (to == 0) {
				t.Errorf("with To %d the kind %d is valid: %v", to, kind, got)
			}
		}
	}
	for _, kind := range []int{impl.ActCopy, impl.ActSwap, impl.ActAdd} {
		for _, amount := range sampleValues() {
			if got := impl.ActionValid(action(kind, 3, 5, amount)); got != (amount == 0) {
				t.Errorf("with Amount %d the kind %d is valid: %v", amount, kind, got)
			}
		}
	}
}

// The fixed results for invalid actions: they read and write nothing.
func TestInvalidActions(t *testing.T) {
	for _, a := range invalidActions() {
		if impl.ActionValid(a) {
			t.Errorf("%+v is valid", a)
		}
		checkReadsAndWrites(t, a, nil, nil)
		checkActions(t, []impl.Action{a}, false)
	}
}

// P35, the first half: every part of valid actions, from any place to any other, and with gaps.
func TestPartsOfActionsAreValid(t *testing.T) {
	for _, list := range sampleActions() {
		for from := 0; from <= len(list); from++ {
			for to := from; to <= len(list); to++ {
				checkActions(t, list[from:to], true)
			}
		}
		for i := range list {
			checkActions(t, slices.Delete(slices.Clone(list), i, i+1), true)
		}
	}
}

// P35, the second half: with the zero value among the actions, or instead of one of them, at every place.
func TestActionsWithTheZeroValue(t *testing.T) {
	for _, list := range sampleActions() {
		for i := range len(list) + 1 {
			checkActions(t, slices.Insert(slices.Clone(list), i, impl.Action{}), false)
		}
		for i := range list {
			other := slices.Clone(list)
			other[i] = impl.Action{}
			checkActions(t, other, false)
		}
	}
}

// P35: one invalid action among valid ones, at every place.
func TestOneInvalidActionAmongValidOnes(t *testing.T) {
	full := slices.Repeat([]impl.Action{action(impl.ActMove, 5, 2, 1)}, impl.MaxActions)
	for _, count := range []int{2, 5, impl.MaxActions} {
		for _, a := range invalidActions() {
			for i := range count {
				list := slices.Clone(full[:count])
				list[i] = a
				checkActions(t, list, false)
			}
		}
	}
}

// P35: actions are valid together if each one is, in any order, and also if several are the same.
func TestActionsAreValidOneByOne(t *testing.T) {
	eachValidAction(func(_ actionRule, a impl.Action) {
		checkActions(t, []impl.Action{a}, true)
		checkActions(t, []impl.Action{a, a}, true)
	})
	for _, list := range sampleActions() {
		reversed := slices.Clone(list)
		slices.Reverse(reversed)
		checkActions(t, reversed, true)
	}
}

func TestActionsMayBeMaxActions(t *testing.T) {
	checkActions(t, nil, true)
	checkActions(t, []impl.Action{}, true)
	for _, rule := range actionRules() {
		for _, count := range []int{9, 10, 11, 12, 20, 1000} {
			checkActions(t, slices.Repeat([]impl.Action{action(rule.kind, 31, 0, 0)}, count), count <= 10)
		}
	}
}

// spoilKeys writes over everything that a result reaches, its spare capacity included.
func spoilKeys(keys []int) {
	keys = keys[:cap(keys)]
	for i := range keys {
		keys[i] = -7
	}
}

// What is written over one result is seen in no other one, whether it was made before or after, of the same action or of the other function.
func TestKeysOfActionsShareNoMemory(t *testing.T) {
	eachValidAction(func(rule actionRule, a impl.Action) {
		reads, writes := plainKeys(a, rule.reads), plainKeys(a, rule.writes)
		slices.Sort(writes)
		earlierReads, earlierWrites := impl.ActionReads(a), impl.ActionWrites(a)
		spoilKeys(impl.ActionReads(a))
		spoilKeys(impl.ActionWrites(a))
		if !slices.Equal(earlierReads, reads) || !slices.Equal(earlierWrites, writes) {
			t.Errorf("the keys of %+v have become %v and %v", a, earlierReads, earlierWrites)
		}
		checkReadsAndWrites(t, a, reads, writes)
		spoilKeys(earlierReads)
		if !slices.Equal(earlierWrites, writes) {
			t.Errorf("with its reads written over %+v writes %v", a, earlierWrites)
		}
	})
}

func TestActionsAreNotWrittenTo(t *testing.T) {
	for _, list := range sampleActions() {
		backing := append(slices.Clone(list), action(40, 40, 40, 40), impl.Action{})
		before := slices.Clone(backing)
		checkActions(t, backing[:len(list)], true)
		checkActions(t, backing[:len(list)+1], false)
		if !slices.Equal(backing, before) {
			t.Errorf("%+v have become %+v", before, backing)
		}
	}
}
