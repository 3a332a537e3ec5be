package tests

import (
	"math"
	"slices"
	"testing"

	"loop.example/blockexecutor/impl"
)

// versionsOf are the versions with keys, numbers of actions and values that stand in turn.
func versionsOf(triples ...int) []impl.Version {
	var list []impl.Version
	for i := 0; i < len(triples); i += 3 {
		list = append(list, impl.Version{Key: triples[i], By: triples[i+1], Value: triples[i+2]})
	}
	return list
}

// fullVersions has a version of every key by every action, the values beginning with first and changing by step.
func fullVersions(first int, step int) []impl.Version {
	var list []impl.Version
	for key := range impl.MaxKey + 1 {
		for by := range impl.MaxActions {
			list = append(list, impl.Version{Key: key, By: by, Value: first})
			first += step
		}
	}
	return list
}

// sampleVersions are valid versions: none, one, the edges of keys, numbers and values, several of one key, of several keys, all that there can be, and others.
func sampleVersions() [][]impl.Version {
	top := impl.MaxValue
	lists := [][]impl.Version{
		nil, {},
		versionsOf(0, 0, 0), versionsOf(31, 9, top), versionsOf(3, 4, 5), versionsOf(0, 9, top), versionsOf(31, 0, 0),
		versionsOf(0, 0, top, 31, 9, 0), versionsOf(0, 9, 1, 31, 0, 2), versionsOf(2, 9, 7, 3, 0, 8),
		versionsOf(3, 0, 1, 3, 2, 5, 4, 0, 2), versionsOf(3, 0, 0, 3, 9, 0), versionsOf(1, 2, 0, 1, 4, 6, 1, 7, 0),
		versionsOf(0, 3, 1, 0, 4, 1, 0, 5, 1, 1, 3, 1, 1, 4, 1, 1, 5, 1),
		fullVersions(0, 0), fullVersions(1, 3), fullVersions(top, -1), fullVersions(top, 0),
		fullVersions(1, 1)[:10], fullVersions(1, 1)[310:], fullVersions(5, 2)[1:319],
	}
	// A fixed sequence of numbers, so that every run checks the same.
	number := 1904
	next := func(limit int) int {
		number = (number*48271 + 11) % 2147483647
		return number % limit
	}
	for rare := 1; rare <= 9; rare += 2 {
		var list []impl.Version
		for key := range impl.MaxKey + 1 {
			for by := range impl.MaxActions {
				if next(rare+1) == 0 {
					list = append(list, impl.Version{Key: key, By: by, Value: next(3) * next(top/2+1)})
				}
			}
		}
		lists = append(lists, list)
	}
	return lists
}

// versionedStores are the stores under the sample versions: some of the sample stores, so that every pair can be checked.
func versionedStores() [][]impl.Entry {
	return layeredStores()
}

// invalidBys are no numbers of actions, and not MaxActions either.
func invalidBys() []int {
	return []int{-1, -2, -10, 11, 12, 32, 100, 1 << 32, 1<<32 + 3, math.MinInt, math.MaxInt}
}

// wrongVersions are wrong in one number alone, whatever stands before and behind them.
func wrongVersions() []impl.Version {
	var list []impl.Version
	for _, key := range invalidKeys() {
		list = append(list, impl.Version{Key: key}, impl.Version{Key: key, By: 4, Value: 5})
	}
	for _, by := range append(invalidBys(), impl.MaxActions) {
		list = append(list, impl.Version{By: by}, impl.Version{Key: 31, By: by, Value: 5})
	}
	for _, value := range invalidValues() {
		list = append(list, impl.Version{Value: value}, impl.Version{Key: 31, By: 9, Value: value})
	}
	return list
}

// spoiltAt are versions with one thing wrong at a place: a number, or that it is twice there, or exchanged with the one before.
func spoiltAt(list []impl.Version, place int) [][]impl.Version {
	var lists [][]impl.Version
	change := func(v impl.Version) {
		other := slices.Clone(list)
		other[place] = v
		lists = append(lists, other)
	}
	old := list[place]
	for _, key := range invalidKeys() {
		change(impl.Version{Key: key, By: old.By, Value: old.Value})
	}
	for _, by := range append(invalidBys(), impl.MaxActions) {
		change(impl.Version{Key: old.Key, By: by, Value: old.Value})
	}
	for _, value := range invalidValues() {
		change(impl.Version{Key: old.Key, By: old.By, Value: value})
	}
	twice := slices.Insert(slices.Clone(list), place, old)
	lists = append(lists, twice)
	otherValue := slices.Clone(twice)
	otherValue[place].Value = (old.Value + 1) % impl.MaxValue
	lists = append(lists, otherValue)
	if place > 0 {
		exchanged := slices.Clone(list)
		exchanged[place-1], exchanged[place] = list[place], list[place-1]
		lists = append(lists, exchanged)
	}
	return lists
}

// invalidVersions are out of order by Key, by By, or twice the same, or have a wrong number, at the first place, in the middle and at the last one.
func invalidVersions() [][]impl.Version {
	lists := [][]impl.Version{
		versionsOf(3, 0, 1, 2, 0, 1), versionsOf(3, 0, 1, 2, 9, 1), versionsOf(31, 9, 1, 0, 0, 1), versionsOf(3, 2, 1, 3, 1, 1), versionsOf(3, 9, 1, 3, 0, 5),
		versionsOf(3, 2, 1, 3, 2, 1), versionsOf(3, 2, 1, 3, 2, 5), versionsOf(0, 0, 0, 0, 0, 0), versionsOf(31, 9, 1, 31, 9, 2),
		versionsOf(1, 0, 1, 3, 0, 1, 2, 5, 1), versionsOf(1, 0, 1, 1, 5, 1, 1, 3, 1), versionsOf(1, 1, 1, 2, 1, 1, 1, 2, 1),
		slices.Repeat(versionsOf(4, 4, 4), 1000), append(fullVersions(1, 1), impl.Version{Key: 31, By: 9, Value: 1}), append(fullVersions(1, 1), impl.Version{Key: 31, By: 10, Value: 1}),
	}
	for _, wrong := range wrongVersions() {
		lists = append(lists, []impl.Version{wrong})
	}
	for _, list := range sampleVersions() {
		if len(list) == 0 {
			continue
		}
		for _, place := range []int{0, len(list) / 2, len(list) - 1} {
			lists = append(lists, spoiltAt(list, place)...)
		}
	}
	return lists
}

// sampleWrites are what an action can write: nothing, one or several keys, the edges of keys and values, and all keys.
func sampleWrites() [][]impl.Entry {
	top := impl.MaxValue
	return [][]impl.Entry{
		nil, {}, storeOf(3, 5), storeOf(3, 0), storeOf(0, 0), storeOf(31, top), storeOf(0, top, 31, 0), storeOf(1, 6, 3, 0, 4, 2),
		hiding(-1).Writes, fullStore(1, 1), fullStore(top, -1)[:31], fullStore(0, 2)[1:],
	}
}

// plainRead looks at all versions, in whatever order they are.
func plainRead(s []impl.Entry, list []impl.Version, key int, by int) (int, int) {
	value, writer := plainValues(s)[key], -1
	for _, v := range list {
		if v.Key == key && v.By < by && v.By > writer {
			value, writer = v.Value, v.By
		}
	}
	return value, writer
}

// plainPut goes through all keys and numbers, and asks for each what is there.
func plainPut(list []impl.Version, by int, writes []impl.Entry) []impl.Version {
	var put []impl.Version
	for key := range impl.MaxKey + 1 {
		for n := range impl.MaxActions {
			if n == by {
				for _, entry := range writes {
					if entry.Key == key {
						put = append(put, impl.Version{Key: key, By: by, Value: entry.Value})
					}
				}
				continue
			}
			for _, v := range list {
				if v.Key == key && v.By == n {
					put = append(put, v)
				}
			}
		}
	}
	return put
}

// ofOthers are the versions of all actions but one.
func ofOthers(list []impl.Version, by int) []impl.Version {
	var others []impl.Version
	for _, v := range list {
		if v.By != by {
			others = append(others, v)
		}
	}
	return others
}

func checkVersions(t *testing.T, list []impl.Version, want bool) {
	t.Helper()
	if got := impl.VersionsValid(list); got != want {
		t.Errorf("VersionsValid(%v) = %v", list, got)
	}
}

func checkReadVersion(t *testing.T, s []impl.Entry, list []impl.Version, key int, by int, want int, wantWriter int) {
	t.Helper()
	if got, writer := impl.ReadVersion(s, list, key, by); got != want || writer != wantWriter {
		t.Errorf("ReadVersion(%v, %v, %d, %d) = %d, %d, want %d, %d", s, list, key, by, got, writer, want, wantWriter)
	}
}

func checkDrop(t *testing.T, list []impl.Version, by int, want []impl.Version) {
	t.Helper()
	if got := impl.DropVersions(list, by); !slices.Equal(got, want) {
		t.Errorf("DropVersions(%v, %d) = %v, want %v", list, by, got, want)
	}
}

func checkPutVersions(t *testing.T, list []impl.Version, by int, writes []impl.Entry, want []impl.Version, wantOK bool) {
	t.Helper()
	if got, ok := impl.PutVersions(list, by, writes); ok != wantOK || !slices.Equal(got, want) {
		t.Errorf("PutVersions(%v, %d, %v) = %v, %v, want %v, %v", list, by, writes, got, ok, want, wantOK)
	}
}

func checkLast(t *testing.T, s []impl.Entry, list []impl.Version, want []impl.Entry) {
	t.Helper()
	if got := impl.LastVersions(s, list); !slices.Equal(got, want) {
		t.Errorf("LastVersions(%v, %v) = %v, want %v", s, list, got, want)
	}
}

func mustPutVersions(t *testing.T, list []impl.Version, by int, writes []impl.Entry) []impl.Version {
	t.Helper()
	put, ok := impl.PutVersions(list, by, writes)
	if !ok {
		t.Fatalf("PutVersions(%v, %d, %v) is refused", list, by, writes)
	}
	return put
}

// eachPut visits the sample versions with all writes of every action.
func eachPut(visit func(list []impl.Version, by int, writes []impl.Entry)) {
	for _, list := range sampleVersions() {
		for by := range impl.MaxActions {
			for _, writes := range sampleWrites() {
				visit(list, by, writes)
			}
		}
	}
}

// P48, the first half: every part of valid versions, from any place to any other, and with gaps.
func TestPartsOfVersionsAreValid(t *testing.T) {
	for _, list := range sampleVersions() {
		for from := 0; from <= len(list); from++ {
			for to := from; to <= len(list); to++ {
				// A fixed choice among those of the long lists, so that every run checks the same.
				if len(list) <= 40 || (from*7+to)%31 == 0 || to-from <= 1 || to == len(list) {
					checkVersions(t, list[from:to], true)
				}
			}
		}
		for i := range list {
			checkVersions(t, slices.Delete(slices.Clone(list), i, i+1), true)
		}
	}
}

// P48, the second half: with the last version twice, and with any other one twice, also if the values differ.
func TestVersionsAreThereOnce(t *testing.T) {
	for _, list := range sampleVersions() {
		if len(list) == 0 {
			continue
		}
		last := list[len(list)-1]
		checkVersions(t, append(slices.Clone(list), last), false)
		for _, value := range sampleValues() {
			checkVersions(t, append(slices.Clone(list), impl.Version{Key: last.Key, By: last.By, Value: value}), false)
		}
		for i := range list {
			checkVersions(t, slices.Insert(slices.Clone(list), i, list[i]), false)
		}
	}
}

// Values have no order, and neither have numbers for different keys.
func TestVersionsAreInOrder(t *testing.T) {
	checkVersions(t, versionsOf(3, 0, 9, 3, 1, 5, 3, 2, 5, 3, 9, 0), true)
	checkVersions(t, versionsOf(1, 9, 5, 2, 8, 4, 3, 7, 3, 4, 7, 3), true)
	checkVersions(t, versionsOf(3, 1, 1, 3, 0, 2), false)
	checkVersions(t, versionsOf(3, 1, 1, 2, 2, 2), false)
	for a := range impl.MaxKey + 1 {
		for b := range impl.MaxKey + 1 {
			for by := range impl.MaxActions {
				for other := range impl.MaxActions {
					want := a < b || a == b && by < other
					checkVersions(t, versionsOf(a, by, 5, b, other, 5), want)
				}
			}
		}
	}
}

func TestInvalidVersions(t *testing.T) {
	for _, list := range invalidVersions() {
		checkVersions(t, list, false)
	}
	for _, list := range sampleVersions() {
		for _, wrong := range wrongVersions() {
			checkVersions(t, append([]impl.Version{wrong}, list...), false)
			checkVersions(t, append(slices.Clone(list), wrong), false)
		}
	}
}

// The edges of each number, alone and together.
func TestEdgesOfVersions(t *testing.T) {
	for key := -2; key <= impl.MaxKey+2; key++ {
		for by := -2; by <= impl.MaxActions+2; by++ {
			for _, value := range []int{-2, -1, 0, 1, impl.MaxValue - 1, impl.MaxValue, impl.MaxValue + 1} {
				want := key >= 0 && key <= 31 && by >= 0 && by <= 9 && value >= 0 && value <= 1000000
				checkVersions(t, versionsOf(key, by, value), want)
			}
		}
	}
}

func TestReadVersionValues(t *testing.T) {
	s, list := storeOf(3, 9, 5, 7), versionsOf(3, 2, 1, 3, 4, 0, 3, 7, 6, 4, 0, 2)
	for by, want := range [][2]int{{9, -1}, {9, -1}, {9, -1}, {1, 2}, {1, 2}, {0, 4}, {0, 4}, {0, 4}, {6, 7}, {6, 7}, {6, 7}} {
		checkReadVersion(t, s, list, 3, by, want[0], want[1])
	}
	checkReadVersion(t, s, list, 4, 0, 0, -1)
	checkReadVersion(t, s, list, 4, 1, 2, 0)
	checkReadVersion(t, s, list, 4, impl.MaxActions, 2, 0)
	for by := range impl.MaxActions + 1 {
		checkReadVersion(t, s, list, 5, by, 7, -1)
		checkReadVersion(t, s, list, 2, by, 0, -1)
		checkReadVersion(t, s, nil, 3, by, 9, -1)
		checkReadVersion(t, nil, nil, 3, by, 0, -1)
	}
}

// Versions at the edges: of the first and the last key, by the first and the last action, with the least and the greatest value.
func TestReadVersionAtTheEdges(t *testing.T) {
	top := impl.MaxValue
	for _, key := range []int{0, impl.MaxKey} {
		for _, value := range []int{0, top} {
			s := fullStore(5, 1)
			first, last := versionsOf(key, 0, value), versionsOf(key, 9, value)
			checkReadVersion(t, s, first, key, 0, 5+key, -1)
			checkReadVersion(t, s, first, key, 1, value, 0)
			checkReadVersion(t, s, first, key, 10, value, 0)
			checkReadVersion(t, s, last, key, 0, 5+key, -1)
			checkReadVersion(t, s, last, key, 9, 5+key, -1)
			checkReadVersion(t, s, last, key, 10, value, 9)
			checkReadVersion(t, nil, last, key, 9, 0, -1)
			checkReadVersion(t, s, first, 31-key, 10, 36-key, -1)
		}
	}
}

// An action reads a key of which only itself, only later ones, or earlier and later ones have versions.
func TestReadVersionAroundTheAction(t *testing.T) {
	s := storeOf(3, 9)
	for by := range impl.MaxActions {
		checkReadVersion(t, s, versionsOf(3, by, 5), 3, by, 9, -1)
		for later := by + 1; later < impl.MaxActions; later++ {
			checkReadVersion(t, s, versionsOf(3, later, 5), 3, by, 9, -1)
			checkReadVersion(t, s, versionsOf(3, by, 6, 3, later, 5), 3, by, 9, -1)
		}
		for earlier := range by {
			checkReadVersion(t, s, versionsOf(3, earlier, 4), 3, by, 4, earlier)
			checkReadVersion(t, s, versionsOf(3, earlier, 4, 3, by, 6), 3, by, 4, earlier)
			checkReadVersion(t, s, versionsOf(3, earlier, 0), 3, by, 0, earlier)
			for later := by + 1; later < impl.MaxActions; later++ {
				checkReadVersion(t, s, versionsOf(3, earlier, 4, 3, later, 5), 3, by, 4, earlier)
				checkReadVersion(t, s, versionsOf(3, earlier, 4, 3, by, 6, 3, later, 5), 3, by, 4, earlier)
			}
		}
	}
}

// P49: every key as every action reads it, against a reference; the writer is before the action and has this version, or is the store.
func TestEarlierVersionsAreRead(t *testing.T) {
	t.Parallel()
	for _, s := range versionedStores() {
		for _, list := range sampleVersions() {
			for key := range impl.MaxKey + 1 {
				for by := range impl.MaxActions + 1 {
					want, wantWriter := plainRead(s, list, key, by)
					checkReadVersion(t, s, list, key, by, want, wantWriter)
					value, writer := impl.ReadVersion(s, list, key, by)
					isVersion := slices.Contains(list, impl.Version{Key: key, By: writer, Value: value})
					if writer >= by || writer < 0 && value != impl.ValueAt(s, key) || writer >= 0 && !isVersion {
						t.Errorf("action %d reads %d by %d of %v and %v for key %d", by, value, writer, s, list, key)
					}
				}
			}
		}
	}
}

// P49: an action reads the same without its own versions and those of all later ones, with others of them, and with other keys written.
func TestOwnAndLaterVersionsAreNotRead(t *testing.T) {
	s := storeOf(0, 1, 3, 9, 31, impl.MaxValue)
	for _, list := range sampleVersions() {
		for by := range impl.MaxActions {
			earlier, other := slices.Clone(list), slices.Clone(list)
			for n := by; n < impl.MaxActions; n++ {
				earlier = ofOthers(earlier, n)
				other = mustPutVersions(t, other, n, fullStore(100, n))
			}
			for key := range impl.MaxKey + 1 {
				want, writer := impl.ReadVersion(s, list, key, by)
				checkReadVersion(t, s, earlier, key, by, want, writer)
				checkReadVersion(t, s, other, key, by, want, writer)
			}
		}
	}
}

// The first action reads the store, and one behind all others the last version.
func TestFirstAndLastReaders(t *testing.T) {
	for _, s := range versionedStores() {
		for _, list := range sampleVersions() {
			for key := range impl.MaxKey + 1 {
				checkReadVersion(t, s, list, key, 0, impl.ValueAt(s, key), -1)
				value, writer := impl.ValueAt(s, key), -1
				for _, v := range list {
					if v.Key == key {
						value, writer = v.Value, v.By
					}
				}
				checkReadVersion(t, s, list, key, impl.MaxActions, value, writer)
			}
		}
	}
}

func TestDropVersionsValues(t *testing.T) {
	list := versionsOf(0, 0, 7, 3, 0, 1, 3, 2, 5, 4, 0, 2, 31, 9, 8)
	checkDrop(t, list, 0, versionsOf(3, 2, 5, 31, 9, 8))
	checkDrop(t, list, 2, versionsOf(0, 0, 7, 3, 0, 1, 4, 0, 2, 31, 9, 8))
	checkDrop(t, list, 9, versionsOf(0, 0, 7, 3, 0, 1, 3, 2, 5, 4, 0, 2))
	checkDrop(t, list, 1, list)
	checkDrop(t, versionsOf(3, 2, 5), 2, nil)
	checkDrop(t, versionsOf(3, 2, 5), 5, versionsOf(3, 2, 5))
	checkDrop(t, versionsOf(0, 0, 0), 0, nil)
	checkDrop(t, versionsOf(31, 9, 0), 9, nil)
	checkDrop(t, nil, 0, nil)
}

// P50: for every action, with versions and without them.
func TestDroppedVersionsAreGone(t *testing.T) {
	for _, list := range sampleVersions() {
		for by := range impl.MaxActions {
			want := ofOthers(list, by)
			checkDrop(t, list, by, want)
			checkDrop(t, impl.DropVersions(list, by), by, want)
			checkVersions(t, impl.DropVersions(list, by), true)
			for other := range impl.MaxActions {
				checkDrop(t, impl.DropVersions(list, by), other, impl.DropVersions(impl.DropVersions(list, other), by))
			}
		}
	}
}

// A number that no action has is one without versions.
func TestAnyNumberIsDropped(t *testing.T) {
	for _, list := range sampleVersions() {
		for _, by := range append(invalidBys(), impl.MaxActions) {
			checkDrop(t, list, by, list)
		}
	}
}

// With the versions of all actions dropped there are none.
func TestAllVersionsAreDropped(t *testing.T) {
	for _, list := range sampleVersions() {
		for by := range impl.MaxActions {
			list = impl.DropVersions(list, (by*3+1)%impl.MaxActions)
		}
		if len(list) != 0 {
			t.Errorf("%v remain", list)
		}
	}
}

func TestPutVersionsValues(t *testing.T) {
	top := impl.MaxValue
	list := versionsOf(3, 0, 1, 3, 2, 5, 4, 0, 2)
	checkPutVersions(t, nil, 2, storeOf(3, 5), versionsOf(3, 2, 5), true)
	checkPutVersions(t, nil, 0, storeOf(0, 0, 31, top), versionsOf(0, 0, 0, 31, 0, top), true)
	checkPutVersions(t, nil, 9, storeOf(0, top, 31, 0), versionsOf(0, 9, top, 31, 9, 0), true)
	checkPutVersions(t, versionsOf(3, 2, 5), 0, storeOf(3, 1, 4, 2), list, true)
	checkPutVersions(t, list, 1, storeOf(3, 9), versionsOf(3, 0, 1, 3, 1, 9, 3, 2, 5, 4, 0, 2), true)
	checkPutVersions(t, list, 3, storeOf(3, 0), versionsOf(3, 0, 1, 3, 2, 5, 3, 3, 0, 4, 0, 2), true)
	checkPutVersions(t, list, 0, storeOf(4, 7, 5, 8), versionsOf(3, 2, 5, 4, 0, 7, 5, 0, 8), true)
	checkPutVersions(t, list, 0, storeOf(3, 1), versionsOf(3, 0, 1, 3, 2, 5), true)
	checkPutVersions(t, list, 0, storeOf(3, 1, 4, 2), list, true)
	checkPutVersions(t, list, 2, storeOf(2, 6), versionsOf(2, 2, 6, 3, 0, 1, 4, 0, 2), true)
}

// An action that writes nothing has no versions, whether it had some before or not.
func TestNoWritesAreNoVersions(t *testing.T) {
	for _, none := range [][]impl.Entry{nil, {}, storeOf(3, 5)[:0]} {
		checkPutVersions(t, nil, 0, none, nil, true)
		checkPutVersions(t, versionsOf(3, 0, 1, 3, 2, 5, 4, 0, 2), 0, none, versionsOf(3, 2, 5), true)
		for _, list := range sampleVersions() {
			for by := range impl.MaxActions {
				checkPutVersions(t, list, by, none, ofOthers(list, by), true)
			}
		}
	}
}

// A put between versions of the same key by earlier and by later actions, whatever their order.
func TestVersionsArePutBetween(t *testing.T) {
	for by := range impl.MaxActions {
		list := slices.DeleteFunc(fullVersions(7, 1), func(v impl.Version) bool { return v.By == by })
		for key := range impl.MaxKey + 1 {
			want := slices.Insert(slices.Clone(list), key*9+by, impl.Version{Key: key, By: by, Value: 3})
			checkPutVersions(t, list, by, storeOf(key, 3), want, true)
		}
		all := fullVersions(7, 1)
		var writes []impl.Entry
		for key := range impl.MaxKey + 1 {
			all[key*10+by].Value = 900 - key
			writes = append(writes, impl.Entry{Key: key, Value: 900 - key})
		}
		checkPutVersions(t, list, by, writes, all, true)
		checkPutVersions(t, fullVersions(7, 1), by, writes, all, true)
	}
}

func TestPutVersionsAreExact(t *testing.T) {
	eachPut(func(list []impl.Version, by int, writes []impl.Entry) {
		checkPutVersions(t, list, by, writes, plainPut(list, by, writes), true)
	})
}

// P51: the next action reads what was put, and by whom; for a key that was not put it reads what was there without it.
func TestPutVersionsAreReadByTheNextAction(t *testing.T) {
	t.Parallel()
	s := storeOf(0, 1, 3, 9, 4, 4, 31, impl.MaxValue)
	eachPut(func(list []impl.Version, by int, writes []impl.Entry) {
		put := mustPutVersions(t, list, by, writes)
		checkVersions(t, put, true)
		written := plainValues(writes)
		for key := range impl.MaxKey + 1 {
			if value, isWritten := written[key]; isWritten {
				checkReadVersion(t, s, put, key, by+1, value, by)
				continue
			}
			value, writer := plainRead(s, list, key, by)
			checkReadVersion(t, s, put, key, by+1, value, writer)
		}
	})
}

// P51: what others have stays, and the action has exactly its writes; dropping them leads to DropVersions; putting them again, or others before, changes nothing.
func TestPutVersionsLeaveOthers(t *testing.T) {
	eachPut(func(list []impl.Version, by int, writes []impl.Entry) {
		put := mustPutVersions(t, list, by, writes)
		if got, want := ofOthers(put, by), ofOthers(list, by); !slices.Equal(got, want) {
			t.Errorf("with %v by %d put the others of %v become %v", writes, by, list, got)
		}
		var own []impl.Entry
		for _, v := range put {
			if v.By == by {
				own = append(own, impl.Entry{Key: v.Key, Value: v.Value})
			}
		}
		if !slices.Equal(own, writes) {
			t.Errorf("with %v by %d put into %v it has %v", writes, by, list, own)
		}
		checkDrop(t, put, by, impl.DropVersions(list, by))
		checkPutVersions(t, put, by, writes, put, true)
		checkPutVersions(t, mustPutVersions(t, list, by, fullStore(3, 3)), by, writes, put, true)
		checkPutVersions(t, impl.DropVersions(list, by), by, writes, put, true)
	})
}

// Versions of two actions are put in any order.
func TestTwoActionsArePutInAnyOrder(t *testing.T) {
	t.Parallel()
	for _, list := range sampleVersions() {
		for a := range impl.MaxActions {
			for b := range a {
				for n, writes := range sampleWrites() {
					more := sampleWrites()[(n*5+3)%len(sampleWrites())]
					one := mustPutVersions(t, mustPutVersions(t, list, a, writes), b, more)
					checkPutVersions(t, mustPutVersions(t, list, b, more), a, writes, one, true)
				}
			}
		}
	}
}

func TestLastVersionsValues(t *testing.T) {
	top := impl.MaxValue
	s := storeOf(3, 9, 5, 7)
	checkLast(t, s, versionsOf(3, 0, 1, 3, 2, 5, 4, 0, 2), storeOf(3, 5, 4, 2, 5, 7))
	checkLast(t, s, versionsOf(3, 0, 1, 3, 2, 0), storeOf(5, 7))
	checkLast(t, s, versionsOf(3, 0, 0, 3, 2, 1), storeOf(3, 1, 5, 7))
	checkLast(t, s, versionsOf(3, 9, 0, 5, 0, 0), nil)
	checkLast(t, s, versionsOf(4, 9, 0), s)
	checkLast(t, nil, versionsOf(4, 9, 0), nil)
	checkLast(t, nil, versionsOf(0, 0, top, 31, 9, 1), storeOf(0, top, 31, 1))
	checkLast(t, nil, versionsOf(0, 9, 1, 31, 0, top), storeOf(0, 1, 31, top))
	checkLast(t, storeOf(0, 5, 31, 5), versionsOf(0, 9, 0, 31, 0, 0), nil)
	checkLast(t, fullStore(1, 1), fullVersions(0, 0), nil)
	checkLast(t, fullStore(1, 1), fullVersions(top, 0), fullStore(top, 0))
	checkLast(t, nil, fullVersions(1, 1), fullStore(10, 10))
}

// P52: without versions the store stays, also with those of all actions dropped.
func TestStoresStayWithoutVersions(t *testing.T) {
	for _, s := range sampleStores() {
		checkLast(t, s, nil, s)
		checkLast(t, s, []impl.Version{}, s)
		checkLast(t, s, impl.DropVersions(versionsOf(3, 2, 5, 31, 2, 0), 2), s)
		checkLast(t, s, mustPutVersions(t, nil, 4, nil), s)
	}
}

// P52: every key has what an action behind all others reads; a key without versions keeps its value.
func TestLastVersionsRemain(t *testing.T) {
	for _, s := range sampleStores() {
		for _, list := range sampleVersions() {
			last := plainValues(s)
			for key := range impl.MaxKey + 1 {
				last[key], _ = plainRead(s, list, key, 10)
			}
			checkLast(t, s, list, plainStore(last))
			got := impl.LastVersions(s, list)
			if !impl.StoreValid(got) {
				t.Errorf("LastVersions(%v, %v) = %v is not valid", s, list, got)
			}
			for key := range impl.MaxKey + 1 {
				value, writer := impl.ReadVersion(s, list, key, impl.MaxActions)
				if has := impl.ValueAt(got, key); has != value || writer < 0 && has != impl.ValueAt(s, key) {
					t.Errorf("LastVersions(%v, %v) has %d for key %d, which is read as %d by %d", s, list, has, key, value, writer)
				}
			}
		}
	}
}

// What the last action writes remains, like an effect that is applied to the store.
func TestLastWritesRemain(t *testing.T) {
	for _, s := range versionedStores() {
		for _, list := range sampleVersions() {
			for _, writes := range sampleWrites() {
				put := mustPutVersions(t, list, 9, writes)
				before := impl.LastVersions(s, ofOthers(list, 9))
				checkLast(t, s, put, impl.ApplyEffect(before, effect(true, nil, writes)))
			}
		}
	}
}

// versionsOfEffects are the versions of effects, put in an order.
func versionsOfEffects(t *testing.T, effects []impl.Effect, order []int) []impl.Version {
	t.Helper()
	var list []impl.Version
	for _, n := range order {
		list = mustPutVersions(t, list, n, effects[n].Writes)
	}
	return list
}

// lastWriter is the last action before one that writes a key, or -1.
func lastWriter(effects []impl.Effect, key int, before int) int {
	writer := -1
	for n, e := range effects[:before] {
		if slices.ContainsFunc(e.Writes, func(entry impl.Entry) bool { return entry.Key == key }) {
			writer = n
		}
	}
	return writer
}

// P111: the versions of all effects leave the store, and every action reads in them what it read in the run, by the last one that wrote it.
func TestVersionsTellSerialRuns(t *testing.T) {
	written := 0
	eachSerial(func(s []impl.Entry, list []impl.Action) {
		after, effects := mustRun(t, s, list)
		versions := versionsOfEffects(t, effects, inOrder(len(list)))
		checkVersions(t, versions, true)
		checkLast(t, s, versions, after)
		for n, e := range effects {
			for _, read := range e.Reads {
				writer := lastWriter(effects, read.Key, n)
				checkReadVersion(t, s, versions, read.Key, n, read.Value, writer)
				if writer >= 0 {
					written++
				}
			}
		}
	})
	if written < 1000 {
		t.Errorf("only %d values that are read were written by actions", written)
	}
}

// P111, in whatever order the versions are put, and with other versions of the same actions before.
func TestVersionsOfRunsArePutInAnyOrder(t *testing.T) {
	eachSerial(func(s []impl.Entry, list []impl.Action) {
		after, effects := mustRun(t, s, list)
		want := versionsOfEffects(t, effects, inOrder(len(list)))
		reverse := inOrder(len(list))
		slices.Reverse(reverse)
		for _, order := range [][]int{reverse, impl.LevelOrder(list)} {
			if got := versionsOfEffects(t, effects, order); !slices.Equal(got, want) {
				t.Errorf("put in the order %v the versions are %v, not %v", order, got, want)
			}
		}
		got := want
		for n, e := range effects {
			got = mustPutVersions(t, mustPutVersions(t, got, n, fullStore(1, n)), n, e.Writes)
		}
		checkLast(t, s, got, after)
	})
}

// P111, as one action after the other: the store after every action is what the next one reads.
func TestVersionsTellEveryStoreOfARun(t *testing.T) {
	for _, s := range versionedStores() {
		for _, list := range busyActions() {
			_, effects := mustRun(t, s, list)
			versions := versionsOfEffects(t, effects, inOrder(len(list)))
			for n := range len(list) + 1 {
				store, _ := mustRun(t, s, list[:n])
				for key := range impl.MaxKey + 1 {
					checkReadVersion(t, s, versions, key, n, impl.ValueAt(store, key), lastWriter(effects, key, n))
				}
			}
		}
	}
}

func TestInvalidVersionsAreAnsweredByNothing(t *testing.T) {
	for _, list := range invalidVersions() {
		for _, key := range []int{0, 3, 31, -1, 32} {
			for _, by := range []int{0, 4, 10, -1, 11} {
				checkReadVersion(t, storeOf(3, 9), list, key, by, -1, -1)
			}
		}
		for _, by := range []int{0, 4, 9, 10, -1, math.MinInt, math.MaxInt} {
			checkDrop(t, list, by, nil)
			checkPutVersions(t, list, by, nil, nil, false)
			checkPutVersions(t, list, by, storeOf(3, 5), nil, false)
			checkPutVersions(t, list, by, storeOf(32, 5), nil, false)
		}
		for _, s := range [][]impl.Entry{nil, storeOf(3, 9), fullStore(1, 1), storeOf(3, 0)} {
			checkLast(t, s, list, nil)
		}
	}
}

// Not even a wrong version of an action that is dropped, or whose versions are put again, is left out of sight.
func TestWrongVersionsAreNotDropped(t *testing.T) {
	for _, list := range [][]impl.Version{versionsOf(3, 2, 5, 3, 2, 5), versionsOf(3, 2, -1), versionsOf(32, 2, 5), versionsOf(4, 2, 5, 3, 2, 5)} {
		checkDrop(t, list, 2, nil)
		checkPutVersions(t, list, 2, storeOf(3, 5), nil, false)
	}
	checkDrop(t, versionsOf(3, 10, 5), 10, nil)
	checkDrop(t, versionsOf(3, -1, 5), -1, nil)
}

func TestInvalidStoresHaveNoVersions(t *testing.T) {
	t.Parallel()
	for _, s := range invalidStores() {
		for _, list := range [][]impl.Version{nil, versionsOf(3, 2, 5), fullVersions(1, 1)} {
			checkLast(t, s, list, nil)
			for _, key := range []int{0, 3, 31, 32} {
				for _, by := range []int{0, 3, 10, 11} {
					checkReadVersion(t, s, list, key, by, -1, -1)
				}
			}
		}
	}
}

func TestInvalidKeysAndNumbersReadNothing(t *testing.T) {
	for _, s := range versionedStores() {
		for _, list := range sampleVersions() {
			for _, key := range invalidKeys() {
				for _, by := range []int{0, 1, 9, 10, 11, -1} {
					checkReadVersion(t, s, list, key, by, -1, -1)
				}
			}
			for _, by := range invalidBys() {
				for _, key := range []int{0, 3, 31} {
					checkReadVersion(t, s, list, key, by, -1, -1)
				}
			}
		}
	}
}

// Also with no writes, and with those that an action has already.
func TestInvalidNumbersPutNothing(t *testing.T) {
	for _, list := range sampleVersions() {
		for _, by := range append(invalidBys(), impl.MaxActions) {
			for _, writes := range sampleWrites() {
				checkPutVersions(t, list, by, writes, nil, false)
			}
			checkPutVersions(t, list, by, storeOf(5, 1, 4, 1), nil, false)
		}
	}
}

func TestInvalidWritesAreNotPut(t *testing.T) {
	for _, list := range sampleVersions() {
		for _, writes := range invalidWrites() {
			for _, by := range []int{0, 2, 9} {
				checkPutVersions(t, list, by, writes, nil, false)
			}
		}
	}
}

// spoilVersions writes over everything that a result reaches, its spare capacity included.
func spoilVersions(list []impl.Version) {
	list = list[:cap(list)]
	for i := range list {
		list[i] = impl.Version{Key: -7, By: -7, Value: -7}
	}
}

// What is written over results is not seen in the arguments, also not behind them, and no function writes to them.
func TestVersionsShareNoMemoryWithArguments(t *testing.T) {
	s := append(fullStore(1, 1)[:7], storeOf(40, 40, 41, 41)...)
	storeBefore := slices.Clone(s)
	eachPut(func(list []impl.Version, by int, writes []impl.Entry) {
		versions := append(slices.Clone(list), versionsOf(40, 40, 40, 41, 41, 41)...)
		written := append(slices.Clone(writes), storeOf(40, 40, 41, 41)...)
		versionsBefore, writtenBefore := slices.Clone(versions), slices.Clone(written)
		argument := versions[:len(list)]
		for _, n := range []int{by, -1, impl.MaxActions} {
			put, _ := impl.PutVersions(argument, n, written[:len(writes)])
			spoilVersions(put)
			spoilVersions(impl.DropVersions(argument, n))
			impl.ReadVersion(s[:7], argument, 3, n)
		}
		spoil(impl.LastVersions(s[:7], argument))
		impl.VersionsValid(argument)
		if !slices.Equal(versions, versionsBefore) || !slices.Equal(written, writtenBefore) || !slices.Equal(s, storeBefore) {
			t.Errorf("%v, %v and %v have become %v, %v and %v", versionsBefore, writtenBefore, storeBefore, versions, written, s)
		}
	})
}

// Every result is new: what is written over one is not seen in the next one of the same arguments, nor is what is written over the arguments.
func TestVersionsOfResultsShareNoMemory(t *testing.T) {
	eachPut(func(list []impl.Version, by int, writes []impl.Entry) {
		versions, written := slices.Clone(list), slices.Clone(writes)
		first := mustPutVersions(t, versions, by, written)
		dropped := impl.DropVersions(versions, by)
		spoilVersions(mustPutVersions(t, versions, by, written))
		spoilVersions(impl.DropVersions(versions, by))
		spoilVersions(versions)
		spoil(written)
		if !slices.Equal(first, plainPut(list, by, writes)) || !slices.Equal(dropped, ofOthers(list, by)) {
			t.Errorf("with the arguments written over the results of %v are %v and %v", list, first, dropped)
		}
	})
	for _, s := range sampleStores() {
		store := slices.Clone(s)
		last := impl.LastVersions(store, nil)
		spoil(impl.LastVersions(store, nil))
		spoil(store)
		if !slices.Equal(last, s) {
			t.Errorf("with the store written over the last versions are %v, not %v", last, s)
		}
	}
}
