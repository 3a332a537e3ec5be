package tests

import (
	"maps"
	"math"
	"slices"
	"testing"

	"loop.example/blockexecutor/impl"
)

// storeOf is the store with keys and values that stand in turn.
func storeOf(pairs ...int) []impl.Entry {
	var s []impl.Entry
	for i := 0; i < len(pairs); i += 2 {
		s = append(s, impl.Entry{Key: pairs[i], Value: pairs[i+1]})
	}
	return s
}

// fullStore has an entry for every key, the values beginning with first and changing by step.
func fullStore(first int, step int) []impl.Entry {
	var s []impl.Entry
	for key := range impl.MaxKey + 1 {
		s = append(s, impl.Entry{Key: key, Value: first + key*step})
	}
	return s
}

// sampleStores are valid stores: the empty one, the edges of keys and values, full ones, and others.
func sampleStores() [][]impl.Entry {
	top := impl.MaxValue
	stores := [][]impl.Entry{
		nil, {},
		storeOf(0, 1), storeOf(0, top), storeOf(31, 1), storeOf(31, top),
		storeOf(0, 1, 31, top), storeOf(0, top, 31, 1), storeOf(15, 7, 16, 7),
		storeOf(1, 9, 3, 5), storeOf(1, 9, 3, 6), storeOf(3, 9), storeOf(1, 5, 2, 6, 3, 7, 4, 8),
		fullStore(1, 0), fullStore(top, 0), fullStore(1, 1), fullStore(top, -1),
		fullStore(5, 3)[:31], fullStore(5, 3)[1:],
	}
	// A fixed sequence of numbers, so that every run checks the same.
	number := 4711
	for range 12 {
		var s []impl.Entry
		for key := range impl.MaxKey + 1 {
			number = (number*48271 + 11) % 2147483647
			if number%3 != 0 {
				s = append(s, impl.Entry{Key: key, Value: 1 + number%top})
			}
		}
		stores = append(stores, s)
	}
	return stores
}

func sampleValues() []int {
	return []int{0, 1, 2, 7, impl.MaxValue - 1, impl.MaxValue}
}

func invalidKeys() []int {
	return []int{-1, -2, -32, 32, 33, 64, 1 << 32, math.MinInt, math.MaxInt}
}

func invalidValues() []int {
	return []int{-1, -2, -impl.MaxValue, impl.MaxValue + 1, 2 * impl.MaxValue, 1 << 32, math.MinInt, math.MaxInt}
}

// invalidStores are the sample stores, each with one thing wrong, at every place where it can be.
func invalidStores() [][]impl.Entry {
	var stores [][]impl.Entry
	for _, s := range sampleStores() {
		for _, key := range invalidKeys() {
			wrong := impl.Entry{Key: key, Value: 1}
			stores = append(stores, append([]impl.Entry{wrong}, s...), append(slices.Clone(s), wrong))
		}
		for i := range s {
			stores = append(stores, slices.Insert(slices.Clone(s), i, s[i]))
			for _, value := range append(invalidValues(), 0) {
				other := slices.Clone(s)
				other[i].Value = value
				stores = append(stores, other)
			}
			if i > 0 {
				other := slices.Clone(s)
				other[i-1], other[i] = s[i], s[i-1]
				stores = append(stores, other)
			}
		}
	}
	return append(stores,
		storeOf(2, 1, 2, 1), storeOf(2, 1, 2, 5), storeOf(0, 1, 0, 1), storeOf(31, 1, 31, 2),
		storeOf(1, 0), storeOf(0, 0), storeOf(31, 0), storeOf(5, 1, 4, 1), storeOf(1, 1, 3, 1, 2, 1))
}

// plainValues are the values of a store as a map, which has no key without an entry.
func plainValues(s []impl.Entry) map[int]int {
	values := map[int]int{}
	for _, entry := range s {
		values[entry.Key] = entry.Value
	}
	return values
}

// plainStore is the store with the values of a map.
func plainStore(values map[int]int) []impl.Entry {
	var s []impl.Entry
	for _, key := range slices.Sorted(maps.Keys(values)) {
		if values[key] != 0 {
			s = append(s, impl.Entry{Key: key, Value: values[key]})
		}
	}
	return s
}

func checkPut(t *testing.T, s []impl.Entry, key int, value int, want []impl.Entry, wantOK bool) {
	t.Helper()
	got, ok := impl.PutValue(s, key, value)
	if ok != wantOK || !slices.Equal(got, want) {
		t.Errorf("PutValue(%v, %d, %d) = %v, %v, want %v, %v", s, key, value, got, ok, want, wantOK)
	}
}

func checkChanged(t *testing.T, a []impl.Entry, b []impl.Entry, want []int) {
	t.Helper()
	if got := impl.ChangedKeys(a, b); !slices.Equal(got, want) {
		t.Errorf("ChangedKeys(%v, %v) = %v, want %v", a, b, got, want)
	}
}

func mustPut(t *testing.T, s []impl.Entry, key int, value int) []impl.Entry {
	t.Helper()
	put, ok := impl.PutValue(s, key, value)
	if !ok {
		t.Fatalf("PutValue(%v, %d, %d) is refused", s, key, value)
	}
	return put
}

func TestStoreConstants(t *testing.T) {
	if impl.MaxKey != 31 || impl.MaxValue != 1000000 {
		t.Errorf("MaxKey %d, MaxValue %d", impl.MaxKey, impl.MaxValue)
	}
}

// P20, the first half: every part of a valid store, from any place to any other, and with gaps.
func TestPartsOfStoresAreValid(t *testing.T) {
	for _, s := range sampleStores() {
		for from := 0; from <= len(s); from++ {
			for to := from; to <= len(s); to++ {
				if !impl.StoreValid(s[from:to]) {
					t.Errorf("%v is not valid", s[from:to])
				}
			}
		}
		for i := range s {
			if part := slices.Delete(slices.Clone(s), i, i+1); !impl.StoreValid(part) {
				t.Errorf("%v is not valid", part)
			}
		}
	}
}

// P20, the second half, and everything else that makes a store invalid.
func TestInvalidStores(t *testing.T) {
	for _, s := range sampleStores() {
		if longer := append(slices.Clone(s), impl.Entry{Key: 32, Value: 1}); impl.StoreValid(longer) {
			t.Errorf("%v is valid", longer)
		}
	}
	for _, s := range invalidStores() {
		if impl.StoreValid(s) {
			t.Errorf("%v is valid", s)
		}
	}
}

// P21: with an entry its value, without one 0.
func TestKeysHaveValues(t *testing.T) {
	for _, s := range sampleStores() {
		values := plainValues(s)
		for key := range impl.MaxKey + 1 {
			if got := impl.ValueAt(s, key); got != values[key] {
				t.Errorf("ValueAt(%v, %d) = %d, want %d", s, key, got, values[key])
			}
		}
	}
}

func TestPutValueValues(t *testing.T) {
	top := impl.MaxValue
	checkPut(t, nil, 3, 5, storeOf(3, 5), true)
	checkPut(t, storeOf(3, 5), 1, 9, storeOf(1, 9, 3, 5), true)
	checkPut(t, storeOf(3, 5), 4, 1, storeOf(3, 5, 4, 1), true)
	checkPut(t, storeOf(1, 9, 3, 5), 2, top, storeOf(1, 9, 2, top, 3, 5), true)
	checkPut(t, storeOf(1, 9, 3, 5), 3, 6, storeOf(1, 9, 3, 6), true)
	checkPut(t, storeOf(1, 9, 3, 5), 1, 0, storeOf(3, 5), true)
	checkPut(t, storeOf(1, 9, 3, 5), 2, 0, storeOf(1, 9, 3, 5), true)
	checkPut(t, storeOf(7, 2), 7, 0, nil, true)
	checkPut(t, nil, 7, 0, nil, true)
	checkPut(t, nil, 0, top, storeOf(0, top), true)
	checkPut(t, nil, 31, 1, storeOf(31, 1), true)
	checkPut(t, fullStore(1, 0), 0, 0, fullStore(1, 0)[1:], true)
	checkPut(t, fullStore(1, 0), 31, 0, fullStore(1, 0)[:31], true)
	checkPut(t, fullStore(1, 0)[1:], 0, 1, fullStore(1, 0), true)
}

// P22 and P23, for every key and the edges of values: the exact store, the way back, and the total.
func TestPutValuesAreThere(t *testing.T) {
	for _, s := range sampleStores() {
		for key := range impl.MaxKey + 1 {
			for _, value := range sampleValues() {
				checkPutIsThere(t, s, key, value)
			}
		}
	}
}

func checkPutIsThere(t *testing.T, s []impl.Entry, key int, value int) {
	t.Helper()
	values := plainValues(s)
	old := values[key]
	values[key] = value
	checkPut(t, s, key, value, plainStore(values), true)
	put := mustPut(t, s, key, value)
	if !impl.StoreValid(put) {
		t.Errorf("%v with %d for key %d becomes %v, which is not valid", s, value, key, put)
	}
	for other := range impl.MaxKey + 1 {
		if got := impl.ValueAt(put, other); got != values[other] {
			t.Errorf("%v with %d for key %d has %d for key %d", s, value, key, got, other)
		}
	}
	checkPut(t, put, key, old, s, true)
	if got := impl.StoreTotal(put) - impl.StoreTotal(s); got != value-old {
		t.Errorf("the total of %v changes by %d with %d for key %d", s, got, value, key)
	}
}

// P23: the total itself.
func TestTotalsAreSums(t *testing.T) {
	for _, s := range sampleStores() {
		want := 0
		for _, entry := range s {
			want += entry.Value
		}
		if got := impl.StoreTotal(s); got != want {
			t.Errorf("StoreTotal(%v) = %d, want %d", s, got, want)
		}
	}
	if got := impl.StoreTotal(fullStore(impl.MaxValue, 0)); got != 32000000 {
		t.Errorf("the largest total is %d", got)
	}
}

func TestChangedKeysValues(t *testing.T) {
	checkChanged(t, nil, storeOf(0, 1, 31, 2), []int{0, 31})
	checkChanged(t, storeOf(1, 9, 3, 5), storeOf(3, 5), []int{1})
	checkChanged(t, storeOf(1, 9, 3, 5), storeOf(1, 5, 3, 9), []int{1, 3})
	checkChanged(t, storeOf(1, 9, 3, 5), storeOf(2, 9, 3, 5), []int{1, 2})
	checkChanged(t, storeOf(4, 1), storeOf(4, 2), []int{4})
	checkChanged(t, fullStore(1, 0)[:31], fullStore(1, 0)[1:], []int{0, 31})
}

// P24, for every two of the stores: exactly the keys whose values differ, in both orders, and the way to the second store.
func TestChangedKeysHaveOtherValues(t *testing.T) {
	for _, a := range sampleStores() {
		checkChanged(t, a, slices.Clone(a), nil)
		for _, b := range sampleStores() {
			first, second := plainValues(a), plainValues(b)
			var want []int
			made := slices.Clone(a)
			for key := range impl.MaxKey + 1 {
				if first[key] != second[key] {
					want = append(want, key)
					made = mustPut(t, made, key, impl.ValueAt(b, key))
				}
			}
			checkChanged(t, a, b, want)
			checkChanged(t, b, a, want)
			if !slices.Equal(made, b) {
				t.Errorf("with the changed keys put %v becomes %v, not %v", a, made, b)
			}
		}
	}
}

// P24: after one value is put, its key alone has changed, or none if it is the old value.
func TestPutChangesOneKey(t *testing.T) {
	for _, s := range sampleStores() {
		for key := range impl.MaxKey + 1 {
			for _, value := range sampleValues() {
				var want []int
				if plainValues(s)[key] != value {
					want = []int{key}
				}
				checkChanged(t, s, mustPut(t, s, key, value), want)
			}
		}
	}
}

// P105, for every two keys, with values that make, change and remove entries.
func TestTwoKeysArePutInAnyOrder(t *testing.T) {
	for _, s := range sampleStores() {
		for a := range impl.MaxKey + 1 {
			for b := range a {
				for _, values := range [][2]int{{0, 0}, {0, 1}, {1, 0}, {3, impl.MaxValue}} {
					one := mustPut(t, mustPut(t, s, a, values[0]), b, values[1])
					other := mustPut(t, mustPut(t, s, b, values[1]), a, values[0])
					if !slices.Equal(one, other) {
						t.Errorf("%v with %v for keys %d and %d becomes %v or %v", s, values, a, b, one, other)
					}
				}
			}
		}
	}
}

func TestInvalidKeysAndValues(t *testing.T) {
	for _, s := range sampleStores() {
		for _, key := range invalidKeys() {
			if got := impl.ValueAt(s, key); got != -1 {
				t.Errorf("ValueAt(%v, %d) = %d", s, key, got)
			}
			for _, value := range append(invalidValues(), sampleValues()...) {
				checkPut(t, s, key, value, s, false)
			}
		}
		for _, value := range invalidValues() {
			for _, key := range []int{0, 1, 3, 31} {
				checkPut(t, s, key, value, s, false)
			}
		}
	}
}

func TestInvalidStoresHaveNoValues(t *testing.T) {
	for _, s := range invalidStores() {
		if got := impl.StoreTotal(s); got != -1 {
			t.Errorf("StoreTotal(%v) = %d", s, got)
		}
		for _, key := range []int{0, 1, 31, -1, 32} {
			if got := impl.ValueAt(s, key); got != -1 {
				t.Errorf("ValueAt(%v, %d) = %d", s, key, got)
			}
			for _, value := range []int{0, 1, impl.MaxValue, -1, impl.MaxValue + 1} {
				checkPut(t, s, key, value, nil, false)
			}
		}
		for _, other := range [][]impl.Entry{nil, storeOf(1, 9, 3, 5), fullStore(2, 0), s} {
			checkChanged(t, s, other, nil)
			checkChanged(t, other, s, nil)
		}
	}
}

// spoil writes over everything that a result reaches, its spare capacity included.
func spoil(s []impl.Entry) {
	s = s[:cap(s)]
	for i := range s {
		s[i] = impl.Entry{Key: -7, Value: -7}
	}
}

func TestStoresShareNoMemory(t *testing.T) {
	for _, s := range sampleStores() {
		backing := append(slices.Clone(s), storeOf(40, 40, 41, 41)...)
		before := slices.Clone(backing)
		argument := backing[:len(s)]
		for _, key := range []int{-1, 0, 1, 3, 31} {
			for _, value := range append(sampleValues(), -1) {
				put, _ := impl.PutValue(argument, key, value)
				spoil(put)
			}
		}
		impl.StoreValid(argument)
		impl.StoreTotal(argument)
		impl.ValueAt(argument, 3)
		impl.ChangedKeys(argument, fullStore(3, 1))
		impl.ChangedKeys(fullStore(3, 1), argument)
		if !slices.Equal(backing, before) {
			t.Errorf("%v has become %v", before, backing)
		}
	}
}
