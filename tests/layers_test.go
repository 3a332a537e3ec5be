package tests

import (
	"math"
	"slices"
	"testing"

	"loop.example/blockexecutor/impl"
)

// layer is a layer over another one with keys and values that stand in turn.
func layer(below int, pairs ...int) impl.Layer {
	return impl.Layer{Below: below, Writes: storeOf(pairs...)}
}

// copyLayers is a copy that shares no memory.
func copyLayers(list []impl.Layer) []impl.Layer {
	var other []impl.Layer
	for _, l := range list {
		other = append(other, impl.Layer{Below: l.Below, Writes: slices.Clone(l.Writes)})
	}
	return other
}

func sameLayers(a []impl.Layer, b []impl.Layer) bool {
	return slices.EqualFunc(a, b, func(x, y impl.Layer) bool {
		return x.Below == y.Below && slices.Equal(x.Writes, y.Writes)
	})
}

// chain has as many layers as count, each over the one before; every one writes its number for one key more.
func chain(count int) []impl.Layer {
	var list []impl.Layer
	for n := range count {
		list = append(list, layer(n-1, n, n))
	}
	return list
}

// star has as many layers as count, all over the store, with different values for the same key.
func star(count int) []impl.Layer {
	var list []impl.Layer
	for n := range count {
		list = append(list, layer(-1, 3, n))
	}
	return list
}

// hiding is a full layer of zeros.
func hiding(below int) impl.Layer {
	l := layer(below)
	for key := range impl.MaxKey + 1 {
		l.Writes = append(l.Writes, impl.Entry{Key: key})
	}
	return l
}

// sampleLayers are valid layers: none, MaxLayers in a row and beside each other, values of 0 that hide others, edges of keys and values, and others.
func sampleLayers() [][]impl.Layer {
	top := impl.MaxValue
	lists := [][]impl.Layer{
		nil, {},
		{layer(-1)},
		{layer(-1, 0, 0)}, {layer(-1, 31, 0)}, {layer(-1, 0, top, 31, top)},
		{layer(-1, 3, 5), layer(0, 3, 0), layer(1, 3, 7), layer(2)},
		{layer(-1, 1, 0, 3, 4), layer(-1, 1, 8), layer(0, 3, 0), layer(1, 2, 0), layer(0, 0, 1, 31, 1)},
		{layer(-1, 0, 1), layer(-1), layer(0), layer(1, 0, 2), layer(0, 0, 3), layer(-1, 0, 4)},
		{hiding(-1), layer(0, 7, 1), hiding(1), {Below: 2, Writes: fullStore(1, 1)}, hiding(-1)},
		{{Below: -1, Writes: fullStore(top, 0)}, hiding(0), {Below: 0, Writes: fullStore(top, -1)[:31]}},
		chain(2), chain(19), chain(20), star(19), star(20),
	}
	// A fixed sequence of numbers, so that every run checks the same.
	number := 815
	next := func(limit int) int {
		number = (number*48271 + 11) % 2147483647
		return number % limit
	}
	for count := 1; count <= impl.MaxLayers; count += 3 {
		var list []impl.Layer
		for n := range count {
			l := layer(next(n+1) - 1)
			for key := range impl.MaxKey + 1 {
				if next(4) == 0 {
					l.Writes = append(l.Writes, impl.Entry{Key: key, Value: next(3) * next(top/2+1)})
				}
			}
			list = append(list, l)
		}
		lists = append(lists, list)
	}
	return lists
}

// layeredStores are the stores under the sample layers: some of the sample stores, so that every pair can be checked.
func layeredStores() [][]impl.Entry {
	return [][]impl.Entry{
		nil, storeOf(0, 1, 31, impl.MaxValue), storeOf(1, 9, 3, 5), fullStore(1, 1), fullStore(impl.MaxValue, 0), sampleStores()[20],
	}
}

// invalidWrites cannot be written, each for another reason.
func invalidWrites() [][]impl.Entry {
	lists := [][]impl.Entry{
		storeOf(2, 1, 2, 1), storeOf(0, 0, 0, 5), storeOf(31, 1, 31, 2), storeOf(5, 1, 4, 1), storeOf(1, 1, 3, 0, 2, 1),
		append(fullStore(1, 0), impl.Entry{Key: 31, Value: 1}), append(fullStore(1, 0), impl.Entry{Key: 32, Value: 1}),
	}
	for _, key := range invalidKeys() {
		lists = append(lists, storeOf(key, 0), storeOf(key, 1), storeOf(key, 1, 4, 1), storeOf(4, 1, key, 1))
	}
	for _, value := range invalidValues() {
		lists = append(lists, storeOf(0, value), storeOf(31, value), storeOf(4, value, 5, 1), storeOf(4, 1, 5, value))
	}
	return lists
}

// invalidLayers are the sample layers, each with one thing wrong, at every place where it can be.
func invalidLayers() [][]impl.Layer {
	lists := [][]impl.Layer{{layer(0)}, {layer(1), layer(-1)}, {layer(-1), layer(1)}, {layer(-1), layer(2)}, {layer(-2)}, chain(21), star(21), chain(40)}
	for _, list := range sampleLayers() {
		for n := range list {
			for _, below := range []int{-2, -20, math.MinInt, n, n + 1, len(list), impl.MaxLayers, math.MaxInt} {
				other := copyLayers(list)
				other[n].Below = below
				lists = append(lists, other)
			}
		}
		for _, n := range []int{0, len(list) / 2, len(list) - 1} {
			if len(list) == 0 {
				continue
			}
			for _, writes := range invalidWrites() {
				other := copyLayers(list)
				other[n].Writes = writes
				lists = append(lists, other)
			}
		}
		many := copyLayers(list)
		for len(many) <= impl.MaxLayers {
			many = append(many, layer(-1))
		}
		lists = append(lists, many)
	}
	return lists
}

// missingLayers are the numbers that stand neither for one of the layers nor for the store.
func missingLayers(list []impl.Layer) []int {
	return []int{-2, -3, math.MinInt, len(list), len(list) + 1, impl.MaxLayers, impl.MaxLayers + 1, math.MaxInt}
}

// plainSeen are all values that are seen in a layer: those below it, with what is written in it put over them.
func plainSeen(s []impl.Entry, list []impl.Layer, n int) map[int]int {
	if n < 0 {
		return plainValues(s)
	}
	values := plainSeen(s, list, list[n].Below)
	for _, entry := range list[n].Writes {
		values[entry.Key] = entry.Value
	}
	return values
}

// plainWritten are the layers after a write, the entry put where its key belongs.
func plainWritten(list []impl.Layer, n int, key int, value int) []impl.Layer {
	other := copyLayers(list)
	var writes []impl.Entry
	for _, entry := range list[n].Writes {
		if entry.Key != key {
			writes = append(writes, entry)
		}
	}
	writes = append(writes, impl.Entry{Key: key, Value: value})
	slices.SortFunc(writes, func(a, b impl.Entry) int { return a.Key - b.Key })
	other[n].Writes = writes
	return other
}

// isOver reports whether a layer is over another one, or is that itself.
func isOver(list []impl.Layer, upper int, lower int) bool {
	return upper == lower || upper >= 0 && isOver(list, list[upper].Below, lower)
}

func writesKey(l impl.Layer, key int) bool {
	return slices.ContainsFunc(l.Writes, func(entry impl.Entry) bool { return entry.Key == key })
}

func checkRead(t *testing.T, s []impl.Entry, list []impl.Layer, n int, key int, want int) {
	t.Helper()
	if got := impl.LayerRead(s, list, n, key); got != want {
		t.Errorf("LayerRead(%v, %v, %d, %d) = %d, want %d", s, list, n, key, got, want)
	}
}

func checkLayerStore(t *testing.T, s []impl.Entry, list []impl.Layer, n int, want []impl.Entry) {
	t.Helper()
	if got := impl.LayerStore(s, list, n); !slices.Equal(got, want) {
		t.Errorf("LayerStore(%v, %v, %d) = %v, want %v", s, list, n, got, want)
	}
}

func checkFork(t *testing.T, list []impl.Layer, n int, want []impl.Layer, wantOK bool) {
	t.Helper()
	got, ok := impl.ForkLayer(list, n)
	if ok != wantOK || !sameLayers(got, want) {
		t.Errorf("ForkLayer(%v, %d) = %v, %v, want %v, %v", list, n, got, ok, want, wantOK)
	}
}

func checkWrite(t *testing.T, list []impl.Layer, n int, key int, value int, want []impl.Layer, wantOK bool) {
	t.Helper()
	got, ok := impl.LayerWrite(list, n, key, value)
	if ok != wantOK || !sameLayers(got, want) {
		t.Errorf("LayerWrite(%v, %d, %d, %d) = %v, %v, want %v, %v", list, n, key, value, got, ok, want, wantOK)
	}
}

func mustFork(t *testing.T, list []impl.Layer, n int) []impl.Layer {
	t.Helper()
	forked, ok := impl.ForkLayer(list, n)
	if !ok {
		t.Fatalf("ForkLayer(%v, %d) is refused", list, n)
	}
	return forked
}

func mustWrite(t *testing.T, list []impl.Layer, n int, key int, value int) []impl.Layer {
	t.Helper()
	written, ok := impl.LayerWrite(list, n, key, value)
	if !ok {
		t.Fatalf("LayerWrite(%v, %d, %d, %d) is refused", list, n, key, value)
	}
	return written
}

// eachLayer calls check for every layer of the sample layers, and for the layer -1, over every one of the layered stores.
func eachLayer(check func(s []impl.Entry, list []impl.Layer, n int)) {
	for _, s := range layeredStores() {
		for _, list := range sampleLayers() {
			for n := -1; n < len(list); n++ {
				check(s, list, n)
			}
		}
	}
}

func TestLayerConstants(t *testing.T) {
	if impl.MaxLayers != 20 {
		t.Errorf("MaxLayers %d", impl.MaxLayers)
	}
}

// P29: every beginning of valid layers, and then a layer over itself, at the end and at every other place.
func TestBeginningsOfLayersAreValid(t *testing.T) {
	for _, list := range sampleLayers() {
		for count := range len(list) + 1 {
			if !impl.LayersValid(list[:count]) {
				t.Errorf("%v is not valid", list[:count])
			}
			if over := append(copyLayers(list[:count]), layer(count)); impl.LayersValid(over) {
				t.Errorf("%v is valid", over)
			}
		}
		for n := range list {
			over := copyLayers(list)
			over[n].Below = n
			if impl.LayersValid(over) {
				t.Errorf("%v is valid", over)
			}
		}
	}
}

// P29 for all ways in which three layers can be over each other: the first may be over the store alone.
func TestLayersAreOverEarlierOnes(t *testing.T) {
	for first := -3; first < 5; first++ {
		for second := -3; second < 5; second++ {
			for third := -3; third < 5; third++ {
				want := first == -1 && (second == -1 || second == 0) && third >= -1 && third <= 1
				list := []impl.Layer{layer(first, 1, 1), layer(second), layer(third, 1, 0)}
				if got := impl.LayersValid(list); got != want {
					t.Errorf("LayersValid(%v) = %v", list, got)
				}
			}
		}
	}
}

func TestInvalidLayers(t *testing.T) {
	for _, list := range invalidLayers() {
		if impl.LayersValid(list) {
			t.Errorf("%v is valid", list)
		}
	}
}

func TestLayersMayBeMaxLayers(t *testing.T) {
	for _, listed := range []func(int) []impl.Layer{chain, star} {
		if !impl.LayersValid(listed(20)) || impl.LayersValid(listed(21)) {
			t.Errorf("20 layers: %v, 21 layers: %v", impl.LayersValid(listed(20)), impl.LayersValid(listed(21)))
		}
	}
}

func TestLayerReadValues(t *testing.T) {
	s := storeOf(1, 4, 2, 6, 31, 8)
	list := []impl.Layer{layer(-1, 1, 0, 5, 7), layer(0, 2, 9, 5, 0), layer(-1, 1, 3), layer(1, 1, impl.MaxValue, 31, 0), layer(2)}
	want := []struct{ n, zero, one, two, five, last int }{
		{-1, 0, 4, 6, 0, 8},
		{0, 0, 0, 6, 7, 8},
		{1, 0, 0, 9, 0, 8},
		{2, 0, 3, 6, 0, 8},
		{3, 0, impl.MaxValue, 9, 0, 0},
		{4, 0, 3, 6, 0, 8},
	}
	for _, w := range want {
		checkRead(t, s, list, w.n, 0, w.zero)
		checkRead(t, s, list, w.n, 1, w.one)
		checkRead(t, s, list, w.n, 2, w.two)
		checkRead(t, s, list, w.n, 5, w.five)
		checkRead(t, s, list, w.n, 31, w.last)
	}
	checkRead(t, nil, nil, -1, 0, 0)
	checkRead(t, s, nil, -1, 31, 8)
	checkRead(t, nil, chain(20), 19, 19, 19)
	checkRead(t, fullStore(9, 0), chain(20), 19, 0, 0)
	checkRead(t, fullStore(9, 0), chain(20), 19, 20, 9)
	checkRead(t, fullStore(9, 0), chain(20), 5, 6, 9)
	checkRead(t, fullStore(9, 0), star(20), 7, 3, 7)
	checkRead(t, fullStore(9, 0), star(20), 0, 3, 0)
}

func TestLayerStoreValues(t *testing.T) {
	s := storeOf(1, 4, 2, 6)
	list := []impl.Layer{layer(-1, 1, 0), layer(0, 2, 9), layer(1, 1, 5, 2, 0), layer(-1, 0, 1, 31, 1), hiding(3)}
	checkLayerStore(t, s, list, -1, s)
	checkLayerStore(t, s, list, 0, storeOf(2, 6))
	checkLayerStore(t, s, list, 1, storeOf(2, 9))
	checkLayerStore(t, s, list, 2, storeOf(1, 5))
	checkLayerStore(t, s, list, 3, storeOf(0, 1, 1, 4, 2, 6, 31, 1))
	checkLayerStore(t, s, list, 4, nil)
	checkLayerStore(t, s, nil, -1, s)
	checkLayerStore(t, nil, nil, -1, nil)
	checkLayerStore(t, nil, []impl.Layer{{Below: -1, Writes: fullStore(impl.MaxValue, 0)}}, 0, fullStore(impl.MaxValue, 0))
}

// P30: what is seen against values that are put over each other from below; the store of the layer has exactly these.
func TestLayersAreSeenThrough(t *testing.T) {
	eachLayer(func(s []impl.Entry, list []impl.Layer, n int) {
		want := plainSeen(s, list, n)
		store := impl.LayerStore(s, list, n)
		for key := range impl.MaxKey + 1 {
			checkRead(t, s, list, n, key, want[key])
			if got := impl.ValueAt(store, key); got != want[key] {
				t.Errorf("the store of layer %d of %v over %v has %d for key %d, want %d", n, list, s, got, key, want[key])
			}
		}
		checkLayerStore(t, s, list, n, plainStore(want))
	})
}

// P30, the second half, for all sample stores.
func TestTheLayerBelowAllIsTheStore(t *testing.T) {
	lists := [][]impl.Layer{nil, star(20), {hiding(-1)}}
	for _, s := range sampleStores() {
		for _, list := range lists {
			checkLayerStore(t, s, list, -1, s)
			for key := range impl.MaxKey + 1 {
				checkRead(t, s, list, -1, key, impl.ValueAt(s, key))
			}
		}
	}
}

func TestForkLayerValues(t *testing.T) {
	checkFork(t, nil, -1, []impl.Layer{layer(-1)}, true)
	checkFork(t, []impl.Layer{layer(-1, 3, 0)}, 0, []impl.Layer{layer(-1, 3, 0), layer(0)}, true)
	checkFork(t, []impl.Layer{layer(-1, 3, 0)}, -1, []impl.Layer{layer(-1, 3, 0), layer(-1)}, true)
	checkFork(t, []impl.Layer{layer(-1), layer(0), layer(-1)}, 1, []impl.Layer{layer(-1), layer(0), layer(-1), layer(1)}, true)
	checkFork(t, star(19), 18, append(star(19), layer(18)), true)
	checkFork(t, star(20), 18, star(20), false)
	checkFork(t, star(20), -1, star(20), false)
	checkFork(t, nil, 0, nil, false)
	checkFork(t, chain(3), 3, chain(3), false)
	checkFork(t, chain(3), -2, chain(3), false)
}

// P31: the layers as they were and an empty one, in which everything is seen as in the one below; MaxLayers have no room.
func TestNewLayersChangeNothing(t *testing.T) {
	t.Parallel()
	eachLayer(func(s []impl.Entry, list []impl.Layer, n int) {
		if len(list) == impl.MaxLayers {
			checkFork(t, list, n, list, false)
			return
		}
		checkFork(t, list, n, append(copyLayers(list), layer(n)), true)
		forked := mustFork(t, list, n)
		if !impl.LayersValid(forked) {
			t.Errorf("%v is not valid", forked)
		}
		checkLayerStore(t, s, forked, len(list), impl.LayerStore(s, list, n))
		for key := range impl.MaxKey + 1 {
			checkRead(t, s, forked, len(list), key, plainSeen(s, list, n)[key])
		}
		for other := -1; other < len(list); other++ {
			checkLayerStore(t, s, forked, other, impl.LayerStore(s, list, other))
		}
	})
}

func TestLayerWriteValues(t *testing.T) {
	top := impl.MaxValue
	list := []impl.Layer{layer(-1, 3, 5), layer(0)}
	checkWrite(t, list, 1, 3, 0, []impl.Layer{layer(-1, 3, 5), layer(0, 3, 0)}, true)
	checkWrite(t, list, 1, 4, 0, []impl.Layer{layer(-1, 3, 5), layer(0, 4, 0)}, true)
	checkWrite(t, list, 1, 3, 5, []impl.Layer{layer(-1, 3, 5), layer(0, 3, 5)}, true)
	checkWrite(t, list, 0, 3, 0, []impl.Layer{layer(-1, 3, 0), layer(0)}, true)
	checkWrite(t, list, 0, 3, 6, []impl.Layer{layer(-1, 3, 6), layer(0)}, true)
	checkWrite(t, list, 0, 3, 5, list, true)
	checkWrite(t, list, 0, 0, top, []impl.Layer{layer(-1, 0, top, 3, 5), layer(0)}, true)
	checkWrite(t, list, 0, 31, 1, []impl.Layer{layer(-1, 3, 5, 31, 1), layer(0)}, true)
	checkWrite(t, []impl.Layer{layer(-1, 3, 5, 7, 1)}, 0, 4, 2, []impl.Layer{layer(-1, 3, 5, 4, 2, 7, 1)}, true)
	checkWrite(t, []impl.Layer{layer(-1, 3, 0)}, 0, 3, 0, []impl.Layer{layer(-1, 3, 0)}, true)
	checkWrite(t, []impl.Layer{layer(-1, 3, 0)}, 0, 3, 8, []impl.Layer{layer(-1, 3, 8)}, true)
	checkWrite(t, list, -1, 3, 0, list, false)
	checkWrite(t, list, 2, 3, 0, list, false)
	checkWrite(t, list, 1, 32, 0, list, false)
	checkWrite(t, list, 1, -1, 0, list, false)
	checkWrite(t, list, 1, 3, -1, list, false)
	checkWrite(t, list, 1, 3, top+1, list, false)
	checkWrite(t, nil, 0, 3, 1, nil, false)
	checkWrite(t, nil, -1, 3, 1, nil, false)
}

// P32: the exact layers, what is seen in the layer, and in all others: those that are not over it, and those that are.
func TestLayersAreWrittenApart(t *testing.T) {
	t.Parallel()
	s := fullStore(4, 1)
	for _, list := range sampleLayers() {
		for n := range list {
			for _, key := range []int{0, 1, 3, 17, 31} {
				for _, value := range []int{0, 1, key + 4, impl.MaxValue} {
					checkWrittenApart(t, s, list, n, impl.Entry{Key: key, Value: value})
				}
			}
		}
	}
}

func checkWrittenApart(t *testing.T, s []impl.Entry, list []impl.Layer, n int, put impl.Entry) {
	t.Helper()
	checkWrite(t, list, n, put.Key, put.Value, plainWritten(list, n, put.Key, put.Value), true)
	written := mustWrite(t, list, n, put.Key, put.Value)
	if !impl.LayersValid(written) {
		t.Errorf("%v is not valid", written)
	}
	checkRead(t, s, written, n, put.Key, put.Value)
	for other := -1; other < len(list); other++ {
		if isOver(list, other, n) {
			checkLayerStore(t, s, written, other, plainStore(plainSeen(s, written, other)))
			continue
		}
		checkLayerStore(t, s, written, other, impl.LayerStore(s, list, other))
	}
}

// P32, with a layer written twice: the second value stays, and those over it see it unless they wrote the key.
func TestLayersAreWrittenTwice(t *testing.T) {
	s := storeOf(3, 9)
	for _, first := range sampleValues() {
		for _, second := range sampleValues() {
			list := mustFork(t, mustFork(t, mustFork(t, nil, -1), 0), -1)
			list = mustWrite(t, list, 0, 3, first)
			checkRead(t, s, list, 1, 3, first)
			list = mustWrite(t, list, 0, 3, second)
			if want := []impl.Layer{layer(-1, 3, second), layer(0), layer(-1)}; !sameLayers(list, want) {
				t.Errorf("with %d and then %d written the layers are %v", first, second, list)
			}
			checkRead(t, s, list, 0, 3, second)
			checkRead(t, s, list, 1, 3, second)
			checkRead(t, s, list, 2, 3, 9)
			list = mustWrite(t, list, 1, 3, first)
			checkRead(t, s, list, 0, 3, second)
			checkRead(t, s, list, 1, 3, first)
			checkRead(t, s, mustWrite(t, list, 0, 3, 77), 1, 3, first)
		}
	}
}

// A value 0 hides the one below, whether that is in the store or in a layer, and is hidden itself.
func TestZerosHideValues(t *testing.T) {
	for _, s := range sampleStores() {
		for key := range impl.MaxKey + 1 {
			list := []impl.Layer{layer(-1, key, 0), layer(0), layer(1, key, 6), layer(2, key, 0), layer(3)}
			without := mustPut(t, s, key, 0)
			checkLayerStore(t, s, list, 0, without)
			checkLayerStore(t, s, list, 1, without)
			checkLayerStore(t, s, list, 2, mustPut(t, s, key, 6))
			checkLayerStore(t, s, list, 3, without)
			checkLayerStore(t, s, list, 4, without)
			checkRead(t, s, list, 4, key, 0)
			checkRead(t, s, list, 2, key, 6)
		}
	}
}

// P33: a valid store, and only keys that are written in the layer differ from the one below.
func TestStoresOfLayersAreStores(t *testing.T) {
	eachLayer(func(s []impl.Entry, list []impl.Layer, n int) {
		store := impl.LayerStore(s, list, n)
		if !impl.StoreValid(store) {
			t.Errorf("LayerStore(%v, %v, %d) = %v, which is not valid", s, list, n, store)
		}
		if n < 0 {
			return
		}
		for _, key := range impl.ChangedKeys(store, impl.LayerStore(s, list, list[n].Below)) {
			if !writesKey(list[n], key) {
				t.Errorf("layer %d of %v over %v changes key %d", n, list, s, key)
			}
		}
	})
}

// The fixed results for invalid layers, whatever else is given.
func TestInvalidLayersShowNothing(t *testing.T) {
	s := fullStore(1, 1)
	for _, list := range invalidLayers() {
		for _, n := range []int{-2, -1, 0, len(list) - 1, len(list), math.MaxInt} {
			checkRead(t, s, list, n, 3, -1)
			checkRead(t, s, list, n, 32, -1)
			checkLayerStore(t, s, list, n, nil)
			checkFork(t, list, n, nil, false)
			checkWrite(t, list, n, 3, 1, nil, false)
			checkWrite(t, list, n, 32, 1, nil, false)
			checkWrite(t, list, n, 3, -1, nil, false)
		}
	}
}

// Also where every key is written, so that nothing of the store is seen.
func TestInvalidStoresHaveNoLayers(t *testing.T) {
	list := []impl.Layer{layer(-1, 1, 5), hiding(0), {Below: -1, Writes: fullStore(1, 0)}}
	for _, s := range invalidStores() {
		for n := -2; n <= len(list); n++ {
			checkRead(t, s, list, n, 1, -1)
			checkLayerStore(t, s, list, n, nil)
		}
		checkRead(t, s, nil, -1, 1, -1)
		checkLayerStore(t, s, nil, -1, nil)
	}
}

func TestMissingLayers(t *testing.T) {
	s := fullStore(1, 1)
	for _, list := range sampleLayers() {
		for _, n := range missingLayers(list) {
			checkRead(t, s, list, n, 3, -1)
			checkLayerStore(t, s, list, n, nil)
			checkFork(t, list, n, list, false)
		}
		// Nothing is written in the store itself.
		for _, n := range append(missingLayers(list), -1) {
			checkWrite(t, list, n, 3, 1, list, false)
			checkWrite(t, list, n, 0, 0, list, false)
		}
	}
}

func TestInvalidKeysAndValuesOfLayers(t *testing.T) {
	s := fullStore(1, 1)
	for _, list := range sampleLayers() {
		for n := -1; n < len(list); n++ {
			for _, key := range invalidKeys() {
				checkRead(t, s, list, n, key, -1)
				for _, value := range []int{0, 1, impl.MaxValue, -1} {
					checkWrite(t, list, n, key, value, list, false)
				}
			}
			for _, value := range invalidValues() {
				for _, key := range []int{0, 3, 31} {
					checkWrite(t, list, n, key, value, list, false)
				}
			}
		}
	}
}

// spoilLayers writes over everything that a result reaches, its spare capacity included.
func spoilLayers(list []impl.Layer) {
	list = list[:cap(list)]
	for i := range list {
		spoil(list[i].Writes)
		list[i] = impl.Layer{Below: -7, Writes: storeOf(-7, -7)}
	}
}

// roomyLayers is a copy in which everything has spare capacity that is in use behind it.
func roomyLayers(list []impl.Layer) []impl.Layer {
	roomy := make([]impl.Layer, 0, len(list)+2)
	for _, l := range list {
		writes := append(slices.Clone(l.Writes), storeOf(40, 40, 41, 41)...)
		roomy = append(roomy, impl.Layer{Below: l.Below, Writes: writes[:len(l.Writes)]})
	}
	roomy = append(roomy, layer(40, 40, 40), layer(41, 41, 41))
	return roomy[:len(list)]
}

// behind are the layers with everything that stands in the spare capacity.
func behind(list []impl.Layer) []impl.Layer {
	list = slices.Clone(list[:cap(list)])
	for i := range list {
		list[i].Writes = list[i].Writes[:cap(list[i].Writes)]
	}
	return copyLayers(list)
}

func TestLayersShareNoMemoryWithArguments(t *testing.T) {
	for _, list := range sampleLayers() {
		argument := roomyLayers(list)
		before := behind(argument)
		s := append(fullStore(1, 1)[:7], storeOf(40, 40)...)[:7]
		store := slices.Clone(s[:cap(s)])
		for n := -2; n <= len(list); n++ {
			forked, _ := impl.ForkLayer(argument, n)
			spoilLayers(forked)
			for _, key := range []int{-1, 0, 3, 31} {
				for _, value := range []int{-1, 0, 5, impl.MaxValue} {
					written, _ := impl.LayerWrite(argument, n, key, value)
					spoilLayers(written)
				}
				impl.LayerRead(s, argument, n, key)
			}
			spoil(impl.LayerStore(s, argument, n))
		}
		impl.LayersValid(argument)
		if !sameLayers(behind(argument), before) || !slices.Equal(s[:cap(s)], store) {
			t.Errorf("%v has become %v, or %v has become %v", before, behind(argument), store, s[:cap(s)])
		}
	}
}

// No two layers of one result share memory: writing over one, its spare capacity included, leaves all others.
func TestLayersOfOneResultShareNoMemory(t *testing.T) {
	for _, list := range sampleLayers() {
		if len(list) == 0 {
			continue
		}
		for n := range list {
			forked, _ := impl.ForkLayer(list, n)
			checkNoneShared(t, forked)
			refused, _ := impl.ForkLayer(list, len(list))
			checkNoneShared(t, refused)
			checkNoneShared(t, mustWrite(t, list, n, 3, 0))
			unchanged, _ := impl.LayerWrite(list, n, 32, 0)
			checkNoneShared(t, unchanged)
		}
	}
}

func checkNoneShared(t *testing.T, list []impl.Layer) {
	t.Helper()
	want := copyLayers(list)
	for n := range list {
		spoil(list[n].Writes)
		list[n].Writes = slices.Clone(want[n].Writes)
		if !sameLayers(list, want) {
			t.Errorf("with layer %d written over %v has become %v", n, want, list)
			return
		}
	}
}
