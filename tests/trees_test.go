package tests

import (
	"math"
	"slices"
	"testing"

	"loop.example/blockexecutor/impl"
)

// plainRoot is the sum over the keys from first on, as many as count, by halves and with exact numbers of any size.
func plainRoot(values map[int]int, first int, count int) int {
	if count == 1 {
		return closedSum(1, []int{first, values[first]})
	}
	half := count / 2
	return closedSum(2, []int{plainRoot(values, first, half), plainRoot(values, first+half, half)})
}

// plainProof are the sums of those halves in which the key is not, on the way from the root down to it, turned around.
func plainProof(values map[int]int, key int) []int {
	var proof []int
	first := 0
	for half := 16; half > 0; half /= 2 {
		if key < first+half {
			proof = append(proof, plainRoot(values, first+half, half))
		} else {
			proof = append(proof, plainRoot(values, first, half))
			first += half
		}
	}
	slices.Reverse(proof)
	return proof
}

func invalidRoots() []int {
	return []int{-1, -2, -impl.SumBase, impl.SumBase, 2 * impl.SumBase, 1 << 32, math.MinInt, math.MaxInt}
}

// invalidProofs are a valid proof, each time with one thing wrong: its length or one of its sums.
func invalidProofs(proof []int) [][]int {
	proofs := [][]int{nil, {}, append(slices.Clone(proof), 0), append(slices.Clone(proof), proof...), append([]int{0}, proof...)}
	for i, sum := range proof {
		proofs = append(proofs, proof[:i], proof[i+1:], slices.Insert(slices.Clone(proof), i, sum))
		for _, wrong := range []int{-1, sum - impl.SumBase, impl.SumBase, impl.SumBase + 1, sum + impl.SumBase, 1 << 32, math.MinInt, math.MaxInt} {
			other := slices.Clone(proof)
			other[i] = wrong
			proofs = append(proofs, other)
		}
	}
	return proofs
}

func sameSums(sum int) []int {
	return slices.Repeat([]int{sum}, impl.TreeDepth)
}

func checkLeafSum(t *testing.T, key int, value int, want int) {
	t.Helper()
	if got := impl.LeafSum(key, value); got != want {
		t.Errorf("LeafSum(%d, %d) = %d, want %d", key, value, got, want)
	}
}

func checkRoot(t *testing.T, s []impl.Entry, want int) {
	t.Helper()
	if got := impl.RootOf(s); got != want {
		t.Errorf("RootOf(%v) = %d, want %d", s, got, want)
	}
}

func checkProof(t *testing.T, s []impl.Entry, key int, want []int) {
	t.Helper()
	if got := impl.ProofOf(s, key); !slices.Equal(got, want) {
		t.Errorf("ProofOf(%v, %d) = %v, want %v", s, key, got, want)
	}
}

func checkProofRoot(t *testing.T, key int, value int, proof []int, want int) {
	t.Helper()
	if got := impl.ProofRoot(key, value, proof); got != want {
		t.Errorf("ProofRoot(%d, %d, %v) = %d, want %d", key, value, proof, got, want)
	}
}

func checkProofRight(t *testing.T, root int, key int, value int, proof []int, want bool) {
	t.Helper()
	if got := impl.ProofRight(root, key, value, proof); got != want {
		t.Errorf("ProofRight(%d, %d, %d, %v) = %v, want %v", root, key, value, proof, got, want)
	}
}

// checkLeadsNowhere tells that there is no root, and that no root is the right one, -1 and the given one neither.
func checkLeadsNowhere(t *testing.T, root int, key int, value int, proof []int) {
	t.Helper()
	checkProofRoot(t, key, value, proof, -1)
	for _, other := range append(invalidRoots(), root, 0) {
		checkProofRight(t, other, key, value, proof, false)
	}
}

// eachKey visits every key of every sample store with its value.
func eachKey(visit func(s []impl.Entry, key int, value int)) {
	for _, s := range sampleStores() {
		for key := range impl.MaxKey + 1 {
			visit(s, key, plainValues(s)[key])
		}
	}
}

// neighbours are the values that differ from a value by 1.
func neighbours(value int) []int {
	switch value {
	case 0:
		return []int{1}
	case impl.MaxValue:
		return []int{impl.MaxValue - 1}
	}
	return []int{value - 1, value + 1}
}

func TestTreeConstants(t *testing.T) {
	if impl.TreeDepth != 5 {
		t.Errorf("TreeDepth %d", impl.TreeDepth)
	}
}

func TestLeafSumValues(t *testing.T) {
	checkLeafSum(t, 0, 0, 17522)
	checkLeafSum(t, 0, impl.MaxValue, 17519)
	checkLeafSum(t, 31, 0, 18483)
	checkLeafSum(t, 31, impl.MaxValue, 18480)
	checkLeafSum(t, 3, 5, 17620)
	checkLeafSum(t, 5, 3, 17680)
	checkLeafSum(t, 7, 6, 17745)
}

func TestRootOfValues(t *testing.T) {
	top := impl.MaxValue
	checkRoot(t, nil, 629867)
	checkRoot(t, []impl.Entry{}, 629867)
	checkRoot(t, storeOf(3, 5), 778822)
	checkRoot(t, storeOf(1, 9, 3, 5), 90484)
	checkRoot(t, storeOf(0, 1), 258931)
	checkRoot(t, storeOf(31, 1), 629868)
	checkRoot(t, storeOf(0, top), 742672)
	checkRoot(t, storeOf(31, top), 629864)
	checkRoot(t, fullStore(1, 0), 184197)
	checkRoot(t, fullStore(1, 1), 689957)
	checkRoot(t, fullStore(top, 0), 966874)
}

func TestProofOfValues(t *testing.T) {
	checkProof(t, nil, 0, []int{17553, 581202, 682365, 44293, 608364})
	checkProof(t, nil, 31, []int{18452, 606994, 317242, 170733, 516228})
	checkProof(t, storeOf(3, 5), 3, []int{17584, 579218, 682365, 44293, 608364})
	checkProof(t, storeOf(3, 5), 2, []int{17620, 579218, 682365, 44293, 608364})
	checkProof(t, storeOf(3, 5), 8, []int{17801, 589138, 936317, 918011, 608364})
	checkProof(t, storeOf(1, 9, 3, 5), 2, []int{17620, 579227, 682365, 44293, 608364})
	checkProof(t, fullStore(1, 1), 0, []int{17555, 581299, 687581, 346373, 925622})
	checkProof(t, fullStore(1, 1), 21, []int{18163, 601779, 80794, 123538, 56318})
	checkProof(t, fullStore(1, 1), 31, []int{18483, 607923, 342938, 734957, 56318})
	checkProof(t, fullStore(impl.MaxValue, 0), 16, []int{18046, 596978, 187194, 198869, 370509})
}

// The sums of a proof may be any, so also the edges 0 and SumBase-1; the order at every level is that of the digits of the key.
func TestProofRootValues(t *testing.T) {
	top := impl.SumBase - 1
	turns := []int{0, top, 0, top, 0}
	rising := []int{1, 2, 3, 4, 5}
	cases := []struct {
		key, value                    int
		zeros, tops, turning, counted int
	}{
		{0, 0, 845309, 891007, 815487, 831421},
		{0, impl.MaxValue, 958114, 3809, 928292, 944226},
		{1, 0, 881884, 222033, 852062, 573542},
		{10, 0, 920166, 888421, 889414, 984651},
		{16, 0, 948909, 918094, 947947, 980874},
		{16, impl.MaxValue, 178352, 147537, 177390, 210317},
		{21, 0, 409220, 378405, 409188, 442115},
		{31, 0, 110898, 110743, 110836, 111363},
		{31, impl.MaxValue, 110895, 110740, 110833, 111360},
	}
	for _, c := range cases {
		checkProofRoot(t, c.key, c.value, sameSums(0), c.zeros)
		checkProofRoot(t, c.key, c.value, sameSums(top), c.tops)
		checkProofRoot(t, c.key, c.value, turns, c.turning)
		checkProofRoot(t, c.key, c.value, rising, c.counted)
		checkProofRight(t, c.zeros, c.key, c.value, sameSums(0), true)
		checkProofRight(t, c.tops, c.key, c.value, sameSums(top), true)
		checkProofRight(t, c.tops+1, c.key, c.value, sameSums(top), false)
	}
}

// The sums of all sample stores against those that are made by halves.
func TestTreesAreExact(t *testing.T) {
	for _, s := range sampleStores() {
		checkRoot(t, s, plainRoot(plainValues(s), 0, 32))
	}
	eachKey(func(s []impl.Entry, key int, value int) {
		checkLeafSum(t, key, value, closedSum(1, []int{key, value}))
		checkProof(t, s, key, plainProof(plainValues(s), key))
	})
}

// P1, with and without an entry for the key.
func TestRootsHaveProofs(t *testing.T) {
	eachKey(func(s []impl.Entry, key int, value int) {
		root, proof := impl.RootOf(s), impl.ProofOf(s, key)
		if root < 0 || root >= impl.SumBase || len(proof) != impl.TreeDepth {
			t.Errorf("%v has the root %d and the proof %v for key %d", s, root, proof, key)
		}
		checkProofRoot(t, key, value, proof, root)
		checkProofRight(t, root, key, value, proof, true)
	})
}

// P25, the first half: no two values of a key share a sum; all of them are tried.
func TestLeavesNoticeValues(t *testing.T) {
	for _, key := range []int{0, 13, 31} {
		found := make([]bool, impl.SumBase)
		for value := range impl.MaxValue + 1 {
			sum := impl.LeafSum(key, value)
			if sum < 0 || sum >= impl.SumBase || found[sum] {
				t.Fatalf("LeafSum(%d, %d) = %d is no sum, or that of a lesser value", key, value, sum)
			}
			found[sum] = true
		}
	}
}

// P25, the second half: no two keys with the same value share a sum.
func TestLeavesNoticeKeys(t *testing.T) {
	for _, value := range append(sampleValues(), 31, 961, 500000, 999969) {
		keys := map[int]int{}
		for key := range impl.MaxKey + 1 {
			sum := impl.LeafSum(key, value)
			if other, found := keys[sum]; found || sum < 0 {
				t.Errorf("keys %d and %d with the value %d have the sum %d", other, key, value, sum)
			}
			keys[sum] = key
		}
	}
}

// P26, with values that make, change, keep and remove the entry.
func TestProofsDoNotDependOnTheKey(t *testing.T) {
	eachKey(func(s []impl.Entry, key int, _ int) {
		proof := impl.ProofOf(s, key)
		for _, value := range sampleValues() {
			put := mustPut(t, s, key, value)
			checkProof(t, put, key, proof)
			checkProofRoot(t, key, value, proof, impl.RootOf(put))
			checkProofRight(t, impl.RootOf(put), key, value, proof, true)
		}
	})
}

// P27 and P28: with the value changed by 1 the root differs, so the proof is not right for it, but for the new root.
func TestValuesChangedByOne(t *testing.T) {
	eachKey(func(s []impl.Entry, key int, value int) {
		root, proof := impl.RootOf(s), impl.ProofOf(s, key)
		for _, other := range neighbours(value) {
			changed := impl.RootOf(mustPut(t, s, key, other))
			if changed == root {
				t.Errorf("%v with %d for key %d still has the root %d", s, other, key, root)
			}
			checkProofRight(t, root, key, other, proof, false)
			checkProofRight(t, changed, key, other, proof, true)
			checkProofRight(t, changed, key, value, proof, false)
		}
	})
}

// P28 with proofs that are no store's.
func TestAnyProofIsRightForOneValue(t *testing.T) {
	for key := range impl.MaxKey + 1 {
		for _, proof := range [][]int{sameSums(0), sameSums(impl.SumBase - 1), {1, 2, 3, 4, 5}} {
			for _, value := range sampleValues() {
				root := impl.ProofRoot(key, value, proof)
				checkProofRight(t, root, key, value, proof, true)
				for _, other := range neighbours(value) {
					checkProofRight(t, root, key, other, proof, false)
				}
			}
		}
	}
}

// A proof with one sum changed is not right, and a root beside the right one neither.
func TestWrongProofsAreNotRight(t *testing.T) {
	eachKey(func(s []impl.Entry, key int, value int) {
		root, proof := impl.RootOf(s), impl.ProofOf(s, key)
		for i := range proof {
			other := slices.Clone(proof)
			other[i] = (other[i] + 1) % impl.SumBase
			checkProofRight(t, root, key, value, other, false)
		}
		for _, other := range append(invalidRoots(), root-1, root+1, root-impl.SumBase, root+impl.SumBase) {
			checkProofRight(t, other, key, value, proof, false)
		}
	})
}

// P106 with one key put: no two values share a root. Some of the values are powers of 31, by which sums are multiplied.
func TestRootsNoticePutValues(t *testing.T) {
	eachKey(func(s []impl.Entry, key int, _ int) {
		values := map[int]int{}
		for _, value := range append(sampleValues(), 31, 961, 29791, 500000) {
			root := impl.RootOf(mustPut(t, s, key, value))
			if other, found := values[root]; found || root < 0 {
				t.Errorf("%v with %d or %d for key %d has the root %d", s, other, value, key, root)
			}
			values[root] = value
		}
	})
}

// P106 for every two of the sample stores that differ in one key.
func TestRootsNoticeAChangedKey(t *testing.T) {
	pairs := 0
	for _, a := range sampleStores() {
		for _, b := range sampleStores() {
			if len(impl.ChangedKeys(a, b)) != 1 {
				continue
			}
			pairs++
			if impl.RootOf(a) == impl.RootOf(b) {
				t.Errorf("%v and %v have the root %d", a, b, impl.RootOf(a))
			}
		}
	}
	if pairs == 0 {
		t.Error("no two of the sample stores differ in one key")
	}
}

func TestInvalidLeaves(t *testing.T) {
	for _, key := range invalidKeys() {
		for _, value := range append(invalidValues(), sampleValues()...) {
			checkLeafSum(t, key, value, -1)
		}
	}
	for key := range impl.MaxKey + 1 {
		for _, value := range append(invalidValues(), impl.SumBase, impl.MaxSummed) {
			checkLeafSum(t, key, value, -1)
		}
	}
}

func TestInvalidStoresHaveNoRoot(t *testing.T) {
	for _, s := range invalidStores() {
		checkRoot(t, s, -1)
		for _, key := range []int{0, 1, 31, -1, 32} {
			checkProof(t, s, key, nil)
		}
	}
}

func TestInvalidKeysHaveNoProof(t *testing.T) {
	for _, s := range sampleStores() {
		for _, key := range invalidKeys() {
			checkProof(t, s, key, nil)
			checkLeadsNowhere(t, impl.RootOf(s), key, plainValues(s)[key&31], impl.ProofOf(s, key&31))
		}
	}
}

func TestInvalidValuesLeadNowhere(t *testing.T) {
	eachKey(func(s []impl.Entry, key int, value int) {
		root, proof := impl.RootOf(s), impl.ProofOf(s, key)
		// A value that is greater by SumBase would have the same sum.
		for _, wrong := range append(invalidValues(), value+impl.SumBase, value-impl.SumBase) {
			checkLeadsNowhere(t, root, key, wrong, proof)
		}
	})
}

func TestInvalidProofsLeadNowhere(t *testing.T) {
	eachKey(func(s []impl.Entry, key int, value int) {
		for _, proof := range invalidProofs(impl.ProofOf(s, key)) {
			checkLeadsNowhere(t, impl.RootOf(s), key, value, proof)
		}
	})
	for _, key := range []int{0, 31, -1, 32} {
		for _, value := range []int{0, impl.MaxValue, -1, impl.MaxValue + 1} {
			for _, proof := range append(invalidProofs(sameSums(0)), invalidProofs(sameSums(impl.SumBase-1))...) {
				checkLeadsNowhere(t, 0, key, value, proof)
			}
		}
	}
}

func TestTreesShareNoMemory(t *testing.T) {
	for _, s := range sampleStores() {
		backing := append(slices.Clone(s), storeOf(40, 40, 41, 41)...)
		before := slices.Clone(backing)
		argument := backing[:len(s)]
		for _, key := range []int{-1, 0, 1, 3, 31} {
			kept := impl.ProofOf(argument, key)
			want := slices.Clone(kept)
			other := impl.ProofOf(argument, key)
			other = other[:cap(other)]
			for i := range other {
				other[i] = -7
			}
			if !slices.Equal(kept, want) {
				t.Errorf("a proof of %v has become %v, was %v", s, kept, want)
			}
			checkProof(t, argument, key, want)
		}
		impl.RootOf(argument)
		if !slices.Equal(backing, before) {
			t.Errorf("%v has become %v", before, backing)
		}
	}
}

func TestProofsAreLeftAlone(t *testing.T) {
	backing := []int{1, 2, 3, 4, 5, 6, 7}
	before := slices.Clone(backing)
	for _, length := range []int{4, 5, 6} {
		for _, key := range []int{0, 21, 31, 32} {
			impl.ProofRight(impl.ProofRoot(key, 6, backing[:length]), key, 6, backing[:length])
		}
	}
	if !slices.Equal(backing, before) {
		t.Errorf("the proof has become %v", backing)
	}
}
