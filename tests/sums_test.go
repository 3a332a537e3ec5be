package tests

import (
	"math"
	"math/big"
	"slices"
	"testing"

	"loop.example/blockexecutor/impl"
)

// sampleLists are valid lists of numbers: none, the edges, and long ones.
func sampleLists() [][]int {
	top := impl.MaxSummed
	lists := [][]int{
		nil, {}, {0}, {1}, {top}, {0, 0}, {0, top}, {top, 0}, {top, top},
		{impl.SumBase - 1}, {impl.SumBase}, {impl.SumBase + 1},
		{3, 1, 2}, {5, 4, 3, 2, 1, 0}, slices.Repeat([]int{0}, 70), slices.Repeat([]int{top}, 70),
	}
	// A fixed sequence of numbers all over the range, so that every run checks the same.
	number := 12345
	for length := 1; length <= 60; length++ {
		list := make([]int, length)
		for i := range list {
			number = (number*48271 + 11) % (top + 1)
			list[i] = number
		}
		lists = append(lists, list)
	}
	return lists
}

// closedSum is the sum as a polynomial with exact numbers of any size, to tell lost or early remainders.
func closedSum(tag int, list []int) int {
	total := new(big.Int)
	power := big.NewInt(1)
	for _, number := range slices.Backward(list) {
		term := big.NewInt(int64(number) + 7)
		total.Add(total, term.Mul(term, power))
		power.Mul(power, big.NewInt(31))
	}
	total.Add(total, power.Mul(power, big.NewInt(int64(17+tag))))
	return int(total.Mod(total, big.NewInt(1000003)).Int64())
}

func checkSumOf(t *testing.T, tag int, list []int, want int) {
	t.Helper()
	if got := impl.SumOf(tag, list); got != want {
		t.Errorf("SumOf(%d, %v) = %d, want %d", tag, list, got, want)
	}
}

func checkSumMore(t *testing.T, sum int, number int, want int) {
	t.Helper()
	if got := impl.SumMore(sum, number); got != want {
		t.Errorf("SumMore(%d, %d) = %d, want %d", sum, number, got, want)
	}
}

func TestSumConstants(t *testing.T) {
	if impl.SumBase != 1000003 || impl.MaxSummed != 2000000 {
		t.Errorf("SumBase %d, MaxSummed %d", impl.SumBase, impl.MaxSummed)
	}
}

func TestSumOfValues(t *testing.T) {
	cases := []struct {
		tag  int
		list []int
		want int
	}{
		{0, nil, 17},
		{0, []int{}, 17},
		{9, nil, 26},
		{0, []int{0}, 534},
		{9, []int{0}, 813},
		{0, []int{impl.MaxSummed}, 528},
		{9, []int{impl.MaxSummed}, 807},
		{1, []int{2}, 567},
		{1, []int{2, 3}, 17587},
		{1, []int{3, 2}, 17617},
		{0, []int{impl.MaxSummed, impl.MaxSummed}, 16369},
	}
	for _, c := range cases {
		checkSumOf(t, c.tag, c.list, c.want)
	}
}

func TestSumMoreValues(t *testing.T) {
	checkSumMore(t, 17, 0, 534)
	checkSumMore(t, 18, 2, 567)
	checkSumMore(t, 0, 0, 7)
	checkSumMore(t, 0, impl.MaxSummed, 1)
	checkSumMore(t, impl.SumBase-1, 0, 999979)
	checkSumMore(t, impl.SumBase-1, impl.MaxSummed, 999973)
}

func TestSumOfIsExact(t *testing.T) {
	for _, list := range sampleLists() {
		for tag := range 10 {
			checkSumOf(t, tag, list, closedSum(tag, list))
		}
	}
}

// P18, the first half: every number of a list counts, up and down.
func TestSumsNoticeNumbers(t *testing.T) {
	for _, list := range sampleLists() {
		for _, tag := range []int{0, 4, 9} {
			for i := range list {
				noticeChange(t, tag, list, i, 1)
				noticeChange(t, tag, list, i, -1)
			}
		}
	}
}

func noticeChange(t *testing.T, tag int, list []int, i int, change int) {
	t.Helper()
	number := list[i] + change
	if number < 0 || number > impl.MaxSummed {
		return
	}
	other := slices.Clone(list)
	other[i] = number
	a, b := impl.SumOf(tag, list), impl.SumOf(tag, other)
	if a < 0 || b < 0 || a == b {
		t.Errorf("tag %d: %v has the sum %d, %v has %d", tag, list, a, other, b)
	}
}

// P18, the second half: no two tags share a sum.
func TestSumsNoticeTags(t *testing.T) {
	for _, list := range sampleLists() {
		tags := map[int]int{}
		for tag := range 10 {
			sum := impl.SumOf(tag, list)
			if sum < 0 || sum >= impl.SumBase {
				t.Errorf("SumOf(%d, %v) = %d is no sum", tag, list, sum)
			}
			if other, found := tags[sum]; found {
				t.Errorf("tags %d and %d of %v have the sum %d", other, tag, list, sum)
			}
			tags[sum] = tag
		}
	}
}

// P19: a list with a number more.
func TestSumsGoOn(t *testing.T) {
	numbers := []int{0, 1, 6, 999, impl.SumBase - 1, impl.SumBase, impl.MaxSummed - 1, impl.MaxSummed}
	for _, list := range sampleLists() {
		for tag := range 10 {
			for _, number := range numbers {
				longer := append(slices.Clone(list), number)
				checkSumMore(t, impl.SumOf(tag, list), number, impl.SumOf(tag, longer))
			}
		}
	}
}

// P19, from the first number on: the sum of a list is reached from that of none.
func TestSumsGrowFromNone(t *testing.T) {
	for _, list := range sampleLists() {
		for tag := range 10 {
			sum := impl.SumOf(tag, nil)
			for _, number := range list {
				sum = impl.SumMore(sum, number)
			}
			checkSumOf(t, tag, list, sum)
		}
	}
}

func TestInvalidTags(t *testing.T) {
	for _, tag := range []int{-1, -17, 10, 11, math.MinInt, math.MinInt64 + 1<<20, math.MaxInt - 17, math.MaxInt} {
		for _, list := range [][]int{nil, {0}, {2}, {impl.MaxSummed, 5}, {-1}} {
			checkSumOf(t, tag, list, -1)
		}
	}
}

func invalidNumbers() []int {
	return []int{-1, -7, -impl.SumBase, impl.MaxSummed + 1, impl.MaxSummed + impl.SumBase, 1 << 31, 1 << 32, math.MinInt, math.MaxInt - 7, math.MaxInt}
}

func TestInvalidNumbers(t *testing.T) {
	for _, number := range invalidNumbers() {
		for _, tag := range []int{0, 1, 9} {
			checkSumOf(t, tag, []int{number}, -1)
			checkSumOf(t, tag, []int{number, 1, 2}, -1)
			checkSumOf(t, tag, []int{1, number, 2}, -1)
			checkSumOf(t, tag, []int{1, 2, number}, -1)
			checkSumOf(t, tag, append(slices.Repeat([]int{3}, 70), number), -1)
		}
		for _, sum := range []int{0, 18, impl.SumBase - 1} {
			checkSumMore(t, sum, number, -1)
		}
	}
}

func TestInvalidSums(t *testing.T) {
	for _, sum := range []int{-1, -2, impl.SumBase, impl.SumBase + 1, 2 * impl.SumBase, 1 << 32, math.MinInt, math.MaxInt / 31, math.MaxInt} {
		for _, number := range []int{0, 2, impl.MaxSummed} {
			checkSumMore(t, sum, number, -1)
		}
		for _, number := range invalidNumbers() {
			checkSumMore(t, sum, number, -1)
		}
	}
}

func TestSumOfLeavesListAlone(t *testing.T) {
	backing := []int{1, 2, 3, 4, 5}
	impl.SumOf(2, backing[:3])
	if !slices.Equal(backing, []int{1, 2, 3, 4, 5}) {
		t.Errorf("the list has become %v", backing)
	}
}
