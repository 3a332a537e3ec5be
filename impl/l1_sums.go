package impl

// SumBase is the number of sums: every sum is in 0..SumBase-1; MaxSummed is the largest number that is summed up.
const (
	SumBase   = 1000003
	MaxSummed = 2000000
)

// The largest tag, and the sum of no numbers with the tag 0.
const (
	maxTag   = 9
	emptySum = 17
)

// growingSum is a sum that goes on number by number. From a sum and a number that are valid it stays below 2^31, so no size of int overflows.
type growingSum int

func newSum(tag int) growingSum {
	return growingSum(emptySum + tag)
}

func (s growingSum) with(number int) growingSum {
	return (31*s + growingSum(number) + 7) % SumBase
}

func isTag(tag int) bool {
	return tag >= 0 && tag <= maxTag
}

func isSum(sum int) bool {
	return sum >= 0 && sum < SumBase
}

func isSummed(number int) bool {
	return number >= 0 && number <= MaxSummed
}

// SumOf returns the sum of numbers, each in 0..MaxSummed, with a tag in 0..9, which tells what they are: beginning with 17 plus the tag, for every number 31 times the sum, plus the number, plus 7, modulo SumBase; -1 for other arguments.
func SumOf(tag int, list []int) int {
	if !isTag(tag) {
		return -1
	}
	sum := newSum(tag)
	for _, number := range list {
		if !isSummed(number) {
			return -1
		}
		sum = sum.with(number)
	}
	return int(sum)
}

// SumMore returns the sum of numbers behind which one more stands, from their sum, in 0..SumBase-1, and the number, in 0..MaxSummed; -1 for other arguments.
func SumMore(sum int, number int) int {
	if !isSum(sum) || !isSummed(number) {
		return -1
	}
	return int(growingSum(sum).with(number))
}
