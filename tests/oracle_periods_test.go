package tests

import (
	"slices"

	"loop.example/g01313/impl"
)

// rootSum has whole numbers times the powers 1, z, .., z^(p - 1) of a p-th root z of 1. It says
// nothing yet of the sum of all powers of z.
type rootSum []int64

// haveClasses reports whether the numbers 1..p - 1 have e classes.
func haveClasses(p int64, e int64) bool {
	return leastRoot(p) > 0 && e >= 1 && e <= impl.MaxPeriods && (p-1)%e == 0
}

// everyClassing calls a function with each prime and number of classes.
func everyClassing(check func(p int64, e int64)) {
	for _, row := range leastRoots {
		for e := int64(1); e <= impl.MaxPeriods; e++ {
			if haveClasses(row[0], e) {
				check(row[0], e)
			}
		}
	}
}

// wantMembers returns the numbers of each class, ascending.
func wantMembers(p int64, e int64) [][]int64 {
	members := make([][]int64, e)
	for x := int64(1); x < p; x++ {
		class := logOf(p, x) % e
		members[class] = append(members[class], x)
	}
	return members
}

// wantTable counts the pairs of numbers of the classes i and j whose difference is 1.
func wantTable(p int64, e int64) [][]int64 {
	members := wantMembers(p, e)
	table := make([][]int64, e)
	for i := range table {
		table[i] = make([]int64, e)
		for j := range table[i] {
			for _, x := range members[i] {
				if slices.Contains(members[j], (x+1)%p) {
					table[i][j]++
				}
			}
		}
	}
	return table
}

// wantDifferences counts the pairs of numbers of the class 0 whose difference is the least number of
// each class.
func wantDifferences(p int64, e int64) []int64 {
	members := wantMembers(p, e)
	numbers := make([]int64, e)
	for i := range numbers {
		for _, x := range members[0] {
			for _, y := range members[0] {
				if rest(x-y, p) == members[i][0] {
					numbers[i]++
				}
			}
		}
	}
	return numbers
}

// rootSumOf returns what a list of numbers of periods stands for.
func rootSumOf(p int64, list []int64) rootSum {
	sum := make(rootSum, p)
	for i, members := range wantMembers(p, int64(len(list))) {
		for _, x := range members {
			sum[x] = list[i]
		}
	}
	return sum
}

// times returns the product of two sums.
func (s rootSum) times(other rootSum) rootSum {
	product := make(rootSum, len(s))
	for i, a := range s {
		for j, b := range other {
			product[(i+j)%len(s)] += a * b
		}
	}
	return product
}

// told returns the numbers of e periods that make up the sum, and no list if there are none.
func (s rootSum) told(e int64) []int64 {
	list := make([]int64, e)
	for i, members := range wantMembers(int64(len(s)), e) {
		list[i] = s[members[0]] - s[0]
		for _, x := range members {
			if s[x]-s[0] != list[i] {
				return nil
			}
		}
	}
	return list
}

// wantPeriodProduct returns the product of two sums of periods.
func wantPeriodProduct(p int64, a []int64, b []int64) []int64 {
	return rootSumOf(p, a).times(rootSumOf(p, b)).told(int64(len(a)))
}

// periodAlone returns the list that has 1 at the period i, and else 0.
func periodAlone(e int64, i int64) []int64 {
	list := make([]int64, e)
	list[i] = 1
	return list
}

// wantPeriodPolynomial multiplies x less each period, and returns the whole numbers that are there
// then, or no list if one of them is not whole.
func wantPeriodPolynomial(p int64, e int64) []int64 {
	one := make(rootSum, p)
	one[0] = 1
	list := []rootSum{one}
	for i := range e {
		root := rootSumOf(p, periodAlone(e, i))
		next := []rootSum{make(rootSum, p)}
		for _, sum := range list {
			next = append(next, slices.Clone(sum))
		}
		for at, sum := range list {
			for x, number := range sum.times(root) {
				next[at][x] -= number
			}
		}
		list = next
	}
	numbers := []int64{}
	for _, sum := range list {
		// A whole number is told by one period as its negative.
		negative := sum.told(1)
		if negative == nil {
			return nil
		}
		numbers = append(numbers, -negative[0])
	}
	return numbers
}
