package tests

import (
	"slices"

	"loop.example/g01313/impl"
)

// Powers are told here by logarithms, solutions by going through all lists of numbers, points through
// all normal triples, and power numbers by ways from 0 to all numbers.

// wantPowers returns x^k modulo p for x in 0..p - 1, in this order.
func wantPowers(p int64, k int64) []int64 {
	exps := make([]int64, p-1)
	for x := int64(1); x < p; x++ {
		exps[logOf(p, x)] = x
	}
	powers := make([]int64, p)
	for x, log := range logsOf(p) {
		if log >= 0 {
			powers[x] = exps[log*k%(p-1)]
		}
	}
	return powers
}

// wantDifferent returns the different numbers of a list, ascending.
func wantDifferent(list []int64) []int64 {
	list = slices.Clone(list)
	slices.Sort(list)
	return slices.Compact(list)
}

// wantSolutions returns for each b the number of the solutions with all numbers in first..p - 1.
func wantSolutions(p int64, factors []int64, exponents []int64, first int64) []int64 {
	values := make([][]int64, len(factors))
	for i, factor := range factors {
		for _, power := range wantPowers(p, exponents[i])[first:] {
			values[i] = append(values[i], factor*power)
		}
	}
	counts := make([]int64, p)
	var add func(values [][]int64, sum int64)
	add = func(values [][]int64, sum int64) {
		if len(values) == 0 {
			counts[sum%p]++
			return
		}
		for _, value := range values[0] {
			add(values[1:], sum+value)
		}
	}
	add(values, 0)
	return counts
}

// wantPoints returns the number of points of the curve of powers of m.
func wantPoints(p int64, m int64) int64 {
	powers := wantPowers(p, m)
	count := int64(0)
	for x := range p {
		for y := range p {
			for z := range p {
				first := x
				if x == 0 {
					first = y
				}
				if x == 0 && y == 0 {
					first = z
				}
				if first == 1 && (powers[x]+powers[y]-powers[z])%p == 0 {
					count++
				}
			}
		}
	}
	return count
}

// wantAbove returns the number of points above a polynomial.
func wantAbove(p int64, k int64, list []int64) int64 {
	powers := wantPowers(p, k)
	count := int64(0)
	for x := range p {
		value := int64(0)
		for i, number := range list {
			value += number * powerModulo(x, int64(i), p)
		}
		for _, power := range powers {
			if power == value%p {
				count++
			}
		}
	}
	return count
}

// wantDistances returns for each number how many powers x^k it needs as a sum at least.
func wantDistances(p int64, k int64) []int64 {
	powers := wantDifferent(wantPowers(p, k))
	distances := slices.Repeat([]int64{-1}, int(p))
	distances[0] = 0
	reached := []int64{0}
	for len(reached) > 0 {
		from := reached[0]
		reached = reached[1:]
		for _, power := range powers {
			if to := (from + power) % p; distances[to] < 0 {
				distances[to] = distances[from] + 1
				reached = append(reached, to)
			}
		}
	}
	return distances
}

// wantSquareSign returns 1 for the squares modulo p, -1 for the numbers that are none, and 0 at 0.
func wantSquareSign(p int64, x int64) int64 {
	if rest(x, p) == 0 {
		return 0
	}
	return 1 - 2*(logOf(p, x)%2)
}

// wantQuadric returns the number of solutions of a quadric by the document's rule.
func wantQuadric(p int64, factors []int64, b int64) int64 {
	n := len(factors)
	product := int64(1)
	for _, factor := range factors {
		product *= factor
	}
	powers := []int64{1, p, p * p, p * p * p}
	signs := []int64{1, 1, -1, -1, 1}
	if n%2 == 1 {
		// (-1)^((n - 1) / 2) is 1 for 1, and -1 for 3.
		return powers[n-1] + powers[(n-1)/2]*wantSquareSign(p, (2-int64(n))*b*product)
	}
	v := int64(-1)
	if b == 0 {
		v = p - 1
	}
	return powers[n-1] + v*powers[n/2-1]*wantSquareSign(p, signs[n]*product)
}

// everyPower calls a function with each prime and exponent.
func everyPower(check func(p int64, k int64)) {
	for _, row := range leastRoots {
		for k := int64(1); k <= impl.MaxExponent; k++ {
			check(row[0], k)
		}
	}
}

// noPrimes are no primes of chapter 6.
func noPrimes() []int64 {
	return slices.DeleteFunc(append(upToHundred(), extremes...), func(p int64) bool { return leastRoot(p) > 0 })
}

// noExponents are not in 1..MaxExponent.
func noExponents() []int64 {
	return append([]int64{0, -1, -2, -60, -61, impl.MaxExponent + 1, impl.MaxExponent + 2, 120, 1000}, extremes...)
}

// within returns a number in 1..limit.
func (s *sequence) within(limit int64) int64 {
	return rest(s.upTo(1000000), limit) + 1
}

// parts returns as many factors modulo p and exponents.
func (s *sequence) parts(p int64, count int) ([]int64, []int64) {
	factors, exponents := make([]int64, count), make([]int64, count)
	for i := range factors {
		factors[i], exponents[i] = s.within(p-1), s.within(impl.MaxExponent)
	}
	return factors, exponents
}

// residues returns as many numbers in 0..p - 1.
func (s *sequence) residues(p int64, count int) []int64 {
	list := make([]int64, count)
	for i := range list {
		list[i] = s.within(p) - 1
	}
	return list
}
