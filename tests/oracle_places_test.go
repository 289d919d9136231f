package tests

import (
	"math/big"
	"slices"

	"loop.example/g01313/impl"
)

// Roots are told here by primitive roots, and lifted ones by powers of big numbers: the n-th roots of
// 1 modulo l^k are the numbers r to the power of l^(k - 1). Cyclotomic polynomials are not looked at.

// mostPowers has the greatest k for each prime for which l^k is at most 1000000000, written out.
var mostPowers = map[int64]int64{
	3: 18, 5: 12, 7: 10, 11: 8, 13: 8, 17: 7, 19: 7, 23: 6, 29: 6,
	31: 6, 37: 5, 41: 5, 43: 5, 47: 5, 53: 5, 59: 5, 61: 5,
}

// everyPlace calls a function with all places.
func everyPlace(check func(n int64, l int64, r int64)) {
	everyGroup(func(l int64, n int64) {
		for _, r := range wantRoots(n, l) {
			check(n, l, r)
		}
	})
}

// wantSplitting tells e, f and g by the classes into which l puts the numbers without a common divisor
// with m, the greatest divisor of n that is no multiple of l.
func wantSplitting(n int64, l int64) []int64 {
	m := int64(1)
	for d := int64(1); d <= n; d++ {
		if n%d == 0 && d%l != 0 {
			m = d
		}
	}
	classes := map[int64]int64{}
	for _, a := range unitsOf(m) {
		least := a
		for x := a * l % m; x != a%m; x = x * l % m {
			least = min(least, x)
		}
		classes[least]++
	}
	return []int64{int64(len(unitsOf(n)) / len(unitsOf(m))), classes[1], int64(len(classes))}
}

// wantRoots returns the powers of the primitive root of l that are 1 for the first time to the power
// of n, ascending.
func wantRoots(n int64, l int64) []int64 {
	roots := []int64{}
	for _, a := range unitsOf(n) {
		roots = append(roots, powerModulo(leastRoot(l), (l-1)/n*a, l))
	}
	slices.Sort(roots)
	return roots
}

// bigPower returns l^k.
func bigPower(l int64, k int64) *big.Int {
	return new(big.Int).Exp(big.NewInt(l), big.NewInt(k), nil)
}

// wantLifted returns the lifted root of k, which may be of any size.
func wantLifted(l int64, r int64, k int64) *big.Int {
	return new(big.Int).Exp(big.NewInt(r), bigPower(l, k-1), bigPower(l, k))
}

// wantRest returns the rest by l^k of the sum of the Parts of x times powers of the lifted root of k.
func wantRest(x impl.Cyclo, l int64, r int64, k int64) *big.Int {
	root, sum := wantLifted(l, r, k), new(big.Int)
	for i, part := range x.Parts {
		power := new(big.Int).Exp(root, big.NewInt(int64(i)), nil)
		sum.Add(sum, power.Mul(power, big.NewInt(part)))
	}
	return sum.Mod(sum, bigPower(l, k))
}

func wantResidue(x impl.Cyclo, l int64, r int64) int64 {
	return wantRest(x, l, r, 1).Int64()
}

// freeValuation returns the valuation of x, which is not 0, whatever its size.
func freeValuation(x impl.Cyclo, l int64, r int64) int64 {
	k := int64(0)
	for wantRest(x, l, r, k+1).Sign() == 0 {
		k++
	}
	return k
}

// wantValuation returns the valuation of x with the code.
func wantValuation(x impl.Cyclo, l int64, r int64) (int64, int64) {
	if isNought(x) {
		return 0, impl.ErrState
	}
	valuation := freeValuation(x, l, r)
	if valuation >= mostPowers[l] {
		return 0, impl.ErrLimit
	}
	return valuation, impl.ErrNone
}

// wantSymbolAt returns the symbol of x with the code: residues are powers of the primitive root, and
// so r^k is looked for among these.
func wantSymbolAt(x impl.Cyclo, l int64, r int64) (int64, int64) {
	log := logOf(l, wantResidue(x, l, r))
	if log < 0 {
		return 0, impl.ErrState
	}
	for k := range x.Order {
		if rest(log*((l-1)/x.Order)-k*logOf(l, r), l-1) == 0 {
			return k, impl.ErrNone
		}
	}
	return -1, impl.ErrNone
}

// bigValuation returns how often l divides a number other than 0.
func bigValuation(number *big.Int, l int64) int64 {
	count := int64(0)
	left := new(big.Int).Set(number)
	for {
		quotient, remainder := new(big.Int).QuoRem(left, big.NewInt(l), new(big.Int))
		if remainder.Sign() != 0 {
			return count
		}
		left = quotient
		count++
	}
}
