package tests

import (
	"cmp"
	"math/big"
	"slices"
	"sync"

	"loop.example/g01313/impl"
)

// Numbers of the order 3 are told here by pairs, and multiplied by what z makes of them. Primes are the
// numbers that no lesser prime divides, whatever prime numbers there are. Symbols are reckoned with
// residues modulo prime numbers, or with conjugates as powers. All units are gone through one by one.

// pair has both Parts of a number of the order 3, whatever their size.
type pair [2]int64

// cubicUnits are the units, written out.
var cubicUnits = []pair{{1, 0}, {-1, 0}, {0, 1}, {0, -1}, {-1, -1}, {1, 1}}

func pairOf(x impl.Cyclo) pair {
	return pair{x.Parts[0], x.Parts[1]}
}

// cyclo returns the number, whatever the size of its Parts.
func (x pair) cyclo() impl.Cyclo {
	return number(3, x[0], x[1])
}

// told returns the number with its code.
func (x pair) told() (impl.Cyclo, int64) {
	if max(x[0], -x[0], x[1], -x[1]) > 10000 {
		return impl.Cyclo{}, impl.ErrLimit
	}
	return x.cyclo(), impl.ErrNone
}

// timesZ returns z times a number.
func (x pair) timesZ() pair {
	return pair{-x[1], x[0] - x[1]}
}

func (x pair) times(y pair) pair {
	turned := x.timesZ()
	return pair{y[0]*x[0] + y[1]*turned[0], y[0]*x[1] + y[1]*turned[1]}
}

func (x pair) less(y pair) pair {
	return pair{x[0] - y[0], x[1] - y[1]}
}

// norm is told by the place of the number in the plane.
func (x pair) norm() int64 {
	along, up := 2*x[0]-x[1], x[1]
	return (along*along + 3*up*up) / 4
}

// associates returns the associates that are as told.
func (x pair) associates(isTold func(pair) bool) []pair {
	list := []pair{}
	for _, unit := range cubicUnits {
		if one := x.times(unit); isTold(one) {
			list = append(list, one)
		}
	}
	return list
}

func isChosen(x pair) bool {
	return x[0] > 0 && 0 <= x[1] && x[1] <= x[0]-1
}

func isPrimary(x pair) bool {
	return rest(x[0], 3) == 2 && rest(x[1], 3) == 0
}

// chosen returns the chosen associate of a number other than 0.
func (x pair) chosen() pair {
	return x.associates(isChosen)[0]
}

// nearest returns the only k for which top / below less k is at least -1/2 and less than 1/2.
func nearest(top int64, below int64) int64 {
	k := top / below
	for 2*(top-k*below) >= below {
		k++
	}
	for 2*(top-k*below) < -below {
		k--
	}
	return k
}

// dividedBy returns the quotient and the rest: the quotient q solves q y = x, but for rounding.
func (x pair) dividedBy(y pair) (pair, pair) {
	turned, norm := y.timesZ(), y.norm()
	q := pair{
		nearest(x[0]*turned[1]-turned[0]*x[1], norm),
		nearest(y[0]*x[1]-x[0]*y[1], norm),
	}
	return q, x.less(y.times(q))
}

func (x pair) isDividedBy(y pair) bool {
	_, left := x.dividedBy(y)
	return left == pair{}
}

// comparePairs compares norms, then first Parts, then second ones.
func comparePairs(x pair, y pair) int {
	return cmp.Or(cmp.Compare(x.norm(), y.norm()), cmp.Compare(x[0], y[0]), cmp.Compare(x[1], y[1]))
}

// chosenUpTo returns the chosen numbers with norms of at most limit, by norms.
func chosenUpTo(limit int64) []pair {
	list := []pair{}
	for a := int64(1); 3*a*a <= 4*limit; a++ {
		for b := range a {
			if x := (pair{a, b}); x.norm() <= limit {
				list = append(list, x)
			}
		}
	}
	slices.SortFunc(list, comparePairs)
	return list
}

// smallPrimes returns the chosen primes with norms of at most 17321, by norms: the square of this is
// greater than all norms of cubic numbers.
var smallPrimes = sync.OnceValue(func() []pair {
	primes := []pair{}
next:
	for _, x := range chosenUpTo(17321)[1:] {
		for _, prime := range primes {
			if prime.norm()*prime.norm() > x.norm() {
				break
			}
			if x.isDividedBy(prime) {
				continue next
			}
		}
		primes = append(primes, x)
	}
	return primes
})

// factored returns the unit and the chosen primes of a number other than 0, each as often as it stands
// in the product, by norms.
func (x pair) factored() (pair, []pair) {
	primes := []pair{}
	for _, prime := range smallPrimes() {
		if prime.norm()*prime.norm() > x.norm() {
			break
		}
		for x.isDividedBy(prime) {
			x, _ = x.dividedBy(prime)
			primes = append(primes, prime)
		}
	}
	if x.norm() > 1 {
		primes = append(primes, x.chosen())
		x, _ = x.dividedBy(x.chosen())
	}
	return x, primes
}

// countedPairs returns each different pair of a list once, and how often it is there. Equal ones have
// to stand together.
func countedPairs(list []pair) ([]pair, []int64) {
	different, often := []pair{}, []int64{}
	for i, x := range list {
		if i == 0 || x != list[i-1] {
			different, often = append(different, x), append(often, 0)
		}
		often[len(often)-1]++
	}
	return different, often
}

func (x pair) isPrime() bool {
	if x.norm() < 2 {
		return false
	}
	_, primes := x.factored()
	return len(primes) == 1
}

// wantGcd returns the greatest common divisor of numbers, not both 0.
func wantGcd(x pair, y pair) pair {
	if x == (pair{}) {
		x, y = y, x
	}
	divisor := pair{1, 0}
	_, primes := x.factored()
	for _, prime := range primes {
		if y.isDividedBy(prime) {
			y, _ = y.dividedBy(prime)
			divisor = divisor.times(prime)
		}
	}
	return divisor.chosen()
}

// wantCubicSymbol returns the symbol of x at a prime y whose norm is no multiple of 3.
func wantCubicSymbol(x pair, y pair) int64 {
	norm := y.norm()
	root := new(big.Int).Sqrt(big.NewInt(norm)).Int64()
	if root*root == norm {
		return symbolAtWhole(x, root)
	}
	// The norm is a prime number, of which each number has a rest: that of z makes y a multiple.
	p := big.NewInt(norm)
	z := new(big.Int).ModInverse(big.NewInt(rest(y[1], norm)), p)
	z.Mod(z.Mul(z, big.NewInt(-y[0])), p)
	residue := new(big.Int).Mul(z, big.NewInt(x[1]))
	residue.Mod(residue.Add(residue, big.NewInt(x[0])), p)
	power := new(big.Int).Exp(residue, big.NewInt((norm-1)/3), p)
	for k := range int64(3) {
		if new(big.Int).Exp(z, big.NewInt(k), p).Cmp(power) == 0 {
			return k
		}
	}
	return -1
}

// symbolAtWhole returns the symbol at a prime number q with the rest 2 by 3: there the power q of a
// number is the conjugate, and so the power q - 1 is this, divided by the number.
func symbolAtWhole(x pair, q int64) int64 {
	norm := new(big.Int).ModInverse(big.NewInt(rest(x.norm(), q)), big.NewInt(q))
	if norm == nil {
		return -1
	}
	byQ := func(y pair) pair { return pair{rest(y[0], q), rest(y[1], q)} }
	conjugate := byQ(pair{x[0] - x[1], -x[1]})
	quotient := byQ(byQ(conjugate.times(conjugate)).times(pair{norm.Int64(), 0}))
	power := pair{1, 0}
	for range (q + 1) / 3 {
		power = byQ(power.times(quotient))
	}
	return int64(slices.Index([]pair{{1, 0}, {0, 1}, {q - 1, q - 1}}, power))
}

// wantResidueCount counts the rests by x that are divided by none of its primes.
func wantResidueCount(x pair) int64 {
	_, primes := x.factored()
	counted := map[pair]bool{}
	for a := range x.norm() {
		for b := range x.norm() {
			_, left := pair{a, b}.dividedBy(x)
			counted[left] = !slices.ContainsFunc(primes, left.isDividedBy)
		}
	}
	count := int64(0)
	for _, isPrime := range counted {
		if isPrime {
			count++
		}
	}
	return count
}

// pairsWithin calls a function with all pairs of Parts with absolute values of at most limit.
func pairsWithin(limit int64, check func(x pair)) {
	for a := -limit; a <= limit; a++ {
		for b := -limit; b <= limit; b++ {
			check(pair{a, b})
		}
	}
}

// edgePairs are pairs of Parts around the limit, around its half, and around 0.
func edgePairs() []pair {
	parts := []int64{}
	for _, middle := range []int64{-9999, -5000, -3333, 0, 3333, 5000, 9999} {
		parts = append(parts, middle-1, middle, middle+1)
	}
	list := []pair{}
	for _, a := range parts {
		for _, b := range parts {
			list = append(list, pair{a, b})
		}
	}
	return list
}

// pair returns a pair of Parts with absolute values of at most limit.
func (s *sequence) pair(limit int64) pair {
	return pair(s.list(2, limit))
}

// everyCubic calls a function with small cubic numbers, those around the limit, and others.
func everyCubic(check func(x pair)) {
	pairsWithin(30, check)
	for _, x := range edgePairs() {
		check(x)
	}
	var s sequence
	for _, limit := range []int64{100, 1000, impl.MaxEisen} {
		for range 300 {
			check(s.pair(limit))
		}
	}
	// Powers of one prime, and products of many.
	for _, x := range []pair{{2, 0}, {2, 1}, {3, 1}, {3, 2}, {5, 0}, {97, 0}, {99, 2}} {
		power := x
		for max(power[0], -power[0], power[1], -power[1]) <= impl.MaxEisen {
			check(power)
			power = power.times(x)
		}
	}
	for _, x := range []pair{{9240, 0}, {-9240, 9240}, {0, 10000}, {8190, 0}, {2310, 4620}, {6006, -3003}, {-5040, 2520}} {
		check(x)
	}
}

// noCubics are no cubic numbers: no numbers at all, numbers of other orders, and such with a Part beyond
// the limit.
func noCubics() []impl.Cyclo {
	list := append(noNumbers(),
		impl.Cyclo{Order: 3}, impl.Cyclo{Order: 3, Parts: []int64{}}, impl.Cyclo{Order: 3, Parts: []int64{2}},
		impl.Cyclo{Order: 3, Parts: []int64{2, 1, 0}}, impl.Cyclo{Order: 3, Parts: []int64{2, 1, 1}},
		impl.Cyclo{Order: 3, Parts: []int64{impl.MaxPart + 1, 0}}, impl.Cyclo{Order: 0, Parts: []int64{2, 1}},
		impl.Cyclo{Order: -3, Parts: []int64{2, 1}}, impl.Cyclo{Order: 5, Parts: []int64{2, 1}},
	)
	for n := int64(1); n <= impl.MaxOrder; n++ {
		if n != 3 {
			list = append(list, number(n), number(n, 1), number(n, 2, 1))
		}
	}
	for _, part := range []int64{10001, -10001, 10002, 20000, -20000, impl.MaxPart, -impl.MaxPart} {
		list = append(list, number(3, part), number(3, 0, part), number(3, part, part), number(3, part, -10000))
	}
	return list
}
