package tests

import (
	"fmt"
	"math/big"
	"slices"
	"testing"

	"loop.example/g01313/impl"
)

// Elements are told here by big numbers at pairs of residues, and Bernoulli numbers by triangles of
// fractions and by sums of powers. What elements make of numbers is told by big powers of z.

// bigRing has a big number at each residue of a Modulus, and none elsewhere.
type bigRing map[int64]*big.Int

func newRing(n int64) bigRing {
	r := bigRing{}
	for _, a := range unitsOf(n) {
		r[a] = new(big.Int)
	}
	return r
}

// add adds a product of two numbers at a residue.
func (r bigRing) add(a int64, first int64, second int64) {
	r[a].Add(r[a], new(big.Int).Mul(big.NewInt(first), big.NewInt(second)))
}

// told returns the element of the Modulus n with these Parts, and ErrLimit if one is too great.
func (r bigRing) told(n int64) (impl.Ring, int64) {
	x := impl.Ring{Modulus: n}
	for _, a := range unitsOf(n) {
		if r[a].CmpAbs(big.NewInt(impl.MaxPart)) > 0 {
			return impl.Ring{}, impl.ErrLimit
		}
		x.Parts = append(x.Parts, r[a].Int64())
	}
	return x, impl.ErrNone
}

func wantRingSum(x impl.Ring, y impl.Ring, k int64) (impl.Ring, int64) {
	sum := newRing(x.Modulus)
	for i, a := range unitsOf(x.Modulus) {
		sum.add(a, x.Parts[i], 1)
		sum.add(a, y.Parts[i], k)
	}
	return sum.told(x.Modulus)
}

func wantRingProduct(x impl.Ring, y impl.Ring) (impl.Ring, int64) {
	n := x.Modulus
	product := newRing(n)
	for i, a := range unitsOf(n) {
		for j, b := range unitsOf(n) {
			product.add(a*b%n, x.Parts[i], y.Parts[j])
		}
	}
	return product.told(n)
}

// wantTurned looks for all pairs of residues whose product is 1.
func wantTurned(x impl.Ring) impl.Ring {
	turned := ringOf(x.Modulus)
	for i, a := range unitsOf(x.Modulus) {
		for j, b := range unitsOf(x.Modulus) {
			if a*b%x.Modulus == 1 {
				turned.Parts[i] = x.Parts[j]
			}
		}
	}
	return turned
}

// wantReduced returns the reduced Stickelberger element by the greatest whole numbers.
func wantReduced(n int64, c int64) impl.Ring {
	reduced := ringOf(n)
	for i, b := range unitsOf(n) {
		for _, a := range unitsOf(n) {
			if a*b%n == 1 {
				reduced.Parts[i] = (c*a - rest(c*a, n)) / n
			}
		}
	}
	return reduced
}

// actingImages returns the images by which x multiplies, in the document's order.
func actingImages(x impl.Ring, y impl.Cyclo) []bigPowers {
	images := []bigPowers{}
	for i, a := range unitsOf(y.Order) {
		for range x.Parts[i] {
			images = append(images, movedPowers(y, y.Order, a))
		}
	}
	return images
}

// wantActed returns what x makes of y, with the code of the limit. Everything else has to be as told.
func wantActed(x impl.Ring, y impl.Cyclo) (impl.Cyclo, int64) {
	product, fits := onTheWay(y.Order, actingImages(x, y))
	if !fits {
		return impl.Cyclo{}, impl.ErrLimit
	}
	return product.told()
}

// wantBernoulli returns the Bernoulli number of k from the triangle of Akiyama and Tanigawa, which
// has 1 / 2 for 1.
func wantBernoulli(k int64) *big.Rat {
	row := []*big.Rat{}
	for m := int64(0); m <= k; m++ {
		row = append(row, big.NewRat(1, m+1))
		for j := m; j > 0; j-- {
			difference := new(big.Rat).Sub(row[j-1], row[j])
			row[j-1] = difference.Mul(difference, big.NewRat(j, 1))
		}
	}
	if k == 1 {
		return row[0].Neg(row[0])
	}
	return row[0]
}

// fractionModulo returns a fraction modulo a prime that does not divide the number below.
func fractionModulo(fraction *big.Rat, p int64) int64 {
	modulus := big.NewInt(p)
	inverse := new(big.Int).ModInverse(fraction.Denom(), modulus)
	return inverse.Mul(inverse, fraction.Num()).Mod(inverse, modulus).Int64()
}

// powerSumResidue returns the Bernoulli residue of p and an even k in 2..p - 3 without Bernoulli
// numbers: 1^k + 2^k + .. + (p - 1)^k is p times it modulo p p.
func powerSumResidue(p int64, k int64) int64 {
	sum := int64(0)
	for x := range p {
		sum += powerModulo(x, k, p*p)
	}
	return sum % (p * p) / p
}

// ringOf returns an element, with zeros as the Parts that are left out.
func ringOf(n int64, parts ...int64) impl.Ring {
	x := impl.Ring{Modulus: n, Parts: make([]int64, len(unitsOf(n)))}
	copy(x.Parts, parts)
	return x
}

// ringAt returns the element that has a Part other than 0 at one residue alone.
func ringAt(n int64, a int64, part int64) impl.Ring {
	x := ringOf(n)
	x.Parts[slices.Index(unitsOf(n), a)] = part
	return x
}

// filledRing returns the element with equal Parts.
func filledRing(n int64, part int64) impl.Ring {
	x := ringOf(n)
	fillRow(x.Parts, part)
	return x
}

// ring returns an element of the Modulus n with Parts with absolute values of at most limit.
func (s *sequence) ring(n int64, limit int64) impl.Ring {
	return impl.Ring{Modulus: n, Parts: s.list(len(unitsOf(n)), limit)}
}

// everyModulus calls a function with 2..MaxModulus.
func everyModulus(check func(n int64)) {
	for n := int64(2); n <= 40; n++ {
		check(n)
	}
}

// noModuli are not in 2..MaxModulus.
func noModuli() []int64 {
	return append([]int64{1, 0, -1, -2, -5, -40, 41, 42, 43, 61, 1000}, extremes...)
}

// noRings returns structs that are no elements.
func noRings() []impl.Ring {
	list := []impl.Ring{{}}
	for _, n := range noModuli() {
		for _, count := range []int{0, 1, 2, 4, 12, 16, 40, 42} {
			list = append(list, impl.Ring{Modulus: n, Parts: make([]int64, count)})
		}
	}
	everyModulus(func(n int64) {
		count := len(unitsOf(n))
		for _, wrong := range []int{count - 1, count + 1, count + 2, 2 * count, 41} {
			list = append(list, impl.Ring{Modulus: n, Parts: make([]int64, wrong)})
		}
		if int64(count) != n-1 {
			list = append(list, impl.Ring{Modulus: n, Parts: make([]int64, n-1)})
		}
		list = append(list, impl.Ring{Modulus: n}, impl.Ring{Modulus: n, Parts: make([]int64, n)})
		for i, a := range unitsOf(n) {
			list = append(list, ringAt(n, a, top+1), ringAt(n, a, -top-1))
			list = append(list, ringAt(n, a, extremes[i%len(extremes)]))
		}
	})
	return list
}

func sameRing(x impl.Ring, y impl.Ring) bool {
	return x.Modulus == y.Modulus && slices.Equal(x.Parts, y.Parts)
}

// wantRing checks an element and a code. Beside an error the element has to be the zero value.
func wantRing(t *testing.T, what string, x impl.Ring, code int64, want impl.Ring, wantCode int64) {
	t.Helper()
	if code != wantCode || !sameRing(x, want) {
		t.Errorf("%s = %v, %d; want %v, %d", what, x, code, want, wantCode)
	}
}

// wantNoRing checks that there is a code and no element.
func wantNoRing(t *testing.T, what string, x impl.Ring, code int64, wantCode int64) {
	t.Helper()
	wantRing(t, what, x, code, impl.Ring{}, wantCode)
}

// wantFraction checks both numbers of a fraction and a code.
func wantFraction(t *testing.T, what string, above int64, below int64, code int64, want [2]int64, wantCode int64) {
	t.Helper()
	if got := [2]int64{above, below}; got != want || code != wantCode {
		t.Errorf("%s = %s, %d; want %s, %d", what, fmt.Sprint(got), code, fmt.Sprint(want), wantCode)
	}
}
