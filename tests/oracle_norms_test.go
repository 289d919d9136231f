package tests

import (
	"fmt"
	"math/big"

	"loop.example/g01313/impl"
)

// The norms, traces and quotients of the tests are those of matrices, which know nothing of images.
// Only the limits are looked for on the ways by images that the document tells, with big numbers.

// matrix is a square matrix of big numbers, by rows.
type matrix [][]*big.Int

// matrixOf returns the matrix by which x multiplies: its column j has the Parts of x times z^j.
func matrixOf(x impl.Cyclo) matrix {
	size := len(x.Parts)
	m := make(matrix, size)
	for i := range m {
		m[i] = make([]*big.Int, size)
	}
	for j := range size {
		z := newPowers(x.Order)
		z.add(j, 1, 1)
		for i, part := range movedPowers(x, x.Order, 1).times(z).parts() {
			m[i][j] = part
		}
	}
	return m
}

func (m matrix) trace() *big.Int {
	sum := new(big.Int)
	for i := range m {
		sum.Add(sum, m[i][i])
	}
	return sum
}

func (m matrix) times(other matrix) matrix {
	product := make(matrix, len(m))
	for i := range m {
		product[i] = make([]*big.Int, len(m))
		for j := range m {
			sum := new(big.Int)
			for k := range m {
				sum.Add(sum, new(big.Int).Mul(m[i][k], other[k][j]))
			}
			product[i][j] = sum
		}
	}
	return product
}

// withDiagonal returns m and a number times the matrix of 1 together.
func (m matrix) withDiagonal(number *big.Int) matrix {
	sum := make(matrix, len(m))
	for i := range m {
		sum[i] = append([]*big.Int{}, m[i]...)
		sum[i][i] = new(big.Int).Add(m[i][i], number)
	}
	return sum
}

// polynomial returns the characteristic polynomial of m, from the number at x^0 on (Faddeev and
// LeVerrier).
func (m matrix) polynomial() []*big.Int {
	size := len(m)
	list := make([]*big.Int, size+1)
	list[size] = big.NewInt(1)
	power := m
	for k := 1; k <= size; k++ {
		if k > 1 {
			power = m.times(power.withDiagonal(list[size-k+1]))
		}
		list[size-k] = new(big.Int).Neg(new(big.Int).Quo(power.trace(), big.NewInt(int64(k))))
	}
	return list
}

// determinant returns the determinant of m, by elimination without fractions (Bareiss).
func (m matrix) determinant() *big.Int {
	rows := m.withDiagonal(new(big.Int))
	before, sign := big.NewInt(1), int64(1)
	for k := range rows {
		at := k
		for at < len(rows) && rows[at][k].Sign() == 0 {
			at++
		}
		if at == len(rows) {
			return new(big.Int)
		}
		if at != k {
			rows[k], rows[at], sign = rows[at], rows[k], -sign
		}
		for i := k + 1; i < len(rows); i++ {
			for j := k + 1; j < len(rows); j++ {
				a := new(big.Int).Mul(rows[i][j], rows[k][k])
				b := new(big.Int).Mul(rows[i][k], rows[k][j])
				rows[i][j] = a.Quo(a.Sub(a, b), before)
			}
		}
		before = rows[k][k]
	}
	return new(big.Int).Mul(before, big.NewInt(sign))
}

// wholeQuotient returns the number q with q y = x (Cramer), and ErrNotFound if it is not whole.
func wholeQuotient(x impl.Cyclo, y impl.Cyclo) (impl.Cyclo, int64) {
	m := matrixOf(y)
	below := m.determinant()
	q := impl.Cyclo{Order: x.Order}
	for j := range m {
		changed := m.withDiagonal(new(big.Int))
		for i := range changed {
			changed[i][j] = big.NewInt(x.Parts[i])
		}
		part, rest := new(big.Int).QuoRem(changed.determinant(), below, new(big.Int))
		if rest.Sign() != 0 {
			return impl.Cyclo{}, impl.ErrNotFound
		}
		q.Parts = append(q.Parts, part.Int64())
	}
	return q, impl.ErrNone
}

// bigImages returns all images of x, or each different one once, where it is there first.
func bigImages(x impl.Cyclo, different bool) []bigPowers {
	var images []bigPowers
	seen := map[string]bool{}
	for _, a := range unitsOf(x.Order) {
		image := movedPowers(x, x.Order, a)
		key := fmt.Sprint(image.parts())
		if !different || !seen[key] {
			images = append(images, image)
		}
		seen[key] = true
	}
	return images
}

// onTheWay returns the product of images, and whether all products on the way to it fit.
func onTheWay(n int64, images []bigPowers) (bigPowers, bool) {
	product := newPowers(n)
	product.add(0, 1, 1)
	fits := true
	for _, image := range images {
		product = product.times(image)
		fits = fits && product.fits()
	}
	return product, fits
}

// polynomialFits reports whether all products and all numbers of the lists fit on the way to the
// polynomial with these images as roots.
func polynomialFits(n int64, images []bigPowers) bool {
	one := newPowers(n)
	one.add(0, 1, 1)
	list := []bigPowers{one}
	for _, image := range images {
		list = append(list, newPowers(n))
		for i := len(list) - 1; i >= 0; i-- {
			before := newPowers(n)
			if i > 0 {
				before = list[i-1]
			}
			product := list[i].times(image)
			list[i] = before.less(product)
			if !product.fits() || !list[i].fits() {
				return false
			}
		}
	}
	return true
}

// quotientFits reports whether the cofactor and the norm of y, and the product of x and the
// cofactor, fit.
func quotientFits(x impl.Cyclo, y impl.Cyclo) bool {
	images := bigImages(y, false)
	cofactor, fits := onTheWay(y.Order, images[1:])
	_, normFits := onTheWay(y.Order, images)
	return fits && normFits && movedPowers(x, x.Order, 1).times(cofactor).fits()
}

// wantQuotient returns x divided by y, with the code.
func wantQuotient(x impl.Cyclo, y impl.Cyclo) (impl.Cyclo, int64) {
	if !quotientFits(x, y) {
		return impl.Cyclo{}, impl.ErrLimit
	}
	return wholeQuotient(x, y)
}
