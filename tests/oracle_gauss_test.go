package tests

import (
	"math/big"
	"slices"
	"testing"

	"loop.example/g01313/impl"
)

// bigGauss is a sum of big sums of powers of z times 1, w, w w, .., w^p being 1. It says nothing yet
// of the sum of all powers of w.
type bigGauss []bigPowers

func newBigGauss(p int64, n int64) bigGauss {
	g := make(bigGauss, p)
	for i := range g {
		g[i] = newPowers(n)
	}
	return g
}

// movedGauss returns x with w^a in the place of w and z^b in that of z, for a and b of at least 0.
func movedGauss(x impl.Gauss, a int64, b int64) bigGauss {
	g := newBigGauss(x.Prime, x.Order)
	for i, row := range x.Rows {
		for j, part := range row {
			g[int64(i)*a%x.Prime].add(j*int(b), part, 1)
		}
	}
	return g
}

// addProduct adds the product of two Gauss numbers.
func (g bigGauss) addProduct(x impl.Gauss, y impl.Gauss) {
	ys := movedGauss(y, 1, 1)
	for i, row := range movedGauss(x, 1, 1) {
		for k, a := range row {
			if a.Sign() == 0 {
				continue
			}
			for j, other := range ys {
				for l, b := range other {
					if b.Sign() != 0 {
						at := g[(i+j)%len(g)]
						sum := at[(k+l)%len(at)]
						sum.Add(sum, new(big.Int).Mul(a, b))
					}
				}
			}
		}
	}
}

// told returns the Gauss number that the sum is, and ErrLimit if one of its numbers is too great.
func (g bigGauss) told() (impl.Gauss, int64) {
	x := impl.Gauss{Prime: int64(len(g)), Order: int64(len(g[0]))}
	for _, row := range g {
		number, code := row.less(g[0]).told()
		if code != impl.ErrNone {
			return impl.Gauss{}, code
		}
		x.Rows = append(x.Rows, number.Parts)
	}
	return x, impl.ErrNone
}

func wantGaussProduct(x impl.Gauss, y impl.Gauss) (impl.Gauss, int64) {
	g := newBigGauss(x.Prime, x.Order)
	g.addProduct(x, y)
	return g.told()
}

// wantGaussSum returns x and k times y together.
func wantGaussSum(x impl.Gauss, y impl.Gauss, k int64) (impl.Gauss, int64) {
	g := movedGauss(x, 1, 1)
	for i, row := range y.Rows {
		for j, part := range row {
			g[i].add(j, part, k)
		}
	}
	return g.told()
}

// wantScaled returns x times a number y, which stands at 1 alone.
func wantScaled(x impl.Gauss, y impl.Cyclo) (impl.Gauss, int64) {
	g := newBigGauss(x.Prime, x.Order)
	for i, row := range movedGauss(x, 1, 1) {
		g[i] = row.times(movedPowers(y, y.Order, 1))
	}
	return g.told()
}

// wantTwisted returns the sums of the values of c times powers of w^a, for all a in 0..p - 1.
func wantTwisted(c impl.Character) []impl.Gauss {
	sums := make([]impl.Gauss, c.Prime)
	for a := range sums {
		sums[a] = noughtGauss(c.Prime, c.Order)
	}
	all := newPowers(c.Order)
	for x := int64(1); x < c.Prime; x++ {
		all.addValue(-1, c, x, 0)
		value := wantValue(c, x)
		for a := int64(1); a < c.Prime; a++ {
			copy(sums[a].Rows[a*x%c.Prime], value.Parts)
		}
	}
	// By 0 all values stand at 1, and their sum is taken away from the other Rows.
	trivial, _ := all.told()
	for _, row := range sums[0].Rows[1:] {
		copy(row, trivial.Parts)
	}
	return sums
}

// wantPowerOf multiplies 1 by the Gauss sum of c, n times, and returns the constant of what is there
// then, or ErrLimit. Each value of c turns the numbers by a power of z and moves them by a power of w.
func wantPowerOf(c impl.Character) (impl.Cyclo, int64) {
	logs := logsOf(c.Prime)
	rows := noughtGauss(c.Prime, c.Order).Rows
	for _, row := range rows[1:] {
		row[0] = -1
	}
	for range c.Order {
		next := make([][]int64, c.Prime)
		for at := range next {
			next[at] = make([]int64, c.Order)
		}
		for x := int64(1); x < c.Prime; x++ {
			for i, row := range rows {
				for j, part := range row {
					next[(int64(i)+x)%c.Prime][(int64(j)+c.Power*logs[x])%c.Order] += part
				}
			}
		}
		first := slices.Clone(next[0])
		for at, list := range next {
			for j := range list {
				list[j] -= first[j]
			}
			number, code := wantOfList(c.Order, list)
			if code != impl.ErrNone {
				return impl.Cyclo{}, code
			}
			rows[at] = number.Parts
		}
	}
	constant := impl.Cyclo{Order: c.Order}
	for _, part := range rows[1] {
		constant.Parts = append(constant.Parts, -part)
	}
	return constant, impl.ErrNone
}

// noughtGauss returns the Gauss number 0.
func noughtGauss(p int64, n int64) impl.Gauss {
	x := impl.Gauss{Prime: p, Order: n}
	for range p {
		x.Rows = append(x.Rows, number(n).Parts)
	}
	return x
}

// gauss returns a Gauss number of numbers with absolute values of at most limit.
func (s *sequence) gauss(p int64, n int64, limit int64) impl.Gauss {
	x := noughtGauss(p, n)
	for _, row := range x.Rows[1:] {
		copy(row, s.cyclo(n, limit).Parts)
	}
	return x
}

// gaussOf returns a Gauss number of the order 1 or 2, whose Rows have one number each; that of the
// first one is left out.
func gaussOf(n int64, list ...int64) impl.Gauss {
	x := noughtGauss(int64(len(list))+1, n)
	for i, part := range list {
		x.Rows[i+1][0] = part
	}
	return x
}

// constantOf returns the Gauss number with the constant x.
func constantOf(p int64, x impl.Cyclo) impl.Gauss {
	g := noughtGauss(p, x.Order)
	for _, row := range g.Rows[1:] {
		for j, part := range x.Parts {
			row[j] = -part
		}
	}
	return g
}

// everyField calls a function with each prime and order of Gauss numbers.
func everyField(check func(p int64, n int64)) {
	for _, row := range leastRoots {
		for n := int64(1); n <= impl.MaxOrder; n++ {
			check(row[0], n)
		}
	}
}

// noGausses returns structs that are no Gauss numbers.
func noGausses() []impl.Gauss {
	list := []impl.Gauss{
		{}, {Prime: 3}, {Order: 1}, {Rows: noughtGauss(3, 1).Rows}, {Prime: 3, Order: 1},
		{Prime: 3, Order: 1, Rows: [][]int64{}}, {Prime: 3, Order: 1, Rows: [][]int64{nil, nil, nil}},
		{Prime: 3, Rows: noughtGauss(3, 1).Rows}, {Order: 1, Rows: noughtGauss(3, 1).Rows},
		{Prime: 3, Order: 5, Rows: noughtGauss(3, 4).Rows}, {Prime: 5, Order: 4, Rows: noughtGauss(3, 4).Rows},
		// As many rows as a number tells that is no prime.
		{Prime: 1, Order: 1, Rows: [][]int64{{0}}}, {Prime: 2, Order: 1, Rows: [][]int64{{0}, {0}}},
	}
	for _, p := range []int64{4, 9, 15, 49, 57, 62, 63, 67, 71} {
		list = append(list, noughtGauss(p, 2))
	}
	for _, n := range append([]int64{0, -1, -3, 17, 18, 32}, extremes...) {
		for _, length := range []int{0, 1, 6, 16} {
			bad := impl.Gauss{Prime: 3, Order: n}
			for range 3 {
				bad.Rows = append(bad.Rows, make([]int64, length))
			}
			list = append(list, bad)
		}
	}
	for _, e := range append([]int64{0, 1, -3}, extremes...) {
		list = append(list, impl.Gauss{Prime: e, Order: 1, Rows: noughtGauss(3, 1).Rows}, impl.Gauss{Prime: e, Order: 1})
	}
	for _, field := range [][2]int64{{3, 1}, {3, 2}, {5, 4}, {7, 3}, {61, 13}} {
		list = append(list, brokenGausses(field[0], field[1])...)
	}
	return list
}

// brokenGausses returns Gauss numbers with one thing wrong each.
func brokenGausses(p int64, n int64) []impl.Gauss {
	var list []impl.Gauss
	add := func(change func(x *impl.Gauss)) {
		x := noughtGauss(p, n)
		change(&x)
		list = append(list, x)
	}
	for j := range number(n).Parts {
		for _, part := range []int64{1, -1, impl.MaxPart, -1 << 63} {
			add(func(x *impl.Gauss) { x.Rows[0][j] = part })
		}
		for i := int64(1); i < p; i++ {
			for _, part := range []int64{impl.MaxPart + 1, -impl.MaxPart - 1, -1 << 63, 1<<63 - 1} {
				add(func(x *impl.Gauss) { x.Rows[i][j] = part })
			}
		}
	}
	for i := range p {
		add(func(x *impl.Gauss) { x.Rows[i] = append(x.Rows[i], 0) })
		add(func(x *impl.Gauss) { x.Rows[i] = x.Rows[i][1:] })
		add(func(x *impl.Gauss) { x.Rows[i] = nil })
	}
	add(func(x *impl.Gauss) { x.Rows = x.Rows[1:] })
	add(func(x *impl.Gauss) { x.Rows = append(x.Rows, number(n).Parts) })
	add(func(x *impl.Gauss) { x.Rows = nil })
	return list
}

func sameGauss(x impl.Gauss, y impl.Gauss) bool {
	return x.Prime == y.Prime && x.Order == y.Order && slices.EqualFunc(x.Rows, y.Rows, slices.Equal[[]int64])
}

// wantGauss checks a Gauss number and a code. Beside an error it has to be the zero value.
func wantGauss(t *testing.T, what string, x impl.Gauss, code int64, want impl.Gauss, wantCode int64) {
	t.Helper()
	if code != wantCode || !sameGauss(x, want) {
		t.Errorf("%s = %v, %d; want %v, %d", what, x, code, want, wantCode)
	}
}

// wantNoGauss checks that there is a code and no Gauss number.
func wantNoGauss(t *testing.T, what string, x impl.Gauss, code int64, wantCode int64) {
	t.Helper()
	wantGauss(t, what, x, code, impl.Gauss{}, wantCode)
}
