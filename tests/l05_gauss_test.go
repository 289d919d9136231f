package tests

import (
	"fmt"
	"math/big"
	"slices"
	"testing"

	"loop.example/g01313/impl"
)

const top = impl.MaxPart

// someGauss calls a function with some Gauss numbers of all primes and orders: small ones and such
// with greatest numbers, constants and 0.
func someGauss(check func(x impl.Gauss)) {
	var s sequence
	everyField(func(p int64, n int64) {
		check(noughtGauss(p, n))
		check(constantOf(p, s.cyclo(n, top)))
		for _, limit := range []int64{1, 1000, top / 3, top} {
			check(s.gauss(p, n, limit))
		}
	})
}

func TestIsGauss(t *testing.T) {
	everyField(func(p int64, n int64) {
		x := noughtGauss(p, n)
		check := func(want bool) {
			t.Helper()
			if impl.IsGauss(x) != want {
				t.Errorf("IsGauss(%v) is %v", x, !want)
			}
		}
		check(true)
		for i, row := range x.Rows {
			at := &row[i%len(row)]
			for _, part := range []int64{1, -1, top, -top} {
				*at = part
				check(i > 0)
			}
			for _, part := range []int64{top + 1, -top - 1, -1 << 63, 1<<63 - 1} {
				*at = part
				check(false)
			}
			*at = 0
		}
	})
	for _, bad := range noGausses() {
		if impl.IsGauss(bad) {
			t.Errorf("IsGauss(%v) is true", bad)
		}
	}
}

func TestGaussSums(t *testing.T) {
	everyCharacter(func(c impl.Character) {
		twisted := wantTwisted(c)
		got, code := impl.GaussSum(c)
		wantGauss(t, fmt.Sprint("GaussSum ", c), got, code, twisted[1], impl.ErrNone)
		for a, want := range twisted {
			got, code := impl.TwistedSum(c, int64(a))
			wantGauss(t, fmt.Sprint("TwistedSum ", c, a), got, code, want, impl.ErrNone)
			if !impl.IsGauss(got) {
				t.Errorf("TwistedSum %v by %d is no Gauss number: %v", c, a, got)
			}
		}
		for _, a := range append([]int64{-1, -2, -c.Prime, c.Prime, c.Prime + 1}, extremes...) {
			got, code := impl.TwistedSum(c, a)
			wantNoGauss(t, fmt.Sprint("TwistedSum ", c, a), got, code, impl.ErrRange)
		}
	})
}

func TestGaussSumsOfPlainCharacters(t *testing.T) {
	quadratic := impl.Character{Prime: 3, Order: 2, Power: 1}
	got, code := impl.GaussSum(quadratic)
	wantGauss(t, "GaussSum", got, code, gaussOf(2, 1, -1), impl.ErrNone)
	got, code = impl.TwistedSum(quadratic, 2)
	wantGauss(t, "TwistedSum", got, code, gaussOf(2, -1, 1), impl.ErrNone)
	got, code = impl.TwistedSum(quadratic, 0)
	wantGauss(t, "TwistedSum", got, code, gaussOf(2, 0, 0), impl.ErrNone)
	for _, c := range []impl.Character{{Prime: 3, Order: 1}, {Prime: 3, Order: 2}} {
		got, code = impl.GaussSum(c)
		wantGauss(t, "GaussSum", got, code, gaussOf(c.Order, 1, 1), impl.ErrNone)
		got, code = impl.TwistedSum(c, 2)
		wantGauss(t, "TwistedSum", got, code, gaussOf(c.Order, 1, 1), impl.ErrNone)
		got, code = impl.TwistedSum(c, 0)
		wantGauss(t, "TwistedSum", got, code, gaussOf(c.Order, -2, -2), impl.ErrNone)
	}
	// The values at 1, 2, 3, 4 are 1, z, z z z and z z; those at 2 and 3 change their places by 4.
	quartic := impl.Character{Prime: 5, Order: 4, Power: 1}
	want := impl.Gauss{Prime: 5, Order: 4, Rows: [][]int64{{0, 0}, {1, 0}, {0, 1}, {0, -1}, {-1, 0}}}
	got, code = impl.GaussSum(quartic)
	wantGauss(t, "GaussSum", got, code, want, impl.ErrNone)
	want.Rows = [][]int64{{0, 0}, {0, -1}, {1, 0}, {-1, 0}, {0, 1}}
	got, code = impl.TwistedSum(quartic, 2)
	wantGauss(t, "TwistedSum", got, code, want, impl.ErrNone)
}

func TestConstants(t *testing.T) {
	var s sequence
	everyField(func(p int64, n int64) {
		for _, limit := range []int64{0, 1, 1000, top} {
			x := s.cyclo(n, limit)
			x.Parts[0] = limit
			want := constantOf(p, x)
			got, code := impl.ConstantGauss(p, x)
			wantGauss(t, fmt.Sprint("ConstantGauss ", p, x), got, code, want, impl.ErrNone)
			back, code := impl.ConstantOf(want)
			wantCyclo(t, fmt.Sprint("ConstantOf ", want), back, code, x, impl.ErrNone)
			// One number of one Row makes it another one.
			for i := int64(1); i < p; i++ {
				at := &want.Rows[i][i%int64(len(x.Parts))]
				*at -= 1 - 2*(i%2)
				if impl.IsGauss(want) {
					got, code := impl.ConstantOf(want)
					wantError(t, fmt.Sprint("ConstantOf ", want), got, code, impl.ErrNotFound)
				}
				*at += 1 - 2*(i%2)
			}
		}
	})
	for _, p := range append(upToHundred(), extremes...) {
		if leastRoot(p) == 0 {
			got, code := impl.ConstantGauss(p, number(4, 1, 2))
			wantNoGauss(t, fmt.Sprint("ConstantGauss ", p), got, code, impl.ErrRange)
		}
	}
}

func TestConstantsOfPlainNumbers(t *testing.T) {
	got, code := impl.ConstantGauss(3, number(4, 2, -3))
	want := impl.Gauss{Prime: 3, Order: 4, Rows: [][]int64{{0, 0}, {-2, 3}, {-2, 3}}}
	wantGauss(t, "ConstantGauss", got, code, want, impl.ErrNone)
	x, code := impl.ConstantOf(want)
	wantText(t, "ConstantOf", x, code, "4@2:-3")
	x, code = impl.ConstantOf(gaussOf(2, 1, -1))
	wantError(t, "ConstantOf", x, code, impl.ErrNotFound)
	// Only the last two Rows are different, or all halves of one.
	x, code = impl.ConstantOf(gaussOf(1, 5, 5, 5, 6))
	wantError(t, "ConstantOf", x, code, impl.ErrNotFound)
	x, code = impl.ConstantOf(gaussOf(1, 0, 1, 0, 1))
	wantError(t, "ConstantOf", x, code, impl.ErrNotFound)
	x, code = impl.ConstantOf(gaussOf(1, 0, 0, 0, 0))
	wantText(t, "ConstantOf", x, code, "1@0")
	x, code = impl.ConstantOf(gaussOf(1, top, top))
	wantText(t, "ConstantOf", x, code, "1@-1000000000")
	// Gauss sums are constant for the Power 0 alone.
	everyCharacter(func(c impl.Character) {
		sum, _ := impl.GaussSum(c)
		x, code := impl.ConstantOf(sum)
		if c.Power == 0 {
			wantCyclo(t, fmt.Sprint("ConstantOf GaussSum ", c), x, code, number(c.Order, -1), impl.ErrNone)
		} else {
			wantError(t, fmt.Sprint("ConstantOf GaussSum ", c), x, code, impl.ErrNotFound)
		}
	})
}

func TestAddGauss(t *testing.T) {
	var s sequence
	everyField(func(p int64, n int64) {
		limits := []int64{5, top / 1001, top}
		for i, k := range []int64{0, 1, -1, -37, 1000, -1000} {
			x, y := s.gauss(p, n, limits[i%3]), s.gauss(p, n, limits[i/2])
			want, wantCode := wantGaussSum(x, y, k)
			got, code := impl.AddGauss(x, y, k)
			wantGauss(t, fmt.Sprint("AddGauss ", x, y, k), got, code, want, wantCode)
		}
		for _, k := range append([]int64{1001, -1001}, extremes...) {
			got, code := impl.AddGauss(noughtGauss(p, n), noughtGauss(p, n), k)
			wantNoGauss(t, fmt.Sprint("AddGauss ", p, n, k), got, code, impl.ErrRange)
		}
	})
	for _, sign := range []int64{1, -1} {
		got, code := impl.AddGauss(gaussOf(1, 7, sign*(top-1000)), gaussOf(1, 0, 1), sign*1000)
		wantGauss(t, "AddGauss", got, code, gaussOf(1, 7, sign*top), impl.ErrNone)
		got, code = impl.AddGauss(gaussOf(1, 7, sign*(top-999)), gaussOf(1, 0, 1), sign*1000)
		wantNoGauss(t, "AddGauss", got, code, impl.ErrLimit)
		got, code = impl.AddGauss(gaussOf(1, 7, sign*top), gaussOf(1, 0, 1), sign*1001)
		wantNoGauss(t, "AddGauss", got, code, impl.ErrRange)
		got, code = impl.AddGauss(gaussOf(2, 1, -1), gaussOf(2, 1, -1), sign*3)
		wantGauss(t, "AddGauss", got, code, gaussOf(2, 1+sign*3, -1-sign*3), impl.ErrNone)
	}
}

// checkProduct checks the product of x and y in both orders.
func checkProduct(t *testing.T, x impl.Gauss, y impl.Gauss) {
	t.Helper()
	want, wantCode := wantGaussProduct(x, y)
	got, code := impl.MultiplyGauss(x, y)
	wantGauss(t, fmt.Sprint("MultiplyGauss ", x, y), got, code, want, wantCode)
	got, code = impl.MultiplyGauss(y, x)
	wantGauss(t, fmt.Sprint("MultiplyGauss ", y, x), got, code, want, wantCode)
}

// Promise 5: products of Gauss numbers do not depend on the order.
func TestMultiplyGauss(t *testing.T) {
	var s sequence
	everyField(func(p int64, n int64) {
		x := s.gauss(p, n, top)
		got, code := impl.MultiplyGauss(x, noughtGauss(p, n))
		wantGauss(t, fmt.Sprint("MultiplyGauss 0 ", x), got, code, noughtGauss(p, n), impl.ErrNone)
		got, code = impl.MultiplyGauss(constantOf(p, number(n, 1)), x)
		wantGauss(t, fmt.Sprint("MultiplyGauss 1 ", x), got, code, x, impl.ErrNone)
		if p > 13 && (p+n)%8 != 0 {
			return
		}
		for _, limits := range [][2]int64{{1, 1}, {300, 300}, {2000, 20000}, {top, 1}, {top, top}} {
			checkProduct(t, s.gauss(p, n, limits[0]), s.gauss(p, n, limits[1]))
		}
	})
}

// Powers of w multiply to powers of w, and the power 0 is the sum of all others times -1.
func TestMultiplyPowersOfRoots(t *testing.T) {
	for _, p := range []int64{3, 5, 7, 61} {
		power := func(i int64) impl.Gauss {
			if i%p == 0 {
				return constantOf(p, number(6, 1))
			}
			x := noughtGauss(p, 6)
			x.Rows[i%p][0] = 1
			return x
		}
		for i := range p {
			for j := i; j < p; j += 1 + p/7 {
				got, code := impl.MultiplyGauss(power(i), power(j))
				wantGauss(t, fmt.Sprint("w^", i, " w^", j, " for ", p), got, code, power(i+j), impl.ErrNone)
			}
		}
	}
}

func TestMultiplyGaussAtTheLimit(t *testing.T) {
	for _, sign := range []int64{1, -1} {
		// A w w + B w times w is A + B w w: its Rows have -A and B - A.
		w := gaussOf(1, sign, 0)
		got, code := impl.MultiplyGauss(gaussOf(1, top-1, -1), w)
		wantGauss(t, "MultiplyGauss", got, code, gaussOf(1, sign, sign*top), impl.ErrNone)
		got, code = impl.MultiplyGauss(gaussOf(1, top, -1), w)
		wantNoGauss(t, "MultiplyGauss", got, code, impl.ErrLimit)
		got, code = impl.MultiplyGauss(gaussOf(1, 0, top), w)
		wantGauss(t, "MultiplyGauss", got, code, gaussOf(1, -sign*top, -sign*top), impl.ErrNone)
		for _, p := range []int64{3, 61} {
			// 31250 times 32000 is MaxPart, 7 times 142857143 one more. The sums of which the first
			// Row is taken away are far greater for 61.
			got, code = impl.MultiplyGauss(constantOf(p, number(4, 0, 31250)), constantOf(p, number(4, 0, sign*32000)))
			wantGauss(t, "MultiplyGauss", got, code, constantOf(p, number(4, -sign*top)), impl.ErrNone)
			got, code = impl.MultiplyGauss(constantOf(p, number(4, 0, 7)), constantOf(p, number(4, 0, sign*142857143)))
			wantNoGauss(t, "MultiplyGauss", got, code, impl.ErrLimit)
			got, code = impl.MultiplyGauss(constantOf(p, number(2, top)), constantOf(p, number(2, sign*top)))
			wantNoGauss(t, "MultiplyGauss", got, code, impl.ErrLimit)
		}
		// The first Row of the sums alone is too great, or the others alone.
		got, code = impl.MultiplyGauss(gaussOf(1, top, top), gaussOf(1, sign, sign))
		wantGauss(t, "MultiplyGauss", got, code, gaussOf(1, -sign*top, -sign*top), impl.ErrNone)
	}
	// Greatest numbers of one sign and of changing signs: the sums are beyond int64.
	for _, n := range []int64{11, 12, 13, 15, 16} {
		same, other := noughtGauss(61, n), noughtGauss(61, n)
		for i, row := range same.Rows[1:] {
			for j := range row {
				row[j] = top
				other.Rows[i+1][j] = top - 2*top*int64((i+j)%2)
			}
		}
		checkProduct(t, same, same)
		checkProduct(t, same, other)
		checkProduct(t, other, other)
	}
}

// Numbers that are beyond int64 by a multiple of 2^64 are not within the limit.
func TestMultiplyGaussBeyondInt64(t *testing.T) {
	c := impl.Character{Prime: 61, Order: 2, Power: 1}
	sum := wantTwisted(c)[1]
	turn := new(big.Int).Lsh(big.NewInt(1), 64)
	found := 0
	for a := int64(top); a > top-2000 && found < 5; a-- {
		// The product of both is 61 a b, b being so that this is close to twice 2^64.
		whole := new(big.Int).Mul(big.NewInt(61), big.NewInt(a))
		b := new(big.Int).Div(new(big.Int).Lsh(turn, 1), whole)
		whole.Mul(whole, b)
		whole.Mod(whole, turn)
		if new(big.Int).Sub(turn, whole).Cmp(big.NewInt(top)) > 0 {
			continue
		}
		found++
		x, _ := wantScaled(sum, number(2, a))
		y, _ := wantScaled(sum, number(2, b.Int64()))
		got, code := impl.MultiplyGauss(x, y)
		wantNoGauss(t, fmt.Sprint("MultiplyGauss of ", a, " and ", b), got, code, impl.ErrLimit)
	}
	if found == 0 {
		t.Error("there are no such numbers")
	}
}

func TestConjugateGauss(t *testing.T) {
	someGauss(func(x impl.Gauss) {
		want, wantCode := movedGauss(x, x.Prime-1, 2*x.Order-1).told()
		got, code := impl.ConjugateGauss(x)
		wantGauss(t, fmt.Sprint("ConjugateGauss ", x), got, code, want, wantCode)
		if code != impl.ErrNone {
			return
		}
		back, code := impl.ConjugateGauss(got)
		wantGauss(t, fmt.Sprint("ConjugateGauss twice ", x), back, code, x, impl.ErrNone)
	})
	got, code := impl.ConjugateGauss(gaussOf(2, 1, -1))
	wantGauss(t, "ConjugateGauss", got, code, gaussOf(2, -1, 1), impl.ErrNone)
	got, code = impl.ConjugateGauss(gaussOf(1, 1, 2, 3, 4))
	wantGauss(t, "ConjugateGauss", got, code, gaussOf(1, 4, 3, 2, 1), impl.ErrNone)
	// The conjugate of a + b z is a - b - b z for the order 3.
	x := impl.Gauss{Prime: 3, Order: 3, Rows: [][]int64{{0, 0}, {1 - top, 1}, {5, 7}}}
	want := impl.Gauss{Prime: 3, Order: 3, Rows: [][]int64{{0, 0}, {-2, -7}, {-top, -1}}}
	got, code = impl.ConjugateGauss(x)
	wantGauss(t, "ConjugateGauss", got, code, want, impl.ErrNone)
	x.Rows[1][0] = -top
	got, code = impl.ConjugateGauss(x)
	wantNoGauss(t, "ConjugateGauss", got, code, impl.ErrLimit)
}

func TestScaleGauss(t *testing.T) {
	var s sequence
	everyField(func(p int64, n int64) {
		for _, limits := range [][2]int64{{1, 1}, {300, 300}, {2000, 20000}, {top, 1}, {1, top}, {top, top}} {
			x, y := s.gauss(p, n, limits[0]), s.cyclo(n, limits[1])
			want, wantCode := wantScaled(x, y)
			got, code := impl.ScaleGauss(x, y)
			wantGauss(t, fmt.Sprint("ScaleGauss ", x, y), got, code, want, wantCode)
			if p > 13 {
				continue
			}
			constant, _ := impl.ConstantGauss(p, y)
			got, code = impl.MultiplyGauss(x, constant)
			wantGauss(t, fmt.Sprint("MultiplyGauss ", x, constant), got, code, want, wantCode)
		}
		x := s.gauss(p, n, top)
		got, code := impl.ScaleGauss(x, number(n, 1))
		wantGauss(t, fmt.Sprint("ScaleGauss 1 ", x), got, code, x, impl.ErrNone)
		got, code = impl.ScaleGauss(x, number(n))
		wantGauss(t, fmt.Sprint("ScaleGauss 0 ", x), got, code, noughtGauss(p, n), impl.ErrNone)
	})
	for _, sign := range []int64{1, -1} {
		got, code := impl.ScaleGauss(gaussOf(2, 1, -1), number(2, sign*2))
		wantGauss(t, "ScaleGauss", got, code, gaussOf(2, sign*2, -sign*2), impl.ErrNone)
		got, code = impl.ScaleGauss(gaussOf(2, 3, 31250), number(2, sign*32000))
		wantGauss(t, "ScaleGauss", got, code, gaussOf(2, sign*96000, sign*top), impl.ErrNone)
		got, code = impl.ScaleGauss(gaussOf(2, 3, 142857143), number(2, sign*7))
		wantNoGauss(t, "ScaleGauss", got, code, impl.ErrLimit)
	}
}

// Promise 5: absolute squares are p, but 1 for the Power 0.
func TestAbsoluteSquares(t *testing.T) {
	everyCharacter(func(c impl.Character) {
		want := number(c.Order, c.Prime)
		if c.Power == 0 {
			want = number(c.Order, 1)
		}
		got, code := impl.AbsoluteSquare(c)
		wantCyclo(t, fmt.Sprint("AbsoluteSquare ", c), got, code, want, impl.ErrNone)
	})
	x, code := impl.AbsoluteSquare(impl.Character{Prime: 3, Order: 2, Power: 1})
	wantText(t, "AbsoluteSquare", x, code, "2@3")
	x, code = impl.AbsoluteSquare(impl.Character{Prime: 5, Order: 4, Power: 0})
	wantText(t, "AbsoluteSquare", x, code, "4@1:0")
	x, code = impl.AbsoluteSquare(impl.Character{Prime: 61, Order: 1, Power: 0})
	wantText(t, "AbsoluteSquare", x, code, "1@1")
}

func TestPowersOfGauss(t *testing.T) {
	beyond := 0
	everyCharacter(func(c impl.Character) {
		want, wantCode := wantPowerOf(c)
		got, code := impl.PowerOfGauss(c)
		wantCyclo(t, fmt.Sprint("PowerOfGauss ", c), got, code, want, wantCode)
		if code == impl.ErrLimit {
			beyond++
		}
	})
	if beyond != 103 {
		t.Errorf("%d powers are beyond the limit", beyond)
	}
	cases := []struct {
		p, n, k int64
		text    string
	}{
		{3, 1, 0, "1@-1"},
		{61, 1, 0, "1@-1"},
		{3, 2, 0, "2@1"},
		{5, 4, 0, "4@1:0"},
		{61, 15, 0, "15@-1:0:0:0:0:0:0:0"},
		{3, 2, 1, "2@-3"},
		{5, 2, 1, "2@5"},
		{7, 3, 1, "3@-7:-21"},
		{7, 3, 2, "3@14:21"},
		{5, 4, 1, "4@-15:20"},
		{5, 4, 2, "4@25:0"},
		{61, 10, 5, "10@844596301:0:0:0"},
	}
	for _, c := range cases {
		x, code := impl.PowerOfGauss(impl.Character{Prime: c.p, Order: c.n, Power: c.k})
		wantText(t, fmt.Sprint("PowerOfGauss ", c.p, c.n, c.k), x, code, c.text)
	}
	for _, c := range []impl.Character{{Prime: 17, Order: 16, Power: 8}, {Prime: 37, Order: 12, Power: 6}, {Prime: 61, Order: 15, Power: 14}} {
		x, code := impl.PowerOfGauss(c)
		wantError(t, fmt.Sprint("PowerOfGauss ", c), x, code, impl.ErrLimit)
	}
}

func TestMoveRoot(t *testing.T) {
	someGauss(func(x impl.Gauss) {
		for a := int64(1); a < x.Prime; a += 1 + x.Prime/12 {
			want, _ := movedGauss(x, a, 1).told()
			got, code := impl.MoveRoot(x, a)
			wantGauss(t, fmt.Sprint("MoveRoot ", x, a), got, code, want, impl.ErrNone)
		}
		last := x.Prime - 1
		turned, code := impl.MoveRoot(x, last)
		back, backCode := impl.MoveRoot(turned, last)
		wantGauss(t, fmt.Sprint("MoveRoot twice ", x), back, max(code, backCode), x, impl.ErrNone)
		for _, a := range append([]int64{0, -1, -last, x.Prime, x.Prime + 1}, extremes...) {
			got, code := impl.MoveRoot(x, a)
			wantNoGauss(t, fmt.Sprint("MoveRoot ", x, a), got, code, impl.ErrRange)
		}
	})
	got, code := impl.MoveRoot(gaussOf(2, 1, -1), 2)
	wantGauss(t, "MoveRoot", got, code, gaussOf(2, -1, 1), impl.ErrNone)
	got, code = impl.MoveRoot(gaussOf(1, 1, 2, 3, 4), 2)
	wantGauss(t, "MoveRoot", got, code, gaussOf(1, 3, 1, 4, 2), impl.ErrNone)
}

// Promise 15: twisted sums are sums with other roots, and have conjugate values as factors.
func TestPromiseOfTwistedSums(t *testing.T) {
	everyCharacter(func(c impl.Character) {
		sum, _ := impl.GaussSum(c)
		for a := int64(1); a < c.Prime; a++ {
			what := fmt.Sprint("TwistedSum ", c, a)
			twisted, code := impl.TwistedSum(c, a)
			moved, movedCode := impl.MoveRoot(sum, a)
			wantGauss(t, what, twisted, code, moved, movedCode)
			if c.Prime > 31 && a%7 != 3 {
				continue
			}
			value, _ := impl.CharacterAt(c, a)
			conjugate, _ := impl.ConjugateOf(value)
			scaled, scaledCode := impl.ScaleGauss(sum, conjugate)
			wantGauss(t, what, twisted, code, scaled, scaledCode)
		}
		// By 0 it is the sum of the values, as a constant.
		twisted, _ := impl.TwistedSum(c, 0)
		values, valuesCode := impl.SumOfCharacter(c)
		constant, code := impl.ConstantOf(twisted)
		wantCyclo(t, fmt.Sprint("TwistedSum 0 ", c), constant, code, values, valuesCode)
	})
}

// Products with conjugates are real, and those of Gauss sums constant.
func TestProductsWithConjugates(t *testing.T) {
	check := func(x impl.Gauss) impl.Gauss {
		t.Helper()
		conjugate, _ := impl.ConjugateGauss(x)
		product, code := impl.MultiplyGauss(x, conjugate)
		turned, turnedCode := impl.ConjugateGauss(product)
		wantGauss(t, fmt.Sprint("the conjugate of the product of the conjugates ", x), turned, max(code, turnedCode), product, impl.ErrNone)
		return product
	}
	everyCharacter(func(c impl.Character) {
		sum, _ := impl.GaussSum(c)
		square, code := impl.AbsoluteSquare(c)
		got, gotCode := impl.ConstantOf(check(sum))
		wantCyclo(t, fmt.Sprint("the product of conjugates ", c), got, gotCode, square, code)
	})
	var s sequence
	for _, p := range []int64{3, 5, 7, 31} {
		for n := int64(1); n <= impl.MaxOrder; n++ {
			check(s.gauss(p, n, 50))
		}
	}
}

// The product of two Gauss sums is that of the product, times the Jacobi sum; powers follow from it.
func TestProductsOfGaussSums(t *testing.T) {
	everyPair(func(c impl.Character, d impl.Character) {
		if c.Prime > 31 && (c.Power+3*d.Power)%5 != 1 {
			return
		}
		first, _ := impl.GaussSum(c)
		second, _ := impl.GaussSum(d)
		product, code := impl.MultiplyGauss(first, second)
		both, _ := impl.MultiplyCharacters(c, d)
		want, wantCode := impl.GaussSum(both)
		if both.Power != 0 {
			jacobi, _ := impl.JacobiSum(c, d)
			want, wantCode = impl.ScaleGauss(want, jacobi)
		} else {
			// They are inverses: what there is is the value at -1 times the absolute square.
			square, _ := impl.AbsoluteSquare(c)
			value, _ := impl.CharacterAt(c, -1)
			constant, _ := impl.MultiplyCyclos(square, value)
			want, wantCode = impl.ConstantGauss(c.Prime, constant)
		}
		wantGauss(t, fmt.Sprint("MultiplyGauss of the sums of ", c, d), product, code, want, wantCode)
	})
}

// What is no Gauss number, no character or no number comes first.
func TestInvalidGauss(t *testing.T) {
	good := gaussOf(2, top, top)
	for _, bad := range noGausses() {
		what := fmt.Sprint(" of ", bad)
		for _, k := range []int64{-1 << 63, 0, 1, 1001} {
			checkBadSum(t, what, bad, good, k, impl.ErrInvalid)
			checkBadSum(t, what, good, bad, k, impl.ErrInvalid)
			got, code := impl.MoveRoot(bad, k)
			wantNoGauss(t, "MoveRoot"+what, got, code, impl.ErrInvalid)
		}
		checkBadSum(t, what, bad, bad, 1, impl.ErrInvalid)
		got, code := impl.ConjugateGauss(bad)
		wantNoGauss(t, "ConjugateGauss"+what, got, code, impl.ErrInvalid)
		for _, y := range []impl.Cyclo{number(2, 1), number(3, 1), number(1, top), {}} {
			got, code = impl.ScaleGauss(bad, y)
			wantNoGauss(t, "ScaleGauss"+what, got, code, impl.ErrInvalid)
		}
		x, code := impl.ConstantOf(bad)
		wantError(t, "ConstantOf"+what, x, code, impl.ErrInvalid)
	}
	for _, bad := range noNumbers() {
		for _, x := range []impl.Gauss{good, noughtGauss(5, 4)} {
			got, code := impl.ScaleGauss(x, bad)
			wantNoGauss(t, fmt.Sprint("ScaleGauss by ", bad), got, code, impl.ErrInvalid)
		}
		for _, p := range []int64{3, 61, 0, 2, 9, 67, -1 << 63} {
			got, code := impl.ConstantGauss(p, bad)
			wantNoGauss(t, fmt.Sprint("ConstantGauss of ", bad), got, code, impl.ErrInvalid)
		}
	}
	for _, bad := range noCharacters() {
		what := fmt.Sprint(" of ", bad)
		got, code := impl.GaussSum(bad)
		wantNoGauss(t, "GaussSum"+what, got, code, impl.ErrInvalid)
		for _, a := range []int64{-1 << 63, -1, 0, 1, 100} {
			got, code = impl.TwistedSum(bad, a)
			wantNoGauss(t, "TwistedSum"+what, got, code, impl.ErrInvalid)
		}
		x, code := impl.AbsoluteSquare(bad)
		wantError(t, "AbsoluteSquare"+what, x, code, impl.ErrInvalid)
		x, code = impl.PowerOfGauss(bad)
		wantError(t, "PowerOfGauss"+what, x, code, impl.ErrInvalid)
	}
}

// checkBadSum checks that there is neither a sum nor a product.
func checkBadSum(t *testing.T, what string, x impl.Gauss, y impl.Gauss, k int64, wantCode int64) {
	t.Helper()
	got, code := impl.AddGauss(x, y, k)
	wantNoGauss(t, "AddGauss"+what, got, code, wantCode)
	got, code = impl.MultiplyGauss(x, y)
	wantNoGauss(t, "MultiplyGauss"+what, got, code, wantCode)
}

// Other primes or orders come before numbers that would be too great.
func TestOtherPrimesAndOrdersOfGauss(t *testing.T) {
	everyField(func(p int64, n int64) {
		x := constantOf(p, number(n, top))
		for _, q := range []int64{3, 5, 61} {
			for _, m := range []int64{n, n%impl.MaxOrder + 1} {
				if q == p && m == n {
					continue
				}
				y := constantOf(q, number(m, top))
				for _, k := range []int64{0, 1, 1000, 1001} {
					checkBadSum(t, fmt.Sprint(" ", x, y, k), x, y, k, impl.ErrRange)
					checkBadSum(t, fmt.Sprint(" ", y, x, k), y, x, k, impl.ErrRange)
				}
			}
		}
		for m := int64(1); m <= impl.MaxOrder; m++ {
			if m == n {
				continue
			}
			got, code := impl.ScaleGauss(x, number(m, top))
			wantNoGauss(t, fmt.Sprint("ScaleGauss ", x, m), got, code, impl.ErrRange)
			got, code = impl.ScaleGauss(noughtGauss(p, n), number(m))
			wantNoGauss(t, fmt.Sprint("ScaleGauss ", p, n, m), got, code, impl.ErrRange)
		}
	})
	// These orders have as many Parts, and these primes the same orders.
	checkBadSum(t, " of 3 and 6", noughtGauss(7, 3), noughtGauss(7, 6), 1, impl.ErrRange)
	checkBadSum(t, " of 7 and 13", noughtGauss(7, 3), noughtGauss(13, 3), 1, impl.ErrRange)
	checkBadSum(t, " beyond 1000", gaussOf(1, top, top), gaussOf(1, top, top, top, top), 1000, impl.ErrRange)
}

// paddedGauss returns a copy of a Gauss number with marked spare capacity behind its Rows and behind
// their numbers, and a function that reports whether all is as it was.
func paddedGauss(x impl.Gauss) (impl.Gauss, func() bool) {
	all := make([]int64, 0, len(x.Rows)*20)
	rows := make([][]int64, 0, len(x.Rows)+4)
	for _, row := range x.Rows {
		from := len(all)
		all = append(all, row...)
		to := len(all)
		all = append(all, slices.Repeat([]int64{77}, 8)...)
		rows = append(rows, all[from:to])
	}
	all = all[:cap(all)]
	spare := append(rows, []int64{78}, []int64{79})
	before, rowsBefore := slices.Clone(all), make([][]int64, len(spare))
	for i, row := range spare {
		rowsBefore[i] = slices.Clone(row)
	}
	return impl.Gauss{Prime: x.Prime, Order: x.Order, Rows: rows}, func() bool {
		return slices.Equal(all, before) && slices.EqualFunc(spare, rowsBefore, slices.Equal[[]int64])
	}
}

// Results are new memory, no Row of one grows into another one, and arguments and their spare
// capacity stay as they are.
func TestMemoryOfGauss(t *testing.T) {
	c := impl.Character{Prime: 5, Order: 4, Power: 1}
	sum := wantTwisted(c)[1]
	x, isSame := paddedGauss(sum)
	y, isSameConstant := paddedGauss(constantOf(5, number(4, 1)))
	one, all := padded(number(4, 1))
	before := slices.Clone(all)
	calls := map[string]func() (impl.Gauss, int64){
		"GaussSum":         func() (impl.Gauss, int64) { return impl.GaussSum(c) },
		"TwistedSum":       func() (impl.Gauss, int64) { return impl.TwistedSum(c, 1) },
		"ConstantGauss":    func() (impl.Gauss, int64) { return impl.ConstantGauss(5, one) },
		"AddGauss":         func() (impl.Gauss, int64) { return impl.AddGauss(x, y, 0) },
		"AddGauss 0":       func() (impl.Gauss, int64) { return impl.AddGauss(noughtGauss(5, 4), x, 1) },
		"MultiplyGauss":    func() (impl.Gauss, int64) { return impl.MultiplyGauss(x, y) },
		"MultiplyGauss x":  func() (impl.Gauss, int64) { return impl.MultiplyGauss(x, x) },
		"ConjugateGauss":   func() (impl.Gauss, int64) { return impl.ConjugateGauss(x) },
		"ConjugateGauss 1": func() (impl.Gauss, int64) { return impl.ConjugateGauss(y) },
		"ScaleGauss":       func() (impl.Gauss, int64) { return impl.ScaleGauss(x, one) },
		"MoveRoot":         func() (impl.Gauss, int64) { return impl.MoveRoot(x, 1) },
	}
	for what, call := range calls {
		got, code := call()
		again, againCode := call()
		wantGauss(t, what, got, code, again, againCode)
		wantRowsApart(t, what, got.Rows)
		if !isSame() || !isSameConstant() || !slices.Equal(all, before) {
			t.Fatalf("%s: an argument was changed", what)
		}
		third, thirdCode := call()
		wantGauss(t, what+" again", third, thirdCode, again, againCode)
	}
	for what, call := range map[string]func() (impl.Cyclo, int64){
		"ConstantOf":     func() (impl.Cyclo, int64) { return impl.ConstantOf(y) },
		"AbsoluteSquare": func() (impl.Cyclo, int64) { return impl.AbsoluteSquare(c) },
		"PowerOfGauss":   func() (impl.Cyclo, int64) { return impl.PowerOfGauss(c) },
	} {
		got, code := call()
		want := impl.Cyclo{Order: got.Order, Parts: slices.Clone(got.Parts)}
		fillRow(got.Parts[:cap(got.Parts)], 99)
		again, againCode := call()
		wantCyclo(t, what+" again", again, againCode, want, code)
		if !isSame() || !isSameConstant() {
			t.Fatalf("%s: an argument was changed", what)
		}
	}
	impl.IsGauss(x)
	if !isSame() {
		t.Error("IsGauss: an argument was changed")
	}
}

// wantRowsApart fills rows and their spare capacity, from the first one on and from the last one on,
// and checks that none is reached from another one.
func wantRowsApart(t *testing.T, what string, rows [][]int64) {
	t.Helper()
	for range 2 {
		for i, row := range rows {
			fillRow(row[:cap(row)], int64(100+i))
		}
		for i, row := range rows {
			if !slices.Equal(row, slices.Repeat([]int64{int64(100 + i)}, len(row))) {
				t.Errorf("%s: the row %d shares memory with another one: %v", what, i, row)
			}
		}
		slices.Reverse(rows)
	}
}

func fillRow(row []int64, number int64) {
	for i := range row {
		row[i] = number
	}
}
