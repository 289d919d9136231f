package tests

import (
	"fmt"
	"slices"
	"testing"

	"loop.example/g01313/impl"
)

func TestTotients(t *testing.T) {
	phi := map[int64]int64{}
	for n := int64(1); n <= 1000; n++ {
		// The totients of the divisors of n, n among them, add up to n.
		rest := n
		for d := int64(1); d < n; d++ {
			if n%d == 0 {
				rest -= phi[d]
			}
		}
		phi[n] = rest
		if got, code := impl.TotientOf(n); got != rest || code != impl.ErrNone {
			t.Errorf("TotientOf(%d) = %d, %d; want %d", n, got, code, rest)
		}
	}
	for _, n := range append([]int64{0, -1, -5, 1001, 1002}, extremes...) {
		if got, code := impl.TotientOf(n); got != 0 || code != impl.ErrRange {
			t.Errorf("TotientOf(%d) = %d, %d", n, got, code)
		}
	}
}

func TestCyclotomicPolynomials(t *testing.T) {
	for n := int64(1); n < int64(len(phis)); n++ {
		if f, code := impl.CyclotomicPolynomial(n); !slices.Equal(f, phis[n]) || code != impl.ErrNone {
			t.Errorf("CyclotomicPolynomial(%d) = %v, %d", n, f, code)
		}
	}
	for _, n := range append([]int64{0, -1, -6, 61, 62}, extremes...) {
		if f, code := impl.CyclotomicPolynomial(n); len(f) != 0 || code != impl.ErrRange {
			t.Errorf("CyclotomicPolynomial(%d) = %v, %d", n, f, code)
		}
	}
}

// The polynomials of all divisors of n multiply to x^n - 1, which tells each of them.
func TestCyclotomicPolynomialsMultiply(t *testing.T) {
	for n := int64(1); n <= 60; n++ {
		product := []int64{1}
		for d := int64(1); d <= n; d++ {
			if n%d != 0 {
				continue
			}
			f, code := impl.CyclotomicPolynomial(d)
			degree, _ := impl.TotientOf(d)
			if code != impl.ErrNone || int64(len(f)) != degree+1 || f[degree] != 1 {
				t.Fatalf("CyclotomicPolynomial(%d) = %v, %d", d, f, code)
			}
			next := make([]int64, len(product)+len(f)-1)
			for i, a := range product {
				for j, b := range f {
					next[i+j] += a * b
				}
			}
			product = next
		}
		want := make([]int64, n+1)
		want[0], want[n] = -1, 1
		if !slices.Equal(product, want) {
			t.Errorf("the polynomials of the divisors of %d multiply to %v", n, product)
		}
	}
}

func TestIsCyclo(t *testing.T) {
	for n := int64(1); n <= impl.MaxOrder; n++ {
		for i := 0; i < len(phis[n])-1; i++ {
			for part, want := range map[int64]bool{0: true, impl.MaxPart: true, -impl.MaxPart: true,
				impl.MaxPart + 1: false, -impl.MaxPart - 1: false, -1 << 63: false, 1<<63 - 1: false} {
				x := number(n)
				x.Parts[i] = part
				if impl.IsCyclo(x) != want {
					t.Errorf("IsCyclo(%v) is %v", x, !want)
				}
			}
		}
	}
	for _, x := range noNumbers() {
		if impl.IsCyclo(x) {
			t.Errorf("IsCyclo(%v) is true", x)
		}
	}
}

func TestCycloOf(t *testing.T) {
	var s sequence
	for n := int64(1); n <= impl.MaxOrder; n++ {
		for length := 0; length <= int(n); length++ {
			for _, limit := range []int64{1, 1000, impl.MaxPart / 3, impl.MaxPart} {
				list := s.list(length, limit)
				x, code := impl.CycloOf(n, list)
				want, wantCode := wantOfList(n, list)
				wantCyclo(t, fmt.Sprint("CycloOf ", n, list), x, code, want, wantCode)
			}
		}
		x, code := impl.CycloOf(n, nil)
		wantCyclo(t, fmt.Sprint("CycloOf nil ", n), x, code, number(n), impl.ErrNone)
		x, code = impl.CycloOf(n, make([]int64, n+1))
		wantError(t, fmt.Sprint("CycloOf over-long ", n), x, code, impl.ErrRange)
		for _, bad := range []int64{impl.MaxPart + 1, -impl.MaxPart - 1, -1 << 63, 1<<63 - 1} {
			list := make([]int64, n)
			list[n-1] = bad
			x, code = impl.CycloOf(n, list)
			wantError(t, fmt.Sprint("CycloOf ", n, list), x, code, impl.ErrRange)
		}
	}
	for _, n := range append([]int64{0, -1, 17, 18, 32}, extremes...) {
		for _, list := range [][]int64{nil, {1}, {impl.MaxPart + 1}} {
			x, code := impl.CycloOf(n, list)
			wantError(t, fmt.Sprint("CycloOf ", n, list), x, code, impl.ErrRange)
		}
	}
}

func TestCycloOfLimits(t *testing.T) {
	const top = impl.MaxPart
	x, code := impl.CycloOf(1, []int64{top})
	wantText(t, "CycloOf 1", x, code, "1@1000000000")
	x, code = impl.CycloOf(2, []int64{-top + 7, 7})
	wantText(t, "CycloOf 2", x, code, "2@-1000000000")
	x, code = impl.CycloOf(2, []int64{-top + 7, 8})
	wantError(t, "CycloOf 2", x, code, impl.ErrLimit)
	x, code = impl.CycloOf(5, []int64{top - 1, 0, 0, 0, -1})
	wantText(t, "CycloOf 5", x, code, "5@1000000000:1:1:1")
	x, code = impl.CycloOf(5, []int64{top, 0, 0, 0, -1})
	wantError(t, "CycloOf 5", x, code, impl.ErrLimit)
	x, code = impl.CycloOf(5, []int64{1 - top, 0, 0, 0, 1})
	wantText(t, "CycloOf 5", x, code, "5@-1000000000:-1:-1:-1")
	x, code = impl.CycloOf(5, []int64{-top, 0, 0, 0, 1})
	wantError(t, "CycloOf 5", x, code, impl.ErrLimit)
	// A number that is too great comes before a Part that would be.
	x, code = impl.CycloOf(5, []int64{top + 1, 0, 0, 0, top})
	wantError(t, "CycloOf 5", x, code, impl.ErrRange)
}

func TestPowerOfZ(t *testing.T) {
	for n := int64(1); n <= impl.MaxOrder; n++ {
		for k := int64(-1000); k <= 1000; k++ {
			p := newPowers(n)
			p.add(int(k+1000*n), 1, 1)
			want, _ := p.told()
			x, code := impl.PowerOfZ(n, k)
			wantCyclo(t, fmt.Sprint("PowerOfZ ", n, k), x, code, want, impl.ErrNone)
		}
		for _, k := range append([]int64{-1001, 1001}, extremes...) {
			x, code := impl.PowerOfZ(n, k)
			wantError(t, fmt.Sprint("PowerOfZ ", n, k), x, code, impl.ErrRange)
		}
	}
	for _, n := range append([]int64{0, -1, 17, 18}, extremes...) {
		x, code := impl.PowerOfZ(n, 0)
		wantError(t, fmt.Sprint("PowerOfZ ", n), x, code, impl.ErrRange)
	}
}

func TestAddCyclos(t *testing.T) {
	var s sequence
	for n := int64(1); n <= impl.MaxOrder; n++ {
		for _, k := range []int64{0, 1, -1, 2, -37, 999, 1000, -1000} {
			for _, limit := range []int64{0, 5, 100000, impl.MaxPart / 1001, impl.MaxPart} {
				x, y := s.cyclo(n, limit), s.cyclo(n, limit)
				want, wantCode := wantSum(x, y, k)
				got, code := impl.AddCyclos(x, y, k)
				wantCyclo(t, fmt.Sprint("AddCyclos ", x, y, k), got, code, want, wantCode)
			}
		}
		for _, k := range append([]int64{1001, -1001}, extremes...) {
			x, code := impl.AddCyclos(number(n), number(n), k)
			wantError(t, fmt.Sprint("AddCyclos ", n, k), x, code, impl.ErrRange)
		}
	}
	x, code := impl.AddCyclos(number(3, 0, impl.MaxPart-1000), number(3, 0, 1), 1000)
	wantText(t, "AddCyclos", x, code, "3@0:1000000000")
	x, code = impl.AddCyclos(number(3, 0, impl.MaxPart-999), number(3, 0, 1), 1000)
	wantError(t, "AddCyclos", x, code, impl.ErrLimit)
	x, code = impl.AddCyclos(number(3, 1000-impl.MaxPart), number(3, 1), -1000)
	wantText(t, "AddCyclos", x, code, "3@-1000000000:0")
	x, code = impl.AddCyclos(number(3, 999-impl.MaxPart), number(3, 1), -1000)
	wantError(t, "AddCyclos", x, code, impl.ErrLimit)
}

func TestMultiplyCyclos(t *testing.T) {
	var s sequence
	limits := []int64{1, 9, 3000, 9000, 31000, 40000, 1 << 20, impl.MaxPart}
	for n := int64(1); n <= impl.MaxOrder; n++ {
		for round := 0; round < 20; round++ {
			for _, limit := range limits {
				x, y := s.cyclo(n, limit), s.cyclo(n, limits[round%len(limits)])
				want, wantCode := wantProduct(x, y)
				got, code := impl.MultiplyCyclos(x, y)
				wantCyclo(t, fmt.Sprint("MultiplyCyclos ", x, y), got, code, want, wantCode)
				got, code = impl.MultiplyCyclos(y, x)
				wantCyclo(t, fmt.Sprint("MultiplyCyclos ", y, x), got, code, want, wantCode)
			}
		}
		x := s.cyclo(n, impl.MaxPart)
		got, code := impl.MultiplyCyclos(x, number(n))
		wantCyclo(t, fmt.Sprint("MultiplyCyclos 0 ", n), got, code, number(n), impl.ErrNone)
		got, code = impl.MultiplyCyclos(number(n, 1), x)
		wantCyclo(t, fmt.Sprint("MultiplyCyclos 1 ", n), got, code, x, impl.ErrNone)
	}
}

func TestMultiplyCyclosLimits(t *testing.T) {
	const top = impl.MaxPart
	for _, sign := range []int64{1, -1} {
		x, code := impl.MultiplyCyclos(number(4, 0, 31250), number(4, 0, sign*32000))
		wantCyclo(t, "MultiplyCyclos 4", x, code, number(4, -sign*top), impl.ErrNone)
		x, code = impl.MultiplyCyclos(number(3, 1, top-1), number(3, 0, sign))
		wantCyclo(t, "MultiplyCyclos 3", x, code, number(3, -sign*(top-1), -sign*(top-2)), impl.ErrNone)
		x, code = impl.MultiplyCyclos(number(3, -1, top), number(3, 0, sign))
		wantError(t, "MultiplyCyclos 3", x, code, impl.ErrLimit)
		x, code = impl.MultiplyCyclos(number(1, 90909091), number(1, sign*11))
		wantError(t, "MultiplyCyclos 1", x, code, impl.ErrLimit)
		x, code = impl.MultiplyCyclos(number(2, top), number(2, sign*top))
		wantError(t, "MultiplyCyclos 2", x, code, impl.ErrLimit)
	}
	// Greatest Parts of changing signs: the sums of products are beyond int64.
	for _, n := range []int64{11, 13} {
		x := number(n)
		for i := range x.Parts {
			x.Parts[i] = top - 2*top*int64(i%2)
		}
		got, code := impl.MultiplyCyclos(x, x)
		wantError(t, fmt.Sprint("MultiplyCyclos ", n), got, code, impl.ErrLimit)
	}
	// Sums of products that are far greater than MaxPart, in a product that is a number.
	x := number(13, 1-top, -top, -top, -top, -top, -top, -top, -top, -top, -top, -top, -top)
	y := number(13, -1, -1, -1, -1, -1, -1, -1, -1, -1, -1, -1, -1)
	got, code := impl.MultiplyCyclos(x, y)
	wantText(t, "MultiplyCyclos 13", got, code, "13@-1:-1:-1:-1:-1:-1:-1:-1:-1:-1:-1:999999999")
}

func TestPowerCyclo(t *testing.T) {
	var s sequence
	for n := int64(1); n <= impl.MaxOrder; n++ {
		for _, limit := range []int64{0, 1, 3, 40, impl.MaxPart} {
			x := s.cyclo(n, limit)
			want, wantCode := number(n, 1), int64(impl.ErrNone)
			for k := int64(0); k <= 64; k++ {
				got, code := impl.PowerCyclo(x, k)
				wantCyclo(t, fmt.Sprint("PowerCyclo ", x, k), got, code, want, wantCode)
				if wantCode == impl.ErrNone {
					want, wantCode = wantProduct(want, x)
				}
			}
		}
		for _, k := range append([]int64{-1, 65, 66}, extremes...) {
			x, code := impl.PowerCyclo(number(n, 1), k)
			wantError(t, fmt.Sprint("PowerCyclo ", n, k), x, code, impl.ErrRange)
		}
	}
	x, code := impl.PowerCyclo(number(1, -10), 9)
	wantText(t, "PowerCyclo", x, code, "1@-1000000000")
	x, code = impl.PowerCyclo(number(1, -10), 10)
	wantError(t, "PowerCyclo", x, code, impl.ErrLimit)
	x, code = impl.PowerCyclo(number(2, -1), 64)
	wantText(t, "PowerCyclo", x, code, "2@1")
}

// The 60th power of this number has Parts that are too great, but the 61st one would have none.
func TestPowerCycloOnTheWay(t *testing.T) {
	x := number(7, 1, 0, 1, 1, 1, 0)
	below, code := impl.PowerCyclo(x, 59)
	if code != impl.ErrNone {
		t.Fatalf("PowerCyclo 59: %d", code)
	}
	square, _ := impl.MultiplyCyclos(x, x)
	got, code := impl.MultiplyCyclos(below, square)
	wantText(t, "the 61st power", got, code, "7@652455451:652455451:-493856550:652455451:-493856550:-493856550")
	for k := int64(60); k <= 64; k++ {
		got, code := impl.PowerCyclo(x, k)
		wantError(t, fmt.Sprint("PowerCyclo ", k), got, code, impl.ErrLimit)
	}
}

// unitsOf returns the numbers in 1..n without a common divisor with n greater than 1.
func unitsOf(n int64) []int64 {
	var list []int64
	for a := int64(1); a <= n; a++ {
		alone := true
		for d := int64(2); d <= a; d++ {
			alone = alone && (a%d != 0 || n%d != 0)
		}
		if alone {
			list = append(list, a)
		}
	}
	return list
}

func TestGaloisImage(t *testing.T) {
	var s sequence
	for n := int64(1); n <= impl.MaxOrder; n++ {
		units := unitsOf(n)
		for a := int64(-2); a <= n+2; a++ {
			for _, limit := range []int64{0, 9, impl.MaxPart / 3, impl.MaxPart} {
				x := s.cyclo(n, limit)
				got, code := impl.GaloisImage(x, a)
				what := fmt.Sprint("GaloisImage ", x, a)
				if slices.Contains(units, a) {
					want, wantCode := wantMoved(x, n, a)
					wantCyclo(t, what, got, code, want, wantCode)
				} else {
					wantError(t, what, got, code, impl.ErrRange)
				}
			}
		}
		for _, a := range extremes {
			x, code := impl.GaloisImage(number(n, 1), a)
			wantError(t, fmt.Sprint("GaloisImage ", n, a), x, code, impl.ErrRange)
		}
	}
	x, code := impl.GaloisImage(number(3, 1-impl.MaxPart, 1), 2)
	wantText(t, "GaloisImage", x, code, "3@-1000000000:-1")
	x, code = impl.GaloisImage(number(3, -impl.MaxPart, 1), 2)
	wantError(t, "GaloisImage", x, code, impl.ErrLimit)
}

// Promise 1 and the guarantee of chapter 1 for images: those of products and sums are products and
// sums, and one by a and one by b make one by a b.
func TestGaloisImagesOfProducts(t *testing.T) {
	var s sequence
	image := func(x impl.Cyclo, a int64) impl.Cyclo {
		y, code := impl.GaloisImage(x, a)
		if code != impl.ErrNone {
			t.Fatalf("GaloisImage(%v, %d): %d", x, a, code)
		}
		return y
	}
	for n := int64(1); n <= impl.MaxOrder; n++ {
		for _, a := range unitsOf(n) {
			x, y := s.cyclo(n, 2000), s.cyclo(n, 2000)
			product, _ := impl.MultiplyCyclos(x, y)
			left, code := impl.MultiplyCyclos(image(x, a), image(y, a))
			wantCyclo(t, fmt.Sprint("product of images ", x, y, a), left, code, image(product, a), impl.ErrNone)
			sum, _ := impl.AddCyclos(x, y, -3)
			left, code = impl.AddCyclos(image(x, a), image(y, a), -3)
			wantCyclo(t, fmt.Sprint("sum of images ", x, y, a), left, code, image(sum, a), impl.ErrNone)
			for _, b := range unitsOf(n) {
				c := (a*b-1)%n + 1
				if n > 1 && !sameCyclo(image(image(x, a), b), image(x, c)) {
					t.Errorf("images of %v by %d and %d are not that by %d", x, a, b, c)
				}
			}
		}
	}
}

func TestConjugateOf(t *testing.T) {
	var s sequence
	for n := int64(1); n <= impl.MaxOrder; n++ {
		for _, limit := range []int64{0, 9, impl.MaxPart / 3, impl.MaxPart} {
			x := s.cyclo(n, limit)
			want, wantCode := wantMoved(x, n, 2*n-1)
			got, code := impl.ConjugateOf(x)
			wantCyclo(t, fmt.Sprint("ConjugateOf ", x), got, code, want, wantCode)
			if code == impl.ErrNone {
				again, code := impl.ConjugateOf(got)
				wantCyclo(t, fmt.Sprint("ConjugateOf twice ", x), again, code, x, impl.ErrNone)
			}
			if n <= 2 && !sameCyclo(got, x) {
				t.Errorf("ConjugateOf(%v) = %v", x, got)
			}
		}
	}
	x, code := impl.ConjugateOf(number(6, impl.MaxPart-1, 1))
	wantText(t, "ConjugateOf", x, code, "6@1000000000:-1")
	x, code = impl.ConjugateOf(number(6, impl.MaxPart, 1))
	wantError(t, "ConjugateOf", x, code, impl.ErrLimit)
}

func TestIsReal(t *testing.T) {
	var s sequence
	check := func(x impl.Cyclo, want bool) {
		t.Helper()
		if yes, code := impl.IsReal(x); yes != want || code != impl.ErrNone {
			t.Errorf("IsReal(%v) = %v, %d", x, yes, code)
		}
	}
	for n := int64(1); n <= impl.MaxOrder; n++ {
		check(number(n), true)
		check(number(n, -impl.MaxPart), true)
		for _, limit := range []int64{9, impl.MaxPart / 100} {
			x := s.cyclo(n, limit)
			y, code := impl.ConjugateOf(x)
			if code != impl.ErrNone {
				t.Fatalf("ConjugateOf(%v): %d", x, code)
			}
			sum, _ := impl.AddCyclos(x, y, 1)
			check(sum, true)
			difference, _ := impl.AddCyclos(x, y, -1)
			check(difference, n <= 2)
		}
		z, _ := impl.PowerOfZ(n, 1)
		check(z, n <= 2)
	}
	// The conjugates of these have Parts that are too great, which is no error here.
	check(number(3, impl.MaxPart, -impl.MaxPart), false)
	check(number(5, impl.MaxPart, -impl.MaxPart, impl.MaxPart, impl.MaxPart), false)
}

func TestLiftCyclo(t *testing.T) {
	var s sequence
	for m := int64(1); m <= impl.MaxOrder; m++ {
		for n := int64(-32); n <= 48; n++ {
			for _, limit := range []int64{0, 9, impl.MaxPart} {
				x := s.cyclo(m, limit)
				got, code := impl.LiftCyclo(x, n)
				what := fmt.Sprint("LiftCyclo ", x, n)
				if n < 1 || n > impl.MaxOrder || n%m != 0 {
					wantError(t, what, got, code, impl.ErrRange)
					continue
				}
				want, wantCode := wantMoved(x, n, n/m)
				wantCyclo(t, what, got, code, want, wantCode)
			}
		}
		for _, n := range extremes {
			x, code := impl.LiftCyclo(number(m, 1), n)
			wantError(t, fmt.Sprint("LiftCyclo ", m, n), x, code, impl.ErrRange)
		}
	}
	// With z of the order 10, z^4 is -1 + z - z z + z z z, and z^6 is -z.
	x, code := impl.LiftCyclo(number(5, 0, 0, impl.MaxPart-1, -1), 10)
	wantText(t, "LiftCyclo", x, code, "10@-999999999:1000000000:-999999999:999999999")
	x, code = impl.LiftCyclo(number(5, 0, 0, impl.MaxPart, -1), 10)
	wantError(t, "LiftCyclo", x, code, impl.ErrLimit)
	x, code = impl.LiftCyclo(number(5, 0, 0, 1-impl.MaxPart, 1), 10)
	wantText(t, "LiftCyclo", x, code, "10@999999999:-1000000000:999999999:-999999999")
	x, code = impl.LiftCyclo(number(5, 0, 0, -impl.MaxPart, 1), 10)
	wantError(t, "LiftCyclo", x, code, impl.ErrLimit)
}

func TestIsInField(t *testing.T) {
	var s sequence
	for n := int64(1); n <= impl.MaxOrder; n++ {
		for m := int64(-2); m <= n+2; m++ {
			if m < 1 || n%m != 0 {
				if yes, code := impl.IsInField(number(n), m); yes || code != impl.ErrRange {
					t.Errorf("IsInField(0 of %d, %d) = %v, %d", n, m, yes, code)
				}
				continue
			}
			x, code := impl.LiftCyclo(s.cyclo(m, 1000), n)
			if code != impl.ErrNone {
				t.Fatalf("LiftCyclo: %d", code)
			}
			list := []impl.Cyclo{number(n), number(n, impl.MaxPart), x, s.cyclo(n, 1), s.cyclo(n, impl.MaxPart)}
			for k := int64(0); k < n; k++ {
				z, _ := impl.PowerOfZ(n, k)
				list = append(list, z)
			}
			for _, y := range list {
				want := true
				for _, a := range unitsOf(n) {
					image, code := wantMoved(y, n, a)
					want = want && ((a-1)%m != 0 || code == impl.ErrNone && sameCyclo(image, y))
				}
				if yes, code := impl.IsInField(y, m); yes != want || code != impl.ErrNone {
					t.Errorf("IsInField(%v, %d) = %v, %d", y, m, yes, code)
				}
			}
			if yes, _ := impl.IsInField(x, m); !yes {
				t.Errorf("IsInField(%v, %d) is false for a lifted number", x, m)
			}
		}
		for _, m := range extremes {
			if yes, code := impl.IsInField(number(n), m); yes || code != impl.ErrRange {
				t.Errorf("IsInField(0 of %d, %d) = %v, %d", n, m, yes, code)
			}
		}
	}
}

func TestTexts(t *testing.T) {
	var s sequence
	for n := int64(1); n <= impl.MaxOrder; n++ {
		for _, limit := range []int64{0, 1, 12, 99999, impl.MaxPart} {
			x := s.cyclo(n, limit)
			x.Parts[0] = -limit
			text, code := impl.CycloText(x)
			if text != spell(x) || code != impl.ErrNone {
				t.Errorf("CycloText(%v) = %q, %d", x, text, code)
			}
			back, code := impl.ParseCyclo(text)
			wantCyclo(t, fmt.Sprintf("ParseCyclo(%q)", text), back, code, x, impl.ErrNone)
		}
	}
	for _, x := range noNumbers() {
		if text, code := impl.CycloText(x); text != "" || code != impl.ErrInvalid {
			t.Errorf("CycloText(%v) = %q, %d", x, text, code)
		}
		got, code := impl.ParseCyclo(spell(x))
		wantError(t, fmt.Sprintf("ParseCyclo(%q)", spell(x)), got, code, impl.ErrSyntax)
	}
}

func TestParseCycloRefuses(t *testing.T) {
	bad := []string{
		"", "@", ":", "1", "1@", "@1", "1:1", "1@1@", "1@@1", "@1@1", "1@1@1", "1@1:", "1@:1", "3@1::2", "3@:1:2", "3@1:2:",
		"01@1", "+1@1", "-1@1", "0@1", "0@", "17@1", "1_0@1:1:1:1", "0x1@1", "1.0@1", "1e0@1",
		"1@01", "1@00", "1@-0", "1@+0", "1@+1", "1@-01", "1@--1", "1@-", "1@1-", "1@1_0", "1@0x1", "1@1.0", "1@1e3",
		" 1@1", "1 @1", "1@ 1", "1@1 ", "3@1: 2", "3@1 2", "3@1,2", "1@1\n", "1@1\x00", "1@\x001", "1@a", "a@1", "1@\xff", "1@\uff11",
		"1@1000000001", "1@-1000000001", "1@9223372036854775807", "1@9223372036854775808", "1@-9223372036854775808",
		"1@18446744073709551617", "18446744073709551617@1", "9223372036854775807@1",
		"5@1:2:3", "5@1:2:3:4:5", "2@1:1", "5@1:2:3:04", "5@1:2:3:-0", "005@1:2:3:4",
	}
	for _, text := range bad {
		x, code := impl.ParseCyclo(text)
		wantError(t, fmt.Sprintf("ParseCyclo(%q)", text), x, code, impl.ErrSyntax)
	}
	for _, text := range []string{"1@0", "2@-1", "1@1000000000", "1@-1000000000", "4@0:10", "16@0:0:0:0:0:0:0:-7"} {
		x, code := impl.ParseCyclo(text)
		wantText(t, fmt.Sprintf("ParseCyclo(%q)", text), x, code, text)
	}
}

// What is no number comes first, then orders and numbers out of their ranges, then Parts that
// would be too great.
func TestOrderOfErrors(t *testing.T) {
	good, other := number(4, impl.MaxPart, impl.MaxPart), number(3, impl.MaxPart, impl.MaxPart)
	type result struct {
		what string
		x    impl.Cyclo
		code int64
	}
	for _, bad := range noNumbers() {
		var list []result
		note := func(what string) func(impl.Cyclo, int64) {
			return func(x impl.Cyclo, code int64) { list = append(list, result{what, x, code}) }
		}
		for _, k := range []int64{1, 1 << 40} {
			note("AddCyclos")(impl.AddCyclos(bad, good, k))
			note("AddCyclos")(impl.AddCyclos(good, bad, k))
			note("PowerCyclo")(impl.PowerCyclo(bad, k))
			note("GaloisImage")(impl.GaloisImage(bad, k))
			note("LiftCyclo")(impl.LiftCyclo(bad, k))
		}
		note("MultiplyCyclos")(impl.MultiplyCyclos(bad, good))
		note("MultiplyCyclos")(impl.MultiplyCyclos(good, bad))
		note("ConjugateOf")(impl.ConjugateOf(bad))
		for _, r := range list {
			wantError(t, fmt.Sprint(r.what, " of ", bad), r.x, r.code, impl.ErrInvalid)
		}
		if yes, code := impl.IsReal(bad); yes || code != impl.ErrInvalid {
			t.Errorf("IsReal(%v) = %v, %d", bad, yes, code)
		}
		for _, m := range []int64{0, 1} {
			if yes, code := impl.IsInField(bad, m); yes || code != impl.ErrInvalid {
				t.Errorf("IsInField(%v, %d) = %v, %d", bad, m, yes, code)
			}
		}
	}
	x, code := impl.AddCyclos(good, other, 1000)
	wantError(t, "AddCyclos", x, code, impl.ErrRange)
	x, code = impl.AddCyclos(good, good, 1001)
	wantError(t, "AddCyclos", x, code, impl.ErrRange)
	x, code = impl.AddCyclos(good, good, 1000)
	wantError(t, "AddCyclos", x, code, impl.ErrLimit)
	x, code = impl.MultiplyCyclos(number(5, 1), number(10, 1))
	wantError(t, "MultiplyCyclos", x, code, impl.ErrRange)
	x, code = impl.MultiplyCyclos(good, other)
	wantError(t, "MultiplyCyclos", x, code, impl.ErrRange)
	x, code = impl.PowerCyclo(good, 65)
	wantError(t, "PowerCyclo", x, code, impl.ErrRange)
	x, code = impl.PowerCyclo(good, 64)
	wantError(t, "PowerCyclo", x, code, impl.ErrLimit)
	x, code = impl.GaloisImage(number(9, 0, 0, 0, impl.MaxPart, 0, 0), 3)
	wantError(t, "GaloisImage", x, code, impl.ErrRange)
	x, code = impl.LiftCyclo(number(5, 0, 0, impl.MaxPart, -impl.MaxPart), 16)
	wantError(t, "LiftCyclo", x, code, impl.ErrRange)
}

// padded returns a copy of a number with marked spare capacity behind its Parts.
func padded(x impl.Cyclo) (impl.Cyclo, []int64) {
	all := make([]int64, len(x.Parts)+16)
	for i := range all {
		all[i] = 77
	}
	copy(all, x.Parts)
	return impl.Cyclo{Order: x.Order, Parts: all[:len(x.Parts)]}, all
}

// Results are new memory, and arguments and their spare capacity stay as they are.
func TestMemoryOfCyclos(t *testing.T) {
	want := number(12, 3, -1, 4, 1)
	x, all := padded(want)
	before := slices.Clone(all)
	one := number(12, 1)
	calls := map[string]func() (impl.Cyclo, int64){
		"CycloOf":        func() (impl.Cyclo, int64) { return impl.CycloOf(12, x.Parts) },
		"AddCyclos":      func() (impl.Cyclo, int64) { return impl.AddCyclos(x, x, 0) },
		"AddCyclos 0":    func() (impl.Cyclo, int64) { return impl.AddCyclos(number(12), x, 1) },
		"MultiplyCyclos": func() (impl.Cyclo, int64) { return impl.MultiplyCyclos(x, one) },
		"PowerCyclo":     func() (impl.Cyclo, int64) { return impl.PowerCyclo(x, 1) },
		"GaloisImage":    func() (impl.Cyclo, int64) { return impl.GaloisImage(x, 1) },
		"LiftCyclo":      func() (impl.Cyclo, int64) { return impl.LiftCyclo(x, 12) },
	}
	for what, call := range calls {
		got, code := call()
		wantCyclo(t, what, got, code, want, impl.ErrNone)
		full := got.Parts[:cap(got.Parts)]
		for i := range full {
			full[i] = 99
		}
		if !slices.Equal(all, before) {
			t.Fatalf("%s: the result shares memory with the argument", what)
		}
		again, code := call()
		wantCyclo(t, what+" again", again, code, want, impl.ErrNone)
	}
	impl.ConjugateOf(x)
	impl.IsReal(x)
	impl.IsInField(x, 3)
	impl.CycloText(x)
	impl.MultiplyCyclos(x, x)
	if !slices.Equal(all, before) {
		t.Errorf("an argument was changed: %v", all)
	}
	f, _ := impl.CyclotomicPolynomial(12)
	clear(f)
	if f, _ := impl.CyclotomicPolynomial(12); !slices.Equal(f, phis[12]) {
		t.Errorf("CyclotomicPolynomial(12) = %v the second time", f)
	}
}
