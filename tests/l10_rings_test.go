package tests

import (
	"fmt"
	"math/big"
	"slices"
	"testing"

	"loop.example/g01313/impl"
)

func TestLimitsOfRings(t *testing.T) {
	if impl.MaxModulus != 40 || impl.MaxBernoulli != 20 {
		t.Errorf("the limits are %d and %d", impl.MaxModulus, impl.MaxBernoulli)
	}
}

func TestResiduesOf(t *testing.T) {
	everyModulus(func(n int64) {
		got, code := impl.ResiduesOf(n)
		wantNumbers(t, fmt.Sprint("ResiduesOf ", n), got, code, unitsOf(n), impl.ErrNone)
	})
	for _, c := range []struct {
		n    int64
		list []int64
	}{
		{2, []int64{1}}, {3, []int64{1, 2}}, {4, []int64{1, 3}}, {5, []int64{1, 2, 3, 4}}, {6, []int64{1, 5}}, {8, []int64{1, 3, 5, 7}},
		{9, []int64{1, 2, 4, 5, 7, 8}}, {12, []int64{1, 5, 7, 11}}, {30, []int64{1, 7, 11, 13, 17, 19, 23, 29}},
		{40, []int64{1, 3, 7, 9, 11, 13, 17, 19, 21, 23, 27, 29, 31, 33, 37, 39}},
	} {
		got, code := impl.ResiduesOf(c.n)
		wantNumbers(t, fmt.Sprint("ResiduesOf ", c.n), got, code, c.list, impl.ErrNone)
	}
	for _, n := range noModuli() {
		got, code := impl.ResiduesOf(n)
		wantNumbers(t, fmt.Sprint("ResiduesOf ", n), got, code, nil, impl.ErrRange)
	}
}

func TestIsRing(t *testing.T) {
	var s sequence
	everyModulus(func(n int64) {
		list := []impl.Ring{ringOf(n), s.ring(n, 10), s.ring(n, top), filledRing(n, top), filledRing(n, -top)}
		for _, a := range unitsOf(n) {
			list = append(list, ringAt(n, a, top), ringAt(n, a, -top))
		}
		for _, x := range list {
			if !impl.IsRing(x) {
				t.Errorf("%v is no element", x)
			}
		}
	})
	for _, x := range noRings() {
		if impl.IsRing(x) {
			t.Errorf("%v is an element", x)
		}
	}
}

// checkRingSum checks x and k times y together, and returns the code.
func checkRingSum(t *testing.T, x impl.Ring, y impl.Ring, k int64) int64 {
	t.Helper()
	want, wantCode := wantRingSum(x, y, k)
	got, code := impl.AddRings(x, y, k)
	wantRing(t, fmt.Sprint("AddRings ", x, y, k), got, code, want, wantCode)
	return code
}

func TestAddRings(t *testing.T) {
	var s sequence
	codes := map[int64]int{}
	everyModulus(func(n int64) {
		for _, limit := range []int64{3, 1000, top / 1001, top / 2, top} {
			for _, k := range []int64{0, 1, -1, 2, -7, 1000, -1000, s.upTo(1000)} {
				codes[checkRingSum(t, s.ring(n, limit), s.ring(n, limit), k)]++
				codes[checkRingSum(t, s.ring(n, top), s.ring(n, limit), k)]++
				codes[checkRingSum(t, ringOf(n), s.ring(n, limit), k)]++
			}
		}
	})
	if codes[impl.ErrNone] < 1000 || codes[impl.ErrLimit] < 1000 {
		t.Errorf("the codes are there so often: %v", codes)
	}
}

// A sum may have Parts of MaxPart, and none greater, whatever residue has it.
func TestSumsAtTheLimit(t *testing.T) {
	everyModulus(func(n int64) {
		for _, a := range unitsOf(n) {
			for _, c := range []struct {
				first, second, k int64
				isTold           bool
			}{
				{top, 0, 1, true}, {top, 1, 0, true}, {top, 1, 1, false}, {top - 1, 1, 1, true}, {-top, 1, -1, false}, {-top, 1, 1, true},
				{1 - top, 1, -1, true}, {0, 1000000, 1000, true}, {0, -1000000, 1000, true}, {0, 1000000, -1000, true},
				{1, 1000000, 1000, false}, {-1, 1000000, -1000, false}, {0, 1000001, 1000, false}, {0, top, 2, false},
				{top, top, -1, true}, {top, top, -2, true}, {top, top, -3, false}, {-top, top, 2, true}, {top, top, 1000, false},
				{-top, -top, 1000, false}, {-top, top, -1000, false},
			} {
				what := fmt.Sprint("AddRings ", n, a, c)
				got, code := impl.AddRings(ringAt(n, a, c.first), ringAt(n, a, c.second), c.k)
				if c.isTold {
					wantRing(t, what, got, code, ringAt(n, a, c.first+c.k*c.second), impl.ErrNone)
				} else {
					wantNoRing(t, what, got, code, impl.ErrLimit)
				}
			}
		}
	})
}

// checkRingProduct checks a product in both orders, and returns the code.
func checkRingProduct(t *testing.T, x impl.Ring, y impl.Ring) int64 {
	t.Helper()
	want, wantCode := wantRingProduct(x, y)
	got, code := impl.MultiplyRings(x, y)
	wantRing(t, fmt.Sprint("MultiplyRings ", x, y), got, code, want, wantCode)
	back, code := impl.MultiplyRings(y, x)
	wantRing(t, fmt.Sprint("MultiplyRings ", y, x), back, code, want, wantCode)
	return code
}

// The guarantee and promise 10: products do not depend on the order, and have products of totals.
func TestMultiplyRings(t *testing.T) {
	var s sequence
	codes := map[int64]int{}
	everyModulus(func(n int64) {
		for _, limit := range []int64{1, 5, 300, 5000, 20000, 100000} {
			for range 4 {
				x, y := s.ring(n, limit), s.ring(n, limit)
				code := checkRingProduct(t, x, y)
				codes[code]++
				codes[checkRingProduct(t, x, x)]++
				codes[checkRingProduct(t, x, s.ring(n, 100000))]++
				product, _ := impl.MultiplyRings(x, y)
				first, firstCode := impl.TotalOfRing(x)
				second, secondCode := impl.TotalOfRing(y)
				total, totalCode := impl.TotalOfRing(product)
				if code == impl.ErrNone {
					wantWhole(t, fmt.Sprint("the total of the product of ", x, y), total, max(firstCode, secondCode, totalCode), first*second, impl.ErrNone)
				}
			}
		}
		for _, a := range unitsOf(n) {
			for _, b := range unitsOf(n) {
				got, code := impl.MultiplyRings(ringAt(n, a, 2), ringAt(n, b, -3))
				wantRing(t, fmt.Sprint("MultiplyRings ", n, a, b), got, code, ringAt(n, a*b%n, -6), impl.ErrNone)
			}
		}
	})
	if codes[impl.ErrNone] < 1000 || codes[impl.ErrLimit] < 500 {
		t.Errorf("the codes are there so often: %v", codes)
	}
}

func TestProductsOfRingsAtTheLimit(t *testing.T) {
	for _, sign := range []int64{1, -1} {
		got, code := impl.MultiplyRings(ringOf(2, 100000), ringOf(2, sign*10000))
		wantRing(t, "MultiplyRings 2", got, code, ringOf(2, sign*top), impl.ErrNone)
		got, code = impl.MultiplyRings(ringOf(2, 100000), ringOf(2, sign*10001))
		wantNoRing(t, "MultiplyRings 2", got, code, impl.ErrLimit)
		got, code = impl.MultiplyRings(ringOf(3, 100000, 1), ringOf(3, sign*10000, 0))
		wantRing(t, "MultiplyRings 3", got, code, ringOf(3, sign*top, sign*10000), impl.ErrNone)
		got, code = impl.MultiplyRings(ringOf(3, 100000, sign), ringOf(3, sign*10000, 1))
		wantNoRing(t, "MultiplyRings 3", got, code, impl.ErrLimit)
		got, code = impl.MultiplyRings(ringOf(3, 10000, 1), ringOf(3, -sign, sign*100000))
		wantRing(t, "MultiplyRings 3", got, code, ringOf(3, sign*90000, sign*(top-1)), impl.ErrNone)
		// What is beyond the limit may go away again.
		got, code = impl.MultiplyRings(ringOf(3, 100000, sign*100000), ringOf(3, 100000, -sign*100000))
		wantRing(t, "MultiplyRings 3", got, code, ringOf(3), impl.ErrNone)
	}
	for _, n := range []int64{2, 3, 16, 37, 40} {
		count := int64(len(unitsOf(n)))
		got, code := impl.MultiplyRings(filledRing(n, 100000), filledRing(n, 100000))
		wantNoRing(t, fmt.Sprint("MultiplyRings ", n), got, code, impl.ErrLimit)
		got, code = impl.MultiplyRings(filledRing(n, -100000), filledRing(n, 10000/count))
		wantRing(t, fmt.Sprint("MultiplyRings ", n), got, code, filledRing(n, -100000*(10000/count)*count), impl.ErrNone)
	}
}

// Factors have Parts up to 100000, whatever residue has them, even if the product is 0.
func TestFactorsOfRings(t *testing.T) {
	everyModulus(func(n int64) {
		zero := ringOf(n)
		for _, a := range unitsOf(n) {
			for _, part := range []int64{100001, -100001, 200000, top, -top} {
				bad := ringAt(n, a, part)
				for _, pair := range [][2]impl.Ring{{bad, zero}, {zero, bad}, {bad, bad}, {bad, ringAt(n, 1, 1)}} {
					got, code := impl.MultiplyRings(pair[0], pair[1])
					wantNoRing(t, fmt.Sprint("MultiplyRings ", pair), got, code, impl.ErrRange)
				}
			}
			for _, part := range []int64{100000, -100000} {
				got, code := impl.MultiplyRings(ringAt(n, a, part), ringAt(n, 1, 1))
				wantRing(t, fmt.Sprint("MultiplyRings ", n, a, part), got, code, ringAt(n, a, part), impl.ErrNone)
				got, code = impl.MultiplyRings(zero, ringAt(n, a, part))
				wantRing(t, fmt.Sprint("MultiplyRings ", n, a, part), got, code, zero, impl.ErrNone)
			}
		}
	})
}

// For a prime as the Modulus, sums with characters are products, too (chapters 1 and 3).
func TestCharactersOfRings(t *testing.T) {
	var s sequence
	table := func(x impl.Ring) []int64 { return append([]int64{0}, x.Parts...) }
	everyCharacter(func(c impl.Character) {
		if c.Prime > impl.MaxModulus {
			return
		}
		x, y := s.ring(c.Prime, 100), s.ring(c.Prime, 100)
		product, code := impl.MultiplyRings(x, y)
		if code != impl.ErrNone {
			t.Fatalf("MultiplyRings %v %v: %d", x, y, code)
		}
		first, _ := impl.SumWith(table(x), c)
		second, _ := impl.SumWith(table(y), c)
		want, wantCode := wantProduct(first, second)
		got, code := impl.SumWith(table(product), c)
		wantCyclo(t, fmt.Sprint("the sum of a product with ", c), got, code, want, wantCode)
	})
}

// The guarantee: turning twice changes nothing. Products of turned elements are turned.
func TestTurnRing(t *testing.T) {
	var s sequence
	everyModulus(func(n int64) {
		for _, x := range []impl.Ring{ringOf(n), filledRing(n, -top), s.ring(n, 10), s.ring(n, 400), s.ring(n, top), ringAt(n, n-1, top)} {
			what := fmt.Sprint("TurnRing ", x)
			got, code := impl.TurnRing(x)
			wantRing(t, what, got, code, wantTurned(x), impl.ErrNone)
			back, code := impl.TurnRing(got)
			wantRing(t, what+" twice", back, code, x, impl.ErrNone)
		}
		x, y := s.ring(n, 1000), s.ring(n, 1000)
		product, _ := wantRingProduct(x, y)
		turnedX, _ := impl.TurnRing(x)
		turnedY, _ := impl.TurnRing(y)
		got, code := impl.MultiplyRings(turnedX, turnedY)
		wantRing(t, fmt.Sprint("the turned product of ", x, y), got, code, wantTurned(product), impl.ErrNone)
		for _, a := range unitsOf(n) {
			turned, code := impl.TurnRing(ringAt(n, a, 7))
			one, oneCode := impl.MultiplyRings(ringAt(n, a, 7), turned)
			wantRing(t, fmt.Sprint("TurnRing ", n, a), one, max(code, oneCode), ringAt(n, 1, 49), impl.ErrNone)
		}
	})
	for _, c := range [][2]impl.Ring{
		{ringOf(2, 5), ringOf(2, 5)}, {ringOf(3, 5, -6), ringOf(3, 5, -6)}, {ringOf(5, 1, 2, 3, 4), ringOf(5, 1, 3, 2, 4)},
		{ringOf(7, 1, 2, 3, 4, 5, 6), ringOf(7, 1, 4, 5, 2, 3, 6)}, {ringOf(8, 1, 2, 3, 4), ringOf(8, 1, 2, 3, 4)},
		{ringOf(9, 1, 2, 3, 4, 5, 6), ringOf(9, 1, 4, 5, 2, 3, 6)},
	} {
		got, code := impl.TurnRing(c[0])
		wantRing(t, fmt.Sprint("TurnRing ", c[0]), got, code, c[1], impl.ErrNone)
	}
}

func TestTotalOfRing(t *testing.T) {
	var s sequence
	everyModulus(func(n int64) {
		for _, x := range []impl.Ring{ringOf(n), filledRing(n, top), filledRing(n, -top), s.ring(n, 10), s.ring(n, top)} {
			got, code := impl.TotalOfRing(x)
			wantWhole(t, fmt.Sprint("TotalOfRing ", x), got, code, sumOf(x.Parts), impl.ErrNone)
		}
		for _, a := range unitsOf(n) {
			got, code := impl.TotalOfRing(ringAt(n, a, 12))
			wantWhole(t, fmt.Sprint("TotalOfRing ", n, a), got, code, 12, impl.ErrNone)
		}
	})
	got, code := impl.TotalOfRing(filledRing(37, top))
	wantWhole(t, "TotalOfRing 37", got, code, 36*top, impl.ErrNone)
	got, code = impl.TotalOfRing(ringOf(5, 7, -10, 1, 0))
	wantWhole(t, "TotalOfRing 5", got, code, -2, impl.ErrNone)
}

func TestStickelbergerOf(t *testing.T) {
	everyModulus(func(n int64) {
		what := fmt.Sprint("StickelbergerOf ", n)
		got, code := impl.StickelbergerOf(n)
		wantRing(t, what, got, code, wantTurned(impl.Ring{Modulus: n, Parts: unitsOf(n)}), impl.ErrNone)
		// The turned one has the residues themselves, whose pairs a and n - a add up to n.
		turned, code := impl.TurnRing(got)
		wantNumbers(t, what+" turned", turned.Parts, code, unitsOf(n), impl.ErrNone)
		total, code := impl.TotalOfRing(got)
		want := int64(1)
		if n > 2 {
			want = n * int64(len(unitsOf(n))) / 2
		}
		wantWhole(t, "the total of "+what, total, code, want, impl.ErrNone)
	})
	for _, c := range []impl.Ring{
		ringOf(2, 1), ringOf(3, 1, 2), ringOf(4, 1, 3), ringOf(5, 1, 3, 2, 4), ringOf(7, 1, 4, 5, 2, 3, 6), ringOf(8, 1, 3, 5, 7),
		ringOf(9, 1, 5, 7, 2, 4, 8), ringOf(40, 1, 27, 23, 9, 11, 37, 33, 19, 21, 7, 3, 29, 31, 17, 13, 39),
	} {
		got, code := impl.StickelbergerOf(c.Modulus)
		wantRing(t, fmt.Sprint("StickelbergerOf ", c.Modulus), got, code, c, impl.ErrNone)
	}
	for _, n := range noModuli() {
		got, code := impl.StickelbergerOf(n)
		wantNoRing(t, fmt.Sprint("StickelbergerOf ", n), got, code, impl.ErrRange)
	}
}

// They are n times less than c times the Stickelberger element of n, multiplied by n, less that with the
// residues multiplied by c.
func TestReducedStickelberger(t *testing.T) {
	everyModulus(func(n int64) {
		whole, _ := impl.StickelbergerOf(n)
		for _, c := range unitsOf(n) {
			what := fmt.Sprint("ReducedStickelberger ", n, c)
			got, code := impl.ReducedStickelberger(n, c)
			wantRing(t, what, got, code, wantReduced(n, c), impl.ErrNone)
			moved, _ := impl.MultiplyRings(whole, ringAt(n, c, 1))
			want, _ := impl.AddRings(moved, whole, -c)
			times, code := impl.AddRings(ringOf(n), got, -n)
			wantRing(t, what+" times the Modulus", times, code, want, impl.ErrNone)
		}
		for c := int64(-n) - 2; c <= 2*n+2; c++ {
			if !slices.Contains(unitsOf(n), c) {
				got, code := impl.ReducedStickelberger(n, c)
				wantNoRing(t, fmt.Sprint("ReducedStickelberger ", n, c), got, code, impl.ErrRange)
			}
		}
		for _, c := range extremes {
			got, code := impl.ReducedStickelberger(n, c)
			wantNoRing(t, fmt.Sprint("ReducedStickelberger ", n, c), got, code, impl.ErrRange)
		}
	})
	for _, c := range []struct {
		c    int64
		want impl.Ring
	}{
		{1, ringOf(2, 0)}, {1, ringOf(3, 0, 0)}, {2, ringOf(3, 0, 1)}, {3, ringOf(4, 0, 2)}, {1, ringOf(5)}, {2, ringOf(5, 0, 1, 0, 1)},
		{3, ringOf(5, 0, 1, 1, 2)}, {4, ringOf(5, 0, 2, 1, 3)}, {2, ringOf(7, 0, 1, 1, 0, 0, 1)}, {5, ringOf(8, 0, 1, 3, 4)},
		{6, ringOf(7, 0, 3, 4, 1, 2, 5)}, {39, ringOf(40, 0, 26, 22, 8, 10, 36, 32, 18, 20, 6, 2, 28, 30, 16, 12, 38)},
	} {
		n := c.want.Modulus
		got, code := impl.ReducedStickelberger(n, c.c)
		wantRing(t, fmt.Sprint("ReducedStickelberger ", n, c.c), got, code, c.want, impl.ErrNone)
	}
	for _, n := range noModuli() {
		for _, c := range []int64{1, 2, 3, 0, -1, n - 1, n} {
			got, code := impl.ReducedStickelberger(n, c)
			wantNoRing(t, fmt.Sprint("ReducedStickelberger ", n, c), got, code, impl.ErrRange)
		}
	}
}

// actingRings returns elements of the Modulus n that act: by one image, by each, by few and by many.
func actingRings(s *sequence, n int64) []impl.Ring {
	stickelberger := wantTurned(impl.Ring{Modulus: n, Parts: unitsOf(n)})
	list := []impl.Ring{ringOf(n), ringAt(n, 1, 1), filledRing(n, 1), ringAt(n, n-1, 60), ringAt(n, 1, 59), ringAt(n, 1, 4)}
	for _, a := range unitsOf(n) {
		list = append(list, ringAt(n, a, 1), ringAt(n, a, 2), wantReduced(n, a))
		pair := ringAt(n, a, 1)
		pair.Parts[0]++
		list = append(list, pair)
	}
	for _, most := range []int64{1, 1, 2, 5} {
		few := ringOf(n)
		for i := range few.Parts {
			few.Parts[i] = s.within(most+1) - 1
		}
		list = append(list, few)
	}
	list = append(list, stickelberger)
	return slices.DeleteFunc(list, func(x impl.Ring) bool { return sumOf(x.Parts) > 60 })
}

// someActs calls a function with elements and with numbers on which they act: small ones, 0, units, great
// ones, and such with great images.
func someActs(check func(x impl.Ring, y impl.Cyclo)) {
	var s sequence
	for n := int64(2); n <= impl.MaxOrder; n++ {
		numbers := []impl.Cyclo{number(n), number(n, 1), number(n, -1), number(n, 2), number(n, 1, -1), s.cyclo(n, 1), s.cyclo(n, 2), s.cyclo(n, 30), s.cyclo(n, top)}
		numbers = append(numbers, unitSamples(n)...)
		for _, x := range actingRings(&s, n) {
			for _, y := range numbers {
				check(x, y)
			}
		}
	}
	for _, x := range actingRings(&s, 5) {
		for k := -43; k <= 44; k++ {
			check(x, goldenPower(k))
		}
	}
}

// goldenPower returns the power of the unit g = -z^2 - z^3 of the order 5, for which g g is g + 1.
func goldenPower(k int) impl.Cyclo {
	// It is a + b g.
	a, b := int64(1), int64(0)
	for range max(k, -k) {
		if k > 0 {
			a, b = b, a+b
		} else {
			a, b = b-a, a
		}
	}
	return number(5, a, 0, -b, -b)
}

// Promise 14: norms of what elements make of numbers are powers of norms.
func TestActOnCyclo(t *testing.T) {
	codes, norms := map[int64]int{}, 0
	someActs(func(x impl.Ring, y impl.Cyclo) {
		what := fmt.Sprint("ActOnCyclo ", x, " ", spell(y))
		want, wantCode := wantActed(x, y)
		got, code := impl.ActOnCyclo(x, y)
		wantCyclo(t, what, got, code, want, wantCode)
		codes[code]++
		if code != impl.ErrNone {
			return
		}
		power := new(big.Int).Exp(matrixOf(y).determinant(), big.NewInt(sumOf(x.Parts)), nil)
		if below := matrixOf(got).determinant(); below.Cmp(power) != 0 {
			t.Errorf("%s has the norm %v; want %v", what, below, power)
		}
		norm, normCode := impl.NormOf(got)
		if normCode == impl.ErrNone {
			norms++
			wantWhole(t, "the norm of "+what, norm, normCode, power.Int64(), impl.ErrNone)
		}
	})
	if codes[impl.ErrNone] < 3000 || codes[impl.ErrLimit] < 1000 || norms < 3000 {
		t.Errorf("the codes are there so often: %v, and %d norms", codes, norms)
	}
}

func TestPlainActs(t *testing.T) {
	for _, c := range []struct {
		x       impl.Ring
		y, want string
	}{
		{filledRing(5, 1), "5@1:-1:0:0", "5@5:0:0:0"}, {ringOf(5), "5@1:-1:0:0", "5@1:0:0:0"}, {ringOf(5), "5@0:0:0:0", "5@1:0:0:0"},
		{ringOf(5, 0, 0, 0, 1), "5@0:0:0:0", "5@0:0:0:0"}, {ringOf(5, 1), "5@3:1:4:1", "5@3:1:4:1"}, {ringOf(5, 0, 1), "5@1:2:3:4", "5@-2:1:-1:-3"},
		{ringOf(5, 1, 0, 0, 1), "5@1:-1:0:0", "5@3:0:1:1"}, {ringOf(2, 3), "2@-5", "2@-125"}, {ringOf(2, 60), "2@-1", "2@1"}, {ringOf(2, 59), "2@-1", "2@-1"},
		{ringOf(2, 29), "2@2", "2@536870912"}, {ringOf(2, 9), "2@-10", "2@-1000000000"}, {ringOf(3, 0, 2), "3@0:1", "3@0:1"},
		{ringOf(3, 1, 2), "3@0:1", "3@-1:-1"}, {ringOf(4, 2, 1), "4@1:2", "4@5:10"}, {ringOf(4, 30, 30), "4@0:1", "4@1:0"},
		{ringOf(4, 31, 29), "4@0:1", "4@-1:0"}, {ringOf(16, 0, 0, 0, 0, 0, 0, 0, 60), "16@0:1:0:0:0:0:0:0", "16@0:0:0:0:1:0:0:0"},
	} {
		got, code := impl.ActOnCyclo(c.x, parsed(t, c.y))
		wantText(t, fmt.Sprint("ActOnCyclo ", c.x, c.y), got, code, c.want)
	}
}

// The images may be beyond the limit, but no product on the way, even if the result is not.
func TestActsAtTheLimit(t *testing.T) {
	great, other := goldenPower(44), goldenPower(25)
	got, code := impl.GaloisImage(great, 2)
	wantError(t, "GaloisImage", got, code, impl.ErrLimit)
	for _, c := range []struct {
		x    impl.Ring
		y    impl.Cyclo
		want string
	}{
		{ringOf(5, 1), great, "5@433494437:0:-701408733:-701408733"}, {ringOf(5, 1, 1), great, "5@1:0:0:0"}, {ringOf(5, 1, 0, 1), great, "5@1:0:0:0"},
		{ringOf(5, 1, 2), great, ""}, {ringOf(5, 0, 1), great, ""}, {ringOf(5, 0, 1, 0, 1), great, ""}, {ringOf(5, 0, 0, 1, 1), great, ""},
		{ringOf(5, 2), great, ""}, {ringOf(5, 2, 2), great, ""}, {ringOf(5, 1, 0, 0, 1), great, ""}, {ringOf(5, 1, 1, 1, 1), great, ""},
		{ringOf(5, 1, 1, 0, 0), other, "5@-1:0:0:0"}, {ringOf(5, 2, 2), other, ""}, {ringOf(5, 1, 1, 1, 1), other, "5@1:0:0:0"},
		{ringOf(5, 1, 2, 0, 1), other, "5@1:0:0:0"},
		{ringOf(2, 2), number(2, 31622), "2@999950884"}, {ringOf(2, 2), number(2, 31623), ""}, {ringOf(2, 2), number(2, -31623), ""},
		{ringOf(2, 1), number(2, top), "2@1000000000"}, {ringOf(2, 60), number(2, 1), "2@1"}, {ringOf(2, 60), number(2, 2), ""},
		{ringOf(2, 30), number(2, 2), ""}, {ringOf(2, 10), number(2, -10), ""}, {ringOf(4, 1, 1), number(4, 10000, 30000), "4@1000000000:0"},
		{ringOf(4, 1, 1), number(4, 10000, 30001), ""}, {ringOf(4, 0, 1), number(4, top, -top), "4@1000000000:1000000000"},
		{ringOf(3, 0, 1), number(3, top, 1), "3@999999999:-1"}, {ringOf(3, 0, 1), number(3, top, -1), ""}, {ringOf(3, 0, 1), number(3, 0, -top), "3@1000000000:1000000000"},
	} {
		what := fmt.Sprint("ActOnCyclo ", c.x, " ", spell(c.y))
		got, code := impl.ActOnCyclo(c.x, c.y)
		if c.want == "" {
			wantError(t, what, got, code, impl.ErrLimit)
		} else {
			wantText(t, what, got, code, c.want)
		}
	}
}

// Sums act as products, products one after the other, and cyclotomic units are quotients.
func TestActsTogether(t *testing.T) {
	var s sequence
	kept := map[string]int{}
	for n := int64(2); n <= impl.MaxOrder; n++ {
		for _, x := range actingRings(&s, n) {
			for _, y := range actingRings(&s, n) {
				z := s.cyclo(n, 1)
				first, code := impl.ActOnCyclo(x, z)
				second, otherCode := impl.ActOnCyclo(y, z)
				if code != impl.ErrNone || otherCode != impl.ErrNone {
					continue
				}
				what := fmt.Sprint(x, y, " of ", spell(z))
				sum, _ := impl.AddRings(x, y, 1)
				if got, code := impl.ActOnCyclo(sum, z); code == impl.ErrNone {
					kept["sums"]++
					want, wantCode := wantProduct(first, second)
					wantCyclo(t, "the sum "+what, got, code, want, wantCode)
				}
				product, _ := impl.MultiplyRings(x, y)
				got, code := impl.ActOnCyclo(product, z)
				want, wantCode := impl.ActOnCyclo(y, first)
				if code == impl.ErrNone && wantCode == impl.ErrNone {
					kept["products"]++
					wantCyclo(t, "the product "+what, got, code, want, wantCode)
				}
			}
		}
	}
	if kept["sums"] < 1000 || kept["products"] < 1000 {
		t.Errorf("too few are within the limits: %v", kept)
	}
}

// The element with equal Parts 1 makes norms (chapter 2).
func TestActsThatAreNorms(t *testing.T) {
	kept := 0
	everySample(func(x impl.Cyclo) {
		if x.Order == 1 {
			return
		}
		norm, code := impl.NormOf(x)
		want := number(x.Order, norm)
		if code != impl.ErrNone {
			want = impl.Cyclo{}
		} else {
			kept++
		}
		got, gotCode := impl.ActOnCyclo(filledRing(x.Order, 1), x)
		wantCyclo(t, "the norm of "+spell(x), got, gotCode, want, code)
	})
	if kept < 200 {
		t.Errorf("%d norms are within the limit", kept)
	}
}

// checkNoAct checks that an element makes nothing of a number.
func checkNoAct(t *testing.T, x impl.Ring, y impl.Cyclo, wantCode int64) {
	t.Helper()
	got, code := impl.ActOnCyclo(x, y)
	wantError(t, fmt.Sprint("ActOnCyclo ", x, " ", y), got, code, wantCode)
}

// Elements act if their Modulus is the Order, no Part is less than 0, and the total is at most 60.
func TestWrongActs(t *testing.T) {
	for n := int64(2); n <= impl.MaxOrder; n++ {
		for _, y := range []impl.Cyclo{number(n), number(n, 1), number(n, top, 0), number(n, 2, 1)} {
			for _, a := range unitsOf(n) {
				for _, part := range []int64{61, 62, 120, top, -1, -2, -60, -top} {
					checkNoAct(t, ringAt(n, a, part), y, impl.ErrRange)
				}
				// A Part is less than 0 though the total is not, or the total alone is too great.
				if less := ringAt(n, a, -1); len(less.Parts) > 1 {
					less.Parts[(slices.Index(unitsOf(n), a)+1)%len(less.Parts)] = 2
					checkNoAct(t, less, y, impl.ErrRange)
					most := ringAt(n, a, 59)
					most.Parts[0]++
					most.Parts[1]++
					checkNoAct(t, most, y, impl.ErrRange)
				}
			}
			checkNoAct(t, filledRing(n, top), y, impl.ErrRange)
			checkNoAct(t, filledRing(n, -top), y, impl.ErrRange)
			got, code := impl.ActOnCyclo(ringAt(n, n-1, 60), number(n, -1))
			wantCyclo(t, "ActOnCyclo 60", got, code, number(n, 1), impl.ErrNone)
		}
	}
	for m := int64(1); m <= impl.MaxOrder; m++ {
		everyModulus(func(n int64) {
			if n == m {
				return
			}
			for _, x := range []impl.Ring{ringOf(n), ringAt(n, 1, 1), ringAt(n, 1, -1), ringAt(n, 1, 61)} {
				checkNoAct(t, x, number(m), impl.ErrRange)
				checkNoAct(t, x, number(m, top), impl.ErrRange)
			}
		})
	}
}

// bernoullis has the Bernoulli numbers of 0 to 20, written out.
var bernoullis = [][2]int64{
	{1, 1}, {-1, 2}, {1, 6}, {0, 1}, {-1, 30}, {0, 1}, {1, 42}, {0, 1}, {-1, 30}, {0, 1}, {5, 66}, {0, 1}, {-691, 2730},
	{0, 1}, {7, 6}, {0, 1}, {-3617, 510}, {0, 1}, {43867, 798}, {0, 1}, {-174611, 330},
}

func TestBernoulliOf(t *testing.T) {
	if len(bernoullis) != impl.MaxBernoulli+1 {
		t.Errorf("there are %d numbers", len(bernoullis))
	}
	for k, want := range bernoullis {
		what := fmt.Sprint("BernoulliOf ", k)
		above, below, code := impl.BernoulliOf(int64(k))
		wantFraction(t, what, above, below, code, want, impl.ErrNone)
		if code == impl.ErrNone && wantBernoulli(int64(k)).Cmp(big.NewRat(above, below)) != 0 {
			t.Errorf("%s = %d/%d; want %v", what, above, below, wantBernoulli(int64(k)))
		}
		// The document's sum, by the numbers that are returned.
		sum := new(big.Rat)
		for i := range int64(k) + 1 {
			above, below, _ := impl.BernoulliOf(i)
			choices := new(big.Rat).SetInt(new(big.Int).Binomial(int64(k)+1, i))
			sum.Add(sum, choices.Mul(choices, big.NewRat(above, max(below, 1))))
		}
		if k > 0 && sum.Sign() != 0 {
			t.Errorf("the sum of %s is %v", what, sum)
		}
	}
	for _, k := range append([]int64{-1, -2, -20, 21, 22, 24, 40}, extremes...) {
		above, below, code := impl.BernoulliOf(k)
		wantFraction(t, fmt.Sprint("BernoulliOf ", k), above, below, code, [2]int64{}, impl.ErrRange)
	}
}

// The guarantee and promise 10: Bernoulli residues are Bernoulli numbers modulo primes.
func TestBernoulliModulo(t *testing.T) {
	numbers := []*big.Rat{}
	for k := range int64(59) {
		numbers = append(numbers, wantBernoulli(k))
	}
	kept, modulo := 0, 0
	for _, row := range leastRoots {
		p := row[0]
		for k := int64(2); k <= p-3; k += 2 {
			what := fmt.Sprint("BernoulliModulo ", p, k)
			got, code := impl.BernoulliModulo(p, k)
			wantWhole(t, what, got, code, fractionModulo(numbers[k], p), impl.ErrNone)
			wantWhole(t, what+" by powers", got, code, powerSumResidue(p, k), impl.ErrNone)
			kept++
			if above, below, code := impl.BernoulliOf(k); code == impl.ErrNone {
				modulo++
				if got < 0 || got >= p || rest(above-got*below, p) != 0 {
					t.Errorf("%s = %d, but the number is %d/%d", what, got, above, below)
				}
			}
		}
	}
	if kept != 224 || modulo != 127 {
		t.Errorf("there are %d Bernoulli residues, %d of them of numbers", kept, modulo)
	}
	for _, c := range [][3]int64{
		{5, 2, 1}, {7, 2, 6}, {7, 4, 3}, {11, 2, 2}, {11, 8, 4}, {13, 10, 5}, {37, 32, 0}, {37, 34, 2}, {59, 44, 0}, {61, 58, 38}, {61, 2, 51},
	} {
		got, code := impl.BernoulliModulo(c[0], c[1])
		wantWhole(t, fmt.Sprint("BernoulliModulo ", c[0], c[1]), got, code, c[2], impl.ErrNone)
	}
}

func TestWrongBernoulliResidues(t *testing.T) {
	check := func(p int64, k int64) {
		got, code := impl.BernoulliModulo(p, k)
		wantWhole(t, fmt.Sprint("BernoulliModulo ", p, k), got, code, 0, impl.ErrRange)
	}
	for _, row := range leastRoots {
		p := row[0]
		for _, k := range append([]int64{0, 1, -1, -2, p - 2, p - 1, p, p + 1, p + 3, 2*p - 2, 3 - p}, extremes...) {
			check(p, k)
		}
		for k := int64(1); k <= p+2; k += 2 {
			check(p, k)
		}
	}
	for _, p := range append(noPrimes(), -3, -5, -7) {
		for _, k := range append([]int64{2, 4, 6, 10, 0, 1, 3}, p-3, p-1) {
			check(p, k)
		}
	}
	// For 3 there is no k.
	for k := int64(-4); k <= 20; k++ {
		check(3, k)
		check(2, k)
	}
}

func TestIrregularOf(t *testing.T) {
	for _, row := range leastRoots {
		p := row[0]
		want := map[int64][]int64{37: {32}, 59: {44}}[p]
		what := fmt.Sprint("IrregularOf ", p)
		got, code := impl.IrregularOf(p)
		wantNumbers(t, what, got, code, want, impl.ErrNone)
		found := []int64{}
		for k := int64(2); k <= p-3; k += 2 {
			if number, code := impl.BernoulliModulo(p, k); number == 0 && code == impl.ErrNone {
				found = append(found, k)
			}
		}
		wantNumbers(t, what+" by residues", got, code, found, impl.ErrNone)
	}
	for _, p := range append(noPrimes(), -3, -37, 67, 101, 103) {
		got, code := impl.IrregularOf(p)
		wantNumbers(t, fmt.Sprint("IrregularOf ", p), got, code, nil, impl.ErrRange)
	}
}

// The guarantee and promise 14: cyclotomic units are units.
func TestCyclotomicUnits(t *testing.T) {
	for n := int64(2); n <= impl.MaxOrder; n++ {
		for _, a := range unitsOf(n) {
			what := fmt.Sprint("CyclotomicUnit ", n, a)
			got, code := impl.CyclotomicUnit(n, a)
			want, wantCode := wantOfList(n, slices.Repeat([]int64{1}, int(a)))
			wantCyclo(t, what, got, code, want, wantCode)
			isUnit, code := impl.IsUnit(got)
			wantAnswer(t, what+" is a unit", isUnit, code, true, impl.ErrNone)
			if norm := matrixOf(got).determinant(); norm.Cmp(big.NewInt(1)) != 0 {
				t.Errorf("%s has the norm %v", what, norm)
			}
			inverse, code := impl.InverseOf(got)
			one, oneCode := wantProduct(got, inverse)
			wantCyclo(t, what+" times its inverse", one, max(code, oneCode), number(n, 1), impl.ErrNone)
			// Times 1 - z it is 1 - z^a.
			below, _ := wantOfList(n, []int64{1, -1})
			above, _ := wantMoved(below, n, a)
			product, code := impl.MultiplyCyclos(got, below)
			wantCyclo(t, what+" times 1 - z", product, code, above, impl.ErrNone)
			power, code := impl.ActOnCyclo(filledRing(n, 3), got)
			wantCyclo(t, what+" by all images", power, code, number(n, 1), impl.ErrNone)
		}
		// 1 is the one of 1, and -z^(n - 1) that of n - 1.
		got, code := impl.CyclotomicUnit(n, 1)
		wantCyclo(t, fmt.Sprint("CyclotomicUnit of 1 and ", n), got, code, number(n, 1), impl.ErrNone)
		last, _ := wantOfList(n, append(make([]int64, n-1), -1))
		got, code = impl.CyclotomicUnit(n, n-1)
		wantCyclo(t, fmt.Sprint("the last CyclotomicUnit of ", n), got, code, last, impl.ErrNone)
	}
	for _, c := range []struct {
		n, a int64
		text string
	}{
		{2, 1, "2@1"}, {3, 1, "3@1:0"}, {3, 2, "3@1:1"}, {4, 3, "4@0:1"}, {5, 2, "5@1:1:0:0"}, {5, 3, "5@1:1:1:0"}, {5, 4, "5@1:1:1:1"},
		{6, 5, "6@-1:1"}, {8, 5, "8@0:1:1:1"}, {12, 5, "12@0:1:2:1"}, {16, 15, "16@0:0:0:0:0:0:0:1"},
	} {
		got, code := impl.CyclotomicUnit(c.n, c.a)
		wantText(t, fmt.Sprint("CyclotomicUnit ", c.n, c.a), got, code, c.text)
	}
}

func TestWrongCyclotomicUnits(t *testing.T) {
	check := func(n int64, a int64) {
		got, code := impl.CyclotomicUnit(n, a)
		wantError(t, fmt.Sprint("CyclotomicUnit ", n, a), got, code, impl.ErrRange)
	}
	for n := int64(2); n <= impl.MaxOrder; n++ {
		for a := int64(-20); a <= 40; a++ {
			if !slices.Contains(unitsOf(n), a) {
				check(n, a)
			}
		}
		for _, a := range extremes {
			check(n, a)
		}
	}
	for _, n := range append([]int64{1, 0, -1, -2, -5, 17, 18, 40, 41}, extremes...) {
		for _, a := range []int64{1, 2, 3, 0, -1, n - 1, n, n + 1} {
			check(n, a)
		}
	}
}

// checkNoRing checks that nothing is told of what is no element.
func checkNoRing(t *testing.T, bad impl.Ring) {
	t.Helper()
	what := fmt.Sprint(" ", bad)
	x, code := impl.TurnRing(bad)
	wantNoRing(t, "TurnRing"+what, x, code, impl.ErrInvalid)
	total, code := impl.TotalOfRing(bad)
	wantWhole(t, "TotalOfRing"+what, total, code, 0, impl.ErrInvalid)
	for _, y := range []impl.Cyclo{number(1), number(5, 1), number(16, top), {}} {
		checkNoAct(t, bad, y, impl.ErrInvalid)
	}
}

// checkNoRings checks that two have no sum and no product, whatever they are multiplied by.
func checkNoRings(t *testing.T, x impl.Ring, y impl.Ring, wantCode int64) {
	t.Helper()
	what := fmt.Sprint(" ", x, " ", y)
	for _, k := range []int64{0, 1, 1000, 1001, -1 << 63} {
		got, code := impl.AddRings(x, y, k)
		wantNoRing(t, "AddRings"+what, got, code, wantCode)
	}
	got, code := impl.MultiplyRings(x, y)
	wantNoRing(t, "MultiplyRings"+what, got, code, wantCode)
}

// What is no element, or no number, comes first, then different Moduli and numbers not in their ranges,
// and then Parts that would be too great.
func TestOrderOfErrorsOfRings(t *testing.T) {
	for _, bad := range noRings() {
		checkNoRing(t, bad)
		for _, x := range []impl.Ring{ringOf(2, 1), ringOf(5), filledRing(5, top), filledRing(40, -top)} {
			checkNoRings(t, bad, x, impl.ErrInvalid)
			checkNoRings(t, x, bad, impl.ErrInvalid)
		}
		checkNoRings(t, bad, bad, impl.ErrInvalid)
		checkNoRings(t, bad, impl.Ring{}, impl.ErrInvalid)
	}
	for _, bad := range noNumbers() {
		for _, x := range []impl.Ring{ringOf(5), ringOf(5, 1), ringOf(4, -1, 0), ringOf(3, 61, 0), ringOf(40), {}, ringOf(17, 1)} {
			checkNoAct(t, x, bad, impl.ErrInvalid)
		}
	}
	everyModulus(func(m int64) {
		everyModulus(func(n int64) {
			if m != n {
				checkNoRings(t, ringOf(m), filledRing(n, 1), impl.ErrRange)
				checkNoRings(t, filledRing(m, top), filledRing(n, top), impl.ErrRange)
			}
		})
	})
	for _, k := range append([]int64{1001, -1001, 1002, 2000, top}, extremes...) {
		for _, x := range []impl.Ring{ringOf(2), ringOf(5, 1), filledRing(5, top), filledRing(40, -top)} {
			got, code := impl.AddRings(x, x, k)
			wantNoRing(t, fmt.Sprint("AddRings ", x, k), got, code, impl.ErrRange)
		}
	}
}

// paddedRing returns an element with spare capacity behind its Parts, and all of the memory.
func paddedRing(x impl.Ring) (impl.Ring, []int64) {
	all := slices.Repeat([]int64{77}, len(x.Parts)+16)
	copy(all, x.Parts)
	return impl.Ring{Modulus: x.Modulus, Parts: all[:len(x.Parts)]}, all
}

// Results are new memory, and arguments and their spare capacity stay as they are.
func TestMemoryOfRings(t *testing.T) {
	// All residues of 8 are inverses of themselves, so that most of these results have the Parts of x.
	x, all := paddedRing(ringOf(8, 3, 1, 4, 1))
	one, allOfOne := paddedRing(ringOf(8, 1))
	y, allOfY := padded(number(8, 3, 1, 4, 1))
	zero := ringOf(8)
	before, oneBefore, yBefore := slices.Clone(all), slices.Clone(allOfOne), slices.Clone(allOfY)
	calls := map[string]func() ([]int64, int64){
		"ResiduesOf":  func() ([]int64, int64) { return impl.ResiduesOf(8) },
		"IrregularOf": func() ([]int64, int64) { return impl.IrregularOf(37) },
	}
	for what, call := range map[string]func() (impl.Ring, int64){
		"AddRings 0":             func() (impl.Ring, int64) { return impl.AddRings(x, one, 0) },
		"AddRings of 0":          func() (impl.Ring, int64) { return impl.AddRings(x, zero, 1) },
		"0 AddRings":             func() (impl.Ring, int64) { return impl.AddRings(zero, x, 1) },
		"AddRings of itself":     func() (impl.Ring, int64) { return impl.AddRings(x, x, 2) },
		"MultiplyRings 1":        func() (impl.Ring, int64) { return impl.MultiplyRings(x, one) },
		"1 MultiplyRings":        func() (impl.Ring, int64) { return impl.MultiplyRings(one, x) },
		"MultiplyRings":          func() (impl.Ring, int64) { return impl.MultiplyRings(x, x) },
		"TurnRing":               func() (impl.Ring, int64) { return impl.TurnRing(x) },
		"StickelbergerOf":        func() (impl.Ring, int64) { return impl.StickelbergerOf(8) },
		"ReducedStickelberger":   func() (impl.Ring, int64) { return impl.ReducedStickelberger(8, 5) },
		"ReducedStickelberger 1": func() (impl.Ring, int64) { return impl.ReducedStickelberger(8, 1) },
	} {
		calls[what] = func() ([]int64, int64) {
			got, code := call()
			return got.Parts, code
		}
	}
	for what, call := range map[string]func() (impl.Cyclo, int64){
		"ActOnCyclo":       func() (impl.Cyclo, int64) { return impl.ActOnCyclo(x, y) },
		"ActOnCyclo of 1":  func() (impl.Cyclo, int64) { return impl.ActOnCyclo(one, y) },
		"ActOnCyclo of 0":  func() (impl.Cyclo, int64) { return impl.ActOnCyclo(zero, y) },
		"CyclotomicUnit":   func() (impl.Cyclo, int64) { return impl.CyclotomicUnit(8, 5) },
		"CyclotomicUnit 1": func() (impl.Cyclo, int64) { return impl.CyclotomicUnit(8, 1) },
	} {
		calls[what] = func() ([]int64, int64) {
			got, code := call()
			return got.Parts, code
		}
	}
	areKept := func() bool {
		return slices.Equal(all, before) && slices.Equal(allOfOne, oneBefore) && slices.Equal(allOfY, yBefore) && slices.Equal(zero.Parts, make([]int64, 4))
	}
	wantNewLists(t, calls, areKept)
	for range 2 {
		total, code := impl.TotalOfRing(x)
		wantWhole(t, "TotalOfRing", total, code, 9, impl.ErrNone)
		if !impl.IsRing(x) || !areKept() {
			t.Fatalf("an argument was changed: %v, %v, %v", all, allOfOne, allOfY)
		}
	}
}
