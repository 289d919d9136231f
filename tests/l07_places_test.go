package tests

import (
	"fmt"
	"math/big"
	"runtime"
	"slices"
	"testing"
	"time"

	"loop.example/g01313/impl"
)

// checkNoPlace checks that there is nothing at what is no place for the order of x.
func checkNoPlace(t *testing.T, x impl.Cyclo, l int64, r int64, wantCode int64) {
	t.Helper()
	what := fmt.Sprint(" ", x, " ", l, " ", r)
	got, code := impl.ResidueAt(x, l, r)
	wantWhole(t, "ResidueAt"+what, got, code, 0, wantCode)
	got, code = impl.ValuationAt(x, l, r)
	wantWhole(t, "ValuationAt"+what, got, code, 0, wantCode)
	got, code = impl.SymbolAt(x, l, r)
	wantWhole(t, "SymbolAt"+what, got, code, 0, wantCode)
}

// checkNoRoot checks that nothing is told of what is no place for n, whatever else is asked for.
func checkNoRoot(t *testing.T, n int64, l int64, r int64) {
	t.Helper()
	for _, k := range []int64{1, 2, 0, -1, 100} {
		what := fmt.Sprint(" ", n, " ", l, " ", r, " ", k)
		got, code := impl.LiftedRoot(n, l, r, k)
		wantWhole(t, "LiftedRoot"+what, got, code, 0, impl.ErrRange)
		got, code = impl.MovePlace(n, l, r, k)
		wantWhole(t, "MovePlace"+what, got, code, 0, impl.ErrRange)
	}
}

// wrongOrders are no orders of numbers.
func wrongOrders() []int64 {
	return append([]int64{0, -1, -2, -4, -16, 17, 18, 20, 30, 60}, extremes...)
}

// everySplitting calls a function with numbers around the orders and numbers around the primes: whether
// these are an order and a prime, and whether the prime splits fully.
func everySplitting(check func(n int64, l int64, isTold bool, isFull bool)) {
	for _, n := range append(numbersAround(impl.MaxOrder), 60) {
		for _, l := range append(upToHundred(), extremes...) {
			isTold := n >= 1 && n <= impl.MaxOrder && leastRoot(l) > 0
			check(n, l, isTold, areTold(l, n))
		}
	}
}

func TestSplittings(t *testing.T) {
	if impl.MaxPlacePower != 1000000000 {
		t.Errorf("MaxPlacePower is %d", impl.MaxPlacePower)
	}
	told, full := 0, 0
	everySplitting(func(n int64, l int64, isTold bool, isFull bool) {
		what := fmt.Sprint(n, l)
		list, code := impl.SplittingOf(n, l)
		yes, yesCode := impl.SplitsFully(n, l)
		if !isTold {
			wantNumbers(t, "SplittingOf "+what, list, code, nil, impl.ErrRange)
			wantAnswer(t, "SplitsFully "+what, yes, yesCode, false, impl.ErrRange)
			return
		}
		wantNumbers(t, "SplittingOf "+what, list, code, wantSplitting(n, l), impl.ErrNone)
		wantAnswer(t, "SplitsFully "+what, yes, yesCode, isFull, impl.ErrNone)
		// The guarantee: e, f and g multiply to the totient.
		if totient, _ := impl.TotientOf(n); list[0]*list[1]*list[2] != totient {
			t.Errorf("SplittingOf %s = %v: not the totient %d", what, list, totient)
		}
		told++
		if yes {
			full++
		}
	})
	if told != 16*17 || full != 80 {
		t.Errorf("%d splittings are told, %d are full", told, full)
	}
}

func TestPlainSplittings(t *testing.T) {
	for _, c := range [][5]int64{
		{1, 3, 1, 1, 1}, {1, 61, 1, 1, 1}, {2, 3, 1, 1, 1}, {2, 61, 1, 1, 1}, {12, 3, 2, 2, 1}, {3, 3, 2, 1, 1},
		{9, 3, 6, 1, 1}, {6, 3, 2, 1, 1}, {15, 3, 2, 4, 1}, {15, 5, 4, 2, 1}, {10, 5, 4, 1, 1}, {13, 13, 12, 1, 1},
		{14, 7, 6, 1, 1}, {4, 5, 1, 1, 2}, {4, 7, 1, 2, 1}, {16, 3, 1, 4, 2}, {16, 7, 1, 2, 4}, {16, 17, 1, 1, 8},
		{16, 31, 1, 2, 4}, {13, 53, 1, 1, 12}, {13, 3, 1, 3, 4}, {13, 5, 1, 4, 3}, {11, 3, 1, 5, 2}, {7, 29, 1, 1, 6},
		{15, 61, 1, 1, 8}, {15, 7, 1, 4, 2},
	} {
		list, code := impl.SplittingOf(c[0], c[1])
		wantNumbers(t, fmt.Sprint("SplittingOf ", c[0], c[1]), list, code, c[2:], impl.ErrNone)
		yes, code := impl.SplitsFully(c[0], c[1])
		wantAnswer(t, fmt.Sprint("SplitsFully ", c[0], c[1]), yes, code, c[2]*c[3] == 1, impl.ErrNone)
	}
}

func TestRoots(t *testing.T) {
	everySplitting(func(n int64, l int64, isTold bool, isFull bool) {
		list, code := impl.RootsFor(n, l)
		if !isFull {
			wantNumbers(t, fmt.Sprint("RootsFor ", n, l), list, code, nil, impl.ErrRange)
			return
		}
		wantNumbers(t, fmt.Sprint("RootsFor ", n, l), list, code, wantRoots(n, l), impl.ErrNone)
	})
	// All numbers in 1..l - 1 at which the polynomial is a multiple of l, and only these.
	everyGroup(func(l int64, n int64) {
		list, _ := impl.RootsFor(n, l)
		for r := int64(1); r < l; r++ {
			value := int64(0)
			for i, c := range phis[n] {
				value += c * powerModulo(r, int64(i), l)
			}
			if slices.Contains(list, r) != (value%l == 0) {
				t.Errorf("RootsFor %d %d = %v: the polynomial is %d at %d", n, l, list, value, r)
			}
		}
	})
	for _, c := range []struct {
		n, l int64
		list []int64
	}{
		{1, 3, []int64{1}}, {1, 61, []int64{1}}, {2, 3, []int64{2}}, {2, 61, []int64{60}}, {4, 13, []int64{5, 8}},
		{4, 5, []int64{2, 3}}, {3, 7, []int64{2, 4}}, {6, 7, []int64{3, 5}}, {5, 11, []int64{3, 4, 5, 9}},
		{16, 17, []int64{3, 5, 6, 7, 10, 11, 12, 14}}, {12, 13, []int64{2, 6, 7, 11}},
		{13, 53, []int64{10, 13, 15, 16, 24, 28, 36, 42, 44, 46, 47, 49}},
	} {
		list, code := impl.RootsFor(c.n, c.l)
		wantNumbers(t, fmt.Sprint("RootsFor ", c.n, c.l), list, code, c.list, impl.ErrNone)
	}
}

// wrongRoots are no roots of n for l.
func wrongRoots(n int64, l int64) []int64 {
	roots := wantRoots(n, l)
	list := slices.Clone(extremes)
	for _, r := range roots {
		list = append(list, r-l, r+l, -r, r+l*l)
	}
	for r := int64(-2); r <= l+2; r++ {
		list = append(list, r)
	}
	return slices.DeleteFunc(list, func(r int64) bool { return slices.Contains(roots, r) })
}

// samplesAt are numbers of an order, among them 0, great ones, and such that are in places of l.
func samplesAt(s *sequence, n int64, l int64) []impl.Cyclo {
	list := samplesOf(s, n)
	for _, sign := range []int64{1, -1} {
		list = append(list, number(n, sign*l), number(n, sign*(l-1)), number(n, sign*(l*l*l-1)))
		greatest := number(n)
		for i := range greatest.Parts {
			greatest.Parts[i] = sign * impl.MaxPart
		}
		list = append(list, greatest)
	}
	for _, r := range wantRoots(n, l) {
		x, _ := wantOfList(n, []int64{-r, 1})
		list = append(list, x)
		for _, k := range []int64{2, mostPowers[l] - 1, mostPowers[l]} {
			x, _ = wantOfList(n, []int64{-wantLifted(l, r, k).Int64(), 1})
			list = append(list, x)
		}
	}
	return list
}

func TestResidues(t *testing.T) {
	var s sequence
	everyGroup(func(l int64, n int64) {
		for _, x := range samplesAt(&s, n, l) {
			in := []int64{}
			for _, r := range wantRoots(n, l) {
				want := wantResidue(x, l, r)
				if want == 0 {
					in = append(in, r)
				}
				got, code := impl.ResidueAt(x, l, r)
				wantWhole(t, fmt.Sprint("ResidueAt ", spell(x)+" ", l, r), got, code, want, impl.ErrNone)
			}
			list, code := impl.PlacesWith(x, l)
			wantNumbers(t, fmt.Sprint("PlacesWith ", spell(x)+" ", l), list, code, in, impl.ErrNone)
		}
		list, code := impl.PlacesWith(number(n), l)
		wantNumbers(t, fmt.Sprint("PlacesWith 0 ", n, l), list, code, wantRoots(n, l), impl.ErrNone)
		list, code = impl.PlacesWith(number(n, 1-l), l)
		wantNumbers(t, fmt.Sprint("PlacesWith of a rest 1 ", n, l), list, code, nil, impl.ErrNone)
	})
}

func TestPlainResidues(t *testing.T) {
	for _, c := range []struct {
		text          string
		l, r, residue int64
		in            []int64
	}{
		{"4@2:3", 13, 8, 0, []int64{8}},
		{"4@2:3", 13, 5, 4, []int64{8}},
		{"4@-2:-3", 13, 5, 9, []int64{8}},
		{"4@0:0", 13, 5, 0, []int64{5, 8}},
		{"4@13:-26", 13, 8, 0, []int64{5, 8}},
		{"4@1:0", 13, 8, 1, nil},
		{"1@-1", 61, 1, 60, nil},
		{"1@61", 61, 1, 0, []int64{1}},
		{"1@1000000000", 3, 1, 1, nil},
		{"1@-1000000000", 3, 1, 2, nil},
		{"2@-1000000000", 3, 2, 2, nil},
		{"2@7", 7, 6, 0, []int64{6}},
		{"3@5:1", 7, 2, 0, []int64{2}},
		{"16@0:1:0:0:0:0:0:0", 17, 14, 14, nil},
	} {
		x := parsed(t, c.text)
		got, code := impl.ResidueAt(x, c.l, c.r)
		wantWhole(t, fmt.Sprint("ResidueAt ", c.text+" ", c.l, c.r), got, code, c.residue, impl.ErrNone)
		list, code := impl.PlacesWith(x, c.l)
		wantNumbers(t, fmt.Sprint("PlacesWith ", c.text+" ", c.l), list, code, c.in, impl.ErrNone)
	}
}

// The guarantee: residues of products and sums are products and sums.
func TestResiduesOfProducts(t *testing.T) {
	var s sequence
	everyPlace(func(n int64, l int64, r int64) {
		for range 3 {
			x, y := s.cyclo(n, 9000), s.cyclo(n, 9000)
			a, _ := impl.ResidueAt(x, l, r)
			b, _ := impl.ResidueAt(y, l, r)
			what := fmt.Sprint(" of ", spell(x), " and ", spell(y)+" ", l, r)
			product, code := impl.MultiplyCyclos(x, y)
			if code != impl.ErrNone {
				t.Fatalf("no product%s", what)
			}
			got, code := impl.ResidueAt(product, l, r)
			wantWhole(t, "the residue of the product"+what, got, code, a*b%l, impl.ErrNone)
			sum, _ := impl.AddCyclos(x, y, -3)
			got, code = impl.ResidueAt(sum, l, r)
			wantWhole(t, "the residue of the sum"+what, got, code, rest(a-3*b, l), impl.ErrNone)
		}
	})
}

func TestLiftedRoots(t *testing.T) {
	everyPlace(func(n int64, l int64, r int64) {
		most := mostPowers[l]
		for k := int64(1); k <= most; k++ {
			got, code := impl.LiftedRoot(n, l, r, k)
			wantWhole(t, fmt.Sprint("LiftedRoot ", n, l, r, k), got, code, wantLifted(l, r, k).Int64(), impl.ErrNone)
			power, value := bigPower(l, k), new(big.Int)
			for i, c := range phis[n] {
				term := new(big.Int).Exp(big.NewInt(got), big.NewInt(int64(i)), nil)
				value.Add(value, term.Mul(term, big.NewInt(c)))
			}
			if value.Mod(value, power).Sign() != 0 || rest(got, l) != r || got < 0 || power.Cmp(big.NewInt(got)) <= 0 {
				t.Errorf("LiftedRoot %d %d %d %d = %d: is no lifted root", n, l, r, k, got)
			}
		}
		for _, k := range append([]int64{0, -1, -most, most + 1, most + 2, 64, 100}, extremes...) {
			got, code := impl.LiftedRoot(n, l, r, k)
			wantWhole(t, fmt.Sprint("LiftedRoot ", n, l, r, k), got, code, 0, impl.ErrRange)
		}
	})
	for _, c := range [][5]int64{
		{4, 5, 2, 1, 2}, {4, 5, 2, 2, 7}, {4, 5, 2, 3, 57}, {4, 5, 3, 3, 68}, {1, 3, 1, 18, 1}, {2, 3, 2, 18, 387420488},
		{2, 61, 60, 5, 844596300}, {1, 61, 1, 5, 1}, {3, 7, 2, 2, 30}, {3, 7, 4, 2, 18}, {6, 7, 3, 2, 31}, {6, 7, 5, 2, 19},
	} {
		got, code := impl.LiftedRoot(c[0], c[1], c[2], c[3])
		wantWhole(t, fmt.Sprint("LiftedRoot ", c[:4]), got, code, c[4], impl.ErrNone)
	}
}

func TestValuations(t *testing.T) {
	var s sequence
	codes := map[int64]int{}
	everyGroup(func(l int64, n int64) {
		for _, x := range samplesAt(&s, n, l) {
			for _, r := range wantRoots(n, l) {
				want, wantCode := wantValuation(x, l, r)
				got, code := impl.ValuationAt(x, l, r)
				wantWhole(t, fmt.Sprint("ValuationAt ", spell(x)+" ", l, r), got, code, want, wantCode)
				codes[code]++
			}
		}
	})
	for _, code := range []int64{impl.ErrNone, impl.ErrState, impl.ErrLimit} {
		if codes[code] < 100 {
			t.Errorf("the code %d is there %d times", code, codes[code])
		}
	}
}

// Valuations are told if they are less than the greatest k for which l^k is within the limit.
func TestValuationsAtTheLimit(t *testing.T) {
	everyPlace(func(n int64, l int64, r int64) {
		most := mostPowers[l]
		for k := range most + 1 {
			// The number l^k, and the same beside a number whose valuation is not told.
			power := bigPower(l, k).Int64()
			whole := number(n, power)
			beyond, _ := wantOfList(n, []int64{-wantLifted(l, r, most).Int64(), 1})
			shifted, _ := wantSum(beyond, whole, 1)
			if isNought(shifted) {
				shifted = whole
			}
			want, wantCode := k, int64(impl.ErrNone)
			if k == most {
				want, wantCode = 0, impl.ErrLimit
			}
			for _, x := range []impl.Cyclo{whole, number(n, -power), shifted} {
				got, code := impl.ValuationAt(x, l, r)
				wantWhole(t, fmt.Sprint("ValuationAt ", spell(x)+" ", l, r), got, code, want, wantCode)
			}
		}
	})
	for _, c := range []struct {
		text            string
		l, r, valuation int64
		code            int64
	}{
		{"4@3:4", 5, 3, 2, impl.ErrNone},
		{"4@3:4", 5, 2, 0, impl.ErrNone},
		{"4@0:0", 5, 2, 0, impl.ErrState},
		{"1@0", 3, 1, 0, impl.ErrState},
		{"1@129140163", 3, 1, 17, impl.ErrNone},
		{"1@258280326", 3, 1, 17, impl.ErrNone},
		{"1@387420489", 3, 1, 0, impl.ErrLimit},
		{"2@-774840978", 3, 2, 0, impl.ErrLimit},
		{"1@13845841", 61, 1, 4, impl.ErrNone},
		{"1@844596301", 61, 1, 0, impl.ErrLimit},
		{"1@1000000000", 5, 1, 9, impl.ErrNone},
		{"2@-1000000000", 5, 4, 9, impl.ErrNone},
		{"1@1000000000", 3, 1, 0, impl.ErrNone},
		{"4@1000000000:1000000000", 5, 3, 9, impl.ErrNone},
		{"4@0:-1", 5, 3, 0, impl.ErrNone},
	} {
		got, code := impl.ValuationAt(parsed(t, c.text), c.l, c.r)
		wantWhole(t, fmt.Sprint("ValuationAt ", c.text+" ", c.l, c.r), got, code, c.valuation, c.code)
	}
}

// Promise 7: valuations of products are sums. Those at all places of l add up to that of the norm.
func TestValuationsOfProducts(t *testing.T) {
	var s sequence
	greatest := int64(0)
	everyGroup(func(l int64, n int64) {
		roots := wantRoots(n, l)
		for i, r := range roots {
			// Numbers in the place of r, and in another one, with small and with greater valuations.
			other := roots[(i+1)%len(roots)]
			for _, k := range []int64{1, 2} {
				a, _ := wantOfList(n, []int64{-wantLifted(l, r, k).Int64(), 1})
				b, _ := wantOfList(n, []int64{-wantLifted(l, other, k).Int64(), 1})
				list := []impl.Cyclo{a, b, number(n, l), s.cyclo(n, 3), s.cyclo(n, 1000)}
				for j, x := range list {
					for _, y := range list[j:] {
						greatest = max(greatest, checkValuations(t, x, y, l, r))
					}
				}
			}
		}
		for _, x := range []impl.Cyclo{number(n, l), s.cyclo(n, 3), s.cyclo(n, 60)} {
			checkNormValuation(t, x, l)
		}
	})
	if greatest < 4 {
		t.Errorf("the greatest valuation is %d", greatest)
	}
}

// checkValuations checks the valuation of the product of two numbers, and returns it.
func checkValuations(t *testing.T, x impl.Cyclo, y impl.Cyclo, l int64, r int64) int64 {
	t.Helper()
	product, code := impl.MultiplyCyclos(x, y)
	first, firstCode := impl.ValuationAt(x, l, r)
	second, secondCode := impl.ValuationAt(y, l, r)
	if code != impl.ErrNone || firstCode != impl.ErrNone || secondCode != impl.ErrNone {
		return 0
	}
	got, code := impl.ValuationAt(product, l, r)
	wantWhole(t, fmt.Sprint("ValuationAt of ", spell(x), " times ", spell(y)+" ", l, r), got, code, first+second, impl.ErrNone)
	return got
}

// checkNormValuation checks that the valuations of a number at all places of l make up its norm's.
func checkNormValuation(t *testing.T, x impl.Cyclo, l int64) {
	t.Helper()
	if isNought(x) {
		return
	}
	sum := int64(0)
	for _, r := range wantRoots(x.Order, l) {
		valuation, code := impl.ValuationAt(x, l, r)
		if code != impl.ErrNone {
			t.Errorf("ValuationAt %s %d %d = %d", spell(x)+" ", l, r, code)
		}
		sum += valuation
	}
	if want := bigValuation(matrixOf(x).determinant(), l); sum != want {
		t.Errorf("the valuations of %s at %d add up to %d, not %d", spell(x)+" ", l, sum, want)
	}
}

func TestSymbolsAtPlaces(t *testing.T) {
	var s sequence
	everyPlace(func(n int64, l int64, r int64) {
		found := map[int64]bool{}
		list := []impl.Cyclo{number(n), number(n, l), number(n, -l*l), s.cyclo(n, top), s.cyclo(n, 50)}
		for a := int64(1); a < l; a++ {
			list = append(list, number(n, a), number(n, a-l))
		}
		in, _ := wantOfList(n, []int64{-r, 1})
		for _, x := range append(list, in) {
			want, wantCode := wantSymbolAt(x, l, r)
			got, code := impl.SymbolAt(x, l, r)
			wantWhole(t, fmt.Sprint("SymbolAt ", spell(x)+" ", l, r), got, code, want, wantCode)
			if code == impl.ErrNone {
				found[got] = true
			}
		}
		if int64(len(found)) != n {
			t.Errorf("the symbols at %d %d %d are %v", n, l, r, found)
		}
	})
	for _, c := range []struct {
		text               string
		l, r, symbol, code int64
	}{
		{"3@2:0", 7, 2, 2, impl.ErrNone},
		{"3@2:0", 7, 4, 1, impl.ErrNone},
		{"3@1:0", 7, 2, 0, impl.ErrNone},
		{"3@-1:0", 7, 2, 0, impl.ErrNone},
		{"3@5:1", 7, 2, 0, impl.ErrState},
		{"4@2:3", 13, 8, 0, impl.ErrState},
		{"4@2:3", 13, 5, 2, impl.ErrNone},
		{"4@2:0", 13, 5, 3, impl.ErrNone},
		{"4@2:0", 13, 8, 1, impl.ErrNone},
		{"4@0:0", 13, 5, 0, impl.ErrState},
		{"1@5", 61, 1, 0, impl.ErrNone},
		{"1@-61", 61, 1, 0, impl.ErrState},
		{"2@2", 7, 6, 0, impl.ErrNone},
		{"2@3", 7, 6, 1, impl.ErrNone},
		{"2@-1", 7, 6, 1, impl.ErrNone},
		{"16@3:0:0:0:0:0:0:0", 17, 3, 1, impl.ErrNone},
		{"16@-1:0:0:0:0:0:0:0", 17, 3, 8, impl.ErrNone},
		{"16@6:0:0:0:0:0:0:0", 17, 3, 15, impl.ErrNone},
	} {
		got, code := impl.SymbolAt(parsed(t, c.text), c.l, c.r)
		wantWhole(t, fmt.Sprint("SymbolAt ", c.text+" ", c.l, c.r), got, code, c.symbol, c.code)
	}
}

// The guarantee: symbols of products are sums modulo n. For n = 2 they tell the symbols of Legendre.
func TestSymbolsOfProducts(t *testing.T) {
	var s sequence
	everyPlace(func(n int64, l int64, r int64) {
		for range 4 {
			x, y := s.cyclo(n, 9000), s.cyclo(n, 9000)
			product, _ := impl.MultiplyCyclos(x, y)
			a, code := impl.SymbolAt(x, l, r)
			b, otherCode := impl.SymbolAt(y, l, r)
			want, wantCode := (a+b)%n, max(code, otherCode)
			if wantCode != impl.ErrNone {
				want = 0
			}
			got, code := impl.SymbolAt(product, l, r)
			wantWhole(t, fmt.Sprint("SymbolAt of ", spell(x), " times ", spell(y)+" ", l, r), got, code, want, wantCode)
		}
	})
	for l := range mostPowers {
		for a := int64(1); a < l; a++ {
			symbol, _ := impl.LegendreSymbol(l, a)
			got, code := impl.SymbolAt(number(2, a), l, l-1)
			wantWhole(t, fmt.Sprint("SymbolAt ", a, l), got, code, (1-symbol)/2, impl.ErrNone)
		}
	}
}

// Promise 16: residues at moved places are those of Galois images.
func TestMovePlace(t *testing.T) {
	var s sequence
	everyPlace(func(n int64, l int64, r int64) {
		units := unitsOf(n)
		reached := []int64{}
		for _, a := range append([]int64{100, n + 1 + n%2, 2*n + 1, 1 - n}, numbersAround(n)...) {
			what := fmt.Sprint("MovePlace ", n, l, r, a)
			moved, code := impl.MovePlace(n, l, r, a)
			if !slices.Contains(units, a) {
				wantWhole(t, what, moved, code, 0, impl.ErrRange)
				continue
			}
			wantWhole(t, what, moved, code, powerModulo(r, a, l), impl.ErrNone)
			reached = append(reached, moved)
			for _, x := range []impl.Cyclo{s.cyclo(n, 1), s.cyclo(n, 500), s.cyclo(n, top/20)} {
				image, code := impl.GaloisImage(x, a)
				if code != impl.ErrNone {
					t.Fatalf("%s: no image of %s", what, spell(x))
				}
				want, _ := impl.ResidueAt(image, l, r)
				got, code := impl.ResidueAt(x, l, moved)
				wantWhole(t, what+" and the residue of "+spell(x), got, code, want, impl.ErrNone)
				wantWhole(t, what+" and the residue of "+spell(x), got, code, wantResidue(x, l, moved), impl.ErrNone)
			}
		}
		slices.Sort(reached)
		wantNumbers(t, fmt.Sprint("all moved places ", n, l, r), reached, impl.ErrNone, wantRoots(n, l), impl.ErrNone)
	})
	for _, c := range [][6]int64{
		{4, 13, 8, 3, 5, impl.ErrNone}, {4, 13, 8, 1, 8, impl.ErrNone}, {4, 13, 8, 2, 0, impl.ErrRange},
		{4, 13, 8, 4, 0, impl.ErrRange}, {4, 13, 8, 5, 0, impl.ErrRange}, {4, 13, 8, 0, 0, impl.ErrRange},
		{4, 13, 8, -1, 0, impl.ErrRange}, {1, 3, 1, 1, 1, impl.ErrNone}, {1, 3, 1, 2, 0, impl.ErrRange},
		{1, 3, 1, 0, 0, impl.ErrRange}, {2, 3, 2, 1, 2, impl.ErrNone}, {2, 3, 2, 2, 0, impl.ErrRange},
		{2, 3, 2, 3, 0, impl.ErrRange}, {16, 17, 3, 15, 6, impl.ErrNone}, {16, 17, 3, 16, 0, impl.ErrRange},
		{15, 31, 7, 14, 9, impl.ErrNone}, {15, 31, 7, 15, 0, impl.ErrRange}, {15, 31, 7, 10, 0, impl.ErrRange},
	} {
		got, code := impl.MovePlace(c[0], c[1], c[2], c[3])
		wantWhole(t, fmt.Sprint("MovePlace ", c[:4]), got, code, c[4], c[5])
	}
}

// Promise 7: numbers at residues have these residues. There is just one with Parts in 0..l - 1.
func TestCycloAtResidues(t *testing.T) {
	var s sequence
	everyGroup(func(l int64, n int64) {
		roots := wantRoots(n, l)
		lists := [][]int64{make([]int64, len(roots)), slices.Repeat([]int64{1}, len(roots)), slices.Repeat([]int64{l - 1}, len(roots)), roots}
		for i := range roots {
			lists = append(lists, periodAlone(int64(len(roots)), int64(i)))
		}
		for range 5 {
			list := s.list(len(roots), 1000)
			for i := range list {
				list[i] = rest(list[i], l)
			}
			lists = append(lists, list)
		}
		for _, list := range lists {
			what := fmt.Sprint("CycloAtResidues ", n, l, list)
			x, code := impl.CycloAtResidues(n, l, list)
			if code != impl.ErrNone || !impl.IsCyclo(x) || x.Order != n || slices.Min(x.Parts) < 0 || slices.Max(x.Parts) >= l {
				t.Fatalf("%s = %v, %d", what, x, code)
			}
			for i, r := range roots {
				got, code := impl.ResidueAt(x, l, r)
				wantWhole(t, what+" has residues", got, code, list[i], impl.ErrNone)
				wantWhole(t, what+" has residues", got, code, wantResidue(x, l, r), impl.ErrNone)
			}
		}
		for range 5 {
			x := s.cyclo(n, 1000)
			residues := []int64{}
			for i := range x.Parts {
				x.Parts[i] = rest(x.Parts[i], l)
			}
			for _, r := range roots {
				residues = append(residues, wantResidue(x, l, r))
			}
			got, code := impl.CycloAtResidues(n, l, residues)
			wantCyclo(t, fmt.Sprint("CycloAtResidues ", n, l, residues), got, code, x, impl.ErrNone)
		}
	})
}

func TestPlainCyclosAtResidues(t *testing.T) {
	for _, c := range []struct {
		n, l int64
		list []int64
		text string
	}{
		{4, 13, []int64{4, 0}, "4@2:3"}, {4, 13, []int64{0, 4}, "4@2:10"}, {4, 13, []int64{5, 8}, "4@0:1"},
		{4, 13, []int64{8, 5}, "4@0:12"}, {4, 13, []int64{0, 0}, "4@0:0"}, {4, 13, []int64{12, 12}, "4@12:0"},
		{1, 3, []int64{2}, "1@2"}, {1, 61, []int64{60}, "1@60"}, {2, 3, []int64{1}, "2@1"}, {2, 61, []int64{0}, "2@0"},
		{3, 7, []int64{1, 3}, "3@6:1"}, {16, 17, []int64{3, 5, 6, 7, 10, 11, 12, 14}, "16@0:1:0:0:0:0:0:0"},
		{5, 11, []int64{9, 5, 3, 4}, "5@0:0:1:0"},
	} {
		x, code := impl.CycloAtResidues(c.n, c.l, c.list)
		wantText(t, fmt.Sprint("CycloAtResidues ", c.n, c.l, c.list), x, code, c.text)
	}
}

// Lists have as many residues as there are roots, all in 0..l - 1.
func TestWrongResidues(t *testing.T) {
	everyGroup(func(l int64, n int64) {
		count := len(wantRoots(n, l))
		lists := [][]int64{nil, {}, make([]int64, count-1), make([]int64, count+1), make([]int64, count+17)}
		if int64(count) != n {
			lists = append(lists, make([]int64, n))
		}
		for i := range count {
			for _, residue := range append([]int64{-1, l, l + 1, -l, 1 - l}, extremes...) {
				list := make([]int64, count)
				list[i] = residue
				lists = append(lists, list)
			}
		}
		for _, list := range lists {
			x, code := impl.CycloAtResidues(n, l, list)
			wantError(t, fmt.Sprint("CycloAtResidues ", n, l, list), x, code, impl.ErrRange)
		}
	})
	// Nothing is told if l is no prime that splits fully, or n is no order.
	everySplitting(func(n int64, l int64, isTold bool, isFull bool) {
		if isFull {
			return
		}
		lists := [][]int64{nil, {0}, {0, 0}}
		if n >= 1 && n <= impl.MaxOrder {
			lists = append(lists, number(n).Parts)
		}
		for _, list := range lists {
			x, code := impl.CycloAtResidues(n, l, list)
			wantError(t, fmt.Sprint("CycloAtResidues ", n, l, list), x, code, impl.ErrRange)
		}
	})
}

// Places need an order, a prime that splits fully for it, and one of the roots.
func TestWrongPlaces(t *testing.T) {
	var s sequence
	everyGroup(func(l int64, n int64) {
		for _, r := range wrongRoots(n, l) {
			for _, x := range []impl.Cyclo{number(n), number(n, 1), s.cyclo(n, top)} {
				checkNoPlace(t, x, l, r, impl.ErrRange)
			}
			checkNoRoot(t, n, l, r)
		}
	})
	everySplitting(func(n int64, l int64, isTold bool, isFull bool) {
		if isFull {
			return
		}
		for _, r := range []int64{1, 2, l - 1, 0, -1, l} {
			checkNoRoot(t, n, l, r)
			if n < 1 || n > impl.MaxOrder {
				continue
			}
			for _, x := range []impl.Cyclo{number(n), number(n, 1), s.cyclo(n, top)} {
				checkNoPlace(t, x, l, r, impl.ErrRange)
				list, code := impl.PlacesWith(x, l)
				wantNumbers(t, fmt.Sprint("PlacesWith ", x, l), list, code, nil, impl.ErrRange)
			}
		}
	})
	for _, n := range wrongOrders() {
		for _, l := range []int64{3, 7, 61, n + 1} {
			checkNoRoot(t, n, l, 1)
		}
	}
}

// What is no number comes first, then what is no place, then 0 and numbers in the place.
func TestOrderOfErrorsAtPlaces(t *testing.T) {
	for _, bad := range noNumbers() {
		for _, c := range [][2]int64{{7, 2}, {13, 5}, {3, 1}, {61, 60}, {7, 0}, {4, 1}, {0, 0}, {-3, 1}, {67, 1}, {-1 << 63, -1 << 63}} {
			checkNoPlace(t, bad, c[0], c[1], impl.ErrInvalid)
			list, code := impl.PlacesWith(bad, c[0])
			wantNumbers(t, fmt.Sprint("PlacesWith ", bad, c[0]), list, code, nil, impl.ErrInvalid)
		}
	}
	everyPlace(func(n int64, l int64, r int64) {
		in, _ := wantOfList(n, []int64{-wantLifted(l, r, mostPowers[l]).Int64(), 1})
		for _, x := range []impl.Cyclo{number(n), number(n, bigPower(l, mostPowers[l]).Int64()), in} {
			checkNoPlace(t, x, l, r+l, impl.ErrRange)
			checkNoPlace(t, x, l, 0, impl.ErrRange)
			checkNoPlace(t, x, l+1, r, impl.ErrRange)
			symbol, code := impl.SymbolAt(x, l, r)
			wantWhole(t, fmt.Sprint("SymbolAt ", spell(x)+" ", l, r), symbol, code, 0, impl.ErrState)
		}
		valuation, code := impl.ValuationAt(number(n), l, r)
		wantWhole(t, fmt.Sprint("ValuationAt 0 ", n, l, r), valuation, code, 0, impl.ErrState)
	})
}

// Results are new memory, and arguments and their spare capacity stay as they are.
func TestMemoryAtPlaces(t *testing.T) {
	x, all := padded(number(4, 2, 3))
	residues := slices.Repeat([]int64{77}, 16)
	copy(residues, []int64{4, 0})
	before, residuesBefore := slices.Clone(all), slices.Clone(residues)
	calls := map[string]func() ([]int64, int64){
		"SplittingOf":  func() ([]int64, int64) { return impl.SplittingOf(12, 3) },
		"RootsFor":     func() ([]int64, int64) { return impl.RootsFor(4, 13) },
		"PlacesWith":   func() ([]int64, int64) { return impl.PlacesWith(x, 13) },
		"PlacesWith 0": func() ([]int64, int64) { return impl.PlacesWith(number(4), 13) },
	}
	for what, n := range map[string]int64{"the order 4": 4, "the order 1": 1, "the order 2": 2} {
		list := residues[:len(phis[n])-1]
		calls["CycloAtResidues of "+what] = func() ([]int64, int64) {
			got, code := impl.CycloAtResidues(n, 13, list)
			return got.Parts, code
		}
	}
	wantNewLists(t, calls, func() bool {
		return slices.Equal(all, before) && slices.Equal(residues, residuesBefore)
	})
	for range 2 {
		got, code := impl.ResidueAt(x, 13, 5)
		wantWhole(t, "ResidueAt", got, code, 4, impl.ErrNone)
		got, code = impl.ValuationAt(x, 13, 8)
		wantWhole(t, "ValuationAt", got, code, 1, impl.ErrNone)
		got, code = impl.SymbolAt(x, 13, 5)
		wantWhole(t, "SymbolAt", got, code, 2, impl.ErrNone)
	}
	if !slices.Equal(all, before) {
		t.Errorf("a number was changed: %v", all)
	}
}

// No goroutine of a call is left behind.
func TestPlacesLeaveNothingBehind(t *testing.T) {
	before := runtime.NumGoroutine()
	for range 200 {
		impl.LiftedRoot(4, 5, 2, 12)
		impl.LiftedRoot(4, 5, 2, 1)
		impl.LiftedRoot(4, 5, 2, 13)
		impl.LiftedRoot(4, 5, 1, 3)
		impl.ValuationAt(number(4, 3, 4), 5, 3)
		impl.ValuationAt(number(4, 3, 4), 5, 2)
		impl.ValuationAt(number(4), 5, 3)
		impl.ValuationAt(number(1, 387420489), 3, 1)
	}
	// What has sent its last root may need a moment to end.
	for range 1000 {
		if runtime.NumGoroutine() <= before {
			return
		}
		time.Sleep(time.Millisecond)
	}
	t.Errorf("there are %d goroutines, and were %d", runtime.NumGoroutine(), before)
}
