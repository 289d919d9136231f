package tests

import (
	"fmt"
	"slices"
	"testing"

	"loop.example/g01313/impl"
)

func TestIsCubicNumber(t *testing.T) {
	if impl.MaxEisen != 10000 {
		t.Errorf("the limit is %d", impl.MaxEisen)
	}
	everyCubic(func(x pair) {
		if !impl.IsCubicNumber(x.cyclo()) {
			t.Errorf("%v is no cubic number", x)
		}
	})
	for _, x := range []pair{{10000, 10000}, {-10000, 10000}, {10000, -10000}, {-10000, -10000}, {0, 10000}, {-10000, 0}, {0, 0}} {
		if !impl.IsCubicNumber(x.cyclo()) {
			t.Errorf("%v is no cubic number", x)
		}
	}
	for _, x := range noCubics() {
		if impl.IsCubicNumber(x) {
			t.Errorf("%v is a cubic number", x)
		}
	}
}

// Norms are those of chapter 2, too.
func TestNormsOfCubics(t *testing.T) {
	everyCubic(func(x pair) {
		got, code := impl.NormOfCubic(x.cyclo())
		wantWhole(t, fmt.Sprint("NormOfCubic ", x), got, code, x.norm(), impl.ErrNone)
		norm, code := impl.NormOf(x.cyclo())
		wantWhole(t, fmt.Sprint("NormOf ", x), norm, code, got, impl.ErrNone)
	})
	for _, c := range []struct {
		x    pair
		norm int64
	}{
		{pair{0, 0}, 0}, {pair{1, 0}, 1}, {pair{0, -1}, 1}, {pair{-1, -1}, 1}, {pair{1, -1}, 3}, {pair{2, 1}, 3}, {pair{2, 0}, 4},
		{pair{5, 2}, 19}, {pair{3, 1}, 7}, {pair{10000, 0}, 100000000}, {pair{10000, 10000}, 100000000},
		{pair{10000, -10000}, 300000000}, {pair{-10000, 10000}, 300000000},
	} {
		got, code := impl.NormOfCubic(c.x.cyclo())
		wantWhole(t, fmt.Sprint("NormOfCubic ", c.x), got, code, c.norm, impl.ErrNone)
	}
}

// The guarantee: norms of products are products.
func TestNormsOfProductsOfCubics(t *testing.T) {
	var s sequence
	for range 500 {
		x, y := s.pair(50), s.pair(60)
		product, code := impl.MultiplyCyclos(x.cyclo(), y.cyclo())
		wantCyclo(t, fmt.Sprint("the product of ", x, y), product, code, x.times(y).cyclo(), impl.ErrNone)
		first, _ := impl.NormOfCubic(x.cyclo())
		second, _ := impl.NormOfCubic(y.cyclo())
		got, code := impl.NormOfCubic(product)
		wantWhole(t, fmt.Sprint("the norm of the product of ", x, y), got, code, first*second, impl.ErrNone)
	}
}

// checkAssociate checks the only associate of x that is as told, or that there is none.
func checkAssociate(t *testing.T, what string, call func(impl.Cyclo) (impl.Cyclo, int64), x pair, isTold func(pair) bool) {
	t.Helper()
	what = fmt.Sprint(what, " ", x)
	got, code := call(x.cyclo())
	list := x.associates(isTold)
	if x == (pair{}) || len(list) == 0 {
		wantError(t, what, got, code, impl.ErrState)
		return
	}
	if len(list) != 1 {
		t.Fatalf("%s: there are %v", what, list)
	}
	want, wantCode := list[0].told()
	wantCyclo(t, what, got, code, want, wantCode)
	if code != impl.ErrNone {
		return
	}
	// The guarantee: it is associate to the number, and its own one.
	yes, code := impl.AreAssociate(x.cyclo(), got)
	wantAnswer(t, what+" is associate", yes, code, true, impl.ErrNone)
	again, code := call(got)
	wantCyclo(t, what+" again", again, code, want, impl.ErrNone)
}

func TestChosenAndPrimaryAssociates(t *testing.T) {
	everyCubic(func(x pair) {
		checkAssociate(t, "ChosenAssociate", impl.ChosenAssociate, x, isChosen)
		checkAssociate(t, "PrimaryAssociate", impl.PrimaryAssociate, x, isPrimary)
		if (len(x.associates(isPrimary)) == 0) != (x.norm()%3 == 0) {
			t.Errorf("%v has the primary associates %v", x, x.associates(isPrimary))
		}
	})
	for _, c := range []struct {
		x, chosen, primary string
	}{
		{"3@1:0", "3@1:0", "3@-1:0"}, {"3@-1:0", "3@1:0", "3@-1:0"}, {"3@0:1", "3@1:0", "3@-1:0"},
		{"3@0:-1", "3@1:0", "3@-1:0"}, {"3@-1:-1", "3@1:0", "3@-1:0"}, {"3@1:1", "3@1:0", "3@-1:0"},
		{"3@1:-1", "3@2:1", ""}, {"3@-2:-1", "3@2:1", ""}, {"3@3:0", "3@3:0", ""}, {"3@2:0", "3@2:0", "3@2:0"},
		{"3@0:2", "3@2:0", "3@2:0"}, {"3@3:1", "3@3:1", "3@2:3"}, {"3@3:2", "3@3:2", "3@-1:-3"}, {"3@-2:3", "3@5:2", "3@2:-3"}, {"3@5:3", "3@5:3", "3@5:3"},
		{"3@7:0", "3@7:0", "3@-7:0"}, {"3@10000:0", "3@10000:0", "3@-10000:0"}, {"3@10000:10000", "3@10000:0", "3@-10000:0"},
		{"3@5000:-5000", "3@10000:5000", ""}, {"3@9999:-1", "3@10000:9999", "3@-10000:-9999"},
		{"3@9998:10000", "3@10000:2", ""}, {"3@4999:10000", "3@10000:5001", "3@-10000:-5001"}, {"3@-9999:1", "3@10000:9999", "3@-10000:-9999"},
	} {
		got, code := impl.ChosenAssociate(parsed(t, c.x))
		wantText(t, "ChosenAssociate "+c.x, got, code, c.chosen)
		got, code = impl.PrimaryAssociate(parsed(t, c.x))
		if c.primary == "" {
			wantError(t, "PrimaryAssociate "+c.x, got, code, impl.ErrState)
			continue
		}
		wantText(t, "PrimaryAssociate "+c.x, got, code, c.primary)
	}
}

// Associates may have Parts of up to twice the limit.
func TestAssociatesBeyondTheLimit(t *testing.T) {
	for _, text := range []string{"3@10000:-10000", "3@-10000:10000", "3@5001:-5000", "3@-5000:5001", "3@10000:-1", "3@-1:10000", "3@1:-10000"} {
		got, code := impl.ChosenAssociate(parsed(t, text))
		wantError(t, "ChosenAssociate "+text, got, code, impl.ErrLimit)
	}
	// The primary associates are 10001 + 3 z, 2 + 10002 z, -4 - 10002 z and -10003 - 3 z.
	for _, text := range []string{"3@-3:9998", "3@10000:-2", "3@-9998:4", "3@3:-10000"} {
		got, code := impl.PrimaryAssociate(parsed(t, text))
		wantError(t, "PrimaryAssociate "+text, got, code, impl.ErrLimit)
	}
	limits := 0
	for _, x := range edgePairs() {
		if list := x.associates(isPrimary); x != (pair{}) && len(list) == 1 {
			if _, code := list[0].told(); code == impl.ErrLimit {
				limits++
			}
		}
	}
	if limits < 20 {
		t.Errorf("%d primary associates are beyond the limit", limits)
	}
}

func TestAreAssociate(t *testing.T) {
	pairsWithin(4, func(x pair) {
		pairsWithin(6, func(y pair) {
			want := slices.Contains(x.associates(func(pair) bool { return true }), y)
			yes, code := impl.AreAssociate(x.cyclo(), y.cyclo())
			wantAnswer(t, fmt.Sprint("AreAssociate ", x, y), yes, code, want, impl.ErrNone)
		})
	})
	// Those of chapter 2 are the same.
	var s sequence
	for range 300 {
		x := s.pair(5000)
		for _, y := range append(x.associates(func(pair) bool { return true }), s.pair(5000), pair{x[1], x[0]}, pair{x[0] - x[1], -x[1]}) {
			want, code := impl.AreAssociated(x.cyclo(), y.cyclo())
			if code != impl.ErrNone {
				continue
			}
			yes, code := impl.AreAssociate(x.cyclo(), y.cyclo())
			wantAnswer(t, fmt.Sprint("AreAssociate ", x, y), yes, code, want, impl.ErrNone)
		}
	}
	for _, c := range []struct {
		x, y string
		want bool
	}{
		{"3@0:0", "3@0:0", true}, {"3@0:0", "3@1:0", false}, {"3@1:0", "3@0:0", false}, {"3@1:0", "3@0:1", true},
		{"3@3:1", "3@3:2", false}, {"3@1:-1", "3@2:1", true}, {"3@5:2", "3@-2:3", true}, {"3@5:0", "3@7:0", false},
		{"3@10000:10000", "3@0:10000", true}, {"3@10000:-10000", "3@-10000:10000", true}, {"3@7:0", "3@8:3", false},
		{"3@10000:-10000", "3@10000:10000", false},
	} {
		yes, code := impl.AreAssociate(parsed(t, c.x), parsed(t, c.y))
		wantAnswer(t, "AreAssociate "+c.x+" "+c.y, yes, code, c.want, impl.ErrNone)
	}
}

// checkCubicDivision checks the quotient and the rest of x by y, and returns the code.
func checkCubicDivision(t *testing.T, x pair, y pair) int64 {
	t.Helper()
	what := fmt.Sprint("DivideCubic ", x, y)
	quotient, left, code := impl.DivideCubic(x.cyclo(), y.cyclo())
	if y == (pair{}) {
		wantError(t, what, quotient, code, impl.ErrState)
		wantError(t, what, left, code, impl.ErrState)
		return code
	}
	q, r := x.dividedBy(y)
	want, wantCode := q.told()
	wantLeft, leftCode := r.told()
	if max(wantCode, leftCode) != impl.ErrNone {
		wantError(t, what, quotient, code, impl.ErrLimit)
		wantError(t, what, left, code, impl.ErrLimit)
		return code
	}
	wantCyclo(t, what, quotient, code, want, impl.ErrNone)
	wantCyclo(t, what, left, code, wantLeft, impl.ErrNone)
	if code != impl.ErrNone {
		return code
	}
	// The guarantee: the rest has a lesser norm, and leads back with the quotient.
	norm, _ := impl.NormOfCubic(left)
	below, _ := impl.NormOfCubic(y.cyclo())
	product, _ := impl.MultiplyCyclos(quotient, y.cyclo())
	sum, _ := impl.AddCyclos(product, left, 1)
	if norm >= below || !sameCyclo(sum, x.cyclo()) {
		t.Errorf("%s = %v, %v: leads to %v", what, quotient, left, sum)
	}
	return code
}

func TestDivideCubic(t *testing.T) {
	pairsWithin(6, func(x pair) {
		pairsWithin(6, func(y pair) {
			checkCubicDivision(t, x, y)
		})
	})
	var s sequence
	codes := map[int64]int{}
	for _, limit := range []int64{10, 100, 1000, impl.MaxEisen} {
		for range 500 {
			codes[checkCubicDivision(t, s.pair(impl.MaxEisen), s.pair(limit))]++
			codes[checkCubicDivision(t, s.pair(limit), s.pair(impl.MaxEisen))]++
			// A number that is divided, and such that are not far from it.
			x, y := s.pair(99), s.pair(30)
			codes[checkCubicDivision(t, x.times(y), y)]++
			codes[checkCubicDivision(t, x.times(y).less(pair{1, 0}), y)]++
		}
	}
	for _, x := range edgePairs() {
		for _, y := range edgePairs() {
			codes[checkCubicDivision(t, x, y)]++
		}
	}
	for code, least := range map[int64]int{impl.ErrNone: 100000, impl.ErrLimit: 500, impl.ErrState: 100} {
		if codes[code] < least {
			t.Errorf("the code %d is there %d times", code, codes[code])
		}
	}
}

func TestPlainDivisions(t *testing.T) {
	for _, c := range []struct{ x, y, quotient, rest string }{
		{"3@5:2", "3@2:1", "3@2:0", "3@1:0"},
		{"3@0:0", "3@2:1", "3@0:0", "3@0:0"},
		{"3@5:2", "3@1:0", "3@5:2", "3@0:0"},
		{"3@5:2", "3@5:2", "3@1:0", "3@0:0"},
		{"3@1:0", "3@0:1", "3@-1:-1", "3@0:0"},
		{"3@1:0", "3@100:0", "3@0:0", "3@1:0"},
		{"3@10000:0", "3@-10000:0", "3@-1:0", "3@0:0"},
		// What is just one half is rounded up, also below 0.
		{"3@1:0", "3@2:0", "3@1:0", "3@-1:0"},
		{"3@-1:0", "3@2:0", "3@0:0", "3@-1:0"},
		{"3@3:-3", "3@2:0", "3@2:-1", "3@-1:-1"},
		{"3@5:-5", "3@2:0", "3@3:-2", "3@-1:-1"},
		{"3@0:1", "3@-2:0", "3@0:0", "3@0:1"},
		{"3@0:-1", "3@-2:0", "3@0:1", "3@0:1"},
		{"3@5000:0", "3@10000:0", "3@1:0", "3@-5000:0"},
		{"3@-5000:4999", "3@10000:0", "3@0:0", "3@-5000:4999"},
		{"3@-5001:5000", "3@10000:0", "3@-1:1", "3@4999:-5000"},
		{"3@3:0", "3@4:2", "3@1:0", "3@-1:-2"},
		{"3@-3:0", "3@4:2", "3@0:1", "3@-1:-2"},
		{"3@10000:10000", "3@1:0", "3@10000:10000", "3@0:0"},
	} {
		quotient, left, code := impl.DivideCubic(parsed(t, c.x), parsed(t, c.y))
		wantText(t, "the quotient of "+c.x+" by "+c.y, quotient, code, c.quotient)
		wantText(t, "the rest of "+c.x+" by "+c.y, left, code, c.rest)
	}
	for _, c := range [][2]string{
		{"3@10000:-10000", "3@0:1"}, {"3@10000:-1", "3@1:1"}, {"3@10000:4999", "3@10000:-10000"},
		{"3@-10000:10000", "3@1:1"}, {"3@-10000:10000", "3@0:-1"},
	} {
		quotient, left, code := impl.DivideCubic(parsed(t, c[0]), parsed(t, c[1]))
		wantError(t, fmt.Sprint("the quotient of ", c), quotient, code, impl.ErrLimit)
		wantError(t, fmt.Sprint("the rest of ", c), left, code, impl.ErrLimit)
	}
}

// Both sides of limits are looked for: quotients and rests that are beyond it alone.
func TestDivisionsAtTheLimit(t *testing.T) {
	kinds := map[[2]bool]int{}
	for _, x := range edgePairs() {
		for _, y := range edgePairs() {
			if y == (pair{}) {
				continue
			}
			q, r := x.dividedBy(y)
			_, code := q.told()
			_, leftCode := r.told()
			kinds[[2]bool{code != impl.ErrNone, leftCode != impl.ErrNone}]++
		}
	}
	if kinds[[2]bool{true, false}] < 20 || kinds[[2]bool{false, true}] < 20 {
		t.Errorf("quotients and rests are beyond the limit: %v", kinds)
	}
	halves := map[[2]bool]int{}
	pairsWithin(6, func(x pair) {
		pairsWithin(6, func(y pair) {
			if y == (pair{}) {
				return
			}
			turned, norm := y.timesZ(), y.norm()
			for at, top := range []int64{x[0]*turned[1] - turned[0]*x[1], y[0]*x[1] - x[0]*y[1]} {
				if rest(2*top, 2*norm) == norm {
					halves[[2]bool{at == 0, top < 0}]++
				}
			}
		})
	})
	if len(halves) != 4 {
		t.Errorf("just one half is there so often: %v", halves)
	}
}

// checkGcd checks the greatest common divisor of two numbers, and returns the code.
func checkGcd(t *testing.T, x pair, y pair) int64 {
	t.Helper()
	what := fmt.Sprint("GcdOfCubics ", x, y)
	got, code := impl.GcdOfCubics(x.cyclo(), y.cyclo())
	if x == (pair{}) && y == (pair{}) {
		wantError(t, what, got, code, impl.ErrState)
		return code
	}
	want, wantCode := wantGcd(x, y).told()
	wantCyclo(t, what, got, code, want, wantCode)
	back, code := impl.GcdOfCubics(y.cyclo(), x.cyclo())
	wantCyclo(t, what+" turned", back, code, want, wantCode)
	return code
}

// The guarantee: it divides both, and is divided by each number that does.
func TestGcdByDivisors(t *testing.T) {
	numbers := chosenUpTo(108)
	divisors := map[pair][]pair{}
	pairsWithin(6, func(x pair) {
		for _, one := range numbers {
			if x.isDividedBy(one) {
				divisors[x] = append(divisors[x], one)
			}
		}
	})
	pairsWithin(6, func(x pair) {
		pairsWithin(6, func(y pair) {
			if checkGcd(t, x, y) != impl.ErrNone {
				return
			}
			got, _ := impl.GcdOfCubics(x.cyclo(), y.cyclo())
			gcd := pairOf(got)
			if !isChosen(gcd) || !x.isDividedBy(gcd) || !y.isDividedBy(gcd) {
				t.Errorf("GcdOfCubics %v %v = %v", x, y, gcd)
			}
			for _, one := range divisors[x] {
				if y.isDividedBy(one) && !gcd.isDividedBy(one) {
					t.Errorf("GcdOfCubics %v %v = %v: is not divided by %v", x, y, gcd, one)
				}
			}
		})
	})
}

func TestGcdOfCubics(t *testing.T) {
	var s sequence
	codes := map[int64]int{}
	edges := edgePairs()
	for i, x := range edges {
		codes[checkGcd(t, x, x)]++
		codes[checkGcd(t, x, pair{})]++
		codes[checkGcd(t, x, x.times(cubicUnits[1]))]++
		for j := range 10 {
			codes[checkGcd(t, x, edges[(i*7+j*13)%len(edges)])]++
		}
	}
	for range 300 {
		codes[checkGcd(t, s.pair(impl.MaxEisen), s.pair(impl.MaxEisen))]++
		for _, limit := range []int64{9, 69} {
			common := s.pair(limit)
			codes[checkGcd(t, common.times(s.pair(3333/limit)), common.times(s.pair(3333/limit)))]++
		}
	}
	for code, least := range map[int64]int{impl.ErrNone: 5000, impl.ErrLimit: 100, impl.ErrState: 3} {
		if codes[code] < least {
			t.Errorf("the code %d is there %d times", code, codes[code])
		}
	}
	for _, c := range []struct{ x, y, want string }{
		{"3@6:0", "3@0:3", "3@3:0"}, {"3@0:0", "3@0:3", "3@3:0"}, {"3@0:1", "3@0:0", "3@1:0"}, {"3@1:-1", "3@0:3", "3@2:1"},
		{"3@3:1", "3@3:2", "3@1:0"}, {"3@7:0", "3@3:2", "3@3:2"}, {"3@-7:0", "3@2:3", "3@3:1"}, {"3@10000:0", "3@0:-10000", "3@10000:0"},
		{"3@10000:10000", "3@4096:0", "3@16:0"}, {"3@10000:-10000", "3@6:0", "3@4:2"}, {"3@9999:0", "3@10000:0", "3@1:0"},
		{"3@5000:-5000", "3@0:0", "3@10000:5000"},
	} {
		got, code := impl.GcdOfCubics(parsed(t, c.x), parsed(t, c.y))
		wantText(t, "GcdOfCubics "+c.x+" "+c.y, got, code, c.want)
	}
	for _, c := range [][2]string{
		{"3@10000:-10000", "3@10000:-10000"}, {"3@10000:-10000", "3@0:0"}, {"3@0:0", "3@5001:-5000"}, {"3@9000:-2000", "3@-9000:2000"},
	} {
		got, code := impl.GcdOfCubics(parsed(t, c[0]), parsed(t, c[1]))
		wantError(t, fmt.Sprint("GcdOfCubics ", c), got, code, impl.ErrLimit)
	}
	got, code := impl.GcdOfCubics(number(3), number(3))
	wantError(t, "GcdOfCubics of 0 and 0", got, code, impl.ErrState)
}

func TestCubicPrimes(t *testing.T) {
	everyCubic(func(x pair) {
		yes, code := impl.IsCubicPrime(x.cyclo())
		wantAnswer(t, fmt.Sprint("IsCubicPrime ", x), yes, code, x.isPrime(), impl.ErrNone)
	})
	// All prime numbers with the rest 2 by 3 are prime, and no other prime numbers.
	sieve := primeNumbers(impl.MaxEisen)
	for p := int64(0); p <= impl.MaxEisen; p++ {
		for _, unit := range []pair{{1, 0}, {0, -1}, {1, 1}} {
			yes, code := impl.IsCubicPrime(unit.times(pair{p, 0}).cyclo())
			wantAnswer(t, fmt.Sprint("IsCubicPrime ", p, " times ", unit), yes, code, sieve[p] && p%3 == 2, impl.ErrNone)
		}
	}
	for _, c := range []struct {
		text string
		want bool
	}{
		{"3@0:0", false}, {"3@1:0", false}, {"3@0:-1", false}, {"3@1:1", false}, {"3@1:-1", true}, {"3@2:1", true}, {"3@-1:-2", true},
		{"3@3:0", false}, {"3@2:0", true}, {"3@-2:-2", true}, {"3@4:0", false}, {"3@5:2", true}, {"3@7:0", false}, {"3@3:1", true},
		{"3@3:2", true}, {"3@-7:0", false}, {"3@0:-5", true}, {"3@10:0", false}, {"3@4:2", false}, {"3@8:3", false}, {"3@5:3", true},
		{"3@9973:0", false}, {"3@9941:0", true}, {"3@9941:9941", true}, {"3@10000:0", false}, {"3@10000:1", true},
		{"3@10000:-10000", false}, {"3@10000:-9999", false},
	} {
		yes, code := impl.IsCubicPrime(parsed(t, c.text))
		wantAnswer(t, "IsCubicPrime "+c.text, yes, code, c.want, impl.ErrNone)
	}
}

// primeNumbers tells for 0, .., limit which of them are prime numbers.
func primeNumbers(limit int64) []bool {
	sieve := slices.Repeat([]bool{true}, int(limit+1))
	sieve[0], sieve[1] = false, false
	for d := int64(2); d <= limit; d++ {
		for multiple := 2 * d; sieve[d] && multiple <= limit; multiple += d {
			sieve[multiple] = false
		}
	}
	return sieve
}

// checkFactors checks the factors of x, and returns the code.
func checkFactors(t *testing.T, x pair) int64 {
	t.Helper()
	what := fmt.Sprint("FactorCubic ", x)
	unit, primes, often, code := impl.FactorCubic(x.cyclo())
	count, countCode := impl.CountResidues(x.cyclo())
	if x == (pair{}) {
		wantError(t, what, unit, code, impl.ErrState)
		wantCyclos(t, what, primes, code, nil, impl.ErrState)
		wantNumbers(t, what, often, code, nil, impl.ErrState)
		wantWhole(t, "CountResidues of 0", count, countCode, 0, impl.ErrState)
		return code
	}
	wantUnit, list := x.factored()
	wantCount := int64(1)
	for i, prime := range list {
		if i > 0 && list[i-1] == prime {
			wantCount *= prime.norm()
		} else {
			wantCount *= prime.norm() - 1
		}
	}
	wantWhole(t, fmt.Sprint("CountResidues ", x), count, countCode, wantCount, impl.ErrNone)
	different, wantOften := countedPairs(list)
	wantPrimes := []impl.Cyclo{}
	for _, prime := range different {
		told, primeCode := prime.told()
		if primeCode != impl.ErrNone {
			wantError(t, what, unit, code, impl.ErrLimit)
			wantCyclos(t, what, primes, code, nil, impl.ErrLimit)
			wantNumbers(t, what, often, code, nil, impl.ErrLimit)
			return code
		}
		wantPrimes = append(wantPrimes, told)
	}
	wantCyclo(t, what, unit, code, wantUnit.cyclo(), impl.ErrNone)
	wantCyclos(t, what, primes, code, wantPrimes, impl.ErrNone)
	wantNumbers(t, what, often, code, wantOften, impl.ErrNone)
	if code == impl.ErrNone {
		checkFactorsLeadBack(t, x, unit, primes, often)
	}
	return code
}

// checkFactorsLeadBack checks the promise 9: the unit and the primes multiply to the number.
func checkFactorsLeadBack(t *testing.T, x pair, unit impl.Cyclo, primes []impl.Cyclo, often []int64) {
	t.Helper()
	product := unit
	for i, prime := range primes {
		yes, code := impl.IsCubicPrime(prime)
		wantAnswer(t, fmt.Sprint("IsCubicPrime of a factor of ", x), yes, code, true, impl.ErrNone)
		chosen, code := impl.ChosenAssociate(prime)
		wantCyclo(t, fmt.Sprint("the chosen associate of a factor of ", x), chosen, code, prime, impl.ErrNone)
		if i > 0 && comparePairs(pairOf(primes[i-1]), pairOf(prime)) >= 0 {
			t.Errorf("the factors of %v are not in order: %v", x, primes)
		}
		for range often[i] {
			product, _ = impl.MultiplyCyclos(product, prime)
		}
	}
	wantCyclo(t, fmt.Sprint("the product of the factors of ", x), product, impl.ErrNone, x.cyclo(), impl.ErrNone)
	norm, code := impl.NormOfCubic(unit)
	wantWhole(t, fmt.Sprint("the norm of the unit of ", x), norm, code, 1, impl.ErrNone)
}

func TestFactorCubic(t *testing.T) {
	codes := map[int64]int{}
	everyCubic(func(x pair) {
		codes[checkFactors(t, x)]++
	})
	for code, least := range map[int64]int{impl.ErrNone: 4000, impl.ErrLimit: 10, impl.ErrState: 1} {
		if codes[code] < least {
			t.Errorf("the code %d is there %d times", code, codes[code])
		}
	}
}

func TestPlainFactors(t *testing.T) {
	for _, c := range []struct {
		x, unit string
		primes  []string
		often   []int64
	}{
		{"3@1:0", "3@1:0", nil, nil},
		{"3@0:1", "3@0:1", nil, nil},
		{"3@-1:-1", "3@-1:-1", nil, nil},
		{"3@1:1", "3@1:1", nil, nil},
		{"3@1:-1", "3@0:-1", []string{"3@2:1"}, []int64{1}},
		{"3@3:0", "3@0:-1", []string{"3@2:1"}, []int64{2}},
		{"3@-27:0", "3@1:0", []string{"3@2:1"}, []int64{6}},
		{"3@12:0", "3@0:-1", []string{"3@2:1", "3@2:0"}, []int64{2, 2}},
		{"3@0:-5", "3@0:-1", []string{"3@5:0"}, []int64{1}},
		{"3@7:0", "3@0:-1", []string{"3@3:1", "3@3:2"}, []int64{1, 1}},
		{"3@8192:0", "3@1:0", []string{"3@2:0"}, []int64{13}},
		// The norm 25 of 5 stands behind that of 4 + 3 z, and ahead of that of 6 + z.
		{"3@65:0", "3@0:-1", []string{"3@4:1", "3@4:3", "3@5:0"}, []int64{1, 1, 1}},
		{"3@155:0", "3@0:-1", []string{"3@5:0", "3@6:1", "3@6:5"}, []int64{1, 1, 1}},
		{"3@9240:0", "3@-1:-1", []string{"3@2:1", "3@2:0", "3@3:1", "3@3:2", "3@5:0", "3@11:0"}, []int64{2, 3, 1, 1, 1, 1}},
	} {
		unit, primes, often, code := impl.FactorCubic(parsed(t, c.x))
		want := []impl.Cyclo{}
		for _, text := range c.primes {
			want = append(want, parsed(t, text))
		}
		wantText(t, "the unit of "+c.x, unit, code, c.unit)
		wantCyclos(t, "the primes of "+c.x, primes, code, want, impl.ErrNone)
		wantNumbers(t, "the factors of "+c.x, often, code, c.often, impl.ErrNone)
	}
}

// A prime whose chosen associate has a first Part of MaxEisen is told, one with a greater one is not.
func TestFactorsAtTheLimit(t *testing.T) {
	for first, wantCode := range map[int64]int64{10000: impl.ErrNone, 10001: impl.ErrLimit, 10002: impl.ErrLimit} {
		found := 0
		for b := int64(1); b < first && found < 5; b++ {
			prime := pair{first, b}
			// It is associate to this one, which is within the limit.
			x := pair{-b, first - b}
			if !prime.isPrime() {
				continue
			}
			found++
			if code := checkFactors(t, x); code != wantCode || x.chosen() != prime {
				t.Errorf("FactorCubic %v: %d", x, code)
			}
			yes, code := impl.IsCubicPrime(x.cyclo())
			wantAnswer(t, fmt.Sprint("IsCubicPrime ", x), yes, code, true, impl.ErrNone)
			count, code := impl.CountResidues(x.cyclo())
			wantWhole(t, fmt.Sprint("CountResidues ", x), count, code, x.norm()-1, impl.ErrNone)
		}
		if found != 5 {
			t.Errorf("there are %d primes", found)
		}
	}
}

func TestCountResidues(t *testing.T) {
	for _, x := range chosenUpTo(50) {
		for _, unit := range cubicUnits {
			one := x.times(unit)
			got, code := impl.CountResidues(one.cyclo())
			wantWhole(t, fmt.Sprint("CountResidues ", one), got, code, wantResidueCount(one), impl.ErrNone)
		}
	}
	for _, c := range []struct {
		text  string
		count int64
	}{
		{"3@1:0", 1}, {"3@0:-1", 1}, {"3@-1:-1", 1}, {"3@1:-1", 2}, {"3@2:0", 3}, {"3@3:0", 6}, {"3@4:0", 12}, {"3@7:0", 36},
		{"3@3:1", 6}, {"3@5:0", 24}, {"3@8192:0", 50331648}, {"3@9941:0", 98823480}, {"3@10000:-10000", 144000000},
		{"3@12:0", 72},
	} {
		got, code := impl.CountResidues(parsed(t, c.text))
		wantWhole(t, "CountResidues "+c.text, got, code, c.count, impl.ErrNone)
	}
}

// symbolPrimes are primes whose norms are no multiples of 3: all associates of those with small norms,
// and a few with great ones.
func symbolPrimes() []pair {
	list := []pair{}
	for _, prime := range smallPrimes() {
		if prime.norm() < 130 && prime.norm() != 3 {
			list = append(list, prime.associates(func(pair) bool { return true })...)
		}
	}
	list = append(list, pair{101, 0}, pair{0, -1013}, pair{9941, 9941}, pair{0, 9857})
	var s sequence
	for count := 0; count < 60; {
		if x := s.pair(impl.MaxEisen); x.isPrime() && x.norm() != 3 {
			list = append(list, x)
			count++
		}
	}
	for _, x := range edgePairs() {
		if x.isPrime() && x.norm()%3 != 0 {
			list = append(list, x)
		}
	}
	return list
}

func TestCubicSymbols(t *testing.T) {
	var s sequence
	found := map[int64]int{}
	for _, y := range symbolPrimes() {
		list := []pair{{}, y, {2, 0}, {3, 0}, {1, -1}, {10000, 10000}, {10000, -10000}, {-10000, 10000}, {0, -10000}}
		list = append(list, cubicUnits...)
		for _, limit := range []int64{10, 100, impl.MaxEisen} {
			for range 5 {
				list = append(list, s.pair(limit))
			}
		}
		if y.norm() < 130 {
			list = append(list, y.times(s.pair(300)), y.times(s.pair(300)).less(pair{0, 1}))
			pairsWithin(5, func(x pair) { list = append(list, x) })
		}
		for _, x := range list {
			got, code := impl.CubicSymbol(x.cyclo(), y.cyclo())
			wantWhole(t, fmt.Sprint("CubicSymbol ", x, y), got, code, wantCubicSymbol(x, y), impl.ErrNone)
			if (got == -1) != x.isDividedBy(y) {
				t.Errorf("CubicSymbol %v %v = %d", x, y, got)
			}
			found[got]++
		}
	}
	for symbol := int64(-1); symbol <= 2; symbol++ {
		if found[symbol] < 500 {
			t.Errorf("the symbol %d is there %d times", symbol, found[symbol])
		}
	}
}

func TestPlainSymbols(t *testing.T) {
	for _, c := range []struct {
		x, y   string
		symbol int64
	}{
		{"3@2:0", "3@3:1", 1}, {"3@7:0", "3@3:1", -1}, {"3@3:1", "3@3:1", -1}, {"3@0:0", "3@3:1", -1}, {"3@3:2", "3@3:1", 2},
		{"3@1:0", "3@3:1", 0}, {"3@-1:0", "3@3:1", 0}, {"3@0:1", "3@3:1", 2}, {"3@-1:-1", "3@3:1", 1}, {"3@2:0", "3@3:2", 2},
		{"3@1:0", "3@2:0", 0}, {"3@0:1", "3@2:0", 1}, {"3@-1:-1", "3@2:0", 2}, {"3@3:0", "3@2:0", 0}, {"3@0:2", "3@2:0", -1},
		{"3@0:1", "3@5:0", 2}, {"3@2:0", "3@5:0", 0}, {"3@0:1", "3@11:0", 1}, {"3@0:1", "3@17:0", 0},
		{"3@2:0", "3@0:5", 0}, {"3@10000:0", "3@0:5", -1},
	} {
		got, code := impl.CubicSymbol(parsed(t, c.x), parsed(t, c.y))
		wantWhole(t, "CubicSymbol "+c.x+" "+c.y, got, code, c.symbol, impl.ErrNone)
	}
}

// A symbol is the k for which the power, less z^k, is divided by the prime: with products of chapter 1.
func TestSymbolsByPowers(t *testing.T) {
	for _, y := range symbolPrimes() {
		if y.norm() >= 130 {
			continue
		}
		pairsWithin(3, func(x pair) {
			power := number(3, 1)
			for range (y.norm() - 1) / 3 {
				product, _ := impl.MultiplyCyclos(power, x.cyclo())
				_, power, _ = impl.DivideCubic(product, y.cyclo())
			}
			got, code := impl.CubicSymbol(x.cyclo(), y.cyclo())
			z, _ := impl.PowerOfZ(3, got)
			if got == -1 {
				z = number(3)
			}
			difference, _ := impl.AddCyclos(power, z, -1)
			_, left, divisionCode := impl.DivideCubic(difference, y.cyclo())
			if code != impl.ErrNone || divisionCode != impl.ErrNone || !isNought(left) {
				t.Errorf("CubicSymbol %v %v = %d, %d", x, y, got, code)
			}
		})
	}
}

// The guarantee: symbols of products are sums modulo 3, whatever associate of the prime is taken.
func TestSymbolsOfProductsOfCubics(t *testing.T) {
	var s sequence
	for _, y := range symbolPrimes() {
		for range 20 {
			first, second := s.pair(50), s.pair(60)
			a, code := impl.CubicSymbol(first.cyclo(), y.cyclo())
			b, otherCode := impl.CubicSymbol(second.cyclo(), y.cyclo())
			want := (a + b) % 3
			if a == -1 || b == -1 {
				want = -1
			}
			got, productCode := impl.CubicSymbol(first.times(second).cyclo(), y.cyclo())
			wantWhole(t, fmt.Sprint("CubicSymbol of ", first, " times ", second, " at ", y), got, max(code, otherCode, productCode), want, impl.ErrNone)
			turned := y.times(cubicUnits[3])
			if _, turnedCode := turned.told(); turnedCode != impl.ErrNone {
				continue
			}
			again, code := impl.CubicSymbol(first.cyclo(), turned.cyclo())
			wantWhole(t, fmt.Sprint("CubicSymbol ", first, turned), again, code, a, impl.ErrNone)
		}
	}
}

// Promise 9: primary primes with different norms have the same symbols at each other.
func TestPrimaryPrimes(t *testing.T) {
	list := []impl.Cyclo{}
	for _, prime := range smallPrimes() {
		if prime.norm() < 400 && prime.norm() != 3 {
			primary, code := impl.PrimaryAssociate(prime.cyclo())
			if code != impl.ErrNone || !isPrimary(pairOf(primary)) {
				t.Fatalf("PrimaryAssociate %v = %v, %d", prime, primary, code)
			}
			list = append(list, primary)
		}
	}
	for _, prime := range symbolPrimes() {
		primary, code := impl.PrimaryAssociate(prime.cyclo())
		if prime.norm() >= 400 && code == impl.ErrNone {
			list = append(list, primary)
		}
	}
	found := map[int64]int{}
	for i, x := range list {
		for _, y := range list[:i] {
			if pairOf(x).norm() == pairOf(y).norm() {
				continue
			}
			there, code := impl.CubicSymbol(x, y)
			back, backCode := impl.CubicSymbol(y, x)
			if there != back || there < 0 || there > 2 || code != impl.ErrNone || backCode != impl.ErrNone {
				t.Errorf("the symbols of %v and %v at each other are %d and %d", x, y, there, back)
			}
			found[there]++
		}
	}
	for symbol := range int64(3) {
		if found[symbol] < 1000 {
			t.Errorf("the symbol %d is there %d times", symbol, found[symbol])
		}
	}
}

// Promise 17: symbols at primes whose norms are told in chapter 7 are those at their places.
func TestSymbolsAtCubicPlaces(t *testing.T) {
	var s sequence
	places := 0
	for _, row := range leastRoots {
		p := row[0]
		if p%3 != 1 {
			continue
		}
		primes, code := impl.PrimesOfNorm(p)
		if code != impl.ErrNone || len(primes) != 2 {
			t.Fatalf("PrimesOfNorm %d = %v, %d", p, primes, code)
		}
		for _, prime := range primes {
			for _, y := range pairOf(prime).associates(func(pair) bool { return true }) {
				roots, code := impl.PlacesWith(y.cyclo(), p)
				if code != impl.ErrNone || len(roots) != 1 {
					t.Fatalf("PlacesWith %v %d = %v, %d", y, p, roots, code)
				}
				places++
				check := func(x pair) {
					want, wantCode := impl.SymbolAt(x.cyclo(), p, roots[0])
					if wantCode == impl.ErrState {
						want = -1
					}
					got, code := impl.CubicSymbol(x.cyclo(), y.cyclo())
					wantWhole(t, fmt.Sprint("CubicSymbol ", x, y), got, code, want, impl.ErrNone)
				}
				pairsWithin(6, check)
				for range 40 {
					check(s.pair(impl.MaxEisen))
				}
			}
		}
	}
	if places != 7*2*6 {
		t.Errorf("there are %d places", places)
	}
}

// Symbols are told at primes alone whose norms are no multiples of 3.
func TestWrongPrimesOfSymbols(t *testing.T) {
	wrong := 0
	everyCubic(func(y pair) {
		if y.isPrime() && y.norm() != 3 {
			return
		}
		wrong++
		for _, x := range []pair{{}, {1, 0}, {2, 1}, y} {
			got, code := impl.CubicSymbol(x.cyclo(), y.cyclo())
			wantWhole(t, fmt.Sprint("CubicSymbol ", x, y), got, code, 0, impl.ErrState)
		}
	})
	if wrong < 3000 {
		t.Errorf("there are %d wrong ones", wrong)
	}
	for _, text := range []string{"3@2:1", "3@1:-1", "3@-1:-2", "3@0:0", "3@1:0", "3@0:-1", "3@3:0", "3@4:0", "3@7:0", "3@8:3", "3@10000:10000"} {
		got, code := impl.CubicSymbol(number(3, 5, 2), parsed(t, text))
		wantWhole(t, "CubicSymbol at "+text, got, code, 0, impl.ErrState)
	}
}

// All norms are gone through, with the sieve of prime numbers.
func TestPrimesOfNorm(t *testing.T) {
	const limit = 1000000
	sieve := primeNumbers(limit)
	want := make([][]impl.Cyclo, limit+1)
	for a := int64(1); 3*a*a <= 4*limit; a++ {
		for b := range a {
			x := pair{a, b}
			if norm := x.norm(); norm <= limit && (sieve[norm] || b == 0 && sieve[a] && a%3 == 2) {
				want[norm] = append(want[norm], x.cyclo())
			}
		}
	}
	counts := map[int]int{}
	for n := int64(1); n <= limit; n++ {
		got, code := impl.PrimesOfNorm(n)
		if code != impl.ErrNone || !slices.EqualFunc(got, want[n], sameCyclo) {
			t.Fatalf("PrimesOfNorm %d = %v, %d; want %v", n, got, code, want[n])
		}
		counts[len(got)]++
	}
	// There are 78498 prime numbers up to the limit, 39231 of them with the rest 1 by 3, and 87 with the
	// rest 2 up to 1000.
	if len(counts) != 3 || counts[2] != 39231 || counts[1] != 88 {
		t.Errorf("so many primes have the same norms: %v", counts)
	}
	for _, n := range append([]int64{0, -1, -3, -4, -7, limit + 1, limit + 3, 1000081, 2 * limit, 300000000}, extremes...) {
		got, code := impl.PrimesOfNorm(n)
		wantCyclos(t, fmt.Sprint("PrimesOfNorm ", n), got, code, nil, impl.ErrRange)
	}
}

func TestPlainPrimesOfNorm(t *testing.T) {
	for _, c := range []struct {
		n    int64
		list []string
	}{
		{1, nil}, {2, nil}, {3, []string{"3@2:1"}}, {4, []string{"3@2:0"}}, {5, nil}, {6, nil}, {7, []string{"3@3:1", "3@3:2"}},
		{8, nil}, {9, nil}, {12, nil}, {13, []string{"3@4:1", "3@4:3"}}, {16, nil}, {19, []string{"3@5:2", "3@5:3"}},
		{25, []string{"3@5:0"}}, {27, nil}, {49, nil}, {91, nil}, {121, []string{"3@11:0"}}, {343, nil}, {961, nil}, {64, nil},
		{994009, nil}, {966289, []string{"3@983:0"}}, {1000000, nil}, {999983, nil}, {999979, []string{"3@1030:63", "3@1030:967"}},
	} {
		want := []impl.Cyclo{}
		for _, text := range c.list {
			want = append(want, parsed(t, text))
		}
		got, code := impl.PrimesOfNorm(c.n)
		wantCyclos(t, fmt.Sprint("PrimesOfNorm ", c.n), got, code, want, impl.ErrNone)
	}
}

// checkNoCubic checks that nothing is told of what is no cubic number.
func checkNoCubic(t *testing.T, bad impl.Cyclo) {
	t.Helper()
	what := fmt.Sprint(" ", bad)
	norm, code := impl.NormOfCubic(bad)
	wantWhole(t, "NormOfCubic"+what, norm, code, 0, impl.ErrInvalid)
	x, code := impl.ChosenAssociate(bad)
	wantError(t, "ChosenAssociate"+what, x, code, impl.ErrInvalid)
	x, code = impl.PrimaryAssociate(bad)
	wantError(t, "PrimaryAssociate"+what, x, code, impl.ErrInvalid)
	yes, code := impl.IsCubicPrime(bad)
	wantAnswer(t, "IsCubicPrime"+what, yes, code, false, impl.ErrInvalid)
	unit, primes, often, code := impl.FactorCubic(bad)
	wantError(t, "FactorCubic"+what, unit, code, impl.ErrInvalid)
	wantCyclos(t, "FactorCubic"+what, primes, code, nil, impl.ErrInvalid)
	wantNumbers(t, "FactorCubic"+what, often, code, nil, impl.ErrInvalid)
	count, code := impl.CountResidues(bad)
	wantWhole(t, "CountResidues"+what, count, code, 0, impl.ErrInvalid)
}

// checkNoCubics checks the same of two of which one is no cubic number.
func checkNoCubics(t *testing.T, x impl.Cyclo, y impl.Cyclo) {
	t.Helper()
	what := fmt.Sprint(" ", x, " ", y)
	quotient, left, code := impl.DivideCubic(x, y)
	wantError(t, "DivideCubic"+what, quotient, code, impl.ErrInvalid)
	wantError(t, "DivideCubic"+what, left, code, impl.ErrInvalid)
	got, code := impl.GcdOfCubics(x, y)
	wantError(t, "GcdOfCubics"+what, got, code, impl.ErrInvalid)
	symbol, code := impl.CubicSymbol(x, y)
	wantWhole(t, "CubicSymbol"+what, symbol, code, 0, impl.ErrInvalid)
	yes, code := impl.AreAssociate(x, y)
	wantAnswer(t, "AreAssociate"+what, yes, code, false, impl.ErrInvalid)
}

// What is no cubic number comes first, also beside 0 and what is no prime.
func TestNoCubicNumbers(t *testing.T) {
	for _, bad := range noCubics() {
		checkNoCubic(t, bad)
		for _, x := range []pair{{}, {1, 0}, {2, 1}, {3, 1}, {2, 0}, {7, 0}, {10000, -10000}} {
			checkNoCubics(t, bad, x.cyclo())
			checkNoCubics(t, x.cyclo(), bad)
		}
		checkNoCubics(t, bad, bad)
		checkNoCubics(t, bad, impl.Cyclo{})
	}
}

// Results are new memory, and arguments and their spare capacity stay as they are.
func TestMemoryOfCubics(t *testing.T) {
	// Most of these results have the Parts of x itself.
	x, all := padded(number(3, 5, 3))
	y, allOfY := padded(number(3, 9, 5))
	before, beforeY := slices.Clone(all), slices.Clone(allOfY)
	calls := map[string]func() (impl.Cyclo, int64){
		"ChosenAssociate":  func() (impl.Cyclo, int64) { return impl.ChosenAssociate(x) },
		"PrimaryAssociate": func() (impl.Cyclo, int64) { return impl.PrimaryAssociate(x) },
		"DivideCubic": func() (impl.Cyclo, int64) {
			q, _, code := impl.DivideCubic(x, number(3, 1))
			return q, code
		},
		"the rest of DivideCubic": func() (impl.Cyclo, int64) {
			_, r, code := impl.DivideCubic(x, number(3, 5000))
			return r, code
		},
		"GcdOfCubics":   func() (impl.Cyclo, int64) { return impl.GcdOfCubics(x, x) },
		"GcdOfCubics 0": func() (impl.Cyclo, int64) { return impl.GcdOfCubics(x, number(3)) },
		"0 GcdOfCubics": func() (impl.Cyclo, int64) { return impl.GcdOfCubics(number(3), x) },
		"a prime of FactorCubic": func() (impl.Cyclo, int64) {
			_, primes, _, code := impl.FactorCubic(x)
			return primes[0], code
		},
		"PrimesOfNorm": func() (impl.Cyclo, int64) {
			primes, code := impl.PrimesOfNorm(19)
			return primes[1], code
		},
	}
	lists := map[string]func() ([]int64, int64){
		"the unit of FactorCubic": func() ([]int64, int64) {
			unit, _, _, code := impl.FactorCubic(number(3, 0, 1))
			return unit.Parts, code
		},
		"the numbers of FactorCubic": func() ([]int64, int64) {
			_, _, often, code := impl.FactorCubic(y)
			return often, code
		},
	}
	for what, call := range calls {
		got, code := call()
		wantCyclo(t, what, got, code, number(3, 5, 3), impl.ErrNone)
		lists[what] = func() ([]int64, int64) {
			got, code := call()
			return got.Parts, code
		}
	}
	areKept := func() bool { return slices.Equal(all, before) && slices.Equal(allOfY, beforeY) }
	wantNewLists(t, lists, areKept)
	for range 2 {
		norm, code := impl.NormOfCubic(x)
		wantWhole(t, "NormOfCubic", norm, code, 19, impl.ErrNone)
		yes, code := impl.IsCubicPrime(x)
		wantAnswer(t, "IsCubicPrime", yes, code, true, impl.ErrNone)
		symbol, code := impl.CubicSymbol(y, x)
		wantWhole(t, "CubicSymbol", symbol, code, wantCubicSymbol(pair{9, 5}, pair{5, 3}), impl.ErrNone)
		count, code := impl.CountResidues(y)
		wantWhole(t, "CountResidues", count, code, 60, impl.ErrNone)
		yes, code = impl.AreAssociate(x, y)
		wantAnswer(t, "AreAssociate", yes, code, false, impl.ErrNone)
		if !impl.IsCubicNumber(x) || !areKept() {
			t.Fatalf("a number was changed: %v, %v", all, allOfY)
		}
	}
}

// No two results of one call share memory.
func TestCubicResultsApart(t *testing.T) {
	for _, x := range []pair{{12, 0}, {9240, 0}, {5, 3}, {0, 1}, {7, 0}} {
		unit, primes, often, code := impl.FactorCubic(x.cyclo())
		if code != impl.ErrNone {
			t.Fatalf("FactorCubic %v: %d", x, code)
		}
		rows := [][]int64{unit.Parts, often}
		for _, prime := range primes {
			rows = append(rows, prime.Parts)
		}
		wantRowsApart(t, fmt.Sprint("FactorCubic ", x), rows)
	}
	for _, y := range []pair{{1, 0}, {2, 0}, {3, 1}, {100, 1}} {
		quotient, left, code := impl.DivideCubic(number(3, 12, 5), y.cyclo())
		if code != impl.ErrNone {
			t.Fatalf("DivideCubic %v: %d", y, code)
		}
		wantRowsApart(t, fmt.Sprint("DivideCubic ", y), [][]int64{quotient.Parts, left.Parts})
	}
	for _, n := range []int64{7, 19, 999979} {
		primes, _ := impl.PrimesOfNorm(n)
		if len(primes) != 2 {
			t.Fatalf("PrimesOfNorm %d = %v", n, primes)
		}
		wantRowsApart(t, fmt.Sprint("PrimesOfNorm ", n), [][]int64{primes[0].Parts, primes[1].Parts})
	}
}
