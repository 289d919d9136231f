package tests

import (
	"fmt"
	"slices"
	"testing"

	"loop.example/g01313/impl"
)

// wantCyclos checks a list of numbers and a code. Beside an error it has to be empty.
func wantCyclos(t *testing.T, what string, got []impl.Cyclo, code int64, want []impl.Cyclo, wantCode int64) {
	t.Helper()
	if !slices.EqualFunc(got, want, sameCyclo) || code != wantCode {
		t.Errorf("%s = %v, %d; want %v, %d", what, got, code, want, wantCode)
	}
}

// isPlain reports whether none of c, d and their product has the Power 0.
func isPlain(c impl.Character, d impl.Character) bool {
	return c.Power > 0 && d.Power > 0 && c.Power+d.Power != c.Order
}

func TestLimitOfJacobiSums(t *testing.T) {
	if impl.MaxFactors != 4 {
		t.Errorf("the limit is %d", impl.MaxFactors)
	}
}

func TestJacobiSums(t *testing.T) {
	everyPair(func(c impl.Character, d impl.Character) {
		what := fmt.Sprint(c, d)
		list := []impl.Character{c, d}
		want := wantListSum(list, 1)
		got, code := impl.JacobiSum(c, d)
		wantCyclo(t, "JacobiSum "+what, got, code, want, impl.ErrNone)
		got, code = impl.JacobiOf(list)
		wantCyclo(t, "JacobiOf "+what, got, code, want, impl.ErrNone)
		got, code = impl.ZeroSumOf(list)
		wantCyclo(t, "ZeroSumOf "+what, got, code, wantListSum(list, 0), impl.ErrNone)
		got, code = impl.SquareOfJacobi(c, d)
		wantCyclo(t, "SquareOfJacobi "+what, got, code, wantSquare(want), impl.ErrNone)
		yes, code := impl.IsPlainPair(c, d)
		wantAnswer(t, "IsPlainPair "+what, yes, code, isPlain(c, d), impl.ErrNone)
	})
}

func TestJacobiSumsOfPlainCharacters(t *testing.T) {
	cases := []struct {
		p, n, k, l          int64
		sum, nought, square string
		plain               bool
	}{
		{3, 1, 0, 0, "1@1", "1@2", "1@1", false},
		{3, 2, 0, 0, "2@1", "2@2", "2@1", false},
		{3, 2, 0, 1, "2@-1", "2@0", "2@1", false},
		{3, 2, 1, 1, "2@1", "2@-2", "2@1", false},
		{5, 4, 1, 1, "4@-1:-2", "4@0:0", "4@5:0", true},
		{5, 4, 3, 3, "4@-1:2", "4@0:0", "4@5:0", true},
		{5, 4, 1, 2, "4@1:2", "4@0:0", "4@5:0", true},
		{5, 4, 1, 3, "4@1:0", "4@-4:0", "4@1:0", false},
		{5, 4, 2, 2, "4@-1:0", "4@4:0", "4@1:0", false},
		{5, 4, 0, 0, "4@3:0", "4@4:0", "4@9:0", false},
		{5, 4, 2, 0, "4@-1:0", "4@0:0", "4@1:0", false},
		{7, 3, 1, 1, "3@-1:-3", "3@0:0", "3@7:0", true},
		{7, 3, 1, 2, "3@-1:0", "3@6:0", "3@1:0", false},
	}
	for _, c := range cases {
		first := impl.Character{Prime: c.p, Order: c.n, Power: c.k}
		second := impl.Character{Prime: c.p, Order: c.n, Power: c.l}
		what := fmt.Sprint(first, second)
		got, code := impl.JacobiSum(first, second)
		wantText(t, "JacobiSum "+what, got, code, c.sum)
		got, code = impl.ZeroSumOf([]impl.Character{first, second})
		wantText(t, "ZeroSumOf "+what, got, code, c.nought)
		got, code = impl.SquareOfJacobi(first, second)
		wantText(t, "SquareOfJacobi "+what, got, code, c.square)
		yes, code := impl.IsPlainPair(first, second)
		wantAnswer(t, "IsPlainPair "+what, yes, code, c.plain, impl.ErrNone)
	}
}

// One character has its value at 1 as Jacobi sum, and that at 0 as zero sum.
func TestSumsOfOneCharacter(t *testing.T) {
	everyCharacter(func(c impl.Character) {
		got, code := impl.JacobiOf([]impl.Character{c})
		wantCyclo(t, fmt.Sprint("JacobiOf ", c), got, code, number(c.Order, 1), impl.ErrNone)
		got, code = impl.ZeroSumOf([]impl.Character{c})
		wantCyclo(t, fmt.Sprint("ZeroSumOf ", c), got, code, number(c.Order), impl.ErrNone)
	})
}

func TestSumsOfLists(t *testing.T) {
	for length := 1; length <= impl.MaxFactors; length++ {
		someLists(length, func(list []impl.Character) {
			what := fmt.Sprint(list)
			got, code := impl.JacobiOf(list)
			wantCyclo(t, "JacobiOf "+what, got, code, wantListSum(list, 1), impl.ErrNone)
			nought, code := impl.ZeroSumOf(list)
			wantCyclo(t, "ZeroSumOf "+what, nought, code, wantListSum(list, 0), impl.ErrNone)
			slices.Reverse(list)
			again, code := impl.JacobiOf(list)
			wantCyclo(t, "JacobiOf turned "+what, again, code, got, impl.ErrNone)
			again, code = impl.ZeroSumOf(list)
			wantCyclo(t, "ZeroSumOf turned "+what, again, code, nought, impl.ErrNone)
		})
	}
}

// With the Power 0 alone the sums are the numbers of the lists without a 0.
func TestSumsOfTrivialCharacters(t *testing.T) {
	everyGroup(func(p int64, n int64) {
		var list []impl.Character
		toNought, toOne := int64(0), int64(1)
		for range impl.MaxFactors {
			list = append(list, impl.Character{Prime: p, Order: n})
			got, code := impl.JacobiOf(list)
			wantCyclo(t, fmt.Sprint("JacobiOf ", list), got, code, number(n, toOne), impl.ErrNone)
			got, code = impl.ZeroSumOf(list)
			wantCyclo(t, fmt.Sprint("ZeroSumOf ", list), got, code, number(n, toNought), impl.ErrNone)
			// One number more leads to 0 from each other sum, and to 1 from 0 and the sums beside 1.
			toNought, toOne = (p-1)*toOne, toNought+(p-2)*toOne
		}
	})
}

// Lists in any order have the same sums.
func TestOrderOfFactors(t *testing.T) {
	someLists(3, func(list []impl.Character) {
		got, _ := impl.JacobiOf(list)
		nought, _ := impl.ZeroSumOf(list)
		for _, order := range [][3]int{{0, 2, 1}, {1, 0, 2}, {1, 2, 0}, {2, 0, 1}, {2, 1, 0}} {
			other := []impl.Character{list[order[0]], list[order[1]], list[order[2]]}
			again, code := impl.JacobiOf(other)
			wantCyclo(t, fmt.Sprint("JacobiOf ", other), again, code, got, impl.ErrNone)
			again, code = impl.ZeroSumOf(other)
			wantCyclo(t, fmt.Sprint("ZeroSumOf ", other), again, code, nought, impl.ErrNone)
		}
	})
}

func TestJacobiRows(t *testing.T) {
	everyCharacter(func(c impl.Character) {
		var want []impl.Cyclo
		for k := range c.Order {
			d := impl.Character{Prime: c.Prime, Order: c.Order, Power: k}
			want = append(want, wantListSum([]impl.Character{c, d}, 1))
		}
		got, code := impl.JacobiRow(c)
		wantCyclos(t, fmt.Sprint("JacobiRow ", c), got, code, want, impl.ErrNone)
	})
	row, code := impl.JacobiRow(impl.Character{Prime: 5, Order: 4, Power: 1})
	wantCyclos(t, "JacobiRow", row, code,
		[]impl.Cyclo{number(4, -1), number(4, -1, -2), number(4, 1, 2), number(4, 1)}, impl.ErrNone)
	row, code = impl.JacobiRow(impl.Character{Prime: 3, Order: 1})
	wantCyclos(t, "JacobiRow", row, code, []impl.Cyclo{number(1, 1)}, impl.ErrNone)
}

// Promise 4: Jacobi sums do not depend on the order, and squares of sizes of plain pairs are p.
// Promise 12: those of the orders 3 and 6 have the norm p for plain pairs.
func TestPromiseOfJacobiSums(t *testing.T) {
	everyPair(func(c impl.Character, d impl.Character) {
		what := fmt.Sprint(c, d)
		sum, code := impl.JacobiSum(c, d)
		turned, turnedCode := impl.JacobiSum(d, c)
		wantCyclo(t, "JacobiSum turned "+what, turned, turnedCode, sum, code)
		plain, code := impl.IsPlainPair(c, d)
		turnedPlain, turnedCode := impl.IsPlainPair(d, c)
		wantAnswer(t, "IsPlainPair turned "+what, turnedPlain, turnedCode, plain, code)
		square, code := impl.SquareOfJacobi(c, d)
		turned, turnedCode = impl.SquareOfJacobi(d, c)
		wantCyclo(t, "SquareOfJacobi turned "+what, turned, turnedCode, square, code)
		// What is no plain pair has whole sums of values: p - 2 of them, or 1 or -1 in all.
		size := int64(1)
		switch {
		case plain:
			size = c.Prime
		case c.Power == 0 && d.Power == 0:
			size = (c.Prime - 2) * (c.Prime - 2)
		}
		wantCyclo(t, "SquareOfJacobi "+what, square, code, number(c.Order, size), impl.ErrNone)
		if c.Order == 3 || c.Order == 4 || c.Order == 6 {
			norm, code := impl.NormOf(sum)
			wantWhole(t, "the norm of JacobiSum "+what, norm, code, size, impl.ErrNone)
		}
	})
}

// Images of Jacobi sums are those of powers, and so, for promise 13, conjugates those of inverses.
func TestImagesOfJacobiSums(t *testing.T) {
	everyPair(func(c impl.Character, d impl.Character) {
		sum, _ := impl.JacobiSum(c, d)
		for _, a := range unitsOf(c.Order) {
			image, _ := impl.GaloisImage(sum, a)
			got, code := impl.JacobiSum(moved(c, a), moved(d, a))
			wantCyclo(t, fmt.Sprint("the image by ", a, " of JacobiSum ", c, d), got, code, image, impl.ErrNone)
		}
		conjugate, _ := impl.ConjugateOf(sum)
		inverseC, _ := impl.InverseCharacter(c)
		inverseD, _ := impl.InverseCharacter(d)
		got, code := impl.JacobiSum(inverseC, inverseD)
		wantCyclo(t, fmt.Sprint("JacobiSum of the inverses of ", c, d), got, code, conjugate, impl.ErrNone)
	})
	for _, length := range []int{3, 4} {
		someLists(length, func(list []impl.Character) {
			n := list[0].Order
			sum, _ := impl.JacobiOf(list)
			nought, _ := impl.ZeroSumOf(list)
			a := unitsOf(n)[len(unitsOf(n))/2]
			var powers []impl.Character
			for _, c := range list {
				powers = append(powers, moved(c, a))
			}
			image, _ := impl.GaloisImage(sum, a)
			got, code := impl.JacobiOf(powers)
			wantCyclo(t, fmt.Sprint("JacobiOf ", powers), got, code, image, impl.ErrNone)
			image, _ = impl.GaloisImage(nought, a)
			got, code = impl.ZeroSumOf(powers)
			wantCyclo(t, fmt.Sprint("ZeroSumOf ", powers), got, code, image, impl.ErrNone)
		})
	}
}

// Promise 13: counts by Jacobi sums are those of the equations.
func TestCountsByJacobi(t *testing.T) {
	for _, p := range append(upToHundred(), extremes...) {
		for a := int64(-6); a <= 61; a++ {
			for b := int64(-6); b <= 61; b++ {
				want, wantCode := wantCount(p, a, b)
				got, code := impl.CountByJacobi(p, a, b)
				wantWhole(t, fmt.Sprint("CountByJacobi ", p, " ", a, " ", b), got, code, want, wantCode)
			}
		}
		for _, e := range extremes {
			for _, other := range append([]int64{-2, -1, 0, 1, 2, 3}, extremes...) {
				got, code := impl.CountByJacobi(p, e, other)
				wantWhole(t, fmt.Sprint("CountByJacobi ", p, " ", e, " ", other), got, code, 0, impl.ErrRange)
				got, code = impl.CountByJacobi(p, other, e)
				wantWhole(t, fmt.Sprint("CountByJacobi ", p, " ", other, " ", e), got, code, 0, impl.ErrRange)
			}
		}
	}
}

func TestCountsOfPlainNumbers(t *testing.T) {
	cases := []struct{ p, a, b, count, code int64 }{
		{3, 1, 1, 3, impl.ErrNone},
		{3, 2, 2, 4, impl.ErrNone},
		{5, 2, 2, 4, impl.ErrNone},
		{7, 2, 2, 8, impl.ErrNone},
		{7, 3, 3, 6, impl.ErrNone},
		{7, 2, 3, 11, impl.ErrNone},
		{5, 4, 4, 8, impl.ErrNone},
		{61, 1, 15, 61, impl.ErrNone},
		// The least common multiple is MaxOrder, or the first ones beyond it that are there.
		{17, 16, 16, 32, impl.ErrNone},
		{17, 16, 1, 17, impl.ErrNone},
		{17, 8, 16, 24, impl.ErrNone},
		{19, 9, 2, 0, impl.ErrRange},
		{37, 9, 2, 0, impl.ErrRange},
		{41, 4, 5, 0, impl.ErrRange},
		{61, 20, 1, 0, impl.ErrRange},
		{61, 4, 15, 0, impl.ErrRange},
		// Numbers that do not divide p - 1, beside others that do.
		{17, 3, 1, 0, impl.ErrRange},
		{17, 1, 3, 0, impl.ErrRange},
		{17, 32, 1, 0, impl.ErrRange},
		{7, -2, 3, 0, impl.ErrRange},
		{7, 2, -3, 0, impl.ErrRange},
		{7, 0, 3, 0, impl.ErrRange},
		{7, 2, 0, 0, impl.ErrRange},
		{7, 0, 0, 0, impl.ErrRange},
		// The product of these is 1 by 2^64.
		{61, 7, 7905747460161236407, 0, impl.ErrRange},
		{61, 7905747460161236407, 7, 0, impl.ErrRange},
		{2, 1, 1, 0, impl.ErrRange},
		{9, 2, 2, 0, impl.ErrRange},
		{67, 2, 3, 0, impl.ErrRange},
	}
	for _, c := range cases {
		got, code := impl.CountByJacobi(c.p, c.a, c.b)
		wantWhole(t, fmt.Sprint("CountByJacobi ", c.p, " ", c.a, " ", c.b), got, code, c.count, c.code)
	}
}

func TestSquarePairs(t *testing.T) {
	for _, p := range append(upToHundred(), extremes...) {
		got, code := impl.SquarePair(p)
		what := fmt.Sprint("SquarePair ", p)
		if !areTold(p, 4) {
			wantNumbers(t, what, got, code, nil, impl.ErrRange)
			continue
		}
		c := impl.Character{Prime: p, Order: 4, Power: 1}
		sum := wantListSum([]impl.Character{c, c}, 1)
		wantNumbers(t, what, got, code, sum.Parts, impl.ErrNone)
		if len(got) == 2 && got[0]*got[0]+got[1]*got[1] != p {
			t.Errorf("%s = %v", what, got)
		}
	}
	got, code := impl.SquarePair(5)
	wantNumbers(t, "SquarePair 5", got, code, []int64{-1, -2}, impl.ErrNone)
}

func TestCubicPairs(t *testing.T) {
	for _, p := range append(upToHundred(), extremes...) {
		got, code := impl.CubicPair(p)
		what := fmt.Sprint("CubicPair ", p)
		if !areTold(p, 3) {
			wantNumbers(t, what, got, code, nil, impl.ErrRange)
			continue
		}
		c := impl.Character{Prime: p, Order: 3, Power: 1}
		parts := wantListSum([]impl.Character{c, c}, 1).Parts
		wantNumbers(t, what, got, code, []int64{2*parts[0] - parts[1], parts[1] / 3}, impl.ErrNone)
		if len(got) == 2 && (got[0]*got[0]+27*got[1]*got[1] != 4*p || parts[1]%3 != 0) {
			t.Errorf("%s = %v, of %v", what, got, parts)
		}
	}
	got, code := impl.CubicPair(7)
	wantNumbers(t, "CubicPair 7", got, code, []int64{1, -1}, impl.ErrNone)
}

// What is no character comes first, wherever it stands and how many there are.
func TestOrderOfErrorsOfJacobiSums(t *testing.T) {
	good := impl.Character{Prime: 7, Order: 3, Power: 1}
	other := impl.Character{Prime: 5, Order: 4, Power: 1}
	for _, bad := range noCharacters() {
		what := fmt.Sprint(" of ", bad)
		for _, second := range []impl.Character{good, bad, other} {
			checkBadPair(t, what, bad, second, impl.ErrInvalid)
			checkBadPair(t, what, second, bad, impl.ErrInvalid)
		}
		for length := 1; length <= impl.MaxFactors+2; length++ {
			for at := range length {
				list := slices.Repeat([]impl.Character{good}, length)
				list[at] = bad
				checkBadList(t, what, list, impl.ErrInvalid)
				list[(at+1)%length] = other
				list[at] = bad
				checkBadList(t, what, list, impl.ErrInvalid)
			}
		}
		row, code := impl.JacobiRow(bad)
		wantCyclos(t, "JacobiRow"+what, row, code, nil, impl.ErrInvalid)
	}
}

func checkBadPair(t *testing.T, what string, c impl.Character, d impl.Character, wantCode int64) {
	t.Helper()
	got, code := impl.JacobiSum(c, d)
	wantError(t, "JacobiSum"+what, got, code, wantCode)
	got, code = impl.SquareOfJacobi(c, d)
	wantError(t, "SquareOfJacobi"+what, got, code, wantCode)
	yes, code := impl.IsPlainPair(c, d)
	wantAnswer(t, "IsPlainPair"+what, yes, code, false, wantCode)
}

func checkBadList(t *testing.T, what string, list []impl.Character, wantCode int64) {
	t.Helper()
	got, code := impl.JacobiOf(list)
	wantError(t, "JacobiOf"+what, got, code, wantCode)
	got, code = impl.ZeroSumOf(list)
	wantError(t, "ZeroSumOf"+what, got, code, wantCode)
}

func TestTooManyOrNoCharacters(t *testing.T) {
	checkBadList(t, " nil", nil, impl.ErrRange)
	checkBadList(t, " no list", []impl.Character{}, impl.ErrRange)
	everyCharacter(func(c impl.Character) {
		for _, length := range []int{impl.MaxFactors + 1, impl.MaxFactors + 2, 100} {
			list := slices.Repeat([]impl.Character{c}, length)
			checkBadList(t, fmt.Sprint(" of ", length, c), list, impl.ErrRange)
		}
	})
}

// All characters of a list need the same Prime and the same Order, whatever their Powers are.
func TestOtherPrimesAndOrdersOfLists(t *testing.T) {
	everyGroup(func(p int64, n int64) {
		c := impl.Character{Prime: p, Order: n, Power: n - 1}
		everyGroup(func(q int64, m int64) {
			if p == q && n == m {
				return
			}
			for _, k := range []int64{0, (n - 1) % m} {
				d := impl.Character{Prime: q, Order: m, Power: k}
				what := fmt.Sprint(" ", c, d)
				checkBadPair(t, what, c, d, impl.ErrRange)
				for length := 2; length <= impl.MaxFactors; length++ {
					list := slices.Repeat([]impl.Character{c}, length)
					list[length-1] = d
					checkBadList(t, what, list, impl.ErrRange)
					list[length-1], list[length/2-1] = c, d
					checkBadList(t, what, list, impl.ErrRange)
				}
			}
		})
	})
}

// Results are new memory, no two slices of one share theirs, and a list and its spare capacity
// stay as they are.
func TestMemoryOfJacobiSums(t *testing.T) {
	c := impl.Character{Prime: 5, Order: 4, Power: 1}
	all := slices.Repeat([]impl.Character{c, {Prime: 99, Order: 98, Power: 97}}, 8)
	all[1] = c
	before := slices.Clone(all)
	fill := func(list []int64) {
		list = list[:cap(list)]
		for i := range list {
			list[i] = 99
		}
	}
	for range 2 {
		sum, code := impl.JacobiSum(c, c)
		wantText(t, "JacobiSum", sum, code, "4@-1:-2")
		of, code := impl.JacobiOf(all[:2])
		wantText(t, "JacobiOf", of, code, "4@-1:-2")
		nought, code := impl.ZeroSumOf(all[:2])
		wantText(t, "ZeroSumOf", nought, code, "4@0:0")
		square, code := impl.SquareOfJacobi(c, c)
		wantText(t, "SquareOfJacobi", square, code, "4@5:0")
		for _, x := range []impl.Cyclo{sum, of, nought, square} {
			fill(x.Parts)
		}
		want := []string{"4@-1:0", "4@-1:-2", "4@1:2", "4@1:0"}
		row, code := impl.JacobiRow(c)
		for k, x := range row {
			wantText(t, "JacobiRow", x, code, want[k])
			fill(x.Parts)
		}
		pair, code := impl.SquarePair(5)
		wantNumbers(t, "SquarePair", pair, code, []int64{-1, -2}, impl.ErrNone)
		fill(pair)
		pair, code = impl.CubicPair(7)
		wantNumbers(t, "CubicPair", pair, code, []int64{1, -1}, impl.ErrNone)
		fill(pair)
		if !slices.Equal(all, before) {
			t.Fatalf("the list was changed: %v", all)
		}
	}
}
