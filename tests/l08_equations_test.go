package tests

import (
	"fmt"
	"slices"
	"testing"

	"loop.example/g01313/impl"
)

func TestLimitsOfEquations(t *testing.T) {
	if impl.MaxParts != 4 || impl.MaxExponent != 60 {
		t.Errorf("the limits are %d and %d", impl.MaxParts, impl.MaxExponent)
	}
}

func TestPowersOf(t *testing.T) {
	everyPower(func(p int64, k int64) {
		powers := wantPowers(p, k)
		want := wantDifferent(powers)
		got, code := impl.PowersOf(p, k)
		wantNumbers(t, fmt.Sprint("PowersOf ", p, k), got, code, want, impl.ErrNone)
		least := int64(0)
		for number := p - 1; number > 0; number-- {
			if !slices.Contains(powers, number) {
				least = number
			}
		}
		number, code := impl.LeastNoPower(p, k)
		wantWhole(t, fmt.Sprint("LeastNoPower ", p, k), number, code, least, impl.ErrNone)
	})
}

func TestPlainPowers(t *testing.T) {
	for _, c := range []struct {
		p, k  int64
		list  []int64
		least int64
	}{
		{3, 1, []int64{0, 1, 2}, 0}, {3, 2, []int64{0, 1}, 2}, {3, 3, []int64{0, 1, 2}, 0}, {3, 60, []int64{0, 1}, 2},
		{3, 59, []int64{0, 1, 2}, 0}, {5, 2, []int64{0, 1, 4}, 2}, {5, 4, []int64{0, 1}, 2}, {5, 5, []int64{0, 1, 2, 3, 4}, 0},
		{7, 2, []int64{0, 1, 2, 4}, 3}, {7, 3, []int64{0, 1, 6}, 2}, {7, 6, []int64{0, 1}, 2}, {7, 60, []int64{0, 1}, 2},
		{7, 9, []int64{0, 1, 6}, 2}, {11, 3, []int64{0, 1, 2, 3, 4, 5, 6, 7, 8, 9, 10}, 0}, {13, 4, []int64{0, 1, 3, 9}, 2},
		{17, 2, []int64{0, 1, 2, 4, 8, 9, 13, 15, 16}, 3}, {23, 2, []int64{0, 1, 2, 3, 4, 6, 8, 9, 12, 13, 16, 18}, 5},
		{31, 10, []int64{0, 1, 5, 25}, 2}, {59, 58, []int64{0, 1}, 2}, {59, 29, []int64{0, 1, 58}, 2}, {61, 60, []int64{0, 1}, 2},
		{61, 30, []int64{0, 1, 60}, 2}, {61, 20, []int64{0, 1, 13, 47}, 2},
	} {
		got, code := impl.PowersOf(c.p, c.k)
		wantNumbers(t, fmt.Sprint("PowersOf ", c.p, c.k), got, code, c.list, impl.ErrNone)
		least, code := impl.LeastNoPower(c.p, c.k)
		wantWhole(t, fmt.Sprint("LeastNoPower ", c.p, c.k), least, code, c.least, impl.ErrNone)
	}
}

// The guarantee: counts of values add up to p. Those of squares are told by the symbols of Legendre.
func TestValueCounts(t *testing.T) {
	everyPower(func(p int64, k int64) {
		powers := wantPowers(p, k)
		for a := int64(1); a < p; a++ {
			want := make([]int64, p)
			for _, power := range powers {
				want[a*power%p]++
			}
			got, code := impl.ValueCounts(p, a, k)
			wantNumbers(t, fmt.Sprint("ValueCounts ", p, a, k), got, code, want, impl.ErrNone)
			if sumOf(got) != p {
				t.Errorf("ValueCounts %d %d %d = %v: not %d", p, a, k, got, p)
			}
		}
		for _, a := range append([]int64{0, -1, p, p + 1, -p, 1 - p, 2 * p}, extremes...) {
			got, code := impl.ValueCounts(p, a, k)
			wantNumbers(t, fmt.Sprint("ValueCounts ", p, a, k), got, code, nil, impl.ErrRange)
		}
	})
	for _, row := range leastRoots {
		counts, _ := impl.ValueCounts(row[0], 1, 2)
		for b, count := range counts {
			symbol, code := impl.LegendreSymbol(row[0], int64(b))
			wantWhole(t, fmt.Sprint("LegendreSymbol ", row[0], b), symbol, code, count-1, impl.ErrNone)
		}
	}
	for _, c := range []struct {
		p, a, k int64
		list    []int64
	}{
		{3, 1, 1, []int64{1, 1, 1}}, {3, 2, 2, []int64{1, 0, 2}}, {5, 4, 1, []int64{1, 1, 1, 1, 1}},
		{5, 3, 4, []int64{1, 0, 0, 4, 0}}, {7, 1, 2, []int64{1, 2, 2, 0, 2, 0, 0}}, {7, 3, 2, []int64{1, 0, 0, 2, 0, 2, 2}},
		{7, 6, 60, []int64{1, 0, 0, 0, 0, 0, 6}},
	} {
		got, code := impl.ValueCounts(c.p, c.a, c.k)
		wantNumbers(t, fmt.Sprint("ValueCounts ", c.p, c.a, c.k), got, code, c.list, impl.ErrNone)
	}
}

// checkSolutions checks the solutions and the full ones for all b: they add up to the numbers of all
// lists that there are.
func checkSolutions(t *testing.T, p int64, factors []int64, exponents []int64) {
	t.Helper()
	all, full := wantSolutions(p, factors, exponents, 0), wantSolutions(p, factors, exponents, 1)
	lists, fullLists := int64(1), int64(1)
	for range factors {
		lists, fullLists = lists*p, fullLists*(p-1)
	}
	for b := range p {
		what := fmt.Sprint(" ", p, factors, exponents, b)
		got, code := impl.CountSolutions(p, factors, exponents, b)
		wantWhole(t, "CountSolutions"+what, got, code, all[b], impl.ErrNone)
		lists -= got
		got, code = impl.CountFull(p, factors, exponents, b)
		wantWhole(t, "CountFull"+what, got, code, full[b], impl.ErrNone)
		fullLists -= got
	}
	if lists != 0 || fullLists != 0 {
		t.Errorf("%d lists and %d full ones are left over for %d %v %v", lists, fullLists, p, factors, exponents)
	}
}

// Promise 8: solutions for all b add up to powers of p, and full ones to powers of p - 1.
func TestSolutions(t *testing.T) {
	var s sequence
	everyPower(func(p int64, k int64) {
		for _, a := range []int64{1, p - 1, s.within(p - 1)} {
			checkSolutions(t, p, []int64{a}, []int64{k})
		}
		factors, exponents := s.parts(p, 2)
		exponents[k%2] = k
		checkSolutions(t, p, factors, exponents)
	})
	for _, row := range leastRoots {
		p := row[0]
		for range 3 {
			factors, exponents := s.parts(p, 3)
			checkSolutions(t, p, factors, exponents)
		}
		checkSolutions(t, p, []int64{1, p - 1, p - 1}, []int64{p - 1, 1, impl.MaxExponent})
		checkSolutions(t, p, []int64{p - 1, 1, 1}, []int64{2, 2, 2})
		// There are many lists of four numbers of a great prime.
		if p > 19 && p < 61 {
			continue
		}
		for range 2 {
			factors, exponents := s.parts(p, impl.MaxParts)
			checkSolutions(t, p, factors, exponents)
		}
	}
	checkSolutions(t, 61, []int64{1, 1, 60, 60}, []int64{60, 60, 60, 30})
}

// For the greatest number of parts, counts are told by those of two and two parts.
func TestSolutionsOfFourParts(t *testing.T) {
	var s sequence
	for _, row := range leastRoots {
		p := row[0]
		for first, count := range []func(int64, []int64, []int64, int64) (int64, int64){impl.CountSolutions, impl.CountFull} {
			factors, exponents := s.parts(p, impl.MaxParts)
			heads := wantSolutions(p, factors[:2], exponents[:2], int64(first))
			tails := wantSolutions(p, factors[2:], exponents[2:], int64(first))
			sum := int64(0)
			for b := range p {
				want := int64(0)
				for head, ways := range heads {
					want += ways * tails[rest(b-int64(head), p)]
				}
				got, code := count(p, factors, exponents, b)
				wantWhole(t, fmt.Sprint("the solutions of ", p, factors, exponents, b, " from ", first), got, code, want, impl.ErrNone)
				sum += got
			}
			numbers := p - int64(first)
			if sum != numbers*numbers*numbers*numbers {
				t.Errorf("the solutions of %d %v %v from %d are %d", p, factors, exponents, first, sum)
			}
		}
	}
}

func TestPlainSolutions(t *testing.T) {
	for _, c := range []struct {
		p                  int64
		factors, exponents []int64
		b, all, full       int64
	}{
		{5, []int64{1, 1}, []int64{2, 2}, 1, 4, 0},
		{5, []int64{1, 1}, []int64{2, 2}, 0, 9, 8},
		{3, []int64{1}, []int64{1}, 0, 1, 0},
		{3, []int64{2}, []int64{2}, 2, 2, 2},
		{3, []int64{2}, []int64{2}, 1, 0, 0},
		{3, []int64{1, 1, 1, 1}, []int64{2, 2, 2, 2}, 1, 24, 16},
		{3, []int64{1, 1, 1, 1}, []int64{2, 2, 2, 2}, 0, 33, 0},
		{7, []int64{1, 6}, []int64{3, 3}, 0, 19, 18},
		{7, []int64{1, 1}, []int64{1, 6}, 6, 7, 6},
		{61, []int64{1, 1, 1, 1}, []int64{1, 1, 1, 1}, 60, 226981, 212459},
		{61, []int64{1, 1, 1, 1}, []int64{60, 60, 60, 60}, 4, 12960000, 12960000},
		{61, []int64{1, 1, 1, 1}, []int64{60, 60, 60, 60}, 3, 864000, 0},
		{61, []int64{1, 1, 1, 1}, []int64{60, 60, 60, 60}, 0, 1, 0},
		{61, []int64{1, 1, 1, 1}, []int64{60, 60, 60, 60}, 5, 0, 0},
	} {
		what := fmt.Sprint(" ", c.p, c.factors, c.exponents, c.b)
		got, code := impl.CountSolutions(c.p, c.factors, c.exponents, c.b)
		wantWhole(t, "CountSolutions"+what, got, code, c.all, impl.ErrNone)
		got, code = impl.CountFull(c.p, c.factors, c.exponents, c.b)
		wantWhole(t, "CountFull"+what, got, code, c.full, impl.ErrNone)
	}
}

// Full solutions of two parts are told by the cyclotomic numbers of chapter 6: a number of a class is
// told by e powers, and so each pair of neighbours by e e of them.
func TestSolutionsByCyclotomicNumbers(t *testing.T) {
	everyClassing(func(p int64, e int64) {
		members := wantMembers(p, e)
		for i := range e {
			for j := range e {
				number, code := impl.CyclotomicNumber(p, e, i, j)
				if code != impl.ErrNone {
					t.Fatalf("CyclotomicNumber %d %d %d %d = %d", p, e, i, j, code)
				}
				factors := []int64{p - members[i][0], members[j][0]}
				got, code := impl.CountFull(p, factors, []int64{e, e}, 1)
				wantWhole(t, fmt.Sprint("CountFull ", p, factors, e), got, code, e*e*number, impl.ErrNone)
			}
		}
		class, _ := impl.ClassMembers(p, e, 0)
		powers, code := impl.PowersOf(p, e)
		wantNumbers(t, fmt.Sprint("PowersOf ", p, e), powers, code, slices.Concat([]int64{0}, class), impl.ErrNone)
	})
}

// Promise 13: counts by Jacobi sums are those of the equations.
func TestEquationsByJacobi(t *testing.T) {
	kept := 0
	for _, row := range leastRoots {
		p := row[0]
		for a := int64(1); a <= impl.MaxOrder; a++ {
			for b := int64(1); b <= impl.MaxOrder; b++ {
				want, code := impl.CountByJacobi(p, a, b)
				if code != impl.ErrNone {
					continue
				}
				kept++
				got, code := impl.CountSolutions(p, []int64{1, 1}, []int64{a, b}, 1)
				wantWhole(t, fmt.Sprint("CountSolutions ", p, a, b), got, code, want, impl.ErrNone)
			}
		}
	}
	if kept < 300 {
		t.Errorf("there are only %d counts by Jacobi sums", kept)
	}
}

// Jacobi sums of all lists of characters add up to the full solutions, as the values at a number add
// up to the number of its roots.
func TestFullSolutionsByJacobi(t *testing.T) {
	everyGroup(func(p int64, n int64) {
		for length := 1; length <= impl.MaxFactors; length++ {
			if length > 2 && n > 4 {
				break
			}
			factors, exponents := slices.Repeat([]int64{1}, length), slices.Repeat([]int64{n}, length)
			one, nought := number(n), number(n)
			everyList(p, n, length, func(list []impl.Character) {
				sum, _ := impl.JacobiOf(list)
				one, _ = impl.AddCyclos(one, sum, 1)
				sum, _ = impl.ZeroSumOf(list)
				nought, _ = impl.AddCyclos(nought, sum, 1)
			})
			what := fmt.Sprint("CountFull ", p, exponents)
			got, code := impl.CountFull(p, factors, exponents, 1)
			wantCyclo(t, what+" 1", number(n, got), code, one, impl.ErrNone)
			got, code = impl.CountFull(p, factors, exponents, 0)
			wantCyclo(t, what+" 0", number(n, got), code, nought, impl.ErrNone)
		}
	})
}

// checkQuadric checks the numbers of solutions of a quadric for all b against the rule and against
// the equation.
func checkQuadric(t *testing.T, p int64, factors []int64) {
	t.Helper()
	twos := slices.Repeat([]int64{2}, len(factors))
	for b := range p {
		what := fmt.Sprint("QuadricNumber ", p, factors, b)
		got, code := impl.QuadricNumber(p, factors, b)
		wantWhole(t, what, got, code, wantQuadric(p, factors, b), impl.ErrNone)
		count, code := impl.CountSolutions(p, factors, twos, b)
		wantWhole(t, what+" counted", count, code, got, impl.ErrNone)
	}
}

// The guarantee: quadrics are counted by their rule.
func TestQuadrics(t *testing.T) {
	var s sequence
	for _, row := range leastRoots {
		p := row[0]
		for count := 1; count <= impl.MaxParts; count++ {
			checkQuadric(t, p, slices.Repeat([]int64{1}, count))
			checkQuadric(t, p, slices.Repeat([]int64{p - 1}, count))
			for range 6 {
				factors, _ := s.parts(p, count)
				checkQuadric(t, p, factors)
			}
		}
		for a := int64(1); a < p; a++ {
			checkQuadric(t, p, []int64{a})
			checkQuadric(t, p, []int64{1, a})
		}
	}
	for _, c := range []struct {
		p       int64
		factors []int64
		list    []int64
	}{
		{3, []int64{1}, []int64{1, 2, 0}},
		{3, []int64{2}, []int64{1, 0, 2}},
		{3, []int64{1, 1}, []int64{1, 4, 4}},
		{3, []int64{1, 2}, []int64{5, 2, 2}},
		{3, []int64{1, 1, 1}, []int64{9, 6, 12}},
		{3, []int64{1, 1, 1, 1}, []int64{33, 24, 24}},
		{3, []int64{1, 1, 1, 2}, []int64{21, 30, 30}},
		{5, []int64{1, 1}, []int64{9, 4, 4, 4, 4}},
		{7, []int64{1, 1}, []int64{1, 8, 8, 8, 8, 8, 8}},
	} {
		for b, want := range c.list {
			got, code := impl.QuadricNumber(c.p, c.factors, int64(b))
			wantWhole(t, fmt.Sprint("QuadricNumber ", c.p, c.factors, b), got, code, want, impl.ErrNone)
		}
	}
}

// Promise 8: defects keep the bound, and are told by points.
func TestCurves(t *testing.T) {
	for _, row := range leastRoots {
		p := row[0]
		for _, m := range numbersAround(impl.MaxExponent) {
			what := fmt.Sprint(" ", p, m)
			points, code := impl.CurvePoints(p, m)
			defect, defectCode := impl.CurveDefect(p, m)
			if m < 1 || m > impl.MaxExponent || m%p == 0 {
				wantWhole(t, "CurvePoints"+what, points, code, 0, impl.ErrRange)
				wantWhole(t, "CurveDefect"+what, defect, defectCode, 0, impl.ErrRange)
				continue
			}
			wantWhole(t, "CurvePoints"+what, points, code, wantPoints(p, m), impl.ErrNone)
			wantWhole(t, "CurveDefect"+what, defect, defectCode, p+1-points, impl.ErrNone)
			genus, code := impl.GenusOfCurve(m)
			if code != impl.ErrNone || defect*defect > 4*p*genus*genus {
				t.Errorf("CurveDefect%s = %d: beyond the bound of the genus %d", what, defect, genus)
			}
			if m <= 2 && points != p+1 {
				t.Errorf("CurvePoints%s = %d", what, points)
			}
		}
	}
}

// The points with z other than 0 are told by Jacobi sums, the others by the powers that are -1.
func TestCurvesByJacobi(t *testing.T) {
	everyGroup(func(p int64, m int64) {
		plane, code := impl.CountByJacobi(p, m, m)
		counts, countsCode := impl.ValueCounts(p, 1, m)
		if code != impl.ErrNone || countsCode != impl.ErrNone {
			t.Fatalf("%d %d: %d, %d", p, m, code, countsCode)
		}
		got, code := impl.CurvePoints(p, m)
		wantWhole(t, fmt.Sprint("CurvePoints ", p, m), got, code, plane+counts[p-1], impl.ErrNone)
	})
}

func TestPlainCurves(t *testing.T) {
	for _, c := range []struct{ p, m, points, defect int64 }{
		{3, 1, 4, 0}, {3, 2, 4, 0}, {3, 4, 4, 0}, {3, 59, 4, 0}, {5, 1, 6, 0}, {5, 2, 6, 0}, {5, 4, 8, -2}, {7, 3, 9, -1},
		{7, 6, 12, -4}, {13, 3, 9, 5}, {59, 58, 116, -56}, {59, 60, 60, 0}, {61, 1, 62, 0}, {61, 2, 62, 0}, {61, 60, 120, -58},
		{61, 7, 62, 0},
	} {
		points, code := impl.CurvePoints(c.p, c.m)
		wantWhole(t, fmt.Sprint("CurvePoints ", c.p, c.m), points, code, c.points, impl.ErrNone)
		defect, code := impl.CurveDefect(c.p, c.m)
		wantWhole(t, fmt.Sprint("CurveDefect ", c.p, c.m), defect, code, c.defect, impl.ErrNone)
	}
	for _, c := range [][2]int64{{3, 3}, {3, 60}, {5, 60}, {7, 49}, {7, 7}, {31, 31}, {53, 53}, {59, 59}, {61, 61}, {61, 0}, {7, -1}} {
		points, code := impl.CurvePoints(c[0], c[1])
		wantWhole(t, fmt.Sprint("CurvePoints ", c), points, code, 0, impl.ErrRange)
		defect, code := impl.CurveDefect(c[0], c[1])
		wantWhole(t, fmt.Sprint("CurveDefect ", c), defect, code, 0, impl.ErrRange)
	}
}

func TestGenus(t *testing.T) {
	for m := int64(1); m <= impl.MaxExponent; m++ {
		// The genus is the number of the pairs of numbers of at least 1 with a sum less than m.
		want := int64(0)
		for first := int64(1); first < m; first++ {
			want += m - 1 - first
		}
		got, code := impl.GenusOfCurve(m)
		wantWhole(t, fmt.Sprint("GenusOfCurve ", m), got, code, want, impl.ErrNone)
	}
	for _, m := range noExponents() {
		got, code := impl.GenusOfCurve(m)
		wantWhole(t, fmt.Sprint("GenusOfCurve ", m), got, code, 0, impl.ErrRange)
	}
	for _, c := range [][2]int64{{1, 0}, {2, 0}, {3, 1}, {4, 3}, {5, 6}, {59, 1653}, {60, 1711}} {
		got, code := impl.GenusOfCurve(c[0])
		wantWhole(t, fmt.Sprint("GenusOfCurve ", c[0]), got, code, c[1], impl.ErrNone)
	}
}

func TestPointsAbove(t *testing.T) {
	var s sequence
	everyPower(func(p int64, k int64) {
		for length := 1; length <= 8; length++ {
			list := s.residues(p, length)
			lists := [][]int64{list, make([]int64, length), slices.Repeat([]int64{p - 1}, length)}
			ended := slices.Clone(list)
			ended[length-1] = 0
			for _, f := range append(lists, ended) {
				got, code := impl.PointsAbove(p, k, f)
				wantWhole(t, fmt.Sprint("PointsAbove ", p, k, f), got, code, wantAbove(p, k, f), impl.ErrNone)
			}
		}
		// Last numbers that are 0 change nothing, and neither does 0 alone as a polynomial.
		f := s.residues(p, 3)
		short, _ := impl.PointsAbove(p, k, f)
		long, code := impl.PointsAbove(p, k, slices.Concat(f, make([]int64, 5)))
		wantWhole(t, fmt.Sprint("PointsAbove ", p, k, f, " with zeros"), long, code, short, impl.ErrNone)
		nought, code := impl.PointsAbove(p, k, []int64{0})
		wantWhole(t, fmt.Sprint("PointsAbove ", p, k, " 0"), nought, code, p, impl.ErrNone)
	})
	for _, c := range []struct {
		p, k   int64
		list   []int64
		points int64
	}{
		{5, 2, []int64{0, 1, 0, 1}, 3}, {7, 3, []int64{0}, 7}, {7, 3, []int64{1}, 21}, {7, 3, []int64{2}, 0}, {7, 7, []int64{2}, 7},
		{7, 2, []int64{0, 1}, 7}, {7, 3, []int64{0, 0, 0, 1}, 19}, {7, 2, []int64{0, 0, 0, 0, 0, 0, 0, 1}, 7},
		{7, 2, []int64{0, 1, 0, 0, 0, 0, 0, 0}, 7}, {7, 2, []int64{6, 0, 1}, 6}, {3, 2, []int64{2, 2, 2}, 1}, {3, 60, []int64{1}, 6},
		{61, 60, []int64{1}, 3660}, {61, 60, []int64{60}, 0}, {61, 1, []int64{60, 60, 60, 60, 60, 60, 60, 60}, 61},
	} {
		got, code := impl.PointsAbove(c.p, c.k, c.list)
		wantWhole(t, fmt.Sprint("PointsAbove ", c.p, c.k, c.list), got, code, c.points, impl.ErrNone)
	}
}

// Polynomials have 1 to 8 numbers, all in 0..p - 1.
func TestWrongPolynomials(t *testing.T) {
	everyPower(func(p int64, k int64) {
		lists := [][]int64{nil, {}, make([]int64, 9), make([]int64, 10), make([]int64, 100)}
		for length := 1; length <= 8; length++ {
			for at := range length {
				for _, number := range append([]int64{-1, p, p + 1, -p, 1 - p, 100}, extremes...) {
					list := make([]int64, length)
					list[at] = number
					lists = append(lists, list)
				}
			}
		}
		for _, list := range lists {
			got, code := impl.PointsAbove(p, k, list)
			wantWhole(t, fmt.Sprint("PointsAbove ", p, k, list), got, code, 0, impl.ErrRange)
		}
	})
}

// sumsOfPowers tells which numbers are sums of as many powers.
func sumsOfPowers(p int64, powers []int64, count int64) []bool {
	sums := make([]bool, p)
	sums[0] = true
	for range count {
		next := make([]bool, p)
		for number, isSum := range sums {
			for _, power := range powers {
				if isSum {
					next[(int64(number)+power)%p] = true
				}
			}
		}
		sums = next
	}
	return sums
}

// Each number is a sum of as many powers as the power number tells, and not of one less.
func TestPowerNumbers(t *testing.T) {
	everyPower(func(p int64, k int64) {
		what := fmt.Sprint("PowerNumber ", p, k)
		got, code := impl.PowerNumber(p, k)
		wantWhole(t, what, got, code, slices.Max(wantDistances(p, k)), impl.ErrNone)
		powers, _ := impl.PowersOf(p, k)
		if slices.Contains(sumsOfPowers(p, powers, got), false) {
			t.Errorf("%s = %d: a number is no sum of so many powers", what, got)
		}
		if got < 1 || !slices.Contains(sumsOfPowers(p, powers, got-1), false) {
			t.Errorf("%s = %d: all numbers are sums of one less", what, got)
		}
		least, _ := impl.LeastNoPower(p, k)
		if (got == 1) != (least == 0) {
			t.Errorf("%s = %d, but the least number that is no power is %d", what, got, least)
		}
		if got <= impl.MaxParts {
			for b := range p {
				ones, exponents := slices.Repeat([]int64{1}, int(got)), slices.Repeat([]int64{k}, int(got))
				if count, code := impl.CountSolutions(p, ones, exponents, b); count < 1 || code != impl.ErrNone {
					t.Errorf("%s = %d: there are %d sums that are %d", what, got, count, b)
				}
			}
		}
	})
	for _, c := range [][3]int64{
		{3, 1, 1}, {3, 2, 2}, {3, 60, 2}, {5, 2, 2}, {5, 4, 4}, {7, 1, 1}, {7, 2, 2}, {7, 3, 3}, {7, 6, 6}, {7, 60, 6},
		{11, 3, 1}, {11, 5, 5}, {13, 4, 3}, {59, 29, 29}, {59, 58, 58}, {61, 1, 1}, {61, 2, 2}, {61, 30, 30}, {61, 60, 60},
	} {
		got, code := impl.PowerNumber(c[0], c[1])
		wantWhole(t, fmt.Sprint("PowerNumber ", c[:2]), got, code, c[2], impl.ErrNone)
	}
}

// checkNoPower checks that nothing is told of what is no prime with an exponent.
func checkNoPower(t *testing.T, p int64, k int64) {
	t.Helper()
	what := fmt.Sprint(" ", p, " ", k)
	list, code := impl.PowersOf(p, k)
	wantNumbers(t, "PowersOf"+what, list, code, nil, impl.ErrRange)
	list, code = impl.ValueCounts(p, 1, k)
	wantNumbers(t, "ValueCounts"+what, list, code, nil, impl.ErrRange)
	for _, f := range [][]int64{{0}, {1}, {0, 1}, {0, 0, 0, 0, 0, 0, 0, 1}} {
		points, code := impl.PointsAbove(p, k, f)
		wantWhole(t, fmt.Sprint("PointsAbove", what, f), points, code, 0, impl.ErrRange)
	}
	number, code := impl.PowerNumber(p, k)
	wantWhole(t, "PowerNumber"+what, number, code, 0, impl.ErrRange)
	number, code = impl.LeastNoPower(p, k)
	wantWhole(t, "LeastNoPower"+what, number, code, 0, impl.ErrRange)
	number, code = impl.CurvePoints(p, k)
	wantWhole(t, "CurvePoints"+what, number, code, 0, impl.ErrRange)
	number, code = impl.CurveDefect(p, k)
	wantWhole(t, "CurveDefect"+what, number, code, 0, impl.ErrRange)
}

// checkNoSolutions checks that nothing is counted for what is no equation.
func checkNoSolutions(t *testing.T, p int64, factors []int64, exponents []int64, b int64) {
	t.Helper()
	what := fmt.Sprint(" ", p, factors, exponents, b)
	got, code := impl.CountSolutions(p, factors, exponents, b)
	wantWhole(t, "CountSolutions"+what, got, code, 0, impl.ErrRange)
	got, code = impl.CountFull(p, factors, exponents, b)
	wantWhole(t, "CountFull"+what, got, code, 0, impl.ErrRange)
}

// checkNoQuadric checks the same of a quadric.
func checkNoQuadric(t *testing.T, p int64, factors []int64, b int64) {
	t.Helper()
	checkNoSolutions(t, p, factors, slices.Repeat([]int64{2}, len(factors)), b)
	got, code := impl.QuadricNumber(p, factors, b)
	wantWhole(t, fmt.Sprint("QuadricNumber ", p, factors, b), got, code, 0, impl.ErrRange)
}

func TestWrongPrimesOfEquations(t *testing.T) {
	wrong := noPrimes()
	for _, p := range []int64{-61, -3, 0, 1, 2, 4, 9, 49, 57, 62, 63, 67} {
		if !slices.Contains(wrong, p) {
			t.Errorf("%d is not wrong", p)
		}
	}
	for _, p := range wrong {
		for _, k := range []int64{1, 2, 3, 59, impl.MaxExponent, 0, impl.MaxExponent + 1, p, p - 1} {
			checkNoPower(t, p, k)
		}
		for _, factor := range []int64{1, 2, p - 1, p, 0} {
			for _, b := range []int64{0, 1, p - 1, p} {
				for count := 1; count <= impl.MaxParts; count++ {
					checkNoQuadric(t, p, slices.Repeat([]int64{factor}, count), b)
				}
			}
			list, code := impl.ValueCounts(p, factor, 2)
			wantNumbers(t, fmt.Sprint("ValueCounts ", p, factor), list, code, nil, impl.ErrRange)
		}
		checkNoQuadric(t, p, nil, 0)
	}
}

func TestWrongExponents(t *testing.T) {
	for _, row := range leastRoots {
		p := row[0]
		for _, k := range noExponents() {
			checkNoPower(t, p, k)
			for count := 1; count <= impl.MaxParts; count++ {
				for at := range count {
					factors, exponents := slices.Repeat([]int64{1}, count), slices.Repeat([]int64{1}, count)
					exponents[at] = k
					checkNoSolutions(t, p, factors, exponents, 0)
				}
			}
		}
		// These are the last ones that are told.
		for _, k := range []int64{1, impl.MaxExponent} {
			if _, code := impl.PowersOf(p, k); code != impl.ErrNone {
				t.Errorf("PowersOf %d %d = %d", p, k, code)
			}
			checkSolutions(t, p, []int64{p - 1, 1}, []int64{k, impl.MaxExponent})
		}
	}
}

func TestWrongFactorsAndNumbers(t *testing.T) {
	for _, row := range leastRoots {
		p := row[0]
		for count := 1; count <= impl.MaxParts; count++ {
			good := slices.Repeat([]int64{p - 1}, count)
			for at := range count {
				for _, factor := range append([]int64{0, -1, p, p + 1, -p, 1 - p, 2*p + 1}, extremes...) {
					factors := slices.Clone(good)
					factors[at] = factor
					checkNoQuadric(t, p, factors, 0)
				}
			}
			for _, b := range append([]int64{-1, -p, 1 - p, p, p + 1, 2 * p}, extremes...) {
				checkNoQuadric(t, p, good, b)
			}
			for _, b := range []int64{0, p - 1} {
				got, code := impl.QuadricNumber(p, good, b)
				wantWhole(t, fmt.Sprint("QuadricNumber ", p, good, b), got, code, wantQuadric(p, good, b), impl.ErrNone)
			}
		}
	}
}

// Lists have 1 to MaxParts numbers, and equally many.
func TestWrongLengthsOfEquations(t *testing.T) {
	for _, row := range leastRoots {
		p := row[0]
		lists := [][]int64{nil, {}}
		for length := 1; length <= impl.MaxParts+2; length++ {
			lists = append(lists, slices.Repeat([]int64{1}, length))
		}
		for i, factors := range append(lists, slices.Repeat([]int64{2}, 100)) {
			isTold := len(factors) >= 1 && len(factors) <= impl.MaxParts
			for j, exponents := range lists {
				if isTold && i == j {
					checkSolutions(t, 3, factors, exponents)
					continue
				}
				checkNoSolutions(t, p, factors, exponents, 0)
				checkNoSolutions(t, p, factors, exponents, p-1)
			}
			if !isTold {
				checkNoQuadric(t, p, factors, 0)
				checkNoQuadric(t, p, factors, p-1)
			}
		}
	}
}

// Results are new memory, and lists and their spare capacity stay as they are.
func TestMemoryOfEquations(t *testing.T) {
	allFactors, allExponents := slices.Repeat([]int64{77}, 16), slices.Repeat([]int64{78}, 16)
	copy(allFactors, []int64{3, 1, 2})
	copy(allExponents, []int64{2, 3, 6})
	factors, exponents := allFactors[:3], allExponents[:3]
	factorsBefore, exponentsBefore := slices.Clone(allFactors), slices.Clone(allExponents)
	calls := map[string]func() ([]int64, int64){
		"PowersOf":    func() ([]int64, int64) { return impl.PowersOf(7, 3) },
		"PowersOf 1":  func() ([]int64, int64) { return impl.PowersOf(7, 1) },
		"ValueCounts": func() ([]int64, int64) { return impl.ValueCounts(7, 3, 2) },
	}
	areKept := func() bool {
		return slices.Equal(allFactors, factorsBefore) && slices.Equal(allExponents, exponentsBefore)
	}
	wantNewLists(t, calls, areKept)
	for range 2 {
		for b := range int64(7) {
			got, code := impl.CountSolutions(7, factors, exponents, b)
			wantWhole(t, "CountSolutions", got, code, wantSolutions(7, factorsBefore[:3], exponentsBefore[:3], 0)[b], impl.ErrNone)
			got, code = impl.CountFull(7, factors, exponents, b)
			wantWhole(t, "CountFull", got, code, wantSolutions(7, factorsBefore[:3], exponentsBefore[:3], 1)[b], impl.ErrNone)
			got, code = impl.QuadricNumber(7, factors, b)
			wantWhole(t, "QuadricNumber", got, code, wantQuadric(7, factorsBefore[:3], b), impl.ErrNone)
			got, code = impl.PointsAbove(7, 3, factors)
			wantWhole(t, "PointsAbove", got, code, wantAbove(7, 3, factorsBefore[:3]), impl.ErrNone)
		}
		checkNoSolutions(t, 7, factors, exponents, 7)
		checkNoQuadric(t, 7, factors, -1)
		if !areKept() {
			t.Fatalf("a list was changed: %v, %v", allFactors, allExponents)
		}
	}
}
