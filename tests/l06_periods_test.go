package tests

import (
	"fmt"
	"slices"
	"testing"

	"loop.example/g01313/impl"
)

// greatest is the greatest absolute value of a number of a sum of periods.
const greatest = 1000

// wantRows checks a table and a code. Beside an error the table has to be empty.
func wantRows(t *testing.T, what string, got [][]int64, code int64, want [][]int64, wantCode int64) {
	t.Helper()
	if !slices.EqualFunc(got, want, slices.Equal[[]int64]) || code != wantCode {
		t.Errorf("%s = %v, %d; want %v, %d", what, got, code, want, wantCode)
	}
}

// shifted returns a list whose number at i stands at i + k.
func shifted(list []int64, k int64) []int64 {
	at := len(list) - int(k)
	return slices.Concat(list[at:], list[:at])
}

func sumOf(list []int64) int64 {
	sum := int64(0)
	for _, number := range list {
		sum += number
	}
	return sum
}

// numbersAround returns the numbers from -3 to 3 beyond a limit, and the extremes.
func numbersAround(limit int64) []int64 {
	list := slices.Clone(extremes)
	for number := int64(-3); number <= limit+3; number++ {
		list = append(list, number)
	}
	return list
}

func TestLimitOfPeriods(t *testing.T) {
	if impl.MaxPeriods != 12 {
		t.Errorf("the limit is %d", impl.MaxPeriods)
	}
	kept := 0
	everyClassing(func(p int64, e int64) { kept++ })
	if kept != 74 {
		t.Errorf("there are %d primes with numbers of classes", kept)
	}
}

func TestClasses(t *testing.T) {
	everyClassing(func(p int64, e int64) {
		members := wantMembers(p, e)
		for _, x := range append(upToHundred(), extremes...) {
			want, wantCode := int64(0), int64(impl.ErrRange)
			for i, list := range members {
				if slices.Contains(list, x) {
					want, wantCode = int64(i), impl.ErrNone
				}
			}
			got, code := impl.ClassOf(p, e, x)
			wantWhole(t, fmt.Sprint("ClassOf ", p, e, x), got, code, want, wantCode)
		}
		for _, i := range numbersAround(p) {
			want, wantCode := []int64(nil), int64(impl.ErrRange)
			if i >= 0 && i < e {
				want, wantCode = members[i], impl.ErrNone
			}
			got, code := impl.ClassMembers(p, e, i)
			wantNumbers(t, fmt.Sprint("ClassMembers ", p, e, i), got, code, want, wantCode)
			if code == impl.ErrNone && int64(len(got)) != (p-1)/e {
				t.Errorf("the class %d of %d for %d has %d numbers", i, e, p, len(got))
			}
		}
	})
}

func TestPlainClasses(t *testing.T) {
	cases := []struct {
		p, e int64
		list [][]int64
	}{
		{3, 1, [][]int64{{1, 2}}},
		{3, 2, [][]int64{{1}, {2}}},
		{5, 2, [][]int64{{1, 4}, {2, 3}}},
		{5, 4, [][]int64{{1}, {2}, {4}, {3}}},
		{7, 2, [][]int64{{1, 2, 4}, {3, 5, 6}}},
		{7, 3, [][]int64{{1, 6}, {3, 4}, {2, 5}}},
		{13, 4, [][]int64{{1, 3, 9}, {2, 5, 6}, {4, 10, 12}, {7, 8, 11}}},
		{41, 10, [][]int64{
			{1, 9, 32, 40}, {6, 13, 28, 35}, {4, 5, 36, 37}, {11, 17, 24, 30}, {16, 20, 21, 25},
			{3, 14, 27, 38}, {2, 18, 23, 39}, {12, 15, 26, 29}, {8, 10, 31, 33}, {7, 19, 22, 34},
		}},
	}
	for _, c := range cases {
		for i, want := range c.list {
			got, code := impl.ClassMembers(c.p, c.e, int64(i))
			wantNumbers(t, fmt.Sprint("ClassMembers ", c.p, c.e, i), got, code, want, impl.ErrNone)
			for _, x := range want {
				class, code := impl.ClassOf(c.p, c.e, x)
				wantWhole(t, fmt.Sprint("ClassOf ", c.p, c.e, x), class, code, int64(i), impl.ErrNone)
			}
		}
	}
}

func TestCyclotomicNumbers(t *testing.T) {
	everyClassing(func(p int64, e int64) {
		table := wantTable(p, e)
		got, code := impl.CyclotomicTable(p, e)
		wantRows(t, fmt.Sprint("CyclotomicTable ", p, e), got, code, table, impl.ErrNone)
		for _, i := range numbersAround(e) {
			for _, j := range numbersAround(e) {
				want, wantCode := int64(0), int64(impl.ErrRange)
				if i >= 0 && i < e && j >= 0 && j < e {
					want, wantCode = table[i][j], impl.ErrNone
				}
				got, code := impl.CyclotomicNumber(p, e, i, j)
				wantWhole(t, fmt.Sprint("CyclotomicNumber ", p, e, i, j), got, code, want, wantCode)
			}
		}
	})
}

func TestPlainTables(t *testing.T) {
	cases := []struct {
		p, e int64
		rows [][]int64
	}{
		{3, 1, [][]int64{{1}}},
		{3, 2, [][]int64{{0, 1}, {0, 0}}},
		{5, 1, [][]int64{{3}}},
		{5, 2, [][]int64{{0, 1}, {1, 1}}},
		{5, 4, [][]int64{{0, 1, 0, 0}, {0, 0, 0, 1}, {0, 0, 0, 0}, {0, 0, 1, 0}}},
		{7, 2, [][]int64{{1, 2}, {1, 1}}},
		{7, 3, [][]int64{{0, 0, 1}, {0, 1, 1}, {1, 1, 0}}},
		{13, 4, [][]int64{{0, 1, 2, 0}, {1, 1, 0, 1}, {0, 1, 0, 1}, {1, 0, 1, 1}}},
		{61, 1, [][]int64{{59}}},
		{61, 2, [][]int64{{14, 15}, {15, 15}}},
	}
	for _, c := range cases {
		got, code := impl.CyclotomicTable(c.p, c.e)
		wantRows(t, fmt.Sprint("CyclotomicTable ", c.p, c.e), got, code, c.rows, impl.ErrNone)
		for i, row := range c.rows {
			for j, want := range row {
				got, code := impl.CyclotomicNumber(c.p, c.e, int64(i), int64(j))
				wantWhole(t, fmt.Sprint("CyclotomicNumber ", c.p, c.e, i, j), got, code, want, impl.ErrNone)
			}
		}
	}
}

// Promise 6: rows of tables add up to the numbers of classes. The number p - 1 is the only one that
// is left out, and so 1 is in columns.
func TestRowsOfTables(t *testing.T) {
	where := map[int64]int{}
	everyClassing(func(p int64, e int64) {
		what := fmt.Sprint("the table of ", p, e)
		table, code := impl.CyclotomicTable(p, e)
		last, lastCode := impl.ClassOf(p, e, p-1)
		if code != impl.ErrNone || lastCode != impl.ErrNone || int64(len(table)) != e {
			t.Fatalf("%s: %v, %d, %d", what, table, code, lastCode)
		}
		where[last]++
		columns := make([]int64, e)
		for i, row := range table {
			members, _ := impl.ClassMembers(p, e, int64(i))
			want := int64(len(members))
			if int64(i) == last {
				want--
			}
			if sumOf(row) != want {
				t.Errorf("%s: the row %d is %v", what, i, row)
			}
			for j, number := range row {
				columns[j] += number
			}
		}
		columns[0]++
		if want := slices.Repeat([]int64{(p - 1) / e}, int(e)); !slices.Equal(columns, want) {
			t.Errorf("%s: its columns add up to %v", what, columns)
		}
	})
	// The number p - 1 is of the class 0, or of the one in the middle.
	for class := range int64(impl.MaxPeriods/2 + 1) {
		if where[class] == 0 {
			t.Errorf("p - 1 is never of the class %d", class)
		}
	}
}

// someSums returns sums of e periods: all periods alone, 0, 1, greatest numbers, and others.
func someSums(s *sequence, e int64) [][]int64 {
	list := [][]int64{make([]int64, e), slices.Repeat([]int64{-1}, int(e))}
	for i := range e {
		list = append(list, periodAlone(e, i))
	}
	mixed := slices.Repeat([]int64{greatest}, int(e))
	list = append(list, slices.Clone(mixed), slices.Repeat([]int64{-greatest}, int(e)))
	for i := range mixed {
		mixed[i] *= 1 - 2*int64(i%2)
	}
	list = append(list, mixed)
	for _, limit := range []int64{1, 30, greatest} {
		list = append(list, s.list(int(e), limit))
	}
	return list
}

// Promise 6: products do not depend on the order.
func TestMultiplyPeriods(t *testing.T) {
	var s sequence
	everyClassing(func(p int64, e int64) {
		sums := someSums(&s, e)
		for i, a := range sums {
			for _, b := range sums[i:] {
				want := wantPeriodProduct(p, a, b)
				got, code := impl.MultiplyPeriods(p, e, a, b)
				wantNumbers(t, fmt.Sprint("MultiplyPeriods ", p, e, a, b), got, code, want, impl.ErrNone)
				got, code = impl.MultiplyPeriods(p, e, b, a)
				wantNumbers(t, fmt.Sprint("MultiplyPeriods ", p, e, b, a), got, code, want, impl.ErrNone)
			}
		}
		one := slices.Repeat([]int64{-1}, int(e))
		for _, a := range sums {
			got, code := impl.MultiplyPeriods(p, e, a, one)
			wantNumbers(t, fmt.Sprint("MultiplyPeriods by 1 ", p, e, a), got, code, a, impl.ErrNone)
		}
	})
}

func TestPlainProducts(t *testing.T) {
	cases := []struct {
		p, e       int64
		a, b, want []int64
	}{
		{5, 2, []int64{1, 0}, []int64{0, 1}, []int64{1, 1}},
		{5, 2, []int64{1, 0}, []int64{1, 0}, []int64{-2, -1}},
		{5, 2, []int64{0, 1}, []int64{0, 1}, []int64{-1, -2}},
		{3, 1, []int64{1}, []int64{1}, []int64{-1}},
		{61, 1, []int64{1000}, []int64{1000}, []int64{-1000000}},
		{61, 1, []int64{-1000}, []int64{1000}, []int64{1000000}},
		{3, 2, []int64{1, 0}, []int64{1, 0}, []int64{0, 1}},
		{3, 2, []int64{1, 0}, []int64{0, 1}, []int64{-1, -1}},
		{7, 2, []int64{1, 0}, []int64{0, 1}, []int64{-2, -2}},
		{7, 2, []int64{1, 0}, []int64{1, 0}, []int64{1, 2}},
		{7, 3, []int64{1, 0, 0}, []int64{1, 0, 0}, []int64{-2, -2, -1}},
		{7, 3, []int64{1, 0, 0}, []int64{0, 1, 0}, []int64{0, 1, 1}},
		{7, 3, []int64{0, 0, 1}, []int64{1, 0, 0}, []int64{1, 1, 0}},
	}
	for _, c := range cases {
		got, code := impl.MultiplyPeriods(c.p, c.e, c.a, c.b)
		wantNumbers(t, fmt.Sprint("MultiplyPeriods ", c.p, c.e, c.a, c.b), got, code, c.want, impl.ErrNone)
	}
}

// Promise 6: products of sums of periods go with shifts.
func TestShiftPeriods(t *testing.T) {
	var s sequence
	everyClassing(func(p int64, e int64) {
		for _, a := range someSums(&s, e) {
			b := s.list(int(e), greatest)
			product, _ := impl.MultiplyPeriods(p, e, a, b)
			for _, k := range numbersAround(p) {
				what := fmt.Sprint("ShiftPeriods ", p, e, a, k)
				movedA, code := impl.ShiftPeriods(p, e, a, k)
				if k < 0 || k >= e {
					wantNumbers(t, what, movedA, code, nil, impl.ErrRange)
					continue
				}
				wantNumbers(t, what, movedA, code, shifted(a, k), impl.ErrNone)
				movedB, _ := impl.ShiftPeriods(p, e, b, k)
				got, code := impl.MultiplyPeriods(p, e, movedA, movedB)
				wantNumbers(t, fmt.Sprint("MultiplyPeriods of ", what, b), got, code, shifted(product, k), impl.ErrNone)
				back, code := impl.ShiftPeriods(p, e, movedA, (e-k)%e)
				wantNumbers(t, "back from "+what, back, code, a, impl.ErrNone)
			}
		}
	})
	got, code := impl.ShiftPeriods(7, 3, []int64{1, -2, 3}, 1)
	wantNumbers(t, "ShiftPeriods", got, code, []int64{3, 1, -2}, impl.ErrNone)
	got, code = impl.ShiftPeriods(7, 3, []int64{1, -2, 3}, 2)
	wantNumbers(t, "ShiftPeriods", got, code, []int64{-2, 3, 1}, impl.ErrNone)
	got, code = impl.ShiftPeriods(7, 1, []int64{5}, 0)
	wantNumbers(t, "ShiftPeriods", got, code, []int64{5}, impl.ErrNone)
}

// The trace is the whole number that all shifted sums add up to, and the same for all of them.
func TestTracesOfPeriods(t *testing.T) {
	var s sequence
	everyClassing(func(p int64, e int64) {
		for _, a := range someSums(&s, e) {
			what := fmt.Sprint("TraceOfPeriods ", p, e, a)
			got, code := impl.TraceOfPeriods(p, e, a)
			wantWhole(t, what, got, code, -sumOf(a), impl.ErrNone)
			all := make([]int64, e)
			for k := range e {
				list, _ := impl.ShiftPeriods(p, e, a, k)
				again, code := impl.TraceOfPeriods(p, e, list)
				wantWhole(t, what+" shifted", again, code, got, impl.ErrNone)
				for i, number := range list {
					all[i] += number
				}
			}
			if want := slices.Repeat([]int64{-got}, int(e)); !slices.Equal(all, want) {
				t.Errorf("%s: the shifted sums add up to %v", what, all)
			}
		}
	})
	got, code := impl.TraceOfPeriods(61, 12, slices.Repeat([]int64{greatest}, 12))
	wantWhole(t, "TraceOfPeriods", got, code, -12000, impl.ErrNone)
	got, code = impl.TraceOfPeriods(7, 3, []int64{1, -2, 4})
	wantWhole(t, "TraceOfPeriods", got, code, -3, impl.ErrNone)
	got, code = impl.TraceOfPeriods(3, 1, []int64{-5})
	wantWhole(t, "TraceOfPeriods", got, code, 5, impl.ErrNone)
}

// Refined sums are the same sums of powers of z.
func TestRefinePeriods(t *testing.T) {
	var s sequence
	everyClassing(func(p int64, e int64) {
		for _, d := range numbersAround(p) {
			if d < 1 || e%d != 0 {
				for _, length := range []int64{rest(d, 64), e, 1, 2} {
					got, code := impl.RefinePeriods(p, d, e, make([]int64, length))
					wantNumbers(t, fmt.Sprint("RefinePeriods ", p, d, e, length), got, code, nil, impl.ErrRange)
				}
				continue
			}
			for _, a := range someSums(&s, d) {
				what := fmt.Sprint("RefinePeriods ", p, d, e, a)
				got, code := impl.RefinePeriods(p, d, e, a)
				wantNumbers(t, what, got, code, rootSumOf(p, a).told(e), impl.ErrNone)
				trace, code := impl.TraceOfPeriods(p, e, got)
				wantWhole(t, "the trace of "+what, trace, code, -sumOf(a)*(e/d), impl.ErrNone)
			}
		}
	})
	got, code := impl.RefinePeriods(5, 2, 4, []int64{3, 4})
	wantNumbers(t, "RefinePeriods", got, code, []int64{3, 4, 3, 4}, impl.ErrNone)
	got, code = impl.RefinePeriods(7, 1, 3, []int64{-2})
	wantNumbers(t, "RefinePeriods", got, code, []int64{-2, -2, -2}, impl.ErrNone)
	got, code = impl.RefinePeriods(13, 3, 12, []int64{1, 2, 3})
	wantNumbers(t, "RefinePeriods", got, code, []int64{1, 2, 3, 1, 2, 3, 1, 2, 3, 1, 2, 3}, impl.ErrNone)
	got, code = impl.RefinePeriods(13, 4, 12, []int64{1, 2, 3, -1000})
	wantNumbers(t, "RefinePeriods", got, code, []int64{1, 2, 3, -1000, 1, 2, 3, -1000, 1, 2, 3, -1000}, impl.ErrNone)
	// Here e does not divide d, nor d e, or e is beyond the limit though d is not.
	for _, c := range [][3]int64{{13, 12, 4}, {13, 4, 6}, {13, 6, 4}, {13, 2, 3}, {61, 5, 12}, {61, 10, 20}, {61, 5, 15}, {61, 12, 60}} {
		got, code := impl.RefinePeriods(c[0], c[1], c[2], make([]int64, c[1]))
		wantNumbers(t, fmt.Sprint("RefinePeriods ", c), got, code, nil, impl.ErrRange)
	}
}

// Products of refined sums are refined products, and what is refined twice is refined once.
func TestRefinedProducts(t *testing.T) {
	var s sequence
	kept := 0
	everyClassing(func(p int64, e int64) {
		for d := int64(1); d <= e; d++ {
			if e%d != 0 {
				continue
			}
			a, b := s.list(int(d), 3), s.list(int(d), 3)
			what := fmt.Sprint(p, d, e, a, b)
			fineA, _ := impl.RefinePeriods(p, d, e, a)
			fineB, _ := impl.RefinePeriods(p, d, e, b)
			product, _ := impl.MultiplyPeriods(p, d, a, b)
			want, code := impl.RefinePeriods(p, d, e, product)
			if code == impl.ErrNone {
				kept++
				got, code := impl.MultiplyPeriods(p, e, fineA, fineB)
				wantNumbers(t, "the refined product "+what, got, code, want, impl.ErrNone)
			}
			for f := e; f <= impl.MaxPeriods; f += e {
				if haveClasses(p, f) {
					once, onceCode := impl.RefinePeriods(p, d, f, a)
					twice, code := impl.RefinePeriods(p, e, f, fineA)
					wantNumbers(t, fmt.Sprint("RefinePeriods twice ", what, f), twice, code, once, onceCode)
				}
			}
		}
	})
	if kept < 150 {
		t.Errorf("only %d products are within the limit", kept)
	}
}

func TestPeriodPolynomials(t *testing.T) {
	everyClassing(func(p int64, e int64) {
		got, code := impl.PeriodPolynomial(p, e)
		wantNumbers(t, fmt.Sprint("PeriodPolynomial ", p, e), got, code, wantPeriodPolynomial(p, e), impl.ErrNone)
	})
	cases := []struct {
		p, e int64
		list []int64
	}{
		{3, 1, []int64{1, 1}},
		{61, 1, []int64{1, 1}},
		{3, 2, []int64{1, 1, 1}},
		{5, 2, []int64{-1, 1, 1}},
		{5, 4, []int64{1, 1, 1, 1, 1}},
		{7, 2, []int64{2, 1, 1}},
		{7, 3, []int64{-1, -2, 1, 1}},
		{11, 5, []int64{1, 3, -3, -4, 1, 1}},
		{13, 3, []int64{1, -4, 1, 1}},
		{13, 4, []int64{3, -4, 2, 1, 1}},
		{13, 12, slices.Repeat([]int64{1}, 13)},
		{61, 2, []int64{-15, 1, 1}},
		{61, 3, []int64{-9, -20, 1, 1}},
	}
	for _, c := range cases {
		got, code := impl.PeriodPolynomial(c.p, c.e)
		wantNumbers(t, fmt.Sprint("PeriodPolynomial ", c.p, c.e), got, code, c.list, impl.ErrNone)
	}
}

// Period polynomials have the traces of the periods: with those of all powers of h(0) up to e, by the
// identities of Newton, s(k) + c(e - 1) s(k - 1) + .. + c(e - k + 1) s(1) + k c(e - k) is 0.
func TestTracesInPolynomials(t *testing.T) {
	everyClassing(func(p int64, e int64) {
		list, code := impl.PeriodPolynomial(p, e)
		if code != impl.ErrNone || int64(len(list)) != e+1 {
			t.Fatalf("PeriodPolynomial %d %d = %v, %d", p, e, list, code)
		}
		period := rootSumOf(p, periodAlone(e, 0))
		power := period
		traces := []int64{e}
		for k := int64(1); k <= e; k++ {
			numbers := power.told(e)
			trace := -sumOf(numbers)
			if slices.Max(numbers) <= greatest && slices.Min(numbers) >= -greatest {
				got, code := impl.TraceOfPeriods(p, e, numbers)
				wantWhole(t, fmt.Sprint("the trace of h(0) to the power of ", k, " for ", p, e), got, code, trace, impl.ErrNone)
			}
			traces = append(traces, trace)
			sum := k * list[e-k]
			for i := range k {
				sum += list[e-i] * traces[k-i]
			}
			if sum != 0 {
				t.Errorf("PeriodPolynomial %d %d = %v: not the traces %v", p, e, list, traces)
			}
			power = power.times(period)
		}
	})
}

func TestDifferences(t *testing.T) {
	everyClassing(func(p int64, e int64) {
		what := fmt.Sprint(p, e)
		want := wantDifferences(p, e)
		got, code := impl.DifferenceNumbers(p, e)
		wantNumbers(t, "DifferenceNumbers "+what, got, code, want, impl.ErrNone)
		// All pairs of two numbers of the class 0 have a difference.
		if f := (p - 1) / e; sumOf(got) != f-1 {
			t.Errorf("DifferenceNumbers %s = %v: not as many as pairs", what, got)
		}
		yes, code := impl.IsDifferenceClass(p, e)
		wantAnswer(t, "IsDifferenceClass "+what, yes, code, len(slices.Compact(want)) == 1, impl.ErrNone)
	})
	cases := []struct {
		p, e int64
		list []int64
		yes  bool
	}{
		{3, 1, []int64{1}, true},
		{61, 1, []int64{59}, true},
		{3, 2, []int64{0, 0}, true},
		{5, 2, []int64{0, 1}, false},
		{5, 4, []int64{0, 0, 0, 0}, true},
		{7, 2, []int64{1, 1}, true},
		{7, 3, []int64{0, 0, 1}, false},
		{11, 2, []int64{2, 2}, true},
		{13, 2, []int64{2, 3}, false},
		{13, 4, []int64{0, 1, 0, 1}, false},
		{37, 4, []int64{2, 2, 2, 2}, true},
		{59, 2, []int64{14, 14}, true},
		{61, 2, []int64{14, 15}, false},
	}
	for _, c := range cases {
		got, code := impl.DifferenceNumbers(c.p, c.e)
		wantNumbers(t, fmt.Sprint("DifferenceNumbers ", c.p, c.e), got, code, c.list, impl.ErrNone)
		yes, code := impl.IsDifferenceClass(c.p, c.e)
		wantAnswer(t, fmt.Sprint("IsDifferenceClass ", c.p, c.e), yes, code, c.yes, impl.ErrNone)
	}
}

// checkBadSums checks that nothing is told for sums of periods.
func checkBadSums(t *testing.T, p int64, e int64, bad []int64, other []int64) {
	t.Helper()
	what := fmt.Sprint(" ", p, " ", e, " ", bad)
	list, code := impl.MultiplyPeriods(p, e, bad, other)
	wantNumbers(t, "MultiplyPeriods"+what, list, code, nil, impl.ErrRange)
	list, code = impl.MultiplyPeriods(p, e, other, bad)
	wantNumbers(t, "MultiplyPeriods"+what+" turned", list, code, nil, impl.ErrRange)
	list, code = impl.MultiplyPeriods(p, e, bad, bad)
	wantNumbers(t, "MultiplyPeriods"+what+" twice", list, code, nil, impl.ErrRange)
	list, code = impl.ShiftPeriods(p, e, bad, 0)
	wantNumbers(t, "ShiftPeriods"+what, list, code, nil, impl.ErrRange)
	trace, code := impl.TraceOfPeriods(p, e, bad)
	wantWhole(t, "TraceOfPeriods"+what, trace, code, 0, impl.ErrRange)
	list, code = impl.RefinePeriods(p, e, e, bad)
	wantNumbers(t, "RefinePeriods"+what, list, code, nil, impl.ErrRange)
}

// checkBadCoarse checks that wrong lists of numbers of d periods are not refined to e periods.
func checkBadCoarse(t *testing.T, p int64, d int64, e int64) {
	t.Helper()
	lists := [][]int64{nil, make([]int64, d-1), make([]int64, d+1), make([]int64, e)}
	for _, number := range append([]int64{greatest + 1, -greatest - 1}, extremes...) {
		for i := range d {
			list := make([]int64, d)
			list[i] = number
			lists = append(lists, list)
		}
	}
	for _, list := range lists {
		got, code := impl.RefinePeriods(p, d, e, list)
		wantNumbers(t, fmt.Sprint("RefinePeriods ", p, d, e, list), got, code, nil, impl.ErrRange)
	}
}

// Nothing is told if p is no prime, or e does not divide p - 1, or is no number of classes.
func TestWrongPrimesAndClasses(t *testing.T) {
	wrong := 0
	for _, p := range append(upToHundred(), extremes...) {
		for _, e := range numbersAround(max(20, min(p, 100))) {
			if haveClasses(p, e) {
				continue
			}
			wrong++
			what := fmt.Sprint(" ", p, " ", e)
			list := make([]int64, rest(e, 64))
			checkBadSums(t, p, e, list, list)
			checkBadSums(t, p, e, nil, nil)
			refined, code := impl.RefinePeriods(p, 1, e, []int64{0})
			wantNumbers(t, "RefinePeriods of 1"+what, refined, code, nil, impl.ErrRange)
			class, code := impl.ClassOf(p, e, 1)
			wantWhole(t, "ClassOf"+what, class, code, 0, impl.ErrRange)
			members, code := impl.ClassMembers(p, e, 0)
			wantNumbers(t, "ClassMembers"+what, members, code, nil, impl.ErrRange)
			number, code := impl.CyclotomicNumber(p, e, 0, 0)
			wantWhole(t, "CyclotomicNumber"+what, number, code, 0, impl.ErrRange)
			table, code := impl.CyclotomicTable(p, e)
			wantRows(t, "CyclotomicTable"+what, table, code, nil, impl.ErrRange)
			polynomial, code := impl.PeriodPolynomial(p, e)
			wantNumbers(t, "PeriodPolynomial"+what, polynomial, code, nil, impl.ErrRange)
			numbers, code := impl.DifferenceNumbers(p, e)
			wantNumbers(t, "DifferenceNumbers"+what, numbers, code, nil, impl.ErrRange)
			yes, code := impl.IsDifferenceClass(p, e)
			wantAnswer(t, "IsDifferenceClass"+what, yes, code, false, impl.ErrRange)
		}
	}
	if wrong < 1000 {
		t.Errorf("there are only %d wrong pairs", wrong)
	}
	for _, c := range [][2]int64{
		{17, 16}, {61, 15}, {43, 14}, {53, 13}, {61, 20}, {61, 60}, {7, 4}, {7, 0}, {7, -1}, {7, -3},
		{2, 1}, {9, 2}, {15, 2}, {49, 3}, {57, 4}, {67, 2}, {67, 11}, {1, 1}, {0, 1}, {-7, 2}, {73, 12},
	} {
		if haveClasses(c[0], c[1]) {
			t.Errorf("%v is not wrong", c)
		}
	}
}

// Lists are as long as there are periods, and have no numbers beyond the limit.
func TestWrongSumsOfPeriods(t *testing.T) {
	everyClassing(func(p int64, e int64) {
		good := slices.Repeat([]int64{greatest}, int(e))
		checkBadSums(t, p, e, nil, good)
		checkBadSums(t, p, e, []int64{}, good)
		for length := range 2 * impl.MaxPeriods {
			if int64(length) != e {
				checkBadSums(t, p, e, make([]int64, length), good)
			}
		}
		checkBadSums(t, p, e, make([]int64, p), good)
		for d := int64(1); d < e; d++ {
			if e%d == 0 {
				checkBadCoarse(t, p, d, e)
			}
		}
		for i := range good {
			for _, sign := range []int64{1, -1} {
				list := slices.Clone(good)
				list[i] = sign * greatest
				got, code := impl.MultiplyPeriods(p, e, list, good)
				wantNumbers(t, fmt.Sprint("MultiplyPeriods ", p, e, list), got, code, wantPeriodProduct(p, list, good), impl.ErrNone)
				list[i] = sign * (greatest + 1)
				checkBadSums(t, p, e, list, good)
				list[i] = sign << 32
				checkBadSums(t, p, e, list, good)
			}
			for _, number := range extremes {
				list := slices.Clone(good)
				list[i] = number
				checkBadSums(t, p, e, list, good)
			}
		}
	})
}

// wantNewLists checks that lists are new memory: what is written there changes no argument, nor what
// the same call returns the next time.
func wantNewLists(t *testing.T, calls map[string]func() ([]int64, int64), areKept func() bool) {
	t.Helper()
	for what, call := range calls {
		got, code := call()
		want := slices.Clone(got)
		if code != impl.ErrNone {
			t.Errorf("%s: %d", what, code)
		}
		fillRow(got[:cap(got)], 99)
		if !areKept() {
			t.Fatalf("%s: an argument was changed", what)
		}
		again, code := call()
		wantNumbers(t, what+" again", again, code, want, impl.ErrNone)
	}
}

// Results are new memory, no row of a table grows into another one, and lists and their spare
// capacity stay as they are.
func TestMemoryOfPeriods(t *testing.T) {
	all := slices.Repeat([]int64{77}, 16)
	copy(all, []int64{3, -4, 5})
	before := slices.Clone(all)
	a, one := all[:3], []int64{-1, -1, -1}
	calls := map[string]func() ([]int64, int64){
		"ClassMembers":       func() ([]int64, int64) { return impl.ClassMembers(7, 3, 1) },
		"MultiplyPeriods":    func() ([]int64, int64) { return impl.MultiplyPeriods(7, 3, a, a) },
		"MultiplyPeriods 1":  func() ([]int64, int64) { return impl.MultiplyPeriods(7, 3, a, one) },
		"1 MultiplyPeriods":  func() ([]int64, int64) { return impl.MultiplyPeriods(7, 3, one, a) },
		"ShiftPeriods":       func() ([]int64, int64) { return impl.ShiftPeriods(7, 3, a, 2) },
		"ShiftPeriods 0":     func() ([]int64, int64) { return impl.ShiftPeriods(7, 3, a, 0) },
		"RefinePeriods":      func() ([]int64, int64) { return impl.RefinePeriods(7, 3, 6, a) },
		"RefinePeriods same": func() ([]int64, int64) { return impl.RefinePeriods(7, 3, 3, a) },
		"PeriodPolynomial":   func() ([]int64, int64) { return impl.PeriodPolynomial(7, 3) },
		"DifferenceNumbers":  func() ([]int64, int64) { return impl.DifferenceNumbers(7, 3) },
	}
	wantNewLists(t, calls, func() bool {
		return slices.Equal(all, before) && slices.Equal(one, []int64{-1, -1, -1})
	})
	for range 2 {
		trace, code := impl.TraceOfPeriods(7, 3, a)
		wantWhole(t, "TraceOfPeriods", trace, code, -4, impl.ErrNone)
		table, code := impl.CyclotomicTable(7, 3)
		wantRows(t, "CyclotomicTable", table, code, [][]int64{{0, 0, 1}, {0, 1, 1}, {1, 1, 0}}, impl.ErrNone)
		wantRowsApart(t, "CyclotomicTable", table)
	}
	if !slices.Equal(all, before) {
		t.Errorf("a list was changed: %v", all)
	}
}
