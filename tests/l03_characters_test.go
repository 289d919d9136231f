package tests

import (
	"fmt"
	"slices"
	"testing"

	"loop.example/g01313/impl"
)

func TestLimitsOfCharacters(t *testing.T) {
	if impl.MaxPrime != 61 || impl.MaxValue != 1000000 {
		t.Errorf("the limits are %d and %d", impl.MaxPrime, impl.MaxValue)
	}
}

func TestPrimitiveRoots(t *testing.T) {
	for _, p := range append(upToHundred(), extremes...) {
		want, wantCode := leastRoot(p), int64(impl.ErrNone)
		if want == 0 {
			wantCode = impl.ErrRange
		}
		got, code := impl.PrimitiveRoot(p)
		wantWhole(t, fmt.Sprint("PrimitiveRoot ", p), got, code, want, wantCode)
	}
}

// upToHundred returns the numbers from -100 to 100.
func upToHundred() []int64 {
	list := []int64{}
	for number := int64(-100); number <= 100; number++ {
		list = append(list, number)
	}
	return list
}

// The table of the tests has the least numbers whose powers are all rests.
func TestLeastRootsOfTheTests(t *testing.T) {
	for _, row := range leastRoots {
		p, g := row[0], row[1]
		for least := int64(1); least <= g; least++ {
			rests := map[int64]bool{}
			power := int64(1)
			for range p {
				power = power * least % p
				rests[power] = true
			}
			if all := int64(len(rests)) == p-1; all != (least == g) {
				t.Errorf("the powers of %d have %d rests by %d", least, len(rests), p)
			}
		}
	}
}

func TestIndices(t *testing.T) {
	for _, p := range append(upToHundred(), extremes...) {
		for _, x := range append(upToHundred(), extremes...) {
			want, wantCode := int64(0), int64(impl.ErrRange)
			if leastRoot(p) > 0 && x >= 1 && x < p {
				want, wantCode = logOf(p, x), impl.ErrNone
			}
			got, code := impl.IndexOf(p, x)
			wantWhole(t, fmt.Sprint("IndexOf ", p, x), got, code, want, wantCode)
		}
	}
}

func TestIsCharacter(t *testing.T) {
	for p := int64(-3); p < 80; p++ {
		for n := int64(-3); n < 64; n++ {
			for k := int64(-2); k < 20; k++ {
				c := impl.Character{Prime: p, Order: n, Power: k}
				if want := areTold(p, n) && k >= 0 && k < n; impl.IsCharacter(c) != want {
					t.Errorf("IsCharacter %v is not %v", c, want)
				}
			}
		}
	}
	for _, c := range noCharacters() {
		if impl.IsCharacter(c) {
			t.Errorf("%v is no character", c)
		}
	}
}

func TestCharactersOf(t *testing.T) {
	for _, p := range append(upToHundred(), extremes...) {
		for _, n := range append(upToHundred(), extremes...) {
			var want []impl.Character
			wantCode := int64(impl.ErrRange)
			if areTold(p, n) {
				wantCode = impl.ErrNone
				for k := range n {
					want = append(want, impl.Character{Prime: p, Order: n, Power: k})
				}
			}
			got, code := impl.CharactersOf(p, n)
			wantCharacters(t, fmt.Sprint("CharactersOf ", p, n), got, code, want, wantCode)
		}
	}
}

func TestCharacterAt(t *testing.T) {
	everyCharacter(func(c impl.Character) {
		check := func(x int64) {
			got, code := impl.CharacterAt(c, x)
			wantCyclo(t, fmt.Sprint("CharacterAt ", c, x), got, code, wantValue(c, x), impl.ErrNone)
		}
		for x := -c.Prime - 1; x <= c.Prime+1; x++ {
			check(x)
		}
		multiple := impl.MaxValue / c.Prime * c.Prime
		for _, x := range []int64{impl.MaxValue, impl.MaxValue - 1, -impl.MaxValue, 1 - impl.MaxValue, multiple, -multiple} {
			check(x)
		}
		for _, x := range append([]int64{impl.MaxValue + 1, -impl.MaxValue - 1}, extremes...) {
			got, code := impl.CharacterAt(c, x)
			wantError(t, fmt.Sprint("CharacterAt ", c, x), got, code, impl.ErrRange)
		}
	})
}

func TestCharacterAtOfPlainCharacters(t *testing.T) {
	cases := []struct {
		c    impl.Character
		x    int64
		text string
	}{
		{impl.Character{Prime: 3, Order: 1}, 0, "1@0"},
		{impl.Character{Prime: 3, Order: 1}, 2, "1@1"},
		{impl.Character{Prime: 3, Order: 2}, 2, "2@1"},
		{impl.Character{Prime: 3, Order: 2}, 3, "2@0"},
		{impl.Character{Prime: 3, Order: 2, Power: 1}, 2, "2@-1"},
		{impl.Character{Prime: 3, Order: 2, Power: 1}, -1, "2@-1"},
		{impl.Character{Prime: 3, Order: 2, Power: 1}, -2, "2@1"},
		{impl.Character{Prime: 5, Order: 4}, 10, "4@0:0"},
		{impl.Character{Prime: 5, Order: 4, Power: 1}, 2, "4@0:1"},
		{impl.Character{Prime: 5, Order: 4, Power: 1}, 3, "4@0:-1"},
		{impl.Character{Prime: 5, Order: 4, Power: 3}, 3, "4@0:1"},
		{impl.Character{Prime: 61, Order: 15, Power: 1}, 2, "15@0:1:0:0:0:0:0:0"},
		{impl.Character{Prime: 61, Order: 15, Power: 14}, 2, "15@1:0:-1:1:-1:0:1:-1"},
		{impl.Character{Prime: 41, Order: 8, Power: 1}, 6, "8@0:1:0:0"},
		{impl.Character{Prime: 41, Order: 8, Power: 5}, 36, "8@0:0:1:0"},
	}
	for _, c := range cases {
		got, code := impl.CharacterAt(c.c, c.x)
		wantText(t, fmt.Sprint("CharacterAt ", c.c, c.x), got, code, c.text)
	}
}

func TestCharacterProducts(t *testing.T) {
	everyPair(func(c impl.Character, d impl.Character) {
		want := impl.Character{Prime: c.Prime, Order: c.Order, Power: c.Power + d.Power}
		if want.Power >= c.Order {
			want.Power -= c.Order
		}
		got, code := impl.MultiplyCharacters(c, d)
		wantCharacter(t, fmt.Sprint("MultiplyCharacters ", c, d), got, code, want, impl.ErrNone)
	})
}

func TestCharacterInverses(t *testing.T) {
	everyCharacter(func(c impl.Character) {
		want := c
		if c.Power > 0 {
			want.Power = c.Order - c.Power
		}
		got, code := impl.InverseCharacter(c)
		wantCharacter(t, fmt.Sprint("InverseCharacter ", c), got, code, want, impl.ErrNone)
	})
}

// The exact order is the least multiple with which the Power becomes one of the Order's multiples.
func TestExactOrders(t *testing.T) {
	everyCharacter(func(c impl.Character) {
		want := int64(1)
		for want*c.Power%c.Order != 0 {
			want++
		}
		got, code := impl.ExactOrder(c)
		wantWhole(t, fmt.Sprint("ExactOrder ", c), got, code, want, impl.ErrNone)
	})
}

func TestSumsOfCharacters(t *testing.T) {
	everyCharacter(func(c impl.Character) {
		want := number(c.Order)
		if c.Power == 0 {
			want = number(c.Order, c.Prime-1)
		}
		got, code := impl.SumOfCharacter(c)
		wantCyclo(t, fmt.Sprint("SumOfCharacter ", c), got, code, want, impl.ErrNone)
	})
}

func TestOrthogonalSums(t *testing.T) {
	everyPair(func(c impl.Character, d impl.Character) {
		want := number(c.Order)
		if c == d {
			want = number(c.Order, c.Prime-1)
		}
		what := fmt.Sprint("OrthogonalSum ", c, d)
		got, code := impl.OrthogonalSum(c, d)
		wantCyclo(t, what, got, code, want, impl.ErrNone)
		wantCyclo(t, what+" by values", got, code, wantOrthogonal(c, d), impl.ErrNone)
	})
}

func TestExponentsAndKernels(t *testing.T) {
	everyCharacter(func(c impl.Character) {
		exponents, kernel := []int64{}, []int64{}
		even := false
		for x := int64(1); x < c.Prime; x++ {
			exponent := c.Power * logOf(c.Prime, x) % c.Order
			exponents = append(exponents, exponent)
			if exponent == 0 {
				kernel = append(kernel, x)
				even = x == c.Prime-1
			}
		}
		got, code := impl.ExponentsOf(c)
		wantNumbers(t, fmt.Sprint("ExponentsOf ", c), got, code, exponents, impl.ErrNone)
		got, code = impl.KernelOf(c)
		wantNumbers(t, fmt.Sprint("KernelOf ", c), got, code, kernel, impl.ErrNone)
		yes, code := impl.IsEvenCharacter(c)
		wantAnswer(t, fmt.Sprint("IsEvenCharacter ", c), yes, code, even, impl.ErrNone)
	})
}

func TestExponentsAndKernelsOfPlainCharacters(t *testing.T) {
	cases := []struct {
		c                 impl.Character
		exponents, kernel []int64
		even              bool
	}{
		{impl.Character{Prime: 3, Order: 1}, []int64{0, 0}, []int64{1, 2}, true},
		{impl.Character{Prime: 3, Order: 2}, []int64{0, 0}, []int64{1, 2}, true},
		{impl.Character{Prime: 3, Order: 2, Power: 1}, []int64{0, 1}, []int64{1}, false},
		{impl.Character{Prime: 5, Order: 4, Power: 1}, []int64{0, 1, 3, 2}, []int64{1}, false},
		{impl.Character{Prime: 5, Order: 4, Power: 2}, []int64{0, 2, 2, 0}, []int64{1, 4}, true},
		{impl.Character{Prime: 5, Order: 4, Power: 3}, []int64{0, 3, 1, 2}, []int64{1}, false},
		{impl.Character{Prime: 7, Order: 6, Power: 2}, []int64{0, 4, 2, 2, 4, 0}, []int64{1, 6}, true},
		{impl.Character{Prime: 7, Order: 6, Power: 3}, []int64{0, 0, 3, 0, 3, 3}, []int64{1, 2, 4}, false},
	}
	for _, c := range cases {
		got, code := impl.ExponentsOf(c.c)
		wantNumbers(t, fmt.Sprint("ExponentsOf ", c.c), got, code, c.exponents, impl.ErrNone)
		got, code = impl.KernelOf(c.c)
		wantNumbers(t, fmt.Sprint("KernelOf ", c.c), got, code, c.kernel, impl.ErrNone)
		yes, code := impl.IsEvenCharacter(c.c)
		wantAnswer(t, fmt.Sprint("IsEvenCharacter ", c.c), yes, code, c.even, impl.ErrNone)
	}
}

func TestSumsWithTables(t *testing.T) {
	var s sequence
	everyCharacter(func(c impl.Character) {
		p := int(c.Prime)
		tables := [][]int64{
			make([]int64, p),
			s.list(p, 1), s.list(p, 100), s.list(p, impl.MaxValue),
			slices.Repeat([]int64{1}, p),
			slices.Repeat([]int64{impl.MaxValue}, p),
			slices.Repeat([]int64{-impl.MaxValue}, p),
			greatestTable(c),
		}
		for _, table := range tables {
			got, code := impl.SumWith(table, c)
			wantCyclo(t, fmt.Sprint("SumWith ", table, c), got, code, wantTableSum(table, c), impl.ErrNone)
		}
	})
}

// greatestTable has the numbers that make the last Part of a sum as great as possible.
func greatestTable(c impl.Character) []int64 {
	table := make([]int64, c.Prime)
	for x := range table {
		table[x] = -impl.MaxValue
		value := wantValue(c, int64(x))
		if value.Parts[len(value.Parts)-1] > 0 {
			table[x] = impl.MaxValue
		}
	}
	return table
}

// A table has just p numbers, each at most MaxValue, also that at 0, which adds nothing.
func TestTablesAtTheLimit(t *testing.T) {
	for _, c := range []impl.Character{{Prime: 3, Order: 2, Power: 1}, {Prime: 7, Order: 3, Power: 1}, {Prime: 61, Order: 12}} {
		for _, length := range []int64{0, 1, c.Prime - 1, c.Prime + 1, c.Order, 2 * c.Prime} {
			got, code := impl.SumWith(make([]int64, length), c)
			wantError(t, fmt.Sprint("SumWith a table of ", length, c), got, code, impl.ErrRange)
		}
		got, code := impl.SumWith(nil, c)
		wantError(t, fmt.Sprint("SumWith no table ", c), got, code, impl.ErrRange)
		for x := range c.Prime {
			table := make([]int64, c.Prime)
			for _, number := range []int64{impl.MaxValue, -impl.MaxValue} {
				table[x] = number
				got, code := impl.SumWith(table, c)
				wantCyclo(t, fmt.Sprint("SumWith ", table, c), got, code, wantTableSum(table, c), impl.ErrNone)
			}
			for _, number := range append([]int64{impl.MaxValue + 1, -impl.MaxValue - 1}, extremes...) {
				table[x] = number
				got, code := impl.SumWith(table, c)
				wantError(t, fmt.Sprint("SumWith ", table, c), got, code, impl.ErrRange)
			}
		}
	}
}

func TestLegendreSymbols(t *testing.T) {
	for _, p := range append(upToHundred(), extremes...) {
		xs := append(upToHundred(), extremes...)
		xs = append(xs, impl.MaxValue, -impl.MaxValue, impl.MaxValue+1, -impl.MaxValue-1, 999999, -999999)
		for _, x := range xs {
			want, wantCode := int64(0), int64(impl.ErrRange)
			if leastRoot(p) > 0 && x >= -impl.MaxValue && x <= impl.MaxValue {
				want, wantCode = wantSymbol(p, x), impl.ErrNone
			}
			got, code := impl.LegendreSymbol(p, x)
			wantWhole(t, fmt.Sprint("LegendreSymbol ", p, x), got, code, want, wantCode)
		}
	}
}

// wantSymbol returns the Legendre symbol of x by looking for a square.
func wantSymbol(p int64, x int64) int64 {
	if x%p == 0 {
		return 0
	}
	for y := range p {
		if y*y%p == rest(x, p) {
			return 1
		}
	}
	return -1
}

// Promise 3: values of products are products of values, and characters are orthogonal.
func TestPromiseOfCharacters(t *testing.T) {
	everyPair(func(c impl.Character, d impl.Character) {
		product, code := impl.MultiplyCharacters(c, d)
		if code != impl.ErrNone {
			t.Fatalf("MultiplyCharacters %v %v = %d", c, d, code)
		}
		values := []impl.Cyclo{}
		for x := range c.Prime {
			atC, _ := impl.CharacterAt(c, x)
			atD, _ := impl.CharacterAt(d, x)
			want, _ := impl.MultiplyCyclos(atC, atD)
			got, code := impl.CharacterAt(product, x)
			wantCyclo(t, fmt.Sprint("the value of the product of ", c, d, " at ", x), got, code, want, impl.ErrNone)
			conjugate, _ := impl.ConjugateOf(atD)
			value, _ := impl.MultiplyCyclos(atC, conjugate)
			values = append(values, value)
		}
		sum := number(c.Order)
		for _, value := range values {
			sum, _ = impl.AddCyclos(sum, value, 1)
		}
		got, code := impl.OrthogonalSum(c, d)
		wantCyclo(t, fmt.Sprint("OrthogonalSum ", c, d), got, code, sum, impl.ErrNone)
		if isNought(sum) != (c != d) {
			t.Errorf("%v and %v have the sum %v", c, d, sum)
		}
	})
}

// The values of one character at products of numbers are products of its values.
func TestValuesAtProducts(t *testing.T) {
	everyCharacter(func(c impl.Character) {
		if c.Prime > 31 && c.Power != 1 {
			return
		}
		for x := range c.Prime {
			for y := range x + 1 {
				atX, _ := impl.CharacterAt(c, x)
				atY, _ := impl.CharacterAt(c, y)
				want, _ := impl.MultiplyCyclos(atX, atY)
				got, code := impl.CharacterAt(c, x*y)
				wantCyclo(t, fmt.Sprint("CharacterAt ", c, x*y), got, code, want, impl.ErrNone)
			}
		}
	})
}

// What promises 13 and 15 rest on: inverses have the conjugates as values.
func TestPromiseOfInverses(t *testing.T) {
	everyCharacter(func(c impl.Character) {
		inverse, code := impl.InverseCharacter(c)
		back, backCode := impl.InverseCharacter(inverse)
		if code != impl.ErrNone || backCode != impl.ErrNone || back != c {
			t.Errorf("InverseCharacter %v = %v, %d, and back %v, %d", c, inverse, code, back, backCode)
		}
		product, code := impl.MultiplyCharacters(c, inverse)
		wantCharacter(t, fmt.Sprint("the product with the inverse of ", c), product, code,
			impl.Character{Prime: c.Prime, Order: c.Order}, impl.ErrNone)
		for x := range c.Prime {
			value, _ := impl.CharacterAt(c, x)
			want, _ := impl.ConjugateOf(value)
			got, code := impl.CharacterAt(inverse, x)
			wantCyclo(t, fmt.Sprint("the inverse of ", c, " at ", x), got, code, want, impl.ErrNone)
		}
	})
}

// The rest of the guarantee: kernels have as many numbers as the exact order tells, and Legendre
// symbols are the values of the characters of the order 2.
func TestGuaranteeOfCharacters(t *testing.T) {
	everyCharacter(func(c impl.Character) {
		order, _ := impl.ExactOrder(c)
		kernel, code := impl.KernelOf(c)
		if code != impl.ErrNone || int64(len(kernel))*order != c.Prime-1 {
			t.Errorf("KernelOf %v = %v, %d; the exact order is %d", c, kernel, code, order)
		}
		if order != 2 {
			return
		}
		for x := -c.Prime; x <= c.Prime; x++ {
			value, _ := impl.CharacterAt(c, x)
			symbol, code := impl.LegendreSymbol(c.Prime, x)
			wantCyclo(t, fmt.Sprint("LegendreSymbol ", c.Prime, x), value, code, number(c.Order, symbol), impl.ErrNone)
		}
	})
}

// What is no character comes first, also beside other primes, numbers and tables that are not as
// told.
func TestOrderOfErrorsOfCharacters(t *testing.T) {
	good := impl.Character{Prime: 7, Order: 3, Power: 1}
	table := []int64{5, 1, 0, 2, 0, 0, 1}
	for _, bad := range noCharacters() {
		what := fmt.Sprint(" of ", bad)
		for _, x := range []int64{1, 0, impl.MaxValue + 1, -1 << 63} {
			got, code := impl.CharacterAt(bad, x)
			wantError(t, "CharacterAt"+what, got, code, impl.ErrInvalid)
		}
		for _, other := range []impl.Character{good, bad, {Prime: 5, Order: 4, Power: 1}} {
			product, code := impl.MultiplyCharacters(bad, other)
			wantCharacter(t, "MultiplyCharacters"+what, product, code, impl.Character{}, impl.ErrInvalid)
			product, code = impl.MultiplyCharacters(other, bad)
			wantCharacter(t, "MultiplyCharacters"+what, product, code, impl.Character{}, impl.ErrInvalid)
			sum, code := impl.OrthogonalSum(bad, other)
			wantError(t, "OrthogonalSum"+what, sum, code, impl.ErrInvalid)
			sum, code = impl.OrthogonalSum(other, bad)
			wantError(t, "OrthogonalSum"+what, sum, code, impl.ErrInvalid)
		}
		for _, list := range [][]int64{table, nil, {impl.MaxValue + 1}} {
			sum, code := impl.SumWith(list, bad)
			wantError(t, "SumWith"+what, sum, code, impl.ErrInvalid)
		}
		inverse, code := impl.InverseCharacter(bad)
		wantCharacter(t, "InverseCharacter"+what, inverse, code, impl.Character{}, impl.ErrInvalid)
		order, code := impl.ExactOrder(bad)
		wantWhole(t, "ExactOrder"+what, order, code, 0, impl.ErrInvalid)
		sum, code := impl.SumOfCharacter(bad)
		wantError(t, "SumOfCharacter"+what, sum, code, impl.ErrInvalid)
		list, code := impl.ExponentsOf(bad)
		wantNumbers(t, "ExponentsOf"+what, list, code, nil, impl.ErrInvalid)
		list, code = impl.KernelOf(bad)
		wantNumbers(t, "KernelOf"+what, list, code, nil, impl.ErrInvalid)
		yes, code := impl.IsEvenCharacter(bad)
		wantAnswer(t, "IsEvenCharacter"+what, yes, code, false, impl.ErrInvalid)
	}
}

// Characters of a pair need the same Prime and the same Order, whatever their Powers are.
func TestDifferentPrimesAndOrders(t *testing.T) {
	everyGroup(func(p int64, n int64) {
		c := impl.Character{Prime: p, Order: n, Power: n - 1}
		everyGroup(func(q int64, m int64) {
			if p == q && n == m {
				return
			}
			for _, k := range []int64{0, (n - 1) % m, m - 1} {
				d := impl.Character{Prime: q, Order: m, Power: k}
				product, code := impl.MultiplyCharacters(c, d)
				wantCharacter(t, fmt.Sprint("MultiplyCharacters ", c, d), product, code, impl.Character{}, impl.ErrRange)
				sum, code := impl.OrthogonalSum(c, d)
				wantError(t, fmt.Sprint("OrthogonalSum ", c, d), sum, code, impl.ErrRange)
			}
		})
	})
}

// Results are new memory, and a table and its spare capacity stay as they are.
func TestMemoryOfCharacters(t *testing.T) {
	c := impl.Character{Prime: 7, Order: 3, Power: 1}
	all := []int64{5, 1, 0, 2, 0, 0, 1, 77, 78, 79, 80, 81, 82, 83, 84, 85}
	before := slices.Clone(all)
	fill := func(list []int64) {
		list = list[:cap(list)]
		for i := range list {
			list[i] = 99
		}
	}
	for range 2 {
		sum, code := impl.SumWith(all[:7], c)
		wantText(t, "SumWith", sum, code, "3@2:2")
		value, code := impl.CharacterAt(c, 2)
		wantText(t, "CharacterAt", value, code, "3@-1:-1")
		nought, code := impl.CharacterAt(c, 7)
		wantText(t, "CharacterAt", nought, code, "3@0:0")
		plain, code := impl.SumOfCharacter(c)
		wantText(t, "SumOfCharacter", plain, code, "3@0:0")
		orthogonal, code := impl.OrthogonalSum(c, c)
		wantText(t, "OrthogonalSum", orthogonal, code, "3@6:0")
		for _, x := range []impl.Cyclo{sum, value, nought, plain, orthogonal} {
			fill(x.Parts)
		}
		exponents, code := impl.ExponentsOf(c)
		wantNumbers(t, "ExponentsOf", exponents, code, []int64{0, 2, 1, 1, 2, 0}, impl.ErrNone)
		kernel, code := impl.KernelOf(c)
		wantNumbers(t, "KernelOf", kernel, code, []int64{1, 6}, impl.ErrNone)
		fill(exponents)
		fill(kernel)
		characters, code := impl.CharactersOf(7, 2)
		wantCharacters(t, "CharactersOf", characters, code,
			[]impl.Character{{Prime: 7, Order: 2}, {Prime: 7, Order: 2, Power: 1}}, impl.ErrNone)
		clear(characters[:cap(characters)])
		if !slices.Equal(all, before) {
			t.Fatalf("the table was changed: %v", all)
		}
	}
}
