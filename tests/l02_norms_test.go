package tests

import (
	"fmt"
	"math/big"
	"slices"
	"testing"

	"loop.example/g01313/impl"
)

// samplesOf returns numbers of the order n: plain ones, small and great ones, and such with fewer
// different images than images.
func samplesOf(s *sequence, n int64) []impl.Cyclo {
	list := []impl.Cyclo{
		number(n), number(n, 1), number(n, -1), number(n, 2), number(n, -31622),
		number(n, impl.MaxPart), number(n, -impl.MaxPart),
	}
	for _, limit := range []int64{1, 1, 2, 2, 5, 30, 1000, 30000, impl.MaxPart} {
		list = append(list, s.cyclo(n, limit), s.cyclo(n, limit))
	}
	for k := range n {
		z, _ := wantOfList(n, append(make([]int64, k), 1))
		list = append(list, z)
	}
	for m := int64(1); m < n; m++ {
		if n%m == 0 {
			lifted, _ := wantMoved(s.cyclo(m, 20), n, n/m)
			list = append(list, lifted)
		}
	}
	for _, a := range unitsOf(n) {
		x := s.cyclo(n, 4)
		image, _ := wantMoved(x, n, a)
		sum, _ := wantSum(x, image, 1)
		list = append(list, sum)
	}
	return list
}

// everySample calls a function with the samples of all orders.
func everySample(check func(x impl.Cyclo)) {
	var s sequence
	for n := int64(1); n <= impl.MaxOrder; n++ {
		for _, x := range samplesOf(&s, n) {
			check(x)
		}
	}
}

// wantWhole checks a whole number and a code. Beside an error the number has to be 0.
func wantWhole(t *testing.T, what string, got int64, code int64, want int64, wantCode int64) {
	t.Helper()
	if got != want || code != wantCode {
		t.Errorf("%s = %d, %d; want %d, %d", what, got, code, want, wantCode)
	}
}

// wantNumbers checks a list and a code. Beside an error the list has to be empty.
func wantNumbers(t *testing.T, what string, got []int64, code int64, want []int64, wantCode int64) {
	t.Helper()
	if !slices.Equal(got, want) || code != wantCode {
		t.Errorf("%s = %v, %d; want %v, %d", what, got, code, want, wantCode)
	}
}

func wantAnswer(t *testing.T, what string, got bool, code int64, want bool, wantCode int64) {
	t.Helper()
	if got != want || code != wantCode {
		t.Errorf("%s = %v, %d; want %v, %d", what, got, code, want, wantCode)
	}
}

// parsed returns the number with a text, which the test has to have written rightly.
func parsed(t *testing.T, text string) impl.Cyclo {
	t.Helper()
	x, code := impl.ParseCyclo(text)
	if code != impl.ErrNone {
		t.Fatalf("ParseCyclo(%q) = %d", text, code)
	}
	return x
}

func TestTraces(t *testing.T) {
	everySample(func(x impl.Cyclo) {
		got, code := impl.TraceOf(x)
		wantWhole(t, "TraceOf "+spell(x), got, code, matrixOf(x).trace().Int64(), impl.ErrNone)
	})
	// The images, and the trace itself, may be beyond MaxPart.
	top := number(13)
	for i := range top.Parts {
		top.Parts[i] = -impl.MaxPart
	}
	top.Parts[0] = impl.MaxPart
	got, code := impl.TraceOf(top)
	wantWhole(t, "TraceOf "+spell(top), got, code, 23*impl.MaxPart, impl.ErrNone)
}

func TestNorms(t *testing.T) {
	everySample(func(x impl.Cyclo) {
		want, wantCode := int64(0), int64(impl.ErrLimit)
		if _, fits := onTheWay(x.Order, bigImages(x, false)); fits {
			want, wantCode = matrixOf(x).determinant().Int64(), impl.ErrNone
		}
		got, code := impl.NormOf(x)
		wantWhole(t, "NormOf "+spell(x), got, code, want, wantCode)
		yes, code := impl.IsUnit(x)
		wantAnswer(t, "IsUnit "+spell(x), yes, code, want == 1 || want == -1, wantCode)
	})
}

func TestNormsAtTheLimit(t *testing.T) {
	cases := []struct {
		text string
		norm int64
		code int64
	}{
		{"5@1:-1:0:0", 5, impl.ErrNone},
		{"1@1000000000", impl.MaxPart, impl.ErrNone},
		{"1@-1000000000", -impl.MaxPart, impl.ErrNone},
		{"2@1000000000", impl.MaxPart, impl.ErrNone},
		{"2@-1000000000", -impl.MaxPart, impl.ErrNone},
		{"4@10000:30000", impl.MaxPart, impl.ErrNone},
		{"4@-18000:26000", impl.MaxPart, impl.ErrNone},
		// No norm is MaxPart + 1: this is the least one above it.
		{"4@13390:28648", 0, impl.ErrLimit},
		{"4@1000000000:0", 0, impl.ErrLimit},
		// Norms of 1 whose ways have products with the Parts 701408733 and 1134903170.
		{"5@267914296:0:-433494437:-433494437", 1, impl.ErrNone},
		{"5@433494437:0:-701408733:-701408733", 0, impl.ErrLimit},
		// Images, which are no products, may be beyond MaxPart.
		{"7@483911170:699271901:483911170:0:-388066628:-388066628", 1, impl.ErrNone},
		{"15@368610279:-737220558:721110520:-304874213:-140796598:596423960:-673484492:352500241", 1, impl.ErrNone},
	}
	for _, c := range cases {
		x := parsed(t, c.text)
		got, code := impl.NormOf(x)
		wantWhole(t, "NormOf "+c.text, got, code, c.norm, c.code)
		yes, code := impl.IsUnit(x)
		wantAnswer(t, "IsUnit "+c.text, yes, code, c.norm == 1, c.code)
	}
}

func TestCharacteristics(t *testing.T) {
	everySample(func(x impl.Cyclo) {
		var want []int64
		wantCode := int64(impl.ErrLimit)
		if polynomialFits(x.Order, bigImages(x, false)) {
			wantCode = impl.ErrNone
			for _, number := range matrixOf(x).polynomial() {
				want = append(want, number.Int64())
			}
		}
		got, code := impl.CharacteristicOf(x)
		wantNumbers(t, "CharacteristicOf "+spell(x), got, code, want, wantCode)
	})
}

// The minimal polynomial has the degree of the number, and becomes the characteristic one if it is
// multiplied by itself as often as each image is there.
func TestMinimalsAndDegrees(t *testing.T) {
	everySample(func(x impl.Cyclo) {
		images := bigImages(x, true)
		degree, code := impl.DegreeOf(x)
		wantWhole(t, "DegreeOf "+spell(x), degree, code, int64(len(images)), impl.ErrNone)
		got, code := impl.MinimalOf(x)
		if !polynomialFits(x.Order, images) {
			wantNumbers(t, "MinimalOf "+spell(x), got, code, nil, impl.ErrLimit)
			return
		}
		if code != impl.ErrNone || len(got) != len(images)+1 || got[len(images)] != 1 {
			t.Errorf("MinimalOf %s = %v, %d; want a polynomial of the degree %d", spell(x), got, code, len(images))
			return
		}
		power := []*big.Int{big.NewInt(1)}
		for range len(x.Parts) / len(images) {
			power = polynomialProduct(power, got)
		}
		if want := matrixOf(x).polynomial(); fmt.Sprint(power) != fmt.Sprint(want) {
			t.Errorf("MinimalOf %s = %v, whose power is %v and not %v", spell(x), got, power, want)
		}
	})
}

func polynomialProduct(p []*big.Int, q []int64) []*big.Int {
	product := make([]*big.Int, len(p)+len(q)-1)
	for i := range product {
		product[i] = new(big.Int)
	}
	for i, a := range p {
		for j, b := range q {
			product[i+j].Add(product[i+j], new(big.Int).Mul(a, big.NewInt(b)))
		}
	}
	return product
}

// A product or a number of a list may be MaxPart, but not one more, and nothing else of the ways
// of these numbers is too great.
func TestPolynomialsAtTheLimit(t *testing.T) {
	const top = impl.MaxPart
	cases := []struct {
		text                    string
		characteristic, minimal []int64
	}{
		{"1@1000000000", []int64{-top, 1}, []int64{-top, 1}},
		{"2@-1000000000", []int64{top, 1}, []int64{top, 1}},
		{"4@10000:-30000", []int64{top, -20000, 1}, []int64{top, -20000, 1}},
		{"4@13390:28648", nil, nil},
		{"5@14936:232:9088:9464", []int64{650752000, top, 419625600, -40960, 1}, []int64{650752000, top, 419625600, -40960, 1}},
		{"5@4446:9247:-2968:11994", nil, nil},
		{"5@24050:4180:12281:19043", nil, nil},
		// The images are the same in pairs, or all the same.
		{"3@1000000000:0", nil, []int64{-top, 1}},
		{"16@-1000000000:0:0:0:0:0:0:0", nil, []int64{top, 1}},
		{"5@276393202:0:-447213596:-447213596", nil, []int64{-559064020, -top, 1}},
		{"8@500000000:353553391:0:-353553391", nil, []int64{-575197762, -top, 1}},
		{"8@500000001:353553391:0:-353553391", nil, nil},
	}
	for _, c := range cases {
		x := parsed(t, c.text)
		got, code := impl.CharacteristicOf(x)
		wantNumbers(t, "CharacteristicOf "+c.text, got, code, c.characteristic, codeOf(c.characteristic))
		got, code = impl.MinimalOf(x)
		wantNumbers(t, "MinimalOf "+c.text, got, code, c.minimal, codeOf(c.minimal))
	}
}

// codeOf returns ErrLimit for no list.
func codeOf(list []int64) int64 {
	if list == nil {
		return impl.ErrLimit
	}
	return impl.ErrNone
}

func TestPolynomialsOfPlainNumbers(t *testing.T) {
	cases := []struct {
		text           string
		characteristic []int64
		minimal        []int64
	}{
		{"1@7", []int64{-7, 1}, []int64{-7, 1}},
		{"2@-7", []int64{7, 1}, []int64{7, 1}},
		{"1@0", []int64{0, 1}, []int64{0, 1}},
		{"5@0:0:0:0", []int64{0, 0, 0, 0, 1}, []int64{0, 1}},
		{"3@2:0", []int64{4, -4, 1}, []int64{-2, 1}},
		{"4@1:1", []int64{2, -2, 1}, []int64{2, -2, 1}},
		{"5@0:0:-1:-1", []int64{1, 2, -1, -2, 1}, []int64{-1, -1, 1}},
		{"5@1:-1:0:0", []int64{5, -10, 10, -5, 1}, []int64{5, -10, 10, -5, 1}},
		{"12@0:1:0:0", []int64{1, 0, -1, 0, 1}, []int64{1, 0, -1, 0, 1}},
		{"12@0:0:1:0", []int64{1, -2, 3, -2, 1}, []int64{1, -1, 1}},
		{"12@0:0:0:1", []int64{1, 0, 2, 0, 1}, []int64{1, 0, 1}},
	}
	for _, c := range cases {
		x := parsed(t, c.text)
		got, code := impl.CharacteristicOf(x)
		wantNumbers(t, "CharacteristicOf "+c.text, got, code, c.characteristic, impl.ErrNone)
		got, code = impl.MinimalOf(x)
		wantNumbers(t, "MinimalOf "+c.text, got, code, c.minimal, impl.ErrNone)
		degree, code := impl.DegreeOf(x)
		wantWhole(t, "DegreeOf "+c.text, degree, code, int64(len(c.minimal)-1), impl.ErrNone)
	}
}

// checkDivision checks a quotient against the one by matrices.
func checkDivision(t *testing.T, x impl.Cyclo, y impl.Cyclo) {
	t.Helper()
	want, wantCode := wantQuotient(x, y)
	got, code := impl.DivideCyclos(x, y)
	wantCyclo(t, "DivideCyclos "+spell(x)+" "+spell(y), got, code, want, wantCode)
}

func TestDivision(t *testing.T) {
	var s sequence
	for n := int64(1); n <= impl.MaxOrder; n++ {
		for _, limit := range []int64{1, 2, 4, 25} {
			for range 6 {
				x, y := s.cyclo(n, 1000), s.cyclo(n, limit)
				if isNought(y) {
					continue
				}
				checkDivision(t, x, y)
				checkDivision(t, s.cyclo(n, 2), y)
				checkDivision(t, number(n), y)
				if product, code := wantProduct(x, y); code == impl.ErrNone {
					checkDivision(t, product, y)
				}
			}
		}
		checkDivision(t, s.cyclo(n, impl.MaxPart), number(n, 1))
		checkDivision(t, s.cyclo(n, impl.MaxPart), number(n, -1))
		checkDivision(t, s.cyclo(n, 5), s.cyclo(n, impl.MaxPart))
	}
}

func isNought(x impl.Cyclo) bool {
	return !slices.ContainsFunc(x.Parts, func(part int64) bool { return part != 0 })
}

func TestDivisionOfPlainNumbers(t *testing.T) {
	cases := []struct {
		x, y, quotient string
		code           int64
	}{
		{"1@12", "1@-4", "1@-3", impl.ErrNone},
		{"1@12", "1@5", "", impl.ErrNotFound},
		{"2@-12", "2@4", "2@-3", impl.ErrNone},
		{"2@-13", "2@4", "", impl.ErrNotFound},
		{"1@0", "1@5", "1@0", impl.ErrNone},
		{"5@5:0:0:0", "5@1:-1:0:0", "5@4:3:2:1", impl.ErrNone},
		{"5@4:0:0:0", "5@1:-1:0:0", "", impl.ErrNotFound},
		{"4@0:5", "4@1:2", "4@2:1", impl.ErrNone},
		{"4@5:1", "4@1:2", "", impl.ErrNotFound},
		{"4@1:5", "4@1:2", "", impl.ErrNotFound},
		{"4@1:1", "4@0:0", "", impl.ErrState},
		{"1@0", "1@0", "", impl.ErrState},
		{"7@0:0:0:0:0:0", "7@0:0:0:0:0:0", "", impl.ErrState},
	}
	for _, c := range cases {
		got, code := impl.DivideCyclos(parsed(t, c.x), parsed(t, c.y))
		var want impl.Cyclo
		if c.quotient != "" {
			want = parsed(t, c.quotient)
		}
		wantCyclo(t, "DivideCyclos "+c.x+" "+c.y, got, code, want, c.code)
	}
}

func TestDivisionAtTheLimit(t *testing.T) {
	cases := []struct {
		x, y, quotient string
		code           int64
	}{
		{"1@1000000000", "1@1000000000", "1@1", impl.ErrNone},
		{"2@1000000000", "2@-1", "2@-1000000000", impl.ErrNone},
		// The product of x and the cofactor.
		{"4@500000000:500000000", "4@1:1", "4@500000000:0", impl.ErrNone},
		{"4@500000001:500000000", "4@1:1", "", impl.ErrLimit},
		{"4@-500000000:-500000000", "4@1:1", "4@-500000000:0", impl.ErrNone},
		{"4@-500000001:-500000000", "4@1:1", "", impl.ErrLimit},
		{"4@1000000000:1000000000", "4@1:1", "", impl.ErrLimit},
		{"3@-999999999:1", "3@0:1", "3@1000000000:999999999", impl.ErrNone},
		{"3@-1000000000:1", "3@0:1", "", impl.ErrLimit},
		// The norm of y, though its cofactor fits.
		{"4@0:0", "4@10000:30000", "4@0:0", impl.ErrNone},
		{"4@0:0", "4@13390:28648", "", impl.ErrLimit},
		{"4@0:40000", "4@40000:0", "", impl.ErrLimit},
		// The cofactor of y, which is beyond MaxPart by one, though the norm is 1 or fits.
		{"5@0:0:0:0", "5@-17251:-25265:-12966:2649", "", impl.ErrLimit},
		{"7@1:0:0:0:0:0", "7@483911170:699271901:483911170:0:-388066628:-388066628", "", impl.ErrLimit},
	}
	for _, c := range cases {
		x, y := parsed(t, c.x), parsed(t, c.y)
		got, code := impl.DivideCyclos(x, y)
		var want impl.Cyclo
		if c.quotient != "" {
			want = parsed(t, c.quotient)
		}
		wantCyclo(t, "DivideCyclos "+c.x+" "+c.y, got, code, want, c.code)
		checkDivision(t, x, y)
	}
}

// unitSamples returns units of the order n, by their definition: roots of 1, sums of roots that
// divide the next sum, and products of them.
func unitSamples(n int64) []impl.Cyclo {
	list := []impl.Cyclo{number(n, 1), number(n, -1)}
	z := number(n, 1)
	if n > 1 {
		z, _ = wantOfList(n, []int64{0, 1})
	}
	list = append(list, z)
	for _, a := range unitsOf(n) {
		ones := slices.Repeat([]int64{1}, int(a))
		if sum, code := wantOfList(n, ones); code == impl.ErrNone && a < n {
			turned, _ := wantProduct(sum, z)
			square, _ := wantProduct(sum, sum)
			list = append(list, sum, turned, square)
		}
	}
	return list
}

func TestUnitsAndInverses(t *testing.T) {
	for n := int64(1); n <= impl.MaxOrder; n++ {
		for _, unit := range unitSamples(n) {
			yes, code := impl.IsUnit(unit)
			wantAnswer(t, "IsUnit "+spell(unit), yes, code, true, impl.ErrNone)
			inverse, code := impl.InverseOf(unit)
			if code != impl.ErrNone {
				t.Errorf("InverseOf %s = %d", spell(unit), code)
				continue
			}
			product, _ := wantProduct(unit, inverse)
			wantCyclo(t, "the product of "+spell(unit)+" and its inverse", product, code, number(n, 1), impl.ErrNone)
		}
	}
	everySample(func(x impl.Cyclo) {
		want, wantCode := impl.Cyclo{}, int64(impl.ErrState)
		if !isNought(x) {
			want, wantCode = wantQuotient(number(x.Order, 1), x)
		}
		got, code := impl.InverseOf(x)
		wantCyclo(t, "InverseOf "+spell(x), got, code, want, wantCode)
	})
}

func TestInversesOfPlainNumbers(t *testing.T) {
	cases := []struct {
		text, inverse string
		code          int64
	}{
		{"1@1", "1@1", impl.ErrNone},
		{"1@-1", "1@-1", impl.ErrNone},
		{"2@-1", "2@-1", impl.ErrNone},
		{"1@2", "", impl.ErrNotFound},
		{"2@1000000000", "", impl.ErrNotFound},
		{"1@0", "", impl.ErrState},
		{"16@0:0:0:0:0:0:0:0", "", impl.ErrState},
		{"4@0:1", "4@0:-1", impl.ErrNone},
		{"5@1:1:0:0", "5@0:-1:0:-1", impl.ErrNone},
		{"5@1:-1:0:0", "", impl.ErrNotFound},
		{"4@10000:30000", "", impl.ErrNotFound},
		{"4@13390:28648", "", impl.ErrLimit},
		{"4@1000000000:1", "", impl.ErrLimit},
		{"7@483911170:699271901:483911170:0:-388066628:-388066628", "", impl.ErrLimit},
	}
	for _, c := range cases {
		var want impl.Cyclo
		if c.inverse != "" {
			want = parsed(t, c.inverse)
		}
		got, code := impl.InverseOf(parsed(t, c.text))
		wantCyclo(t, "InverseOf "+c.text, got, code, want, c.code)
	}
}

func TestAssociated(t *testing.T) {
	var s sequence
	for n := int64(1); n <= impl.MaxOrder; n++ {
		units := unitSamples(n)
		for i := range 30 {
			x := s.cyclo(n, 3)
			y := s.cyclo(n, 3)
			switch i % 3 {
			case 0: // one times a unit
				y, _ = wantProduct(x, units[i%len(units)])
			case 1: // one times some number
				y, _ = wantProduct(x, s.cyclo(n, 1))
			}
			want, wantCode := isNought(x) && isNought(y), int64(impl.ErrNone)
			if !isNought(x) && !isNought(y) {
				_, there := wantQuotient(x, y)
				_, back := wantQuotient(y, x)
				want = there == impl.ErrNone && back == impl.ErrNone
				if there == impl.ErrLimit || back == impl.ErrLimit {
					wantCode = impl.ErrLimit
				}
			}
			if i%3 == 0 && !want && wantCode == impl.ErrNone {
				t.Errorf("%s and %s have to be associated", spell(x), spell(y))
			}
			yes, code := impl.AreAssociated(x, y)
			wantAnswer(t, "AreAssociated "+spell(x)+" "+spell(y), yes, code, want, wantCode)
			yes, code = impl.AreAssociated(y, x)
			wantAnswer(t, "AreAssociated "+spell(y)+" "+spell(x), yes, code, want, wantCode)
		}
	}
}

func TestAssociatedPlainNumbers(t *testing.T) {
	cases := []struct {
		x, y string
		want bool
		code int64
	}{
		{"1@3", "1@-3", true, impl.ErrNone},
		{"1@3", "1@6", false, impl.ErrNone},
		{"1@1000000000", "1@-1000000000", true, impl.ErrNone},
		{"2@1000000000", "2@999999999", false, impl.ErrNone},
		{"4@1:2", "4@-2:1", true, impl.ErrNone},
		{"4@1:2", "4@2:1", false, impl.ErrNone},
		{"5@1:-1:0:0", "5@0:1:-1:0", true, impl.ErrNone},
		{"5@1:-1:0:0", "5@1:0:-1:0", true, impl.ErrNone},
		{"5@0:0:0:0", "5@0:0:0:0", true, impl.ErrNone},
		{"5@0:0:0:0", "5@1:0:0:0", false, impl.ErrNone},
		{"5@1:0:0:0", "5@0:0:0:0", false, impl.ErrNone},
		// Beside 0 nothing is divided, and so nothing is too great.
		{"5@0:0:0:0", "5@1000000000:0:0:0", false, impl.ErrNone},
		{"5@1000000000:1:0:0", "5@0:0:0:0", false, impl.ErrNone},
		// Only x by y, or only y by x, is beyond MaxPart; the other one leads to no number, or to one.
		{"4@1:0", "4@13390:28648", false, impl.ErrLimit},
		{"4@13390:28648", "4@1:0", false, impl.ErrLimit},
		{"4@3:0", "4@40000:0", false, impl.ErrLimit},
		{"4@40000:0", "4@3:0", false, impl.ErrLimit},
		{"4@40000:1", "4@-1:40000", false, impl.ErrLimit},
	}
	for _, c := range cases {
		yes, code := impl.AreAssociated(parsed(t, c.x), parsed(t, c.y))
		wantAnswer(t, "AreAssociated "+c.x+" "+c.y, yes, code, c.want, c.code)
	}
}

func TestContents(t *testing.T) {
	cases := []struct {
		text string
		want int64
	}{
		{"1@0", 0}, {"1@-5", 5}, {"2@5", 5}, {"3@4:-6", 2}, {"3@-6:0", 6}, {"3@0:-6", 6}, {"4@7:5", 1},
		{"5@0:0:0:0", 0}, {"5@-12:18:0:30", 6}, {"5@0:0:-15:-35", 5}, {"5@-15:-10:-6:0", 1},
		{"4@1000000000:-1000000000", 1000000000}, {"4@1000000000:-999999999", 1}, {"1@-1000000000", 1000000000},
	}
	for _, c := range cases {
		got, code := impl.ContentOf(parsed(t, c.text))
		wantWhole(t, "ContentOf "+c.text, got, code, c.want, impl.ErrNone)
	}
	everySample(func(x impl.Cyclo) {
		want := new(big.Int)
		for _, part := range x.Parts {
			want.GCD(nil, nil, want, new(big.Int).Abs(big.NewInt(part)))
		}
		got, code := impl.ContentOf(x)
		wantWhole(t, "ContentOf "+spell(x), got, code, want.Int64(), impl.ErrNone)
	})
}

func TestFindImage(t *testing.T) {
	everySample(func(x impl.Cyclo) {
		least := map[string]int64{}
		for _, a := range unitsOf(x.Order) {
			y, code := wantMoved(x, x.Order, a)
			if code != impl.ErrNone {
				continue
			}
			if least[spell(y)] == 0 {
				least[spell(y)] = a
			}
			got, code := impl.FindImage(x, y)
			wantWhole(t, "FindImage "+spell(x)+" "+spell(y), got, code, least[spell(y)], impl.ErrNone)
		}
		other, code := wantSum(x, number(x.Order, 1), 1)
		if code == impl.ErrNone {
			got, code := impl.FindImage(x, other)
			wantWhole(t, "FindImage "+spell(x)+" "+spell(other), got, code, 0, impl.ErrNotFound)
		}
	})
	// Some images of x are beyond MaxPart.
	x := number(5, impl.MaxPart, 0, -impl.MaxPart, 0)
	got, code := impl.FindImage(x, x)
	wantWhole(t, "FindImage of "+spell(x), got, code, 1, impl.ErrNone)
	got, code = impl.FindImage(x, number(5, impl.MaxPart, 0, 0, -impl.MaxPart))
	wantWhole(t, "FindImage of "+spell(x), got, code, 4, impl.ErrNone)
	got, code = impl.FindImage(x, number(5))
	wantWhole(t, "FindImage of "+spell(x), got, code, 0, impl.ErrNotFound)
}

func TestSizes(t *testing.T) {
	everySample(func(x impl.Cyclo) {
		product := movedPowers(x, x.Order, 1).times(movedPowers(x, x.Order, x.Order-1))
		want, wantCode := int64(0), int64(impl.ErrLimit)
		if y, code := product.told(); code == impl.ErrNone {
			want, wantCode = matrixOf(y).trace().Int64(), impl.ErrNone
		}
		got, code := impl.SizeOf(x)
		wantWhole(t, "SizeOf "+spell(x), got, code, want, wantCode)
	})
	cases := []struct {
		text string
		size int64
		code int64
	}{
		{"5@1:-1:0:0", 10, impl.ErrNone},
		{"1@31622", 999950884, impl.ErrNone},
		{"1@31623", 0, impl.ErrLimit},
		{"2@-31622", 999950884, impl.ErrNone},
		{"2@-31623", 0, impl.ErrLimit},
		{"4@10000:30000", 2 * impl.MaxPart, impl.ErrNone},
		{"4@13390:28648", 0, impl.ErrLimit},
		{"13@31622:0:0:0:0:0:0:0:0:0:0:0", 12 * 999950884, impl.ErrNone},
	}
	for _, c := range cases {
		got, code := impl.SizeOf(parsed(t, c.text))
		wantWhole(t, "SizeOf "+c.text, got, code, c.size, c.code)
	}
}

// Promise 2: norms of products are products, traces of sums are sums, quotients lead back, and
// minimal polynomials have the degree of the number. Promise 12: traces and norms stand in
// characteristic polynomials.
func TestPromisesOfNorms(t *testing.T) {
	var s sequence
	kept := map[string]int{}
	for n := int64(1); n <= impl.MaxOrder; n++ {
		for range 20 {
			x, y := s.cyclo(n, 2), s.cyclo(n, 2)
			product, _ := impl.MultiplyCyclos(x, y)
			sum, _ := impl.AddCyclos(x, y, 1)
			what := spell(x) + " " + spell(y)
			normX, a := impl.NormOf(x)
			normY, b := impl.NormOf(y)
			norm, c := impl.NormOf(product)
			if a == impl.ErrNone && b == impl.ErrNone && c == impl.ErrNone {
				kept["norms"]++
				wantWhole(t, "the norm of the product "+what, norm, c, normX*normY, impl.ErrNone)
			}
			traceX, _ := impl.TraceOf(x)
			traceY, _ := impl.TraceOf(y)
			trace, code := impl.TraceOf(sum)
			wantWhole(t, "the trace of the sum "+what, trace, code, traceX+traceY, impl.ErrNone)
			if quotient, code := impl.DivideCyclos(product, y); code == impl.ErrNone {
				kept["quotients"]++
				wantCyclo(t, "the quotient of the product "+what, quotient, code, x, impl.ErrNone)
			}
			minimal, code := impl.MinimalOf(x)
			degree, _ := impl.DegreeOf(x)
			if code == impl.ErrNone && int64(len(minimal)) != degree+1 {
				t.Errorf("MinimalOf %s = %v, but the degree is %d", spell(x), minimal, degree)
			}
			list, code := impl.CharacteristicOf(x)
			if code == impl.ErrNone && a == impl.ErrNone {
				kept["polynomials"]++
				last := len(list) - 1
				sign := 1 - 2*int64(last%2)
				if list[0] != sign*normX || list[last-1] != -traceX || list[last] != 1 {
					t.Errorf("CharacteristicOf %s = %v; the norm is %d, the trace %d", spell(x), list, normX, traceX)
				}
			}
		}
	}
	if kept["norms"] < 100 || kept["quotients"] < 100 || kept["polynomials"] < 100 {
		t.Errorf("too few numbers are within the limits: %v", kept)
	}
}

// What is no number comes first, then different orders, then division by 0, then Parts that would
// be too great, and then what is not there.
func TestOrderOfErrorsOfNorms(t *testing.T) {
	good := number(4, impl.MaxPart, impl.MaxPart)
	for _, bad := range noNumbers() {
		what := " of " + spell(bad)
		whole := func(name string) func(int64, int64) {
			return func(got int64, code int64) { wantWhole(t, name+what, got, code, 0, impl.ErrInvalid) }
		}
		numbers := func(name string) func([]int64, int64) {
			return func(got []int64, code int64) { wantNumbers(t, name+what, got, code, nil, impl.ErrInvalid) }
		}
		cyclo := func(name string) func(impl.Cyclo, int64) {
			return func(got impl.Cyclo, code int64) { wantError(t, name+what, got, code, impl.ErrInvalid) }
		}
		answer := func(name string) func(bool, int64) {
			return func(got bool, code int64) { wantAnswer(t, name+what, got, code, false, impl.ErrInvalid) }
		}
		whole("TraceOf")(impl.TraceOf(bad))
		whole("NormOf")(impl.NormOf(bad))
		numbers("CharacteristicOf")(impl.CharacteristicOf(bad))
		numbers("MinimalOf")(impl.MinimalOf(bad))
		whole("DegreeOf")(impl.DegreeOf(bad))
		cyclo("DivideCyclos")(impl.DivideCyclos(bad, good))
		cyclo("DivideCyclos")(impl.DivideCyclos(good, bad))
		cyclo("DivideCyclos")(impl.DivideCyclos(bad, number(4)))
		answer("IsUnit")(impl.IsUnit(bad))
		cyclo("InverseOf")(impl.InverseOf(bad))
		answer("AreAssociated")(impl.AreAssociated(bad, good))
		answer("AreAssociated")(impl.AreAssociated(good, bad))
		answer("AreAssociated")(impl.AreAssociated(number(4), bad))
		whole("ContentOf")(impl.ContentOf(bad))
		whole("FindImage")(impl.FindImage(bad, good))
		whole("FindImage")(impl.FindImage(good, bad))
		whole("FindImage")(impl.FindImage(bad, bad))
		whole("SizeOf")(impl.SizeOf(bad))
	}
	for _, other := range []impl.Cyclo{number(3), number(3, 1), number(8, impl.MaxPart), number(12, 3, 1)} {
		what := " and " + spell(other)
		got, code := impl.DivideCyclos(good, other)
		wantError(t, "DivideCyclos"+what, got, code, impl.ErrRange)
		got, code = impl.DivideCyclos(other, good)
		wantError(t, "DivideCyclos"+what, got, code, impl.ErrRange)
		yes, code := impl.AreAssociated(good, other)
		wantAnswer(t, "AreAssociated"+what, yes, code, false, impl.ErrRange)
		yes, code = impl.AreAssociated(number(4), other)
		wantAnswer(t, "AreAssociated"+what, yes, code, false, impl.ErrRange)
		a, code := impl.FindImage(good, other)
		wantWhole(t, "FindImage"+what, a, code, 0, impl.ErrRange)
	}
	got, code := impl.DivideCyclos(good, number(4))
	wantError(t, "DivideCyclos by 0", got, code, impl.ErrState)
	// No number times 1 + z is 1000000000 + 999999999 z, but the product with the cofactor comes first.
	got, code = impl.DivideCyclos(number(4, impl.MaxPart, impl.MaxPart-1), number(4, 1, 1))
	wantError(t, "DivideCyclos", got, code, impl.ErrLimit)
}

// Results are new memory, and arguments and their spare capacity stay as they are.
func TestMemoryOfNorms(t *testing.T) {
	want := number(12, 3, -1, 4, 1)
	x, all := padded(want)
	y, others := padded(number(12, 1))
	before, otherBefore := slices.Clone(all), slices.Clone(others)
	fill := func(list []int64) {
		list = list[:cap(list)]
		for i := range list {
			list[i] = 99
		}
	}
	for range 2 {
		quotient, code := impl.DivideCyclos(x, y)
		wantCyclo(t, "DivideCyclos", quotient, code, want, impl.ErrNone)
		inverse, code := impl.InverseOf(y)
		wantCyclo(t, "InverseOf", inverse, code, number(12, 1), impl.ErrNone)
		characteristic, code := impl.CharacteristicOf(y)
		wantNumbers(t, "CharacteristicOf", characteristic, code, []int64{1, -4, 6, -4, 1}, impl.ErrNone)
		minimal, code := impl.MinimalOf(y)
		wantNumbers(t, "MinimalOf", minimal, code, []int64{-1, 1}, impl.ErrNone)
		fill(quotient.Parts)
		fill(inverse.Parts)
		fill(characteristic)
		fill(minimal)
		impl.TraceOf(x)
		impl.NormOf(x)
		impl.CharacteristicOf(x)
		impl.MinimalOf(x)
		impl.DegreeOf(x)
		impl.IsUnit(x)
		impl.AreAssociated(x, y)
		impl.ContentOf(x)
		impl.FindImage(x, y)
		impl.SizeOf(x)
		if !slices.Equal(all, before) || !slices.Equal(others, otherBefore) {
			t.Fatalf("an argument was changed: %v %v", all, others)
		}
	}
}
