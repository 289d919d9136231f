package tests

import (
	"math/big"
	"slices"
	"strconv"
	"strings"
	"testing"

	"loop.example/g01313/impl"
)

// phis has the cyclotomic polynomials of 1 to 16, written out so that the tests do not rely on
// the program for them.
var phis = [][]int64{
	nil,
	{-1, 1},
	{1, 1},
	{1, 1, 1},
	{1, 0, 1},
	{1, 1, 1, 1, 1},
	{1, -1, 1},
	{1, 1, 1, 1, 1, 1, 1},
	{1, 0, 0, 0, 1},
	{1, 0, 0, 1, 0, 0, 1},
	{1, -1, 1, -1, 1},
	{1, 1, 1, 1, 1, 1, 1, 1, 1, 1, 1},
	{1, 0, -1, 0, 1},
	{1, 1, 1, 1, 1, 1, 1, 1, 1, 1, 1, 1, 1},
	{1, -1, 1, -1, 1, -1, 1},
	{1, -1, 0, 1, -1, 1, 0, -1, 1},
	{1, 0, 0, 0, 0, 0, 0, 0, 1},
}

// extremes are numbers outside every range of the document.
var extremes = []int64{-1 << 63, -1<<63 + 1, -1 << 32, 1 << 32, 1<<63 - 1}

// sequence is a fixed sequence of numbers, the same in every run.
type sequence uint64

// upTo returns a number with an absolute value of at most limit.
func (s *sequence) upTo(limit int64) int64 {
	*s = *s*6364136223846793005 + 1442695040888963407
	return int64(uint64(*s)>>20)%(2*limit+1) - limit
}

// list returns a list of numbers with absolute values of at most limit.
func (s *sequence) list(length int, limit int64) []int64 {
	list := make([]int64, length)
	for i := range list {
		list[i] = s.upTo(limit)
	}
	return list
}

// cyclo returns a number of the order n with such Parts.
func (s *sequence) cyclo(n int64, limit int64) impl.Cyclo {
	return impl.Cyclo{Order: n, Parts: s.list(len(phis[n])-1, limit)}
}

// bigPowers is a sum of big numbers times powers of z, z^n being 1.
type bigPowers []*big.Int

func newPowers(n int64) bigPowers {
	p := make(bigPowers, n)
	for i := range p {
		p[i] = new(big.Int)
	}
	return p
}

// add adds a product of two numbers times z^k, for k of at least 0.
func (p bigPowers) add(k int, a int64, b int64) {
	at := p[k%len(p)]
	at.Add(at, new(big.Int).Mul(big.NewInt(a), big.NewInt(b)))
}

// parts returns the Parts of the number that the sum is. It takes z^k times the polynomial away,
// from the greatest power on.
func (p bigPowers) parts() []*big.Int {
	phi := phis[len(p)]
	degree := len(phi) - 1
	rest := make([]*big.Int, len(p))
	for k := range p {
		rest[k] = new(big.Int).Set(p[k])
	}
	for k := len(p) - 1; k >= degree; k-- {
		head := new(big.Int).Set(rest[k])
		for i, c := range phi {
			at := rest[k-degree+i]
			at.Sub(at, new(big.Int).Mul(head, big.NewInt(c)))
		}
	}
	return rest[:degree]
}

// told returns the number that the sum is, and ErrLimit if one of its Parts is too great.
func (p bigPowers) told() (impl.Cyclo, int64) {
	x := impl.Cyclo{Order: int64(len(p))}
	for _, b := range p.parts() {
		if b.CmpAbs(big.NewInt(impl.MaxPart)) > 0 {
			return impl.Cyclo{}, impl.ErrLimit
		}
		x.Parts = append(x.Parts, b.Int64())
	}
	return x, impl.ErrNone
}

// fits reports whether no Part of the number that the sum is is too great.
func (p bigPowers) fits() bool {
	_, code := p.told()
	return code == impl.ErrNone
}

// times returns the product of two sums.
func (p bigPowers) times(q bigPowers) bigPowers {
	product := newPowers(int64(len(p)))
	for i, a := range p {
		for j, b := range q {
			at := product[(i+j)%len(p)]
			at.Add(at, new(big.Int).Mul(a, b))
		}
	}
	return product
}

// less returns the difference of two sums.
func (p bigPowers) less(q bigPowers) bigPowers {
	difference := newPowers(int64(len(p)))
	for i := range p {
		difference[i].Sub(p[i], q[i])
	}
	return difference
}

// movedPowers returns x with z^a in the place of z, whatever the size of its Parts.
func movedPowers(x impl.Cyclo, n int64, a int64) bigPowers {
	p := newPowers(n)
	for i, part := range x.Parts {
		p.add(i*int(a), part, 1)
	}
	return p
}

func wantProduct(x impl.Cyclo, y impl.Cyclo) (impl.Cyclo, int64) {
	p := newPowers(x.Order)
	for i, a := range x.Parts {
		for j, b := range y.Parts {
			p.add(i+j, a, b)
		}
	}
	return p.told()
}

func wantSum(x impl.Cyclo, y impl.Cyclo, k int64) (impl.Cyclo, int64) {
	p := newPowers(x.Order)
	for i := range x.Parts {
		p.add(i, x.Parts[i], 1)
		p.add(i, y.Parts[i], k)
	}
	return p.told()
}

// wantMoved returns x with z^a in the place of z, as a number of the order n.
func wantMoved(x impl.Cyclo, n int64, a int64) (impl.Cyclo, int64) {
	return movedPowers(x, n, a).told()
}

func wantOfList(n int64, list []int64) (impl.Cyclo, int64) {
	p := newPowers(n)
	for i, number := range list {
		p.add(i, number, 1)
	}
	return p.told()
}

func sameCyclo(x impl.Cyclo, y impl.Cyclo) bool {
	return x.Order == y.Order && slices.Equal(x.Parts, y.Parts)
}

// wantCyclo checks a number and a code. Beside an error the number has to be the zero value.
func wantCyclo(t *testing.T, what string, x impl.Cyclo, code int64, want impl.Cyclo, wantCode int64) {
	t.Helper()
	if code != wantCode || !sameCyclo(x, want) {
		t.Errorf("%s = %v, %d; want %v, %d", what, x, code, want, wantCode)
	}
}

// wantError checks that there is a code and no number.
func wantError(t *testing.T, what string, x impl.Cyclo, code int64, wantCode int64) {
	t.Helper()
	wantCyclo(t, what, x, code, impl.Cyclo{}, wantCode)
}

// wantText checks that there is the number with a text, and no error.
func wantText(t *testing.T, what string, x impl.Cyclo, code int64, text string) {
	t.Helper()
	if code != impl.ErrNone || spell(x) != text {
		t.Errorf("%s = %s, %d; want %s", what, spell(x), code, text)
	}
}

// spell writes the text of a number without the program.
func spell(x impl.Cyclo) string {
	words := []string{}
	for _, part := range x.Parts {
		words = append(words, strconv.FormatInt(part, 10))
	}
	return strconv.FormatInt(x.Order, 10) + "@" + strings.Join(words, ":")
}

// number returns a number of an order, with zeros as the Parts that are left out.
func number(n int64, parts ...int64) impl.Cyclo {
	x := impl.Cyclo{Order: n, Parts: make([]int64, len(phis[n])-1)}
	copy(x.Parts, parts)
	return x
}

// noNumbers returns structs that are no numbers.
func noNumbers() []impl.Cyclo {
	list := []impl.Cyclo{
		{},
		{Order: 1},
		{Order: 5},
		{Order: 0, Parts: []int64{0}},
		{Order: -1, Parts: []int64{0}},
		{Order: -4, Parts: []int64{0, 0}},
		{Order: 17, Parts: make([]int64, 16)},
		{Order: 18, Parts: make([]int64, 6)},
		{Order: 1, Parts: []int64{impl.MaxPart + 1}},
		{Order: 2, Parts: []int64{-impl.MaxPart - 1}},
		{Order: 4, Parts: []int64{0, impl.MaxPart + 1}},
		{Order: 5, Parts: []int64{0, 0, 0, -impl.MaxPart - 1}},
	}
	for n := int64(1); n <= impl.MaxOrder; n++ {
		degree := len(phis[n]) - 1
		list = append(list, impl.Cyclo{Order: n, Parts: make([]int64, degree-1)})
		list = append(list, impl.Cyclo{Order: n, Parts: make([]int64, degree+1)})
	}
	for _, e := range extremes {
		list = append(list, impl.Cyclo{Order: e, Parts: []int64{0}})
		list = append(list, impl.Cyclo{Order: 3, Parts: []int64{e, 0}})
	}
	return list
}
