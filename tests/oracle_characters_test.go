package tests

import (
	"slices"
	"testing"

	"loop.example/g01313/impl"
)

// leastRoots has the primes of chapter 3 with their least primitive roots, written out so that the
// tests do not rely on the program for them.
var leastRoots = [][2]int64{
	{3, 2}, {5, 2}, {7, 3}, {11, 2}, {13, 2}, {17, 3}, {19, 2}, {23, 5}, {29, 2},
	{31, 3}, {37, 2}, {41, 6}, {43, 3}, {47, 5}, {53, 2}, {59, 2}, {61, 2},
}

// leastRoot returns the primitive root of p, or 0 if p is no prime of chapter 3.
func leastRoot(p int64) int64 {
	for _, row := range leastRoots {
		if row[0] == p {
			return row[1]
		}
	}
	return 0
}

// rest returns the rest of x by p, in 0..p - 1.
func rest(x int64, p int64) int64 {
	x %= p
	if x < 0 {
		x += p
	}
	return x
}

// logOf counts how often 1 is multiplied by the primitive root of p until it has the rest of x,
// or returns -1 if x is a multiple of p.
func logOf(p int64, x int64) int64 {
	power := int64(1)
	for i := range p - 1 {
		if power == rest(x, p) {
			return i
		}
		power = power * leastRoot(p) % p
	}
	return -1
}

// areTold reports whether there are characters with the Prime p and the Order n.
func areTold(p int64, n int64) bool {
	return leastRoot(p) > 0 && n >= 1 && n <= impl.MaxOrder && (p-1)%n == 0
}

// everyGroup calls a function with each Prime and Order of characters.
func everyGroup(check func(p int64, n int64)) {
	for _, row := range leastRoots {
		for n := int64(1); n <= impl.MaxOrder; n++ {
			if areTold(row[0], n) {
				check(row[0], n)
			}
		}
	}
}

// everyCharacter calls a function with all characters.
func everyCharacter(check func(c impl.Character)) {
	everyGroup(func(p int64, n int64) {
		for k := range n {
			check(impl.Character{Prime: p, Order: n, Power: k})
		}
	})
}

// everyPair calls a function with all pairs of characters with the same Prime and Order.
func everyPair(check func(c impl.Character, d impl.Character)) {
	everyCharacter(func(c impl.Character) {
		for k := range c.Order {
			check(c, impl.Character{Prime: c.Prime, Order: c.Order, Power: k})
		}
	})
}

// addValue adds a number times the value of c at x, turned by z^turn.
func (p bigPowers) addValue(number int64, c impl.Character, x int64, turn int64) {
	if log := logOf(c.Prime, x); log >= 0 {
		p.add(int(rest(c.Power*log+turn, c.Order)), number, 1)
	}
}

// wantValue returns the value of c at x.
func wantValue(c impl.Character, x int64) impl.Cyclo {
	p := newPowers(c.Order)
	p.addValue(1, c, x, 0)
	value, _ := p.told()
	return value
}

// wantTableSum returns the sum of a table with c.
func wantTableSum(table []int64, c impl.Character) impl.Cyclo {
	p := newPowers(c.Order)
	for x, number := range table {
		p.addValue(number, c, int64(x), 0)
	}
	sum, _ := p.told()
	return sum
}

// wantOrthogonal returns the sum of the values of c times the conjugates of those of d.
func wantOrthogonal(c impl.Character, d impl.Character) impl.Cyclo {
	p := newPowers(c.Order)
	for x := int64(1); x < c.Prime; x++ {
		p.addValue(1, c, x, -d.Power*logOf(c.Prime, x))
	}
	sum, _ := p.told()
	return sum
}

// noCharacters returns structs that are no characters.
func noCharacters() []impl.Character {
	list := []impl.Character{
		{}, {Prime: 7}, {Order: 1}, {Prime: 2, Order: 1}, {Prime: 1, Order: 1}, {Prime: 0, Order: 2},
		{Prime: -7, Order: 3}, {Prime: -1, Order: 2}, {Prime: 9, Order: 2}, {Prime: 15, Order: 2},
		{Prime: 49, Order: 3}, {Prime: 57, Order: 4}, {Prime: 4, Order: 3}, {Prime: 6, Order: 5},
		{Prime: 63, Order: 2}, {Prime: 67, Order: 3}, {Prime: 62, Order: 1},
		{Prime: 7, Order: 4}, {Prime: 7, Order: 5}, {Prime: 7, Order: 12}, {Prime: 61, Order: 7},
		{Prime: 61, Order: 16}, {Prime: 59, Order: 3}, {Prime: 41, Order: 3},
		// The Order divides p - 1, but is beyond MaxOrder.
		{Prime: 61, Order: 20}, {Prime: 61, Order: 60}, {Prime: 19, Order: 18}, {Prime: 37, Order: 18},
		{Prime: 43, Order: 21}, {Prime: 59, Order: 29}, {Prime: 23, Order: 22},
		{Prime: 7, Order: -3}, {Prime: 7, Order: -1}, {Prime: 7, Order: 0},
		{Prime: 7, Order: 3, Power: 3}, {Prime: 7, Order: 3, Power: -1}, {Prime: 7, Order: 3, Power: 4},
		{Prime: 7, Order: 1, Power: 1}, {Prime: 17, Order: 16, Power: 16}, {Prime: 61, Order: 15, Power: 15},
	}
	for _, e := range extremes {
		list = append(list,
			impl.Character{Prime: e, Order: 1}, impl.Character{Prime: e, Order: 3, Power: 1},
			impl.Character{Prime: 7, Order: e}, impl.Character{Prime: 7, Order: e, Power: 1},
			impl.Character{Prime: 7, Order: 3, Power: e})
	}
	return list
}

// wantCharacter checks a character and a code. Beside an error it has to be the zero value.
func wantCharacter(t *testing.T, what string, c impl.Character, code int64, want impl.Character, wantCode int64) {
	t.Helper()
	if c != want || code != wantCode {
		t.Errorf("%s = %v, %d; want %v, %d", what, c, code, want, wantCode)
	}
}

// wantCharacters checks a list of characters and a code. Beside an error it has to be empty.
func wantCharacters(t *testing.T, what string, got []impl.Character, code int64, want []impl.Character, wantCode int64) {
	t.Helper()
	if !slices.Equal(got, want) || code != wantCode {
		t.Errorf("%s = %v, %d; want %v, %d", what, got, code, want, wantCode)
	}
}
