package tests

import "loop.example/g01313/impl"

// The Jacobi sums of the tests go through all lists of numbers, and the counts through all pairs,
// as the document tells them, with the logarithms of the tests.

// logsOf returns the logarithms of 0, .., p - 1, with -1 for 0.
func logsOf(p int64) []int64 {
	logs := make([]int64, p)
	for x := range logs {
		logs[x] = logOf(p, int64(x))
	}
	return logs
}

// wantListSum returns the sum of the products of the values of the characters of a list, over all
// lists of numbers with a sum.
func wantListSum(list []impl.Character, sum int64) impl.Cyclo {
	first := list[0]
	logs := logsOf(first.Prime)
	counts := make([]int64, first.Order)
	var add func(list []impl.Character, lacks int64, exponent int64)
	add = func(list []impl.Character, lacks int64, exponent int64) {
		if len(list) == 1 {
			if logs[lacks] >= 0 {
				counts[(exponent+list[0].Power*logs[lacks])%first.Order]++
			}
			return
		}
		for x, log := range logs {
			if log >= 0 {
				add(list[1:], rest(lacks-int64(x), first.Prime), exponent+list[0].Power*log)
			}
		}
	}
	add(list, sum, 0)
	want, _ := wantOfList(first.Order, counts)
	return want
}

// wantSquare returns the product of a number and its conjugate.
func wantSquare(x impl.Cyclo) impl.Cyclo {
	product, _ := movedPowers(x, x.Order, 1).times(movedPowers(x, x.Order, 2*x.Order-1)).told()
	return product
}

// wantCount returns the number of the pairs x, y in 0..p - 1 with x^a + y^b as 1 modulo p, and the
// code: both have to divide p - 1 and to be divisors of one number in 1..MaxOrder that does, too.
func wantCount(p int64, a int64, b int64) (int64, int64) {
	if !haveMultiple(p, a, b) {
		return 0, impl.ErrRange
	}
	count := int64(0)
	for x := range p {
		for y := range p {
			if (powerModulo(x, a, p)+powerModulo(y, b, p))%p == 1 {
				count++
			}
		}
	}
	return count, impl.ErrNone
}

// haveMultiple reports whether there are characters of the Prime p with some Order that is a
// multiple of a and b, of at least 1.
func haveMultiple(p int64, a int64, b int64) bool {
	for n := int64(1); n <= impl.MaxOrder; n++ {
		if a >= 1 && b >= 1 && n%a == 0 && n%b == 0 && areTold(p, n) {
			return true
		}
	}
	return false
}

func powerModulo(x int64, k int64, p int64) int64 {
	power := int64(1)
	for range k {
		power = power * x % p
	}
	return power
}

// moved returns the character with the Power times a.
func moved(c impl.Character, a int64) impl.Character {
	return impl.Character{Prime: c.Prime, Order: c.Order, Power: rest(c.Power*a, c.Order)}
}

// someLists calls a function with lists of a length: all of them for the least primes, and a few
// of each Prime and Order else, lists with the Power 0 and with inverses among them.
func someLists(length int, check func(list []impl.Character)) {
	var s sequence
	everyGroup(func(p int64, n int64) {
		if p <= 7 {
			everyList(p, n, length, check)
			return
		}
		for round := range 3 {
			list := make([]impl.Character, length)
			for i := range list {
				list[i] = impl.Character{Prime: p, Order: n, Power: rest(s.upTo(1000), n)}
			}
			last := &list[length-1]
			if round > 0 {
				last.Power = 0
			}
			if round > 1 { // The product of all has the Power 0.
				for _, c := range list[:length-1] {
					last.Power = rest(last.Power-c.Power, n)
				}
			}
			check(list)
		}
	})
}

// everyList calls a function with all lists of a length with a Prime and an Order.
func everyList(p int64, n int64, length int, check func(list []impl.Character)) {
	powers := make([]int64, length)
	for {
		list := make([]impl.Character, length)
		for i, k := range powers {
			list[i] = impl.Character{Prime: p, Order: n, Power: k}
		}
		check(list)
		at := 0
		for at < length && powers[at] == n-1 {
			powers[at] = 0
			at++
		}
		if at == length {
			return
		}
		powers[at]++
	}
}
