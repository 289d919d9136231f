package impl

import (
	"strconv"
	"strings"
)

// The error codes of all chapters.
const (
	ErrNone = iota
	ErrInvalid
	ErrRange
	ErrLimit
	ErrNotFound
	ErrState
	ErrSyntax
)

// The limits of numbers.
const (
	MaxOrder = 16
	MaxPart  = 1000000000
)

const (
	// mostParts is phi(13), the greatest totient of an order.
	mostParts = 12
	// powerRoom has room for all powers of z in a product of two numbers.
	powerRoom = 2 * mostParts
	// halfBase cuts a Part into two halves whose products add up within int64.
	halfBase = 1 << 15
)

// Cyclo is a whole number of the field of the roots of 1 of an Order: the sum of its Parts times
// the powers 1, z, z z, .. of a primitive root z of 1.
type Cyclo struct {
	Order int64
	Parts []int64
}

// partArray has the Parts of a number with zeros behind them, whatever its order is, so that
// numbers of one order can be compared by == and be keys of maps.
type partArray [mostParts]int64

// TotientOf returns phi(n), n in 1..1000, and ErrNone.
func TotientOf(n int64) (int64, int64) {
	if n < 1 || n > 1000 {
		return 0, ErrRange
	}
	return totient(n), ErrNone
}

// CyclotomicPolynomial returns the cyclotomic polynomial of n, in 1..60, from the number at x^0
// on, and ErrNone.
func CyclotomicPolynomial(n int64) ([]int64, int64) {
	if n < 1 || n > 60 {
		return nil, ErrRange
	}
	return polynomialOf(n), ErrNone
}

// IsCyclo reports whether x is a number.
func IsCyclo(x Cyclo) bool {
	return isOrder(x.Order) && int64(len(x.Parts)) == totient(x.Order) && areWithin(x.Parts, MaxPart)
}

// CycloOf returns the number of the order n, in 1..MaxOrder, that is the sum of the numbers of a
// list of at most n numbers with absolute values of at most MaxPart times 1, z, z z, .., and
// ErrNone.
func CycloOf(n int64, list []int64) (Cyclo, int64) {
	if !isOrder(n) || int64(len(list)) > n || !areWithin(list, MaxPart) {
		return Cyclo{}, ErrRange
	}
	powers := make([]int64, powerRoom)
	copy(powers, list)
	return cycloWithin(n, reducedParts(n, powers))
}

// PowerOfZ returns z^k of the order n, in 1..MaxOrder, k in -1000..1000, and ErrNone.
func PowerOfZ(n int64, k int64) (Cyclo, int64) {
	if !isOrder(n) || !isWithin(k, 1000) {
		return Cyclo{}, ErrRange
	}
	powers := make([]int64, powerRoom)
	powers[(k%n+n)%n] = 1
	return cycloWithin(n, reducedParts(n, powers))
}

// AddCyclos returns x and k times y together, k of an absolute value of at most 1000, and ErrNone.
func AddCyclos(x Cyclo, y Cyclo, k int64) (Cyclo, int64) {
	if code := pairCode(x, y); code != ErrNone {
		return Cyclo{}, code
	}
	if !isWithin(k, 1000) {
		return Cyclo{}, ErrRange
	}
	sum := arrayOf(x.Parts)
	for i, part := range y.Parts {
		sum[i] += k * part
	}
	return cycloWithin(x.Order, sum)
}

// MultiplyCyclos returns the product, and ErrNone.
func MultiplyCyclos(x Cyclo, y Cyclo) (Cyclo, int64) {
	if code := pairCode(x, y); code != ErrNone {
		return Cyclo{}, code
	}
	return productWithin(x.Order, x.Parts, y.Parts)
}

// PowerCyclo returns x multiplied k times, k in 0..64 (1 for 0), and ErrNone. Errors: ErrLimit if
// one of the powers of x with exponents up to k has a Part as told.
func PowerCyclo(x Cyclo, k int64) (Cyclo, int64) {
	if !IsCyclo(x) {
		return Cyclo{}, ErrInvalid
	}
	if k < 0 || k > 64 {
		return Cyclo{}, ErrRange
	}
	power, code := PowerOfZ(x.Order, 0)
	for i := int64(0); i < k && code == ErrNone; i++ {
		power, code = MultiplyCyclos(power, x)
	}
	return power, code
}

// GaloisImage returns the Galois image of x by a, in 1..n, and ErrNone. Errors: ErrRange also if a
// and n have a common divisor greater than 1.
func GaloisImage(x Cyclo, a int64) (Cyclo, int64) {
	if !IsCyclo(x) {
		return Cyclo{}, ErrInvalid
	}
	if a < 1 || a > x.Order || commonDivisor(a, x.Order) > 1 {
		return Cyclo{}, ErrRange
	}
	return cycloWithin(x.Order, imageParts(x, a))
}

// ConjugateOf returns the conjugate, and ErrNone.
func ConjugateOf(x Cyclo) (Cyclo, int64) {
	if !IsCyclo(x) {
		return Cyclo{}, ErrInvalid
	}
	return cycloWithin(x.Order, imageParts(x, x.Order-1))
}

// IsReal reports whether x is real, and returns ErrNone.
func IsReal(x Cyclo) (bool, int64) {
	if !IsCyclo(x) {
		return false, ErrInvalid
	}
	return imageParts(x, x.Order-1) == arrayOf(x.Parts), ErrNone
}

// LiftCyclo returns x as a number of the order n, a multiple of its Order in 1..MaxOrder, and
// ErrNone.
func LiftCyclo(x Cyclo, n int64) (Cyclo, int64) {
	if !IsCyclo(x) {
		return Cyclo{}, ErrInvalid
	}
	if !isOrder(n) || n%x.Order != 0 {
		return Cyclo{}, ErrRange
	}
	powers := make([]int64, powerRoom)
	for i, part := range x.Parts {
		powers[int64(i)*(n/x.Order)] = part
	}
	return cycloWithin(n, reducedParts(n, powers))
}

// IsInField reports whether x is in the field of m, a divisor of its Order, and returns ErrNone.
func IsInField(x Cyclo, m int64) (bool, int64) {
	if !IsCyclo(x) {
		return false, ErrInvalid
	}
	if m < 1 || x.Order%m != 0 {
		return false, ErrRange
	}
	// The image by 1 is x itself: the images equal x if there is only one of them.
	images := map[partArray]bool{}
	for a := int64(1); a <= x.Order; a++ {
		if a%m == 1%m && commonDivisor(a, x.Order) == 1 {
			images[imageParts(x, a)] = true
		}
	}
	return len(images) == 1, ErrNone
}

// CycloText returns the text of x, and ErrNone.
func CycloText(x Cyclo) (string, int64) {
	if !IsCyclo(x) {
		return "", ErrInvalid
	}
	words := make([]string, len(x.Parts))
	for i, part := range x.Parts {
		words[i] = strconv.FormatInt(part, 10)
	}
	return strconv.FormatInt(x.Order, 10) + "@" + strings.Join(words, ":"), ErrNone
}

// ParseCyclo returns the number with a text, and ErrNone. Errors: ErrSyntax if there is none. (No
// other errors are returned.)
func ParseCyclo(text string) (Cyclo, int64) {
	head, tail, _ := strings.Cut(text, "@")
	order, ok := parseWhole(head)
	if !ok {
		return Cyclo{}, ErrSyntax
	}
	x := Cyclo{Order: order}
	for _, word := range strings.Split(tail, ":") {
		part, ok := parseWhole(word)
		if !ok {
			return Cyclo{}, ErrSyntax
		}
		x.Parts = append(x.Parts, part)
	}
	if !IsCyclo(x) {
		return Cyclo{}, ErrSyntax
	}
	return x, ErrNone
}

// isOrder reports whether n is in 1..MaxOrder.
func isOrder(n int64) bool {
	return n >= 1 && n <= MaxOrder
}

// isWithin reports whether the absolute value of a number is at most limit.
func isWithin(number int64, limit int64) bool {
	return number >= -limit && number <= limit
}

// areWithin reports whether the absolute values of all numbers of a list are at most limit.
func areWithin(list []int64, limit int64) bool {
	for _, number := range list {
		if !isWithin(number, limit) {
			return false
		}
	}
	return true
}

// commonDivisor returns the greatest common divisor of two numbers of at least 0.
func commonDivisor(a int64, b int64) int64 {
	for b != 0 {
		a, b = b, a%b
	}
	return a
}

// totient returns phi(n) for n of at least 1.
func totient(n int64) int64 {
	count := int64(0)
	for a := int64(1); a <= n; a++ {
		if commonDivisor(a, n) == 1 {
			count++
		}
	}
	return count
}

// polynomialOf returns the cyclotomic polynomial of n of at least 1.
func polynomialOf(n int64) []int64 {
	list := make([]int64, n+1)
	list[0], list[n] = -1, 1
	for d := int64(1); d < n; d++ {
		if n%d == 0 {
			divisor := polynomialOf(d)
			divideList(list, divisor)
			list = list[len(divisor)-1:]
		}
	}
	return list
}

// divideList divides a list by a polynomial whose last number is 1. The list itself then has the
// rest below the polynomial's degree, and the quotient from there on.
func divideList(list []int64, polynomial []int64) {
	degree := len(polynomial) - 1
	top := len(list)
next:
	if top <= degree {
		return
	}
	top--
	if list[top] == 0 {
		goto next
	}
	for i, number := range polynomial[:degree] {
		list[top-degree+i] -= list[top] * number
	}
	goto next
}

// reducedParts tells the sum of a list of powerRoom numbers times 1, z, z z, .. by Parts, and
// overwrites the list.
func reducedParts(n int64, powers []int64) partArray {
	polynomial := polynomialOf(n)
	divideList(powers, polynomial)
	clear(powers[len(polynomial)-1:])
	return partArray(powers[:mostParts])
}

// arrayOf returns Parts as an array.
func arrayOf(parts []int64) partArray {
	var array partArray
	copy(array[:], parts)
	return array
}

// cycloWithin returns the number of the order n with these Parts, or ErrLimit if one is too great.
func cycloWithin(n int64, array partArray) (Cyclo, int64) {
	if !areWithin(array[:], MaxPart) {
		return Cyclo{}, ErrLimit
	}
	parts := make([]int64, totient(n))
	copy(parts, array[:])
	return Cyclo{Order: n, Parts: parts}, ErrNone
}

// pairCode returns the error code for two numbers that have to have the same order.
func pairCode(x Cyclo, y Cyclo) int64 {
	if !IsCyclo(x) || !IsCyclo(y) {
		return ErrInvalid
	}
	if x.Order != y.Order {
		return ErrRange
	}
	return ErrNone
}

// productWithin returns the product of two numbers of the order n, or ErrLimit if a Part of it is
// too great. Those of x are at most MaxPart, those of y may be as great as those of an image.
func productWithin(n int64, x []int64, y []int64) (Cyclo, int64) {
	// Sums of products of whole Parts may be beyond int64, so y is taken in two halves.
	high, low := halvesOf(y)
	highs := productParts(n, x, high)
	lows := productParts(n, x, low)
	var product partArray
	for i := range product {
		product[i] = joinHalves(highs[i], lows[i])
	}
	return cycloWithin(n, product)
}

// halvesOf cuts each Part into a high half, times halfBase, and a low half.
func halvesOf(parts []int64) ([]int64, []int64) {
	high := make([]int64, len(parts))
	low := make([]int64, len(parts))
	for i, part := range parts {
		high[i], low[i] = part/halfBase, part%halfBase
	}
	return high, low
}

// joinHalves returns high times halfBase and low together, or, where that could be beyond int64,
// some number that is greater than MaxPart as well.
func joinHalves(high int64, low int64) int64 {
	high += low / halfBase
	if !isWithin(high, MaxPart) {
		return MaxPart + 1
	}
	return high*halfBase + low%halfBase
}

// productParts returns the Parts of the product of two numbers of the order n, whatever their size.
func productParts(n int64, x []int64, y []int64) partArray {
	powers := make([]int64, powerRoom)
	for i, a := range x {
		for j, b := range y {
			powers[i+j] += a * b
		}
	}
	return reducedParts(n, powers)
}

// imageParts returns the Parts of x with z^a in the place of z, whatever their size.
func imageParts(x Cyclo, a int64) partArray {
	powers := make([]int64, powerRoom)
	for i, part := range x.Parts {
		powers[int64(i)*a%x.Order] += part
	}
	return reducedParts(x.Order, powers)
}

// parseWhole returns the whole number with a text as strconv writes it: without superfluous zeros
// and signs.
func parseWhole(word string) (int64, bool) {
	number, err := strconv.ParseInt(word, 10, 64)
	if err != nil || strconv.FormatInt(number, 10) != word {
		return 0, false
	}
	return number, true
}
