package impl

// FieldSize is how many numbers there are, from 0 on: a prime, so that each but 0 has an inverse.
const FieldSize = 31

// element is a number from 0 to FieldSize-1. Its methods rely on that range, so the exported functions check it first.
type element int

func (a element) sum(b element) element {
	return (a + b) % FieldSize
}

// dif adds FieldSize before it reduces, because Go's remainder of a number below 0 is itself below 0.
func (a element) dif(b element) element {
	return (a - b + FieldSize) % FieldSize
}

func (a element) mul(b element) element {
	return a * b % FieldSize
}

// inverse runs the extended Euclidean algorithm on FieldSize and a.
// Modulo FieldSize, rest is always times*a and next is always nextTimes*a; rest ends as their greatest common divisor.
// That is 1 for every a but 0, because FieldSize is prime, and times is then the inverse.
func (a element) inverse() element {
	rest, next := FieldSize, int(a)
	times, nextTimes := 0, 1
	for next != 0 {
		quotient := rest / next
		rest, next = next, rest-quotient*next
		times, nextTimes = nextTimes, times-quotient*nextTimes
	}
	// The algorithm leaves times between -FieldSize and FieldSize, often below 0.
	if times < 0 {
		times += FieldSize
	}
	return element(times)
}

// FieldOk says whether a number is one of these.
func FieldOk(n int) bool {
	return 0 <= n && n < FieldSize
}

// FieldSum is two numbers together.
func FieldSum(a int, b int) int {
	if !FieldOk(a) || !FieldOk(b) {
		return 0
	}
	return int(element(a).sum(element(b)))
}

// FieldDif is one number less another one.
func FieldDif(a int, b int) int {
	if !FieldOk(a) || !FieldOk(b) {
		return 0
	}
	return int(element(a).dif(element(b)))
}

// FieldMul is two numbers, one times the other.
func FieldMul(a int, b int) int {
	if !FieldOk(a) || !FieldOk(b) {
		return 0
	}
	return int(element(a).mul(element(b)))
}

// FieldInv is the number that is 1 with another one, one times the other.
func FieldInv(a int) (int, bool) {
	if !FieldOk(a) || a == 0 {
		return 0, false
	}
	return int(element(a).inverse()), true
}
