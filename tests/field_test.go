package tests

import (
	"math"
	"testing"

	"loop.example/keelson/impl"
)

// notElements are integers outside the field: just below and above it, congruent to elements, the widths at which a
// narrower integer type would wrap around into it, and the smallest and the largest int.
func notElements() []int {
	return []int{
		-1, -2, -30, -31, -32, -62,
		31, 32, 61, 62, 93, 961,
		1 << 8, 1<<8 + 1, 1 << 16, 1<<16 + 1, 1 << 32, 1<<32 + 1,
		-1<<8 + 1, -1<<32 + 1,
		math.MinInt, math.MinInt + 1, math.MaxInt - 1, math.MaxInt,
	}
}

// plainSum, plainDif and plainMul are the arithmetic of the document by counting, without a remainder.
func plainSum(a int, b int) int {
	n := a + b
	if n >= 31 {
		n -= 31
	}
	return n
}

func plainDif(a int, b int) int {
	n := a - b
	if n < 0 {
		n += 31
	}
	return n
}

func plainMul(a int, b int) int {
	n := 0
	for range b {
		n = plainSum(n, a)
	}
	return n
}

// inverseOf is FieldInv of an element that must have an inverse.
func inverseOf(t *testing.T, a int) int {
	t.Helper()
	n, ok := impl.FieldInv(a)
	if !ok {
		t.Fatalf("FieldInv(%d) fails", a)
	}
	return n
}

// checkInvalid expects 0 of an operation as soon as one of its operands is not an element.
func checkInvalid(t *testing.T, name string, do func(int, int) int) {
	t.Helper()
	for _, bad := range notElements() {
		for good := range impl.FieldSize {
			if n := do(bad, good); n != 0 {
				t.Errorf("%s(%d, %d) = %d, want 0", name, bad, good, n)
			}
			if n := do(good, bad); n != 0 {
				t.Errorf("%s(%d, %d) = %d, want 0", name, good, bad, n)
			}
		}
		for _, other := range notElements() {
			if n := do(bad, other); n != 0 {
				t.Errorf("%s(%d, %d) = %d, want 0", name, bad, other, n)
			}
		}
	}
}

func TestFieldSize(t *testing.T) {
	if impl.FieldSize != 31 {
		t.Errorf("FieldSize = %d, want 31", impl.FieldSize)
	}
}

// Promise 1.
func TestFieldOkExactlyElements(t *testing.T) {
	for n := -200; n <= 1200; n++ {
		if got, want := impl.FieldOk(n), n >= 0 && n <= 30; got != want {
			t.Errorf("FieldOk(%d) = %v, want %v", n, got, want)
		}
	}
	for _, n := range notElements() {
		if impl.FieldOk(n) {
			t.Errorf("FieldOk(%d) = true, want false", n)
		}
	}
}

// Promise 2.
func TestFieldSumValues(t *testing.T) {
	for a := range impl.FieldSize {
		for b := range impl.FieldSize {
			if got, want := impl.FieldSum(a, b), plainSum(a, b); got != want {
				t.Errorf("FieldSum(%d, %d) = %d, want %d", a, b, got, want)
			}
		}
	}
}

// Promise 2.
func TestFieldSumLaws(t *testing.T) {
	for a := range impl.FieldSize {
		if n := impl.FieldSum(a, 0); n != a {
			t.Errorf("FieldSum(%d, 0) = %d", a, n)
		}
		if n := impl.FieldSum(0, a); n != a {
			t.Errorf("FieldSum(0, %d) = %d", a, n)
		}
		for b := range impl.FieldSize {
			if impl.FieldSum(a, b) != impl.FieldSum(b, a) {
				t.Errorf("FieldSum of %d and %d is not commutative", a, b)
			}
			for c := range impl.FieldSize {
				if impl.FieldSum(impl.FieldSum(a, b), c) != impl.FieldSum(a, impl.FieldSum(b, c)) {
					t.Errorf("FieldSum of %d, %d and %d is not associative", a, b, c)
				}
			}
		}
	}
}

// Promise 2, invalid operands.
func TestFieldSumInvalid(t *testing.T) {
	checkInvalid(t, "FieldSum", impl.FieldSum)
}

// Promise 3; half of these differences are below 0 before they are reduced.
func TestFieldDifValues(t *testing.T) {
	for a := range impl.FieldSize {
		for b := range impl.FieldSize {
			if got, want := impl.FieldDif(a, b), plainDif(a, b); got != want {
				t.Errorf("FieldDif(%d, %d) = %d, want %d", a, b, got, want)
			}
		}
	}
}

// Promise 3; the smallest and the largest differences, written out.
func TestFieldDifEdges(t *testing.T) {
	for _, c := range []struct{ a, b, want int }{
		{0, 0, 0}, {30, 30, 0}, {30, 0, 30}, {0, 30, 1}, {0, 1, 30}, {29, 30, 30}, {3, 5, 29},
	} {
		if got := impl.FieldDif(c.a, c.b); got != c.want {
			t.Errorf("FieldDif(%d, %d) = %d, want %d", c.a, c.b, got, c.want)
		}
	}
}

// Promise 3.
func TestFieldDifReverses(t *testing.T) {
	for a := range impl.FieldSize {
		for b := range impl.FieldSize {
			if n := impl.FieldDif(impl.FieldSum(a, b), b); n != a {
				t.Errorf("FieldDif(FieldSum(%d, %d), %d) = %d", a, b, b, n)
			}
			if n := impl.FieldSum(impl.FieldDif(a, b), b); n != a {
				t.Errorf("FieldSum(FieldDif(%d, %d), %d) = %d", a, b, b, n)
			}
		}
	}
}

// Promise 3, invalid operands.
func TestFieldDifInvalid(t *testing.T) {
	checkInvalid(t, "FieldDif", impl.FieldDif)
}

// Promise 4.
func TestFieldMulValues(t *testing.T) {
	for a := range impl.FieldSize {
		for b := range impl.FieldSize {
			if got, want := impl.FieldMul(a, b), plainMul(a, b); got != want {
				t.Errorf("FieldMul(%d, %d) = %d, want %d", a, b, got, want)
			}
		}
	}
	if n := impl.FieldMul(8, 4); n != 1 {
		t.Errorf("FieldMul(8, 4) = %d, want 1", n)
	}
}

// Promise 4.
func TestFieldMulLaws(t *testing.T) {
	for a := range impl.FieldSize {
		if n := impl.FieldMul(a, 1); n != a {
			t.Errorf("FieldMul(%d, 1) = %d", a, n)
		}
		if n := impl.FieldMul(1, a); n != a {
			t.Errorf("FieldMul(1, %d) = %d", a, n)
		}
		for b := range impl.FieldSize {
			if impl.FieldMul(a, b) != impl.FieldMul(b, a) {
				t.Errorf("FieldMul of %d and %d is not commutative", a, b)
			}
			for c := range impl.FieldSize {
				checkMulOfThree(t, a, b, c)
			}
		}
	}
}

func checkMulOfThree(t *testing.T, a int, b int, c int) {
	t.Helper()
	if impl.FieldMul(impl.FieldMul(a, b), c) != impl.FieldMul(a, impl.FieldMul(b, c)) {
		t.Errorf("FieldMul of %d, %d and %d is not associative", a, b, c)
	}
	if impl.FieldMul(a, impl.FieldSum(b, c)) != impl.FieldSum(impl.FieldMul(a, b), impl.FieldMul(a, c)) {
		t.Errorf("FieldMul of %d does not distribute over FieldSum(%d, %d)", a, b, c)
	}
}

// Promise 4, invalid operands.
func TestFieldMulInvalid(t *testing.T) {
	checkInvalid(t, "FieldMul", impl.FieldMul)
}

// Promise 5.
func TestFieldMulZero(t *testing.T) {
	for a := range impl.FieldSize {
		for b := range impl.FieldSize {
			if got, want := impl.FieldMul(a, b) == 0, a == 0 || b == 0; got != want {
				t.Errorf("FieldMul(%d, %d) is 0: %v, want %v", a, b, got, want)
			}
		}
	}
}

// Promise 6.
func TestFieldInvProduct(t *testing.T) {
	for a := 1; a < impl.FieldSize; a++ {
		n := inverseOf(t, a)
		if !impl.FieldOk(n) || plainMul(a, n) != 1 || impl.FieldMul(a, n) != 1 {
			t.Errorf("FieldInv(%d) = %d, whose product with it is not 1", a, n)
		}
	}
}

// Promise 6; 1 and FieldSize-1 are the elements that are their own inverses.
func TestFieldInvValues(t *testing.T) {
	for _, c := range []struct{ a, want int }{{1, 1}, {2, 16}, {3, 21}, {4, 8}, {8, 4}, {16, 2}, {30, 30}} {
		if got := inverseOf(t, c.a); got != c.want {
			t.Errorf("FieldInv(%d) = %d, want %d", c.a, got, c.want)
		}
	}
}

// Promise 6.
func TestFieldInvLaws(t *testing.T) {
	for a := 1; a < impl.FieldSize; a++ {
		if n := inverseOf(t, inverseOf(t, a)); n != a {
			t.Errorf("FieldInv of FieldInv(%d) = %d", a, n)
		}
		for b := 1; b < impl.FieldSize; b++ {
			got := inverseOf(t, impl.FieldMul(a, b))
			if want := impl.FieldMul(inverseOf(t, a), inverseOf(t, b)); got != want {
				t.Errorf("FieldInv(FieldMul(%d, %d)) = %d, want %d", a, b, got, want)
			}
		}
	}
}

// Promise 6, 0 and invalid operands.
func TestFieldInvFails(t *testing.T) {
	for _, a := range append(notElements(), 0) {
		if n, ok := impl.FieldInv(a); n != 0 || ok {
			t.Errorf("FieldInv(%d) = %d, %v, want 0, false", a, n, ok)
		}
	}
}
