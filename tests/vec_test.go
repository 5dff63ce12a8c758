package tests

import (
	"math"
	"slices"
	"testing"

	"loop.example/keelson/impl"
)

// someVectors are the zero vector, the unit vectors, vectors of extreme elements, vectors that begin with zeros, and
// others that a short rule spreads over the field.
func someVectors() [][]int {
	list := [][]int{
		{0, 0, 0, 0},
		{1, 0, 0, 0}, {0, 1, 0, 0}, {0, 0, 1, 0}, {0, 0, 0, 1},
		{30, 0, 0, 0}, {0, 30, 0, 0}, {0, 0, 30, 0}, {0, 0, 0, 30},
		{1, 1, 1, 1}, {30, 30, 30, 30}, {16, 15, 16, 15},
		{1, 2, 3, 30}, {0, 0, 7, 1}, {0, 5, 0, 9}, {0, 12, 29, 3}, {4, 0, 0, 17},
	}
	n := 1
	for range 20 {
		var v []int
		for range 4 {
			n = (n*137 + 41) % 1009
			v = append(v, n%31)
		}
		list = append(list, v)
	}
	return list
}

// notVectors are slices with elements too few or too many, also with the missing elements in the capacity, and slices
// with one invalid element, at each position, after zeros and among nonzero elements.
func notVectors() [][]int {
	list := [][]int{
		nil, {}, {0}, {7}, {1, 2}, {0, 0, 0}, {1, 2, 3}, {0, 0, 5},
		{0, 0, 0, 0, 0}, {1, 2, 3, 4, 5}, {0, 0, 0, 0, 9}, {1, 2, 3, 30, 31},
		make([]int, 8), make([]int, 31), make([]int, 1<<8+4),
		[]int{1, 2, 3, 4}[:0], []int{1, 2, 3, 4}[:3], []int{1, 2, 3, 4, 5, 6}[:5],
		{31, 31, 31, 31}, {-1, -1, -1, -1},
	}
	for _, bad := range notElements() {
		for at := range 4 {
			lone, among := []int{0, 0, 0, 0}, []int{1, 2, 3, 30}
			lone[at], among[at] = bad, bad
			list = append(list, lone, among)
		}
	}
	return list
}

// forEachVector visits all vectors of the field.
func forEachVector(visit func(v []int)) {
	for a := range 31 {
		for b := range 31 {
			for c := range 31 {
				for d := range 31 {
					visit([]int{a, b, c, d})
				}
			}
		}
	}
}

func plainVecSum(a []int, b []int) []int {
	return []int{plainSum(a[0], b[0]), plainSum(a[1], b[1]), plainSum(a[2], b[2]), plainSum(a[3], b[3])}
}

func plainVecScale(v []int, c int) []int {
	return []int{plainMul(v[0], c), plainMul(v[1], c), plainMul(v[2], c), plainMul(v[3], c)}
}

func plainVecDot(a []int, b []int) int {
	n := 0
	for i := range a {
		n = plainSum(n, plainMul(a[i], b[i]))
	}
	return n
}

// unitOf is VecUnit of a position that must be valid.
func unitOf(t *testing.T, at int) []int {
	t.Helper()
	v, ok := impl.VecUnit(at)
	if !ok {
		t.Fatalf("VecUnit(%d) fails", at)
	}
	return v
}

// checkVec compares results; a nil want stands for any empty slice.
func checkVec(t *testing.T, got []int, want []int, name string, arguments ...any) {
	t.Helper()
	if !slices.Equal(got, want) {
		t.Errorf("%s%v = %v, want %v", name, arguments, got, want)
	}
}

// spoil overwrites a slice up to its capacity, so that whatever shares its memory changes.
func spoil(v []int) {
	v = v[:cap(v)]
	for i := range v {
		v[i] = -7
	}
}

// checkApart expects a call on two slices to leave them as they are, capacity included, and its result to share no
// memory with them, in either direction, nor with the result of the same call made again.
func checkApart(t *testing.T, name string, a []int, b []int, call func(a []int, b []int) []int) {
	t.Helper()
	// Spare capacity tempts an implementation that appends to its arguments.
	a, b = append(make([]int, 0, 12), a...), append(make([]int, 0, 12), b...)
	allA, allB := slices.Clone(a[:cap(a)]), slices.Clone(b[:cap(b)])
	first, again := call(a, b), call(a, b)
	want := slices.Clone(again)
	unchanged := func() bool {
		return slices.Equal(a[:cap(a)], allA) && slices.Equal(b[:cap(b)], allB)
	}
	if !unchanged() {
		t.Errorf("%s changes its arguments %v and %v", name, allA, allB)
	}
	spoil(first)
	if !unchanged() {
		t.Errorf("%s of %v and %v shares memory with its arguments", name, allA, allB)
	}
	if !slices.Equal(again, want) {
		t.Errorf("two results of %s of %v and %v share memory", name, allA, allB)
	}
	spoil(a)
	spoil(b)
	if !slices.Equal(again, want) {
		t.Errorf("the result of %s of %v and %v changes with its arguments", name, allA, allB)
	}
}

func TestVecLen(t *testing.T) {
	if impl.VecLen != 4 {
		t.Errorf("VecLen = %d, want 4", impl.VecLen)
	}
}

// Promise 7.
func TestVecSumElementWise(t *testing.T) {
	for _, a := range someVectors() {
		for _, b := range someVectors() {
			checkVec(t, impl.VecSum(a, b), plainVecSum(a, b), "VecSum", a, b)
		}
	}
}

// Promise 7; each pair of elements at each position, beside others that must not run over into it.
func TestVecSumEachElement(t *testing.T) {
	for at := range 4 {
		for m := range 31 {
			for n := range 31 {
				a, b := []int{30, 30, 30, 30}, []int{30, 1, 2, 3}
				a[at], b[at] = m, n
				checkVec(t, impl.VecSum(a, b), plainVecSum(a, b), "VecSum", a, b)
			}
		}
	}
}

// Promise 7; sums written out, with the zero vector, with itself, and with an inverse.
func TestVecSumValues(t *testing.T) {
	for _, c := range []struct{ a, b, want []int }{
		{[]int{0, 0, 0, 0}, []int{0, 0, 0, 0}, []int{0, 0, 0, 0}},
		{[]int{1, 2, 3, 30}, []int{0, 0, 0, 0}, []int{1, 2, 3, 30}},
		{[]int{0, 0, 0, 0}, []int{1, 2, 3, 30}, []int{1, 2, 3, 30}},
		{[]int{1, 2, 3, 30}, []int{1, 2, 3, 30}, []int{2, 4, 6, 29}},
		{[]int{1, 2, 3, 30}, []int{30, 29, 28, 1}, []int{0, 0, 0, 0}},
		{[]int{30, 30, 30, 30}, []int{30, 30, 30, 30}, []int{29, 29, 29, 29}},
		{[]int{15, 16, 0, 30}, []int{15, 15, 30, 0}, []int{30, 0, 30, 30}},
	} {
		checkVec(t, impl.VecSum(c.a, c.b), c.want, "VecSum", c.a, c.b)
	}
}

// Promise 7.
func TestVecSumLaws(t *testing.T) {
	for _, a := range someVectors() {
		for _, b := range someVectors() {
			checkVec(t, impl.VecSum(a, b), impl.VecSum(b, a), "VecSum", a, b)
			for _, c := range someVectors() {
				left := impl.VecSum(impl.VecSum(a, b), c)
				if !impl.VecOk(left) {
					t.Fatalf("VecSum of %v, %v and %v is no vector", a, b, c)
				}
				checkVec(t, left, impl.VecSum(a, impl.VecSum(b, c)), "VecSum", a, b, c)
			}
		}
	}
}

// Promises 7 and 12, invalid operands.
func TestVecSumInvalid(t *testing.T) {
	for _, bad := range notVectors() {
		for _, good := range someVectors() {
			checkVec(t, impl.VecSum(bad, good), nil, "VecSum", bad, good)
			checkVec(t, impl.VecSum(good, bad), nil, "VecSum", good, bad)
		}
		for _, other := range notVectors() {
			checkVec(t, impl.VecSum(bad, other), nil, "VecSum", bad, other)
		}
	}
}

// Promise 8.
func TestVecScaleElementWise(t *testing.T) {
	for _, v := range someVectors() {
		for c := range 31 {
			checkVec(t, impl.VecScale(v, c), plainVecScale(v, c), "VecScale", v, c)
		}
	}
	for at := range 4 {
		for n := range 31 {
			for c := range 31 {
				v := []int{30, 1, 2, 3}
				v[at] = n
				checkVec(t, impl.VecScale(v, c), plainVecScale(v, c), "VecScale", v, c)
			}
		}
	}
}

// Promise 8; multiples written out.
func TestVecScaleValues(t *testing.T) {
	for _, c := range []struct {
		v    []int
		c    int
		want []int
	}{
		{[]int{1, 2, 3, 30}, 30, []int{30, 29, 28, 1}},
		{[]int{1, 2, 3, 30}, 2, []int{2, 4, 6, 29}},
		{[]int{4, 8, 16, 0}, 8, []int{1, 2, 4, 0}},
		{[]int{0, 0, 0, 0}, 30, []int{0, 0, 0, 0}},
	} {
		checkVec(t, impl.VecScale(c.v, c.c), c.want, "VecScale", c.v, c.c)
	}
}

// Promise 8.
func TestVecScaleByOneAndZero(t *testing.T) {
	forEachVector(func(v []int) {
		if got := impl.VecScale(v, 1); !slices.Equal(got, v) {
			t.Fatalf("VecScale(%v, 1) = %v", v, got)
		}
		if got := impl.VecScale(v, 0); !slices.Equal(got, []int{0, 0, 0, 0}) {
			t.Fatalf("VecScale(%v, 0) = %v", v, got)
		}
	})
}

// Promise 8.
func TestVecScaleLaws(t *testing.T) {
	for _, v := range someVectors() {
		for c := range 31 {
			for d := range 31 {
				twice := impl.VecScale(impl.VecScale(v, c), d)
				checkVec(t, twice, impl.VecScale(v, impl.FieldMul(c, d)), "VecScale of VecScale", v, c, d)
				both := impl.VecSum(impl.VecScale(v, c), impl.VecScale(v, d))
				checkVec(t, both, impl.VecScale(v, impl.FieldSum(c, d)), "VecSum of VecScale", v, c, d)
				if !impl.VecOk(twice) || !impl.VecOk(both) {
					t.Fatalf("VecScale of %v by %d and %d is no vector", v, c, d)
				}
			}
		}
	}
}

// Promise 8; scaling distributes over VecSum too, as it is element-wise.
func TestVecScaleOfSum(t *testing.T) {
	for _, a := range someVectors() {
		for _, b := range someVectors() {
			for _, c := range []int{0, 1, 2, 17, 30} {
				want := impl.VecSum(impl.VecScale(a, c), impl.VecScale(b, c))
				checkVec(t, impl.VecScale(impl.VecSum(a, b), c), want, "VecScale of VecSum", a, b, c)
			}
		}
	}
}

// Promises 8 and 12, invalid vectors and scalars.
func TestVecScaleInvalid(t *testing.T) {
	for _, bad := range notVectors() {
		for c := range 31 {
			checkVec(t, impl.VecScale(bad, c), nil, "VecScale", bad, c)
		}
		for _, c := range notElements() {
			checkVec(t, impl.VecScale(bad, c), nil, "VecScale", bad, c)
		}
	}
	for _, v := range someVectors() {
		for _, c := range notElements() {
			checkVec(t, impl.VecScale(v, c), nil, "VecScale", v, c)
		}
	}
}

// Promise 9.
func TestVecDotValues(t *testing.T) {
	for _, a := range someVectors() {
		for _, b := range someVectors() {
			if got, want := impl.VecDot(a, b), plainVecDot(a, b); got != want {
				t.Errorf("VecDot(%v, %v) = %d, want %d", a, b, got, want)
			}
		}
	}
	for _, c := range []struct {
		a, b []int
		want int
	}{
		{[]int{1, 2, 3, 30}, []int{1, 1, 1, 1}, 5},
		{[]int{30, 30, 30, 30}, []int{30, 30, 30, 30}, 4},
		{[]int{30, 30, 30, 30}, []int{1, 1, 1, 1}, 27},
		{[]int{1, 2, 3, 4}, []int{1, 3, 9, 27}, 18},
		{[]int{1, 30, 0, 0}, []int{1, 1, 1, 1}, 0},
		{[]int{0, 0, 0, 0}, []int{30, 30, 30, 30}, 0},
	} {
		if got := impl.VecDot(c.a, c.b); got != c.want {
			t.Errorf("VecDot(%v, %v) = %d, want %d", c.a, c.b, got, c.want)
		}
	}
}

// Promise 9.
func TestVecDotCommutative(t *testing.T) {
	for _, a := range someVectors() {
		for _, b := range someVectors() {
			if m, n := impl.VecDot(a, b), impl.VecDot(b, a); m != n {
				t.Errorf("VecDot(%v, %v) = %d, the other way round %d", a, b, m, n)
			}
		}
	}
}

// Promise 9.
func TestVecDotLinear(t *testing.T) {
	for _, a := range someVectors() {
		for _, b := range someVectors() {
			for c := range 31 {
				if got, want := impl.VecDot(impl.VecScale(a, c), b), impl.FieldMul(impl.VecDot(a, b), c); got != want {
					t.Errorf("VecDot(VecScale(%v, %d), %v) = %d, want %d", a, c, b, got, want)
				}
			}
			for _, c := range someVectors() {
				got := impl.VecDot(impl.VecSum(a, b), c)
				if want := impl.FieldSum(impl.VecDot(a, c), impl.VecDot(b, c)); got != want {
					t.Errorf("VecDot(VecSum(%v, %v), %v) = %d, want %d", a, b, c, got, want)
				}
			}
		}
	}
}

// Promise 9.
func TestVecDotSelects(t *testing.T) {
	for at := range 4 {
		unit := unitOf(t, at)
		forEachVector(func(v []int) {
			if got := impl.VecDot(v, unit); got != v[at] {
				t.Fatalf("VecDot(%v, %v) = %d, want %d", v, unit, got, v[at])
			}
			if got := impl.VecDot(unit, v); got != v[at] {
				t.Fatalf("VecDot(%v, %v) = %d, want %d", unit, v, got, v[at])
			}
		})
	}
}

// Promises 9 and 12, invalid operands.
func TestVecDotInvalid(t *testing.T) {
	check := func(a []int, b []int) {
		if got := impl.VecDot(a, b); got != 0 {
			t.Errorf("VecDot(%v, %v) = %d, want 0", a, b, got)
		}
	}
	for _, bad := range notVectors() {
		for _, good := range someVectors() {
			check(bad, good)
			check(good, bad)
		}
		for _, other := range notVectors() {
			check(bad, other)
		}
	}
}

// Promise 10.
func TestVecUnitValues(t *testing.T) {
	for at, want := range [][]int{{1, 0, 0, 0}, {0, 1, 0, 0}, {0, 0, 1, 0}, {0, 0, 0, 1}} {
		v := unitOf(t, at)
		checkVec(t, v, want, "VecUnit", at)
		if got := impl.VecLead(v); got != at {
			t.Errorf("VecLead(VecUnit(%d)) = %d", at, got)
		}
	}
}

// Promise 10; the positions just outside, those that a narrower integer type would wrap around, and the extremes.
func TestVecUnitFails(t *testing.T) {
	positions := append(notElements(), 1<<16+3, 1<<32+3, math.MinInt+2)
	for at := -300; at <= 300; at++ {
		if at < 0 || at > 3 {
			positions = append(positions, at)
		}
	}
	for _, at := range positions {
		if v, ok := impl.VecUnit(at); len(v) != 0 || ok {
			t.Errorf("VecUnit(%d) = %v, %v, want false", at, v, ok)
		}
	}
}

// Promise 11.
func TestVecLeadEachVector(t *testing.T) {
	forEachVector(func(v []int) {
		want := slices.IndexFunc(v, func(n int) bool { return n > 0 })
		if got := impl.VecLead(v); got != want {
			t.Fatalf("VecLead(%v) = %d, want %d", v, got, want)
		}
	})
}

// Promise 11; leads written out.
func TestVecLeadValues(t *testing.T) {
	for _, c := range []struct {
		v    []int
		want int
	}{
		{[]int{0, 0, 0, 0}, -1},
		{[]int{1, 0, 0, 0}, 0}, {[]int{30, 30, 30, 30}, 0},
		{[]int{0, 5, 0, 9}, 1}, {[]int{0, 0, 7, 1}, 2}, {[]int{0, 0, 0, 30}, 3},
	} {
		if got := impl.VecLead(c.v); got != c.want {
			t.Errorf("VecLead(%v) = %d, want %d", c.v, got, c.want)
		}
	}
}

// Promise 11.
func TestVecLeadScaled(t *testing.T) {
	for _, v := range someVectors() {
		for c := 1; c < 31; c++ {
			if got, want := impl.VecLead(impl.VecScale(v, c)), impl.VecLead(v); got != want {
				t.Errorf("VecLead(VecScale(%v, %d)) = %d, want %d", v, c, got, want)
			}
		}
	}
}

// Promises 11 and 12, invalid vectors.
func TestVecLeadInvalid(t *testing.T) {
	for _, bad := range notVectors() {
		if got := impl.VecLead(bad); got != -1 {
			t.Errorf("VecLead(%v) = %d, want -1", bad, got)
		}
	}
}

// Promise 12.
func TestVecOkEachVector(t *testing.T) {
	forEachVector(func(v []int) {
		if !impl.VecOk(v) {
			t.Fatalf("VecOk(%v) = false", v)
		}
	})
	if v := []int{1, 2, 3, 30, 31, -1}[:4]; !impl.VecOk(v) {
		t.Errorf("VecOk(%v) = false because of what lies beyond its length", v)
	}
}

// Promise 12.
func TestVecOkLength(t *testing.T) {
	for _, v := range someVectors() {
		for n := range 31 {
			if more := append(slices.Clone(v), n); impl.VecOk(more) {
				t.Errorf("VecOk(%v) = true", more)
			}
		}
		for at := range 4 {
			if less := slices.Delete(slices.Clone(v), at, at+1); impl.VecOk(less) {
				t.Errorf("VecOk(%v) = true", less)
			}
		}
	}
}

// Promise 12.
func TestVecOkElements(t *testing.T) {
	for _, v := range someVectors() {
		for at := range 4 {
			for n := -100; n <= 400; n++ {
				changed := slices.Clone(v)
				changed[at] = n
				if got, want := impl.VecOk(changed), n >= 0 && n <= 30; got != want {
					t.Errorf("VecOk(%v) = %v, want %v", changed, got, want)
				}
			}
		}
	}
	for _, bad := range notVectors() {
		if impl.VecOk(bad) {
			t.Errorf("VecOk(%v) = true", bad)
		}
	}
}

// Promises 7 and 8, memory; the zero vector and the scalar 1 tempt an implementation to return an argument.
func TestVecResultsApart(t *testing.T) {
	for _, a := range someVectors() {
		for _, b := range someVectors() {
			checkApart(t, "VecSum", a, b, impl.VecSum)
		}
		for c := range 31 {
			checkApart(t, "VecScale", a, nil, func(v []int, _ []int) []int { return impl.VecScale(v, c) })
		}
	}
}

// Promise 10, memory.
func TestVecUnitsApart(t *testing.T) {
	for at := range 4 {
		want := slices.Clone(unitOf(t, at))
		first, again := unitOf(t, at), unitOf(t, at)
		spoil(first)
		checkVec(t, again, want, "VecUnit", at)
		checkVec(t, unitOf(t, at), want, "VecUnit", at)
	}
}

// Promises 7 to 12; no function changes its arguments, valid or not, up to their capacity.
func TestVecArgumentsUnchanged(t *testing.T) {
	calls := func(a []int, b []int) []int {
		impl.VecOk(a)
		impl.VecLead(a)
		impl.VecDot(a, b)
		impl.VecScale(a, 31)
		impl.VecScale(b, 2)
		return impl.VecSum(a, b)
	}
	for _, a := range append(someVectors(), notVectors()...) {
		for _, b := range append(someVectors()[:13], notVectors()[:20]...) {
			checkApart(t, "a call", a, b, calls)
		}
	}
}

// Promises 7 to 9; an operand may be given twice.
func TestVecSameOperandTwice(t *testing.T) {
	for _, v := range someVectors() {
		was := slices.Clone(v)
		checkVec(t, impl.VecSum(v, v), plainVecScale(was, 2), "VecSum", v, v)
		if got, want := impl.VecDot(v, v), plainVecDot(was, was); got != want {
			t.Errorf("VecDot(%v, %v) = %d, want %d", v, v, got, want)
		}
		checkVec(t, v, was, "the operand of VecSum and VecDot")
	}
}
