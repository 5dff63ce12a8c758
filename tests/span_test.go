package tests

import (
	"slices"
	"testing"

	"loop.example/keelson/impl"
)

// someMatrices are matrices of each rank and of each number of rows, among them the empty matrix, zero rows, repeated
// rows, rows made of others before and after them, rows with leading zeros, and several matrices of one span.
func someMatrices() [][][]int {
	list := [][][]int{
		nil, {},
		{{0, 0, 0, 0}}, {{0, 0, 0, 0}, {0, 0, 0, 0}}, slices.Repeat([][]int{{0, 0, 0, 0}}, 8),
		{{0, 0, 0, 1}}, {{0, 0, 0, 30}}, {{0, 0, 7, 1}}, {{0, 5, 0, 9}}, {{30, 30, 30, 30}}, {{1, 2, 0, 0}},
		{{2, 4, 0, 0}, {1, 2, 0, 0}}, {{1, 2, 0, 0}, {2, 4, 0, 0}}, {{1, 2, 0, 0}, {2, 5, 0, 0}},
		{{0, 0, 0, 0}, {1, 2, 0, 0}}, {{1, 2, 0, 0}, {0, 0, 0, 0}}, {{0, 0, 0, 5}, {0, 0, 3, 0}},
		slices.Repeat([][]int{{4, 0, 0, 17}}, 8), {{16, 15, 16, 15}, {15, 16, 15, 16}},
		{{2, 4, 0, 0}, {1, 2, 0, 0}, {0, 0, 3, 3}}, {{0, 0, 3, 3}, {2, 4, 3, 3}, {2, 4, 0, 0}},
		{{0, 1, 1, 0}, {0, 1, 2, 0}, {0, 1, 3, 0}}, {{0, 1, 0, 0}, {1, 0, 0, 0}},
		{{1, 2, 3, 4}, {2, 4, 6, 9}, {3, 6, 9, 13}, {1, 3, 3, 4}},
		{{0, 1, 2, 3}, {1, 0, 2, 3}, {1, 1, 4, 6}, {1, 30, 0, 0}, {0, 0, 0, 0}, {0, 0, 1, 1}},
		{{0, 0, 0, 1}, {0, 0, 1, 1}, {0, 1, 1, 1}, {1, 1, 1, 1}},
		{{1, 0, 0, 0}, {0, 1, 0, 0}, {0, 0, 1, 0}, {0, 0, 0, 1}},
		{{0, 0, 0, 1}, {0, 0, 1, 0}, {0, 1, 0, 0}, {1, 0, 0, 0}},
		{{1, 0, 0, 0}, {0, 1, 0, 0}, {0, 0, 1, 0}, {0, 0, 0, 1}, {1, 1, 0, 0}, {0, 0, 1, 1}, {1, 2, 4, 8}, {1, 3, 9, 27}},
		{{1, 1, 1, 1}, {1, 2, 4, 8}, {1, 3, 9, 27}, {1, 4, 16, 2}, {1, 5, 25, 1}, {1, 6, 5, 30}, {1, 7, 18, 2}, {1, 8, 2, 16}},
		{{1, 1, 0, 0}, {1, 0, 0, 0}, {0, 1, 0, 0}, {0, 0, 1, 1}, {1, 1, 1, 1}, {0, 0, 1, 1}, {2, 2, 30, 30}, {0, 0, 0, 0}},
		{{0, 0, 0, 0}, {0, 0, 0, 0}, {0, 0, 2, 0}, {0, 0, 4, 0}, {0, 0, 0, 0}, {0, 7, 1, 0}, {0, 7, 3, 0}, {5, 0, 0, 1}},
	}
	for rows := 1; rows <= 8; rows++ {
		for rank := 1; rank <= 4; rank++ {
			list = append(list, mixedMatrix(rows, rank, rows*7+rank))
		}
	}
	return list
}

// mixedMatrix has rows that a short rule makes of the first so many of four vectors, some with leading zeros.
func mixedMatrix(rows int, rank int, seed int) [][]int {
	base := [][]int{{0, 3, 0, 11}, {0, 0, 5, 2}, {9, 1, 0, 0}, {0, 6, 10, 27}}[:rank]
	var m [][]int
	for range rows {
		v := []int{0, 0, 0, 0}
		for _, b := range base {
			seed = (seed*137 + 41) % 1009
			// A third of the coefficients are 0, so that rows that depend on few others appear too.
			if seed%3 > 0 {
				v = plainVecSum(v, plainVecScale(b, seed%31))
			}
		}
		m = append(m, v)
	}
	return m
}

// notMatrices are lists with rows too many, though of small rank, and lists with one invalid row among valid ones,
// also after as many pivot rows as there can be.
func notMatrices() [][][]int {
	unit := [][]int{{1, 0, 0, 0}, {0, 1, 0, 0}, {0, 0, 1, 0}, {0, 0, 0, 1}}
	zero := [][]int{{0, 0, 0, 0}}
	list := [][][]int{
		slices.Repeat(zero, 9), slices.Repeat(unit[1:2], 9), slices.Repeat(unit, 4), slices.Repeat(unit, 64),
		append(slices.Repeat(unit, 2), zero...), slices.Repeat(unit, 65), {nil, nil}, slices.Repeat([][]int{nil}, 9),
	}
	for _, bad := range notVectors() {
		list = append(list, [][]int{bad}, [][]int{{1, 2, 3, 4}, bad}, [][]int{bad, {1, 2, 3, 4}})
		list = append(list, append(slices.Clone(unit), bad), append(slices.Repeat(unit, 2)[:7], bad))
	}
	return list
}

// plainSpan has a flag for each vector of the field: whether it is a linear combination.
type plainSpan []bool

func (s plainSpan) has(v []int) bool {
	return s[((v[0]*31+v[1])*31+v[2])*31+v[3]]
}

// plainSpanOf adds up all multiples of all rows, without any reduction; it also says which rows were new.
func plainSpanOf(m [][]int) (plainSpan, []int) {
	flags := make(plainSpan, 31*31*31*31)
	flags[0] = true
	all := [][]int{{0, 0, 0, 0}}
	var first []int
	for i, row := range m {
		if flags.has(row) {
			continue
		}
		first = append(first, i)
		var more [][]int
		for c := range 31 {
			times := plainVecScale(row, c)
			for _, v := range all {
				w := plainVecSum(v, times)
				flags[((w[0]*31+w[1])*31+w[2])*31+w[3]] = true
				// With a fourth new row all vectors are in, and nothing is left to be made of them.
				if len(first) < 4 {
					more = append(more, w)
				}
			}
		}
		all = more
	}
	return flags, first
}

// combination adds up rows, each so many times.
func combination(m [][]int, times []int) []int {
	v := []int{0, 0, 0, 0}
	for i, row := range m {
		v = plainVecSum(v, plainVecScale(row, times[i]))
	}
	return v
}

// someTimes are lists of so many coefficients: all 0, each alone, all the largest, and others by a short rule.
func someTimes(count int) [][]int {
	list := [][]int{make([]int, count), slices.Repeat([]int{30}, count)}
	for i := range count {
		for _, c := range []int{1, 2, 30} {
			times := make([]int, count)
			times[i] = c
			list = append(list, times)
		}
	}
	n := count
	for range 12 {
		var times []int
		for range count {
			n = (n*137 + 41) % 1009
			times = append(times, n%31)
		}
		list = append(list, times)
	}
	return list
}

// pick is the rows at these indexes.
func pick(m [][]int, at []int) [][]int {
	var list [][]int
	for _, i := range at {
		list = append(list, m[i])
	}
	return list
}

func equalMatrix(a [][]int, b [][]int) bool {
	return slices.EqualFunc(a, b, slices.Equal)
}

func cloneMatrix(m [][]int) [][]int {
	var list [][]int
	for _, row := range m {
		list = append(list, slices.Clone(row))
	}
	return list
}

// byOf is SpanBy of a vector that must be in the span, checked for its length and its elements.
func byOf(t *testing.T, m [][]int, v []int) []int {
	t.Helper()
	by, ok := impl.SpanBy(m, v)
	if !ok || len(by) != len(m) {
		t.Fatalf("SpanBy(%v, %v) = %v, %v", m, v, by, ok)
	}
	for _, c := range by {
		if c < 0 || c > 30 {
			t.Fatalf("SpanBy(%v, %v) = %v, not of elements", m, v, by)
		}
	}
	return by
}

func checkTidy(t *testing.T, m [][]int, want [][]int) {
	t.Helper()
	if got := impl.SpanTidy(m); !equalMatrix(got, want) {
		t.Errorf("SpanTidy(%v) = %v, want %v", m, got, want)
	}
}

func TestSpanMax(t *testing.T) {
	if impl.SpanMax != 8 {
		t.Errorf("SpanMax = %d, want 8", impl.SpanMax)
	}
}

// Promise 13.
func TestSpanTidyShape(t *testing.T) {
	for _, m := range someMatrices() {
		tidy := impl.SpanTidy(m)
		last := -1
		for i, row := range tidy {
			if !impl.VecOk(row) {
				t.Fatalf("SpanTidy(%v) = %v, not of vectors", m, tidy)
			}
			lead := slices.IndexFunc(row, func(n int) bool { return n != 0 })
			if lead <= last || row[lead] != 1 {
				t.Fatalf("SpanTidy(%v) = %v, row %d starts wrongly", m, tidy, i)
			}
			for j, other := range tidy {
				if j != i && other[lead] != 0 {
					t.Errorf("SpanTidy(%v) = %v, column %d has more than its leading 1", m, tidy, lead)
				}
			}
			last = lead
		}
	}
}

// Promises 13 and 14; reduced forms written out.
func TestSpanTidyValues(t *testing.T) {
	unit := [][]int{{1, 0, 0, 0}, {0, 1, 0, 0}, {0, 0, 1, 0}, {0, 0, 0, 1}}
	for _, c := range []struct{ m, want [][]int }{
		{nil, nil},
		{[][]int{}, nil},
		{[][]int{{0, 0, 0, 0}}, nil},
		{slices.Repeat([][]int{{0, 0, 0, 0}}, 8), nil},
		{[][]int{{0, 0, 0, 30}}, [][]int{{0, 0, 0, 1}}},
		{[][]int{{0, 0, 4, 1}}, [][]int{{0, 0, 1, 8}}},
		{[][]int{{2, 4, 0, 0}, {1, 2, 0, 0}, {0, 0, 3, 3}}, [][]int{{1, 2, 0, 0}, {0, 0, 1, 1}}},
		{[][]int{{0, 0, 3, 3}, {0, 0, 0, 0}, {2, 4, 3, 3}}, [][]int{{1, 2, 0, 0}, {0, 0, 1, 1}}},
		{[][]int{{1, 1, 1, 1}, {1, 2, 4, 8}}, [][]int{{1, 0, 29, 25}, {0, 1, 3, 7}}},
		{[][]int{{1, 2, 3, 4}, {1, 2, 3, 5}}, [][]int{{1, 2, 3, 0}, {0, 0, 0, 1}}},
		{[][]int{{0, 1, 0, 5}, {1, 0, 0, 6}, {1, 1, 0, 11}}, [][]int{{1, 0, 0, 6}, {0, 1, 0, 5}}},
		{[][]int{{0, 0, 0, 1}, {0, 0, 1, 1}, {0, 1, 1, 1}, {1, 1, 1, 1}}, unit},
		{[][]int{{1, 1, 1, 1}, {1, 2, 4, 8}, {1, 3, 9, 27}, {1, 4, 16, 2}}, unit},
		{slices.Repeat([][]int{{4, 0, 0, 1}}, 8), [][]int{{1, 0, 0, 8}}},
	} {
		checkTidy(t, c.m, c.want)
	}
}

// Promise 14.
func TestSpanTidySameSpan(t *testing.T) {
	for _, m := range someMatrices() {
		tidy := impl.SpanTidy(m)
		if !impl.SpanOk(tidy) {
			t.Fatalf("SpanTidy(%v) = %v, no matrix", m, tidy)
		}
		want, _ := plainSpanOf(m)
		if got, _ := plainSpanOf(tidy); !slices.Equal(got, want) {
			t.Errorf("SpanTidy(%v) = %v, of another span", m, tidy)
		}
		checkTidy(t, tidy, tidy)
		if !impl.SpanSame(m, tidy) {
			t.Errorf("SpanSame(%v, %v) = false", m, tidy)
		}
	}
}

// Promise 15.
func TestSpanSameEachPair(t *testing.T) {
	var spans []plainSpan
	for _, m := range someMatrices() {
		span, _ := plainSpanOf(m)
		spans = append(spans, span)
	}
	for i, a := range someMatrices() {
		for j, b := range someMatrices() {
			want := slices.Equal(spans[i], spans[j])
			if got := impl.SpanSame(a, b); got != want {
				t.Errorf("SpanSame(%v, %v) = %v, want %v", a, b, got, want)
			}
			inEachOther := true
			for _, row := range a {
				inEachOther = impl.SpanHas(b, row) && inEachOther
			}
			for _, row := range b {
				inEachOther = impl.SpanHas(a, row) && inEachOther
			}
			if inEachOther != want {
				t.Errorf("the rows of %v and %v in each other's span: %v, want %v", a, b, inEachOther, want)
			}
			if got := equalMatrix(impl.SpanTidy(a), impl.SpanTidy(b)); got != want {
				t.Errorf("SpanTidy(%v) equal to SpanTidy(%v): %v, want %v", a, b, got, want)
			}
		}
	}
}

// Promise 15; a span within the other, spans of equal rank, and the empty matrix.
func TestSpanSameValues(t *testing.T) {
	for _, c := range []struct {
		a, b [][]int
		want bool
	}{
		{nil, [][]int{}, true},
		{nil, [][]int{{0, 0, 0, 0}}, true},
		{nil, [][]int{{0, 0, 0, 1}}, false},
		{[][]int{{1, 2, 3, 4}}, [][]int{{30, 29, 28, 27}, {0, 0, 0, 0}}, true},
		{[][]int{{1, 2, 3, 4}}, [][]int{{1, 2, 3, 5}}, false},
		{[][]int{{1, 2, 3, 4}}, [][]int{{1, 2, 3, 4}, {0, 0, 0, 1}}, false},
		{[][]int{{1, 0, 0, 0}, {0, 1, 0, 0}}, [][]int{{1, 1, 0, 0}, {1, 2, 0, 0}}, true},
		{[][]int{{1, 0, 0, 0}, {0, 1, 0, 0}}, [][]int{{1, 0, 0, 0}, {0, 0, 1, 0}}, false},
		{[][]int{{1, 0, 5, 0}, {0, 1, 0, 0}}, [][]int{{1, 0, 5, 0}, {0, 1, 0, 1}}, false},
	} {
		if impl.SpanSame(c.a, c.b) != c.want || impl.SpanSame(c.b, c.a) != c.want {
			t.Errorf("SpanSame of %v and %v is not %v both ways", c.a, c.b, c.want)
		}
	}
}

// Promise 16.
func TestSpanRankCounts(t *testing.T) {
	for _, m := range someMatrices() {
		_, first := plainSpanOf(m)
		rank, tidy, pivots := impl.SpanRank(m), len(impl.SpanTidy(m)), len(impl.SpanFirst(m))
		if want := len(first); rank != want || tidy != want || pivots != want {
			t.Errorf("%v has SpanRank %d, and SpanTidy of %d and SpanFirst of %d rows, want %d", m, rank, tidy, pivots, want)
		}
	}
}

// Promise 16; ranks written out.
func TestSpanRankValues(t *testing.T) {
	unit := [][]int{{1, 0, 0, 0}, {0, 1, 0, 0}, {0, 0, 1, 0}, {0, 0, 0, 1}}
	for _, c := range []struct {
		m    [][]int
		want int
	}{
		{nil, 0}, {[][]int{}, 0}, {[][]int{{0, 0, 0, 0}}, 0},
		{[][]int{{0, 0, 0, 1}}, 1}, {[][]int{{1, 2, 3, 4}, {2, 4, 6, 8}}, 1}, {[][]int{{1, 2, 3, 4}, {2, 4, 6, 9}}, 2},
		{[][]int{{1, 2, 0, 0}, {0, 0, 1, 2}, {1, 2, 1, 2}}, 2}, {unit[:3], 3}, {unit, 4}, {slices.Repeat(unit, 2), 4},
	} {
		if got := impl.SpanRank(c.m); got != c.want {
			t.Errorf("SpanRank(%v) = %d, want %d", c.m, got, c.want)
		}
	}
}

// Promise 16.
func TestSpanRankOfOneRowMore(t *testing.T) {
	for _, m := range someMatrices() {
		if len(m) == 8 {
			continue
		}
		span, first := plainSpanOf(m)
		for _, v := range append(someVectors(), m...) {
			want := len(first)
			if !span.has(v) {
				want++
			}
			if got := impl.SpanRank(append(cloneMatrix(m), v)); got != want {
				t.Errorf("SpanRank of %v and %v = %d, want %d", m, v, got, want)
			}
			if got := impl.SpanHas(m, v); got != span.has(v) {
				t.Errorf("SpanHas(%v, %v) = %v", m, v, got)
			}
		}
	}
}

// Promise 17.
func TestSpanHasSomeVectors(t *testing.T) {
	for _, m := range someMatrices() {
		span, _ := plainSpanOf(m)
		for _, v := range someVectors() {
			want := span.has(v)
			if got := impl.SpanHas(m, v); got != want {
				t.Errorf("SpanHas(%v, %v) = %v, want %v", m, v, got, want)
			}
			by, ok := impl.SpanBy(m, v)
			if ok != want || !ok && len(by) != 0 {
				t.Errorf("SpanBy(%v, %v) = %v, %v, want %v", m, v, by, ok, want)
			}
		}
	}
}

// Promise 17; every vector of the field, with a matrix of each rank from 0 to 3.
func TestSpanHasEachVector(t *testing.T) {
	for _, m := range [][][]int{
		{{0, 0, 0, 0}},
		{{0, 2, 4, 6}, {0, 1, 2, 3}},
		{{0, 0, 3, 3}, {2, 4, 3, 3}, {2, 4, 0, 0}},
		{{0, 1, 2, 3}, {1, 0, 2, 3}, {1, 1, 4, 6}, {0, 0, 1, 1}},
	} {
		span, _ := plainSpanOf(m)
		forEachVector(func(v []int) {
			if got, want := impl.SpanHas(m, v), span.has(v); got != want {
				t.Fatalf("SpanHas(%v, %v) = %v, want %v", m, v, got, want)
			}
		})
	}
}

// Promise 17; the zero vector is made of no rows at all.
func TestSpanHasZero(t *testing.T) {
	for _, m := range someMatrices() {
		if !impl.SpanHas(m, []int{0, 0, 0, 0}) {
			t.Errorf("SpanHas(%v, [0 0 0 0]) = false", m)
		}
		checkVec(t, byOf(t, m, []int{0, 0, 0, 0}), make([]int, len(m)), "SpanBy", m)
	}
}

// Promises 17 and 18; combinations of all rows, those that are not pivot rows included.
func TestSpanByAddsUp(t *testing.T) {
	for _, m := range someMatrices() {
		_, first := plainSpanOf(m)
		for _, times := range someTimes(len(m)) {
			v := combination(m, times)
			if !impl.SpanHas(m, v) {
				t.Errorf("SpanHas(%v, %v) = false", m, v)
			}
			by := byOf(t, m, v)
			checkVec(t, combination(m, by), v, "the rows weighted by SpanBy", m, by)
			for i, c := range by {
				if c != 0 && !slices.Contains(first, i) {
					t.Errorf("SpanBy(%v, %v) = %v takes row %d", m, v, by, i)
				}
			}
		}
	}
}

// Promise 18; coefficients written out.
func TestSpanByValues(t *testing.T) {
	m := [][]int{{2, 4, 0, 0}, {1, 2, 0, 0}, {0, 0, 3, 3}}
	for _, c := range []struct {
		m    [][]int
		v    []int
		want []int
	}{
		{m, []int{1, 2, 30, 30}, []int{16, 0, 10}},
		{m, []int{1, 2, 0, 0}, []int{16, 0, 0}},
		{m, []int{0, 0, 3, 3}, []int{0, 0, 1}},
		{nil, []int{0, 0, 0, 0}, nil},
		{[][]int{{0, 0, 0, 0}, {0, 0, 0, 4}}, []int{0, 0, 0, 1}, []int{0, 8}},
		{[][]int{{5, 5, 5, 5}, {5, 5, 5, 5}}, []int{10, 10, 10, 10}, []int{2, 0}},
		{[][]int{{1, 1, 0, 0}, {0, 1, 0, 0}, {1, 0, 0, 0}}, []int{1, 0, 0, 0}, []int{1, 30, 0}},
		{[][]int{{0, 0, 0, 1}, {0, 0, 1, 1}, {0, 1, 1, 1}, {1, 1, 1, 1}}, []int{1, 2, 3, 4}, []int{1, 1, 1, 1}},
	} {
		checkVec(t, byOf(t, c.m, c.v), c.want, "SpanBy", c.m, c.v)
	}
}

// Promise 19.
func TestSpanByExactly(t *testing.T) {
	for _, m := range someMatrices() {
		_, first := plainSpanOf(m)
		for _, few := range someTimes(len(first)) {
			times := make([]int, len(m))
			for i, at := range first {
				times[at] = few[i]
			}
			v := combination(m, times)
			checkVec(t, byOf(t, m, v), times, "SpanBy", m, v)
		}
	}
}

// Promise 19; each pair of coefficients of two pivot rows, with rows before, between and behind them that are none.
func TestSpanByEachPair(t *testing.T) {
	m := [][]int{{0, 0, 0, 0}, {0, 3, 7, 1}, {0, 6, 14, 2}, {0, 9, 21, 3}, {4, 1, 0, 30}, {4, 4, 7, 0}}
	for c := range 31 {
		for d := range 31 {
			times := []int{0, c, 0, 0, d, 0}
			v := combination(m, times)
			checkVec(t, byOf(t, m, v), times, "SpanBy", m, v)
		}
	}
}

// Promise 20.
func TestSpanFirstNotMadeOfThoseBefore(t *testing.T) {
	for _, m := range someMatrices() {
		_, want := plainSpanOf(m)
		first := impl.SpanFirst(m)
		checkVec(t, first, want, "SpanFirst", m)
		for i, row := range m {
			if impl.SpanHas(m[:i], row) == slices.Contains(first, i) {
				t.Errorf("SpanFirst(%v) = %v, but row %d in the span of those before it: %v", m, first, i, impl.SpanHas(m[:i], row))
			}
		}
		if pivots := pick(m, first); !impl.SpanSame(pivots, m) {
			t.Errorf("SpanSame(%v, %v) = false", pivots, m)
		}
	}
}

// Promise 20; pivot rows written out.
func TestSpanFirstValues(t *testing.T) {
	for _, c := range []struct {
		m    [][]int
		want []int
	}{
		{nil, nil}, {[][]int{{0, 0, 0, 0}}, nil},
		{[][]int{{0, 0, 0, 0}, {0, 0, 0, 2}, {0, 0, 0, 1}}, []int{1}},
		{[][]int{{2, 4, 0, 0}, {1, 2, 0, 0}, {0, 0, 3, 3}}, []int{0, 2}},
		{[][]int{{0, 0, 1, 1}, {1, 1, 0, 0}, {1, 1, 1, 1}, {1, 0, 0, 0}, {0, 1, 0, 0}, {0, 0, 0, 7}}, []int{0, 1, 3, 5}},
		{[][]int{{1, 1, 1, 1}, {0, 1, 1, 1}, {1, 0, 0, 0}, {0, 0, 0, 1}, {0, 0, 0, 0}, {0, 1, 1, 0}, {0, 0, 2, 0}, {5, 5, 5, 5}}, []int{0, 1, 3, 6}},
	} {
		checkVec(t, impl.SpanFirst(c.m), c.want, "SpanFirst", c.m)
	}
}

// Promise 21.
func TestSpanOkWithoutARow(t *testing.T) {
	for _, m := range someMatrices() {
		if !impl.SpanOk(m) {
			t.Errorf("SpanOk(%v) = false", m)
		}
		for at := range m {
			if less := slices.Delete(slices.Clone(m), at, at+1); !impl.SpanOk(less) {
				t.Errorf("SpanOk(%v) = false", less)
			}
		}
	}
	if m := slices.Repeat([][]int{{1, 2, 3, 4}, nil}, 8)[:1]; !impl.SpanOk(m) {
		t.Errorf("SpanOk(%v) = false because of what lies beyond its length", m)
	}
}

// Promise 21.
func TestSpanOkWithAnInvalidRow(t *testing.T) {
	for _, m := range someMatrices() {
		for _, bad := range notVectors() {
			for at := range len(m) + 1 {
				if more := slices.Insert(slices.Clone(m), at, bad); impl.SpanOk(more) {
					t.Errorf("SpanOk(%v) = true", more)
				}
			}
			for at := range m {
				changed := slices.Clone(m)
				changed[at] = bad
				if impl.SpanOk(changed) {
					t.Errorf("SpanOk(%v) = true", changed)
				}
			}
		}
	}
}

// Promise 21; numbers of rows around SpanMax, and those that a narrower integer type would wrap around.
func TestSpanOkNumberOfRows(t *testing.T) {
	for _, v := range someVectors() {
		for _, rows := range []int{0, 1, 2, 3, 4, 5, 6, 7, 8, 9, 10, 16, 31, 128, 255, 256, 257, 264} {
			m := slices.Repeat([][]int{v}, rows)
			if got, want := impl.SpanOk(m), rows <= 8; got != want {
				t.Errorf("SpanOk of %d rows %v = %v, want %v", rows, v, got, want)
			}
		}
	}
	if impl.SpanOk(slices.Repeat([][]int{{0, 0, 0, 0}}, 1<<16)) {
		t.Errorf("SpanOk of 65536 rows = true")
	}
}

// Promises 13 to 22, invalid matrices.
func TestSpanInvalidMatrices(t *testing.T) {
	for _, bad := range notMatrices() {
		if impl.SpanOk(bad) {
			t.Errorf("SpanOk(%v) = true", bad)
		}
		checkTidy(t, bad, nil)
		if got := impl.SpanRank(bad); got != -1 {
			t.Errorf("SpanRank(%v) = %d, want -1", bad, got)
		}
		checkVec(t, impl.SpanFirst(bad), nil, "SpanFirst", bad)
		for _, v := range append(someVectors()[:13], notVectors()[:20]...) {
			checkNotIn(t, bad, v)
		}
		for _, m := range append(someMatrices()[:12], bad, notMatrices()[0], notMatrices()[8]) {
			if impl.SpanSame(bad, m) || impl.SpanSame(m, bad) {
				t.Errorf("SpanSame of %v and %v = true", bad, m)
			}
		}
	}
}

func checkNotIn(t *testing.T, m [][]int, v []int) {
	t.Helper()
	if impl.SpanHas(m, v) {
		t.Errorf("SpanHas(%v, %v) = true", m, v)
	}
	if by, ok := impl.SpanBy(m, v); ok || len(by) != 0 {
		t.Errorf("SpanBy(%v, %v) = %v, %v, want false", m, v, by, ok)
	}
}

// Promises 17 and 18, invalid vectors beside valid matrices.
func TestSpanInvalidVectors(t *testing.T) {
	for _, m := range someMatrices() {
		for _, bad := range notVectors() {
			checkNotIn(t, m, bad)
		}
	}
}

// Promise 22; each order of the rows.
func TestSpanTidyAnyOrder(t *testing.T) {
	for _, m := range someMatrices() {
		want := impl.SpanTidy(m)
		if len(m) <= 5 {
			forEachOrder(slices.Clone(m), 0, func(other [][]int) { checkTidy(t, other, want) })
		}
		for at := range m {
			turned := append(slices.Clone(m[at:]), m[:at]...)
			checkTidy(t, turned, want)
			slices.Reverse(turned)
			checkTidy(t, turned, want)
		}
	}
}

// forEachOrder visits the permutations of a list from an index on.
func forEachOrder[T any](list []T, from int, visit func(list []T)) {
	if from >= len(list) {
		visit(list)
		return
	}
	for i := from; i < len(list); i++ {
		list[from], list[i] = list[i], list[from]
		forEachOrder(list, from+1, visit)
		list[from], list[i] = list[i], list[from]
	}
}

// Promise 22; each row repeated at each place, and all rows repeated.
func TestSpanTidyRepetition(t *testing.T) {
	for _, m := range someMatrices() {
		want := impl.SpanTidy(m)
		if len(m) <= 4 {
			checkTidy(t, slices.Repeat(m, 2), want)
		}
		if len(m) == 8 {
			continue
		}
		for _, row := range m {
			for at := range len(m) + 1 {
				checkTidy(t, slices.Insert(slices.Clone(m), at, row), want)
			}
		}
	}
}

// roomy is a copy of a matrix with spare capacity, of the matrix and of its rows, to tempt an implementation that appends.
func roomy(m [][]int) [][]int {
	list := make([][]int, 0, 12)
	for _, row := range m {
		list = append(list, append(make([]int, 0, 7), row...))
	}
	return list
}

// wholeMatrix copies a matrix and its rows up to their capacity.
func wholeMatrix(m [][]int) [][]int {
	var list [][]int
	for _, row := range m[:cap(m)] {
		list = append(list, slices.Clone(row[:cap(row)]))
	}
	return list
}

// spoilMatrix overwrites all that can be reached from a matrix.
func spoilMatrix(m [][]int) {
	m = m[:cap(m)]
	for i := range m {
		spoil(m[i])
		m[i] = []int{-7}
	}
}

// Promise 13, memory; a matrix that is reduced already tempts an implementation to return it.
func TestSpanTidyApart(t *testing.T) {
	for _, sample := range someMatrices() {
		for _, m := range [][][]int{roomy(sample), roomy(impl.SpanTidy(sample))} {
			was := wholeMatrix(m)
			first, again := impl.SpanTidy(m), impl.SpanTidy(m)
			want := cloneMatrix(again)
			if !equalMatrix(wholeMatrix(m), was) {
				t.Errorf("SpanTidy changes its argument %v", sample)
			}
			spoilMatrix(first)
			if !equalMatrix(wholeMatrix(m), was) {
				t.Errorf("SpanTidy(%v) shares memory with its argument", sample)
			}
			spoilMatrix(m)
			if !equalMatrix(again, want) {
				t.Errorf("SpanTidy(%v) changes with its argument or with another result", sample)
			}
		}
	}
}

// Promise 13, memory; no row of a result reaches into another one.
func TestSpanTidyRowsApart(t *testing.T) {
	for _, m := range someMatrices() {
		want := impl.SpanTidy(m)
		for i := range want {
			got := impl.SpanTidy(m)
			spoil(got[i])
			got[i] = want[i]
			if !equalMatrix(got, want) {
				t.Errorf("the rows of SpanTidy(%v) share memory", m)
			}
		}
	}
}

// Promises 18 to 20, memory.
func TestSpanListsApart(t *testing.T) {
	for _, sample := range someMatrices() {
		for _, times := range someTimes(len(sample))[:2] {
			v := combination(sample, times)
			checkListApart(t, "SpanFirst", sample, v, func(m [][]int, _ []int) []int { return impl.SpanFirst(m) })
			checkListApart(t, "SpanBy", sample, v, func(m [][]int, v []int) []int {
				by, _ := impl.SpanBy(m, v)
				return by
			})
		}
	}
}

// checkListApart expects a call on a matrix and a vector to leave them as they are, and its result to share no memory
// with them nor with the result of the same call made again.
func checkListApart(t *testing.T, name string, sample [][]int, v []int, call func(m [][]int, v []int) []int) {
	t.Helper()
	m := roomy(sample)
	was := wholeMatrix(m)
	checkApart(t, name, v, nil, func(v []int, _ []int) []int { return call(m, v) })
	first, again := call(m, v), call(m, v)
	want := slices.Clone(again)
	spoil(first)
	if !equalMatrix(wholeMatrix(m), was) {
		t.Errorf("%s of %v changes its matrix or shares memory with it", name, sample)
	}
	spoilMatrix(m)
	if !slices.Equal(again, want) {
		t.Errorf("%s of %v changes with its matrix or with another result", name, sample)
	}
}

// Promises 13 to 22; no function changes its arguments, valid or not, up to their capacity.
func TestSpanArgumentsUnchanged(t *testing.T) {
	for _, sample := range append(someMatrices(), notMatrices()...) {
		a, b := roomy(sample), roomy(someMatrices()[19])
		wasA, wasB := wholeMatrix(a), wholeMatrix(b)
		for _, v := range [][]int{{0, 0, 0, 0}, {1, 2, 30, 30}, {31, 0, 0, 0}, {1, 2}} {
			wasV := slices.Clone(v)
			impl.SpanOk(a)
			impl.SpanTidy(a)
			impl.SpanRank(a)
			impl.SpanFirst(a)
			impl.SpanHas(a, v)
			impl.SpanBy(a, v)
			impl.SpanSame(a, b)
			impl.SpanSame(b, a)
			checkVec(t, v, wasV, "the vector beside", sample)
		}
		if !equalMatrix(wholeMatrix(a), wasA) || !equalMatrix(wholeMatrix(b), wasB) {
			t.Errorf("the matrix %v or the one beside it is changed", sample)
		}
	}
}

// Promises 14 to 20; rows may share memory with each other and with the vector, and a matrix may be given twice.
func TestSpanSharedArguments(t *testing.T) {
	wide := []int{3, 1, 4, 1, 5, 9, 2}
	m := [][]int{wide[0:4], wide[1:5], wide[0:4], wide[2:6], wide[3:7]}
	apart := cloneMatrix(m)
	checkTidy(t, m, impl.SpanTidy(apart))
	checkVec(t, impl.SpanFirst(m), impl.SpanFirst(apart), "SpanFirst", m)
	for i, row := range m {
		checkVec(t, byOf(t, m, row), byOf(t, apart, apart[i]), "SpanBy", m, row)
	}
	if !impl.SpanSame(m, m) || !impl.SpanSame(m, apart) {
		t.Errorf("SpanSame(%v, %v) = false", m, m)
	}
	checkVec(t, wide, []int{3, 1, 4, 1, 5, 9, 2}, "the shared memory")
}
