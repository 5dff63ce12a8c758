package tests

import (
	"math"
	"slices"
	"sync"
	"testing"

	"loop.example/keelson/impl"
)

// plainRows are the generator rows of both codes, written out.
func plainRows(kind int) [][]int {
	if kind == impl.KindLocal {
		return [][]int{
			{1, 0, 0, 0}, {0, 1, 0, 0}, {0, 0, 1, 0}, {0, 0, 0, 1},
			{1, 1, 0, 0}, {0, 0, 1, 1}, {1, 2, 4, 8}, {1, 3, 9, 27},
		}
	}
	return [][]int{
		{1, 1, 1, 1}, {1, 2, 4, 8}, {1, 3, 9, 27}, {1, 4, 16, 2},
		{1, 5, 25, 1}, {1, 6, 5, 30}, {1, 7, 18, 2}, {1, 8, 2, 16},
	}
}

func plainShards(kind int, data []int) []int {
	var all []int
	for _, row := range plainRows(kind) {
		all = append(all, plainVecDot(row, data))
	}
	return all
}

func bothKinds() []int {
	return []int{impl.KindLocal, impl.KindWide}
}

// notKinds are the integers beside both codes, others that a narrower integer type would wrap around, and the extremes.
func notKinds() []int {
	return []int{
		0, 3, -1, -2, 4, 8, 31, 1<<8 + 1, 1<<8 + 2, 1<<16 + 1, 1<<32 + 1, 1<<32 + 2,
		math.MaxInt, math.MinInt, math.MinInt + 1, math.MinInt + 2,
	}
}

// notShards are the integers beside the shards, and others as in notKinds.
func notShards() []int {
	return []int{
		-1, 8, -8, 9, 31, 1 << 8, 1<<8 + 7, 1 << 16, 1 << 32, 1<<32 + 7,
		math.MaxInt, math.MinInt, math.MinInt + 7,
	}
}

// notFlags are lists with flags too few or too many, also with the missing flags in the capacity.
func notFlags() [][]bool {
	yes := slices.Repeat([]bool{true}, 1<<8+8)
	return [][]bool{
		nil, {}, yes[:1], yes[:4], yes[:7], yes[:8:8][:7], yes[:0], yes[:9], yes[:16], yes,
		make([]bool, 7), make([]bool, 9), append(make([]bool, 1), yes[:8]...),
	}
}

// notValues are slices with values too few or too many, and slices with one invalid element, at each shard.
func notValues() [][]int {
	list := [][]int{
		nil, {}, {1}, {1, 2, 3, 4}, make([]int, 7), make([]int, 9), make([]int, 16), make([]int, 1<<8+8),
		make([]int, 8)[:7], make([]int, 8)[:0],
	}
	for _, bad := range notElements() {
		for at := range 8 {
			vals := make([]int, 8)
			vals[at] = bad
			list = append(list, vals)
		}
	}
	return list
}

// lossOf is the flag list in which just these shards are lost.
func lossOf(lost ...int) []bool {
	there := slices.Repeat([]bool{true}, 8)
	for _, at := range lost {
		there[at] = false
	}
	return there
}

// forEachFlags visits all flag lists, with the available shards.
func forEachFlags(visit func(there []bool, at []int)) {
	for set := range 1 << 8 {
		there := make([]bool, 8)
		var list []int
		for at := range there {
			if set>>at&1 == 1 {
				there[at] = true
				list = append(list, at)
			}
		}
		visit(there, list)
	}
}

// plainDeterminant expands four rows by their first column, so that it owes nothing to row reduction.
func plainDeterminant(m [][]int) int {
	if len(m) == 0 {
		return 1
	}
	total := 0
	for i, row := range m {
		column := 4 - len(m)
		part := plainMul(row[column], plainDeterminant(slices.Delete(slices.Clone(m), i, i+1)))
		if i%2 == 0 {
			total = plainSum(total, part)
		} else {
			total = plainDif(total, part)
		}
	}
	return total
}

// plainSufficient looks for four shards whose rows have a nonzero determinant.
func plainSufficient(kind int, at []int) bool {
	rows := pick(plainRows(kind), at)
	for d := range rows {
		for c := range d {
			for b := range c {
				for a := range b {
					if plainDeterminant([][]int{rows[a], rows[b], rows[c], rows[d]}) != 0 {
						return true
					}
				}
			}
		}
	}
	return false
}

// plainWords are the shards of every vector of the field.
func plainWords(kind int) [][8]int8 {
	var list [][8]int8
	forEachVector(func(v []int) {
		var word [8]int8
		for at, row := range plainRows(kind) {
			word[at] = int8((row[0]*v[0] + row[1]*v[1] + row[2]*v[2] + row[3]*v[3]) % 31)
		}
		list = append(list, word)
	})
	return list
}

// plainFits looks through the shards of every vector for one that has these values at these shards.
func plainFits(words [][8]int8, vals []int, at []int) bool {
	return slices.ContainsFunc(words, func(word [8]int8) bool {
		for _, i := range at {
			if int(word[i]) != vals[i] {
				return false
			}
		}
		return true
	})
}

// rowOf is CodeRow of a code and a shard that must be valid.
func rowOf(t *testing.T, kind int, at int) []int {
	t.Helper()
	row, ok := impl.CodeRow(kind, at)
	if !ok {
		t.Fatalf("CodeRow(%d, %d) fails", kind, at)
	}
	return row
}

func checkBears(t *testing.T, kind int, there []bool, want bool) {
	t.Helper()
	if got := impl.CodeBears(kind, there); got != want {
		t.Errorf("CodeBears(%d, %v) = %v, want %v", kind, there, got, want)
	}
}

func checkFits(t *testing.T, kind int, vals []int, there []bool, want bool) {
	t.Helper()
	if got := impl.CodeFits(kind, vals, there); got != want {
		t.Errorf("CodeFits(%d, %v, %v) = %v, want %v", kind, vals, there, got, want)
	}
}

func TestCodeConstants(t *testing.T) {
	if impl.ShardMax != 8 || impl.KindLocal != 1 || impl.KindWide != 2 {
		t.Errorf("ShardMax, KindLocal, KindWide = %d, %d, %d, want 8, 1, 2", impl.ShardMax, impl.KindLocal, impl.KindWide)
	}
}

// Promise 23.
func TestCodeRowValues(t *testing.T) {
	for _, kind := range bothKinds() {
		for at, want := range plainRows(kind) {
			row := rowOf(t, kind, at)
			checkVec(t, row, want, "CodeRow", kind, at)
			if !impl.VecOk(row) {
				t.Errorf("CodeRow(%d, %d) = %v, no vector", kind, at, row)
			}
		}
	}
}

// Promise 23.
func TestCodeRowLocalUnits(t *testing.T) {
	for at := range 4 {
		checkVec(t, rowOf(t, impl.KindLocal, at), unitOf(t, at), "CodeRow", impl.KindLocal, at)
	}
}

// Promise 23.
func TestCodeRowPowers(t *testing.T) {
	for at := range 8 {
		row := rowOf(t, impl.KindWide, at)
		for i, n := range row {
			want := 1
			for range i {
				want = impl.FieldMul(want, at+1)
			}
			if n != want {
				t.Errorf("CodeRow(%d, %d) = %v, want %d at %d", impl.KindWide, at, row, want, i)
			}
		}
	}
}

// Promise 23; exactly the shards of both codes.
func TestCodeRowFails(t *testing.T) {
	check := func(kind int, at int) {
		if row, ok := impl.CodeRow(kind, at); ok || len(row) != 0 {
			t.Errorf("CodeRow(%d, %d) = %v, %v, want false", kind, at, row, ok)
		}
	}
	for kind := -40; kind <= 40; kind++ {
		for at := -300; at <= 300; at++ {
			if kind != 1 && kind != 2 || at < 0 || at > 7 {
				check(kind, at)
			}
		}
	}
	for _, kind := range notKinds() {
		for _, at := range append(notShards(), 0, 1, 6, 7) {
			check(kind, at)
		}
	}
	for _, at := range notShards() {
		check(impl.KindLocal, at)
		check(impl.KindWide, at)
	}
}

// Promise 24.
func TestCodeAllDots(t *testing.T) {
	for _, kind := range bothKinds() {
		for _, data := range someVectors() {
			all := impl.CodeAll(kind, data)
			checkVec(t, all, plainShards(kind, data), "CodeAll", kind, data)
			for at, n := range all {
				if want := impl.VecDot(rowOf(t, kind, at), data); n != want {
					t.Errorf("CodeAll(%d, %v) = %v, shard %d is not %d", kind, data, all, at, want)
				}
			}
		}
	}
}

// Promise 24; each element at each position, alone and beside others.
func TestCodeAllEachElement(t *testing.T) {
	for _, kind := range bothKinds() {
		for at := range 4 {
			for n := range 31 {
				lone, among := []int{0, 0, 0, 0}, []int{30, 1, 17, 30}
				lone[at], among[at] = n, n
				checkVec(t, impl.CodeAll(kind, lone), plainShards(kind, lone), "CodeAll", kind, lone)
				checkVec(t, impl.CodeAll(kind, among), plainShards(kind, among), "CodeAll", kind, among)
			}
		}
	}
}

// Promise 24; shards written out.
func TestCodeAllValues(t *testing.T) {
	for _, c := range []struct {
		kind       int
		data, want []int
	}{
		{impl.KindLocal, []int{1, 2, 3, 4}, []int{1, 2, 3, 4, 3, 7, 18, 18}},
		{impl.KindLocal, []int{0, 0, 0, 0}, []int{0, 0, 0, 0, 0, 0, 0, 0}},
		{impl.KindLocal, []int{30, 30, 30, 30}, []int{30, 30, 30, 30, 29, 29, 16, 22}},
		{impl.KindLocal, []int{1, 30, 16, 15}, []int{1, 30, 16, 15, 0, 0, 28, 20}},
		{impl.KindWide, []int{1, 2, 3, 4}, []int{10, 18, 18, 3, 28, 24, 15, 25}},
		{impl.KindWide, []int{0, 0, 0, 0}, []int{0, 0, 0, 0, 0, 0, 0, 0}},
		{impl.KindWide, []int{9, 0, 0, 0}, []int{9, 9, 9, 9, 9, 9, 9, 9}},
		{impl.KindWide, []int{0, 1, 0, 0}, []int{1, 2, 3, 4, 5, 6, 7, 8}},
	} {
		checkVec(t, impl.CodeAll(c.kind, c.data), c.want, "CodeAll", c.kind, c.data)
	}
}

// Promise 24.
func TestCodeAllOfSum(t *testing.T) {
	for _, kind := range bothKinds() {
		for _, a := range someVectors() {
			for _, b := range someVectors() {
				x, y := impl.CodeAll(kind, a), impl.CodeAll(kind, b)
				both := impl.CodeAll(kind, impl.VecSum(a, b))
				if len(x) != 8 || len(y) != 8 || len(both) != 8 {
					t.Fatalf("CodeAll of %v, %v or their sum is not of 8 shards", a, b)
				}
				for at, n := range both {
					if want := impl.FieldSum(x[at], y[at]); n != want {
						t.Errorf("CodeAll of the sum of %v and %v = %v, want %d at %d", a, b, both, want, at)
					}
				}
			}
		}
	}
}

// Promise 24, invalid codes and data.
func TestCodeAllInvalid(t *testing.T) {
	for _, data := range notVectors() {
		for _, kind := range append(notKinds(), bothKinds()...) {
			checkVec(t, impl.CodeAll(kind, data), nil, "CodeAll", kind, data)
		}
	}
	for _, data := range someVectors() {
		for _, kind := range notKinds() {
			checkVec(t, impl.CodeAll(kind, data), nil, "CodeAll", kind, data)
		}
	}
}

// Promise 24; calls at the same time do not get in each other's way.
func TestCodeAllAtOnce(t *testing.T) {
	var group sync.WaitGroup
	for _, kind := range bothKinds() {
		for _, data := range someVectors() {
			group.Go(func() {
				for range 20 {
					if got, want := impl.CodeAll(kind, data), plainShards(kind, data); !slices.Equal(got, want) {
						t.Errorf("CodeAll(%d, %v) = %v, want %v", kind, data, got, want)
					}
				}
			})
		}
	}
	group.Wait()
}

// Promise 25.
func TestCodeAllLocalGroups(t *testing.T) {
	check := func(data []int) {
		t.Helper()
		all := impl.CodeAll(impl.KindLocal, data)
		if len(all) != 8 {
			t.Fatalf("CodeAll(%d, %v) = %v", impl.KindLocal, data, all)
		}
		checkVec(t, all[:4], data, "the first shards of", data)
		checkVec(t, all[4:6], []int{plainSum(data[0], data[1]), plainSum(data[2], data[3])}, "the sums of", data)
	}
	for _, data := range someVectors() {
		check(data)
	}
	for a := range 31 {
		for b := range 31 {
			check([]int{a, b, 7, 30})
			check([]int{30, 7, a, b})
		}
	}
}

// Promise 26; every set of shards.
func TestCodeBearsEachSet(t *testing.T) {
	for _, kind := range bothKinds() {
		forEachFlags(func(there []bool, at []int) {
			want := plainSufficient(kind, at)
			checkBears(t, kind, there, want)
			var rows [][]int
			for _, i := range at {
				rows = append(rows, rowOf(t, kind, i))
			}
			if got := impl.SpanRank(rows) == 4; got != want {
				t.Errorf("the rows %v of code %d have rank 4: %v, want %v", at, kind, got, want)
			}
		})
	}
}

// Promise 26.
func TestCodeBearsWithMore(t *testing.T) {
	for _, kind := range bothKinds() {
		forEachFlags(func(there []bool, _ []int) {
			if !impl.CodeBears(kind, there) {
				return
			}
			for at := range there {
				more := slices.Clone(there)
				more[at] = true
				checkBears(t, kind, more, true)
			}
		})
	}
}

// Promise 26; sets written out: no shard, too few, just enough, and sets with a whole group that is worth only two shards.
func TestCodeBearsValues(t *testing.T) {
	for _, c := range []struct {
		at          []int
		local, wide bool
	}{
		{nil, false, false},
		{[]int{0}, false, false},
		{[]int{7}, false, false},
		{[]int{0, 1, 2}, false, false},
		{[]int{5, 6, 7}, false, false},
		{[]int{0, 1, 2, 3}, true, true},
		{[]int{4, 5, 6, 7}, true, true},
		{[]int{1, 2, 3, 4}, true, true},
		{[]int{0, 2, 6, 7}, true, true},
		{[]int{0, 1, 2, 4}, false, true},
		{[]int{0, 1, 4, 7}, false, true},
		{[]int{2, 3, 5, 6}, false, true},
		{[]int{0, 2, 3, 5}, false, true},
		{[]int{0, 1, 4, 6, 7}, true, true},
		{[]int{0, 1, 2, 4, 5}, true, true},
		{[]int{1, 2, 3, 5, 6}, true, true},
		{[]int{0, 1, 2, 3, 4, 5, 6, 7}, true, true},
	} {
		there := make([]bool, 8)
		for _, at := range c.at {
			there[at] = true
		}
		checkBears(t, impl.KindLocal, there, c.local)
		checkBears(t, impl.KindWide, there, c.wide)
	}
}

// Promise 26, invalid codes and flags.
func TestCodeBearsInvalid(t *testing.T) {
	for _, there := range notFlags() {
		for _, kind := range append(notKinds(), bothKinds()...) {
			checkBears(t, kind, there, false)
		}
	}
	forEachFlags(func(there []bool, _ []int) {
		for _, kind := range notKinds() {
			checkBears(t, kind, there, false)
		}
	})
}

// Promise 27; every set of at most as many lost shards as CodeMost, and of one more.
func TestCodeMostBorder(t *testing.T) {
	for kind, want := range map[int]int{impl.KindLocal: 3, impl.KindWide: 4} {
		most := impl.CodeMost(kind)
		if most != want {
			t.Errorf("CodeMost(%d) = %d, want %d", kind, most, want)
		}
		sets, tooMany := 0, 0
		forEachFlags(func(there []bool, at []int) {
			lost := 8 - len(at)
			if lost <= most {
				checkBears(t, kind, there, true)
			}
			if lost == most+1 {
				sets++
				if !impl.CodeBears(kind, there) {
					tooMany++
				}
			}
		})
		if tooMany == 0 {
			t.Errorf("code %d bears each of %d sets of %d lost shards", kind, sets, most+1)
		}
	}
}

// Promise 27; sets of lost shards written out, the sets with two shards of one group and both others outside the groups among them.
func TestCodeMostValues(t *testing.T) {
	for _, lost := range [][]int{{}, {0}, {7}, {0, 1, 4}, {2, 3, 5}, {5, 6, 7}, {0, 6, 7}, {0, 2, 4, 5}, {0, 1, 2, 3}} {
		checkBears(t, impl.KindLocal, lossOf(lost...), true)
		checkBears(t, impl.KindWide, lossOf(lost...), true)
	}
	for _, lost := range [][]int{{0, 1, 6, 7}, {0, 1, 4, 6}, {0, 1, 4, 7}, {2, 3, 5, 6}, {3, 5, 6, 7}} {
		checkBears(t, impl.KindLocal, lossOf(lost...), false)
		checkBears(t, impl.KindWide, lossOf(lost...), true)
	}
	for _, lost := range [][]int{{0, 1, 2, 3, 4}, {3, 4, 5, 6, 7}, {0, 1, 2, 3, 4, 5, 6, 7}} {
		checkBears(t, impl.KindLocal, lossOf(lost...), false)
		checkBears(t, impl.KindWide, lossOf(lost...), false)
	}
}

// Promise 27, invalid codes.
func TestCodeMostInvalid(t *testing.T) {
	for _, kind := range notKinds() {
		if got := impl.CodeMost(kind); got != -1 {
			t.Errorf("CodeMost(%d) = %d, want -1", kind, got)
		}
	}
}

// Promise 28; every set of shards.
func TestCodeBearsWide(t *testing.T) {
	forEachFlags(func(there []bool, at []int) {
		checkBears(t, impl.KindWide, there, len(at) >= 4)
	})
}

// checkApartness takes CodeMost of the code from its caller, who asks for it only once.
func checkApartness(t *testing.T, kind int, most int, a []int, b []int) {
	t.Helper()
	got, back := impl.CodeApart(kind, a, b), impl.CodeApart(kind, b, a)
	want := 0
	x, y := plainShards(kind, a), plainShards(kind, b)
	for at := range x {
		if x[at] != y[at] {
			want++
		}
	}
	if got != want || back != want {
		t.Errorf("CodeApart(%d, %v, %v) = %d, the other way round %d, want %d", kind, a, b, got, back, want)
	}
	if same := slices.Equal(a, b); same != (got == 0) || !same && got <= most {
		t.Errorf("CodeApart(%d, %v, %v) = %d, CodeMost is %d", kind, a, b, got, most)
	}
}

// Promise 29.
func TestCodeApartEachPair(t *testing.T) {
	for _, kind := range bothKinds() {
		most := impl.CodeMost(kind)
		for _, a := range someVectors() {
			for _, b := range someVectors() {
				checkApartness(t, kind, most, a, b)
			}
		}
	}
}

// Promise 29; data that differ in one or two elements, by each difference.
func TestCodeApartNear(t *testing.T) {
	from := []int{5, 0, 30, 16}
	for _, kind := range bothKinds() {
		most := impl.CodeMost(kind)
		for i := range 4 {
			for j := range i {
				for m := range 31 {
					for n := range 31 {
						to := slices.Clone(from)
						to[i], to[j] = m, n
						checkApartness(t, kind, most, from, to)
					}
				}
			}
		}
	}
}

// Promise 29; numbers of shards written out, for both codes also of data that are as near as they can be.
func TestCodeApartValues(t *testing.T) {
	zero := []int{0, 0, 0, 0}
	for _, c := range []struct {
		a, b        []int
		local, wide int
	}{
		{zero, zero, 0, 0},
		{[]int{1, 2, 3, 30}, []int{1, 2, 3, 30}, 0, 0},
		{[]int{1, 0, 0, 0}, []int{2, 0, 0, 0}, 4, 8},
		{[]int{0, 0, 0, 1}, zero, 4, 8},
		{[]int{1, 2, 3, 4}, []int{1, 2, 3, 5}, 4, 8},
		{[]int{1, 30, 0, 0}, zero, 4, 7},
		{[]int{2, 30, 0, 0}, zero, 4, 7},
		{[]int{3, 30, 0, 0}, zero, 4, 7},
		{[]int{1, 1, 0, 0}, zero, 5, 8},
		{[]int{25, 11, 25, 1}, zero, 6, 5},
	} {
		for kind, want := range map[int]int{impl.KindLocal: c.local, impl.KindWide: c.wide} {
			if got := impl.CodeApart(kind, c.a, c.b); got != want {
				t.Errorf("CodeApart(%d, %v, %v) = %d, want %d", kind, c.a, c.b, got, want)
			}
		}
	}
}

// Promise 29, invalid codes and data; equal data that are invalid are not 0 apart.
func TestCodeApartInvalid(t *testing.T) {
	check := func(kind int, a []int, b []int) {
		if got := impl.CodeApart(kind, a, b); got != -1 {
			t.Errorf("CodeApart(%d, %v, %v) = %d, want -1", kind, a, b, got)
		}
	}
	for _, bad := range notVectors() {
		for _, kind := range append(notKinds(), bothKinds()...) {
			check(kind, bad, bad)
			check(kind, bad, []int{1, 2, 3, 30})
			check(kind, []int{1, 2, 3, 30}, bad)
			check(kind, []int{0, 0, 0, 0}, bad)
		}
	}
	for _, kind := range notKinds() {
		for _, data := range someVectors() {
			check(kind, data, data)
			check(kind, data, []int{1, 2, 3, 30})
		}
	}
}

// Promise 30; each value of each shard, with all shards available.
func TestCodeFitsChanged(t *testing.T) {
	for _, kind := range bothKinds() {
		for _, data := range someVectors() {
			all := plainShards(kind, data)
			checkFits(t, kind, all, lossOf(), true)
			for at, was := range all {
				for n := range 31 {
					all[at] = n
					checkFits(t, kind, all, lossOf(), n == was)
				}
				all[at] = was
			}
		}
	}
}

// Promise 30; every set of available shards, and each of these changed.
func TestCodeFitsChangedEachSet(t *testing.T) {
	for _, kind := range bothKinds() {
		forEachFlags(func(there []bool, at []int) {
			for i, changed := range at {
				if !plainSufficient(kind, slices.Delete(slices.Clone(at), i, i+1)) {
					continue
				}
				for _, data := range someVectors()[10:18] {
					all := plainShards(kind, data)
					for _, more := range []int{1, 16, 30} {
						vals := slices.Clone(all)
						vals[changed] = plainSum(vals[changed], more)
						checkFits(t, kind, vals, there, false)
					}
				}
			}
		})
	}
}

// Promises 30 and 31; every set of available shards, with values changed at one shard, at two, or at all of them.
func TestCodeFitsEachSet(t *testing.T) {
	for _, kind := range bothKinds() {
		words := plainWords(kind)
		set := 0
		forEachFlags(func(there []bool, at []int) {
			one := plainShards(kind, someVectors()[set%37])
			one[set%8] = plainSum(one[set%8], 1+set%30)
			two := slices.Clone(one)
			two[set/8%8] = plainSum(two[set/8%8], 30-set%30)
			var mixed []int
			for i := range 8 {
				mixed = append(mixed, (set*7+i*i*11+3)%31)
			}
			for _, vals := range [][]int{one, two, mixed} {
				checkFits(t, kind, vals, there, plainFits(words, vals, at))
			}
			set++
		})
	}
}

// Promises 30 and 31; values written out: within a group two shards tell the third, though they are not sufficient.
func TestCodeFitsValues(t *testing.T) {
	for _, c := range []struct {
		kind int
		vals []int
		lost []int
		want bool
	}{
		{impl.KindLocal, []int{1, 2, 3, 4, 3, 7, 18, 18}, nil, true},
		{impl.KindLocal, []int{5, 2, 3, 4, 3, 7, 18, 18}, nil, false},
		{impl.KindLocal, []int{5, 2, 3, 4, 3, 7, 18, 18}, []int{0}, true},
		{impl.KindLocal, []int{5, 2, 0, 0, 3, 0, 0, 0}, []int{2, 3, 5, 6, 7}, false},
		{impl.KindLocal, []int{5, 2, 0, 0, 7, 0, 0, 0}, []int{2, 3, 5, 6, 7}, true},
		{impl.KindLocal, []int{0, 0, 5, 2, 0, 8, 0, 0}, []int{0, 1, 4, 6, 7}, false},
		{impl.KindLocal, []int{0, 0, 30, 2, 0, 1, 0, 0}, []int{0, 1, 4, 6, 7}, true},
		{impl.KindLocal, []int{5, 2, 0, 0, 3, 0, 0, 0}, []int{1, 3, 5, 6}, true},
		{impl.KindLocal, []int{9, 9, 9, 9, 9, 9, 9, 9}, []int{4, 5, 6, 7}, true},
		{impl.KindLocal, []int{9, 9, 9, 9, 9, 9, 9, 9}, []int{0, 1, 2, 3, 4, 5, 6, 7}, true},
		{impl.KindLocal, []int{0, 0, 0, 0, 0, 0, 0, 0}, nil, true},
		{impl.KindLocal, []int{0, 0, 0, 0, 0, 0, 0, 1}, nil, false},
		{impl.KindWide, []int{10, 18, 18, 3, 28, 24, 15, 25}, nil, true},
		{impl.KindWide, []int{10, 18, 18, 3, 28, 24, 15, 26}, nil, false},
		{impl.KindWide, []int{10, 18, 18, 3, 28, 24, 15, 26}, []int{7}, true},
		{impl.KindWide, []int{1, 2, 3, 4, 5, 6, 7, 9}, []int{0, 1, 2, 3}, true},
		{impl.KindWide, []int{1, 2, 3, 4, 5, 6, 7, 9}, []int{0, 1, 2}, false},
		{impl.KindWide, []int{30, 30, 30, 30, 30, 30, 30, 30}, nil, true},
		{impl.KindWide, []int{30, 0, 7, 1, 30, 2, 5, 9}, []int{0, 1, 2, 3, 4, 5, 6, 7}, true},
	} {
		checkFits(t, c.kind, c.vals, lossOf(c.lost...), c.want)
	}
}

// Promise 31; every set of available shards, whatever elements the other shards have.
func TestCodeFitsWhicheverAvailable(t *testing.T) {
	for _, kind := range bothKinds() {
		forEachFlags(func(there []bool, _ []int) {
			for i, data := range someVectors() {
				all := impl.CodeAll(kind, data)
				checkFits(t, kind, all, there, true)
				for at := range there {
					if !there[at] {
						all[at] = (all[at] + i + at + 1) % 31
					}
				}
				checkFits(t, kind, all, there, true)
			}
		})
	}
}

// Promises 30 and 31, invalid codes, values and flags; values must be elements at lost shards too.
func TestCodeFitsInvalid(t *testing.T) {
	good := make([]int, 8)
	for _, kind := range append(notKinds(), bothKinds()...) {
		for _, vals := range notValues() {
			for _, there := range [][]bool{lossOf(), make([]bool, 8), lossOf(0, 2, 4, 6), lossOf(1, 3, 5, 7)} {
				checkFits(t, kind, vals, there, false)
			}
		}
		for _, there := range notFlags() {
			checkFits(t, kind, good, there, false)
			checkFits(t, kind, nil, there, false)
		}
	}
	for _, kind := range notKinds() {
		for _, data := range someVectors() {
			checkFits(t, kind, plainShards(impl.KindLocal, data), lossOf(), false)
			checkFits(t, kind, plainShards(impl.KindWide, data), make([]bool, 8), false)
		}
	}
}

// Promise 32.
func TestCodeAllScaled(t *testing.T) {
	for _, kind := range bothKinds() {
		for _, data := range someVectors() {
			all := impl.CodeAll(kind, data)
			for c := range 31 {
				var want []int
				for _, n := range all {
					want = append(want, impl.FieldMul(n, c))
				}
				checkVec(t, impl.CodeAll(kind, impl.VecScale(data, c)), want, "CodeAll of VecScale", kind, data, c)
			}
		}
	}
}

// Promises 23 and 24, memory.
func TestCodeResultsApart(t *testing.T) {
	for _, kind := range bothKinds() {
		for at := range 8 {
			checkApart(t, "CodeRow", nil, nil, func([]int, []int) []int { return rowOf(t, kind, at) })
			spoil(rowOf(t, kind, at))
		}
		for at, want := range plainRows(kind) {
			checkVec(t, rowOf(t, kind, at), want, "CodeRow", kind, at)
		}
		for _, data := range someVectors() {
			checkApart(t, "CodeAll", data, nil, func(data []int, _ []int) []int { return impl.CodeAll(kind, data) })
		}
	}
}

// Promises 24 to 31; no function changes its arguments, valid or not, up to their capacity.
func TestCodeArgumentsUnchanged(t *testing.T) {
	var lists [][]int
	lists = append(lists, someVectors()...)
	lists = append(lists, notVectors()...)
	lists = append(lists, notValues()...)
	lists = append(lists, plainShards(impl.KindLocal, []int{1, 2, 3, 30}), plainShards(impl.KindWide, []int{1, 2, 3, 30}))
	flagLists := append(notFlags(), lossOf(), lossOf(0, 3), lossOf(0, 1, 2, 3, 4), make([]bool, 8))
	for _, kind := range append(bothKinds(), 0, 3) {
		for _, sample := range lists {
			a, b := append(make([]int, 0, 300), sample...), append(make([]int, 0, 300), 4, 0, 0, 17)
			wasA, wasB := slices.Clone(a[:300]), slices.Clone(b[:300])
			impl.CodeAll(kind, a)
			impl.CodeApart(kind, a, b)
			impl.CodeApart(kind, b, a)
			for _, flags := range flagLists {
				there := append(make([]bool, 0, 300), flags...)
				wasThere := slices.Clone(there[:300])
				impl.CodeBears(kind, there)
				impl.CodeFits(kind, a, there)
				if !slices.Equal(there[:300], wasThere) {
					t.Fatalf("the flags %v are changed", flags)
				}
			}
			if !slices.Equal(a[:300], wasA) || !slices.Equal(b[:300], wasB) {
				t.Fatalf("the list %v or the one beside it is changed", sample)
			}
		}
	}
}

// Promises 24, 29 and 30; arguments may share memory, and their capacity does not count.
func TestCodeSharedArguments(t *testing.T) {
	wide := []int{1, 2, 3, 4, 3, 7, 18, 18, 31}
	checkVec(t, impl.CodeAll(impl.KindLocal, wide[:4]), wide[:8], "CodeAll", wide[:4])
	checkFits(t, impl.KindLocal, wide[:8], lossOf(), true)
	if got := impl.CodeApart(impl.KindWide, wide[:4], wide[:4]); got != 0 {
		t.Errorf("CodeApart of %v and itself = %d", wide[:4], got)
	}
	checkApartness(t, impl.KindWide, impl.CodeMost(impl.KindWide), wide[0:4], wide[1:5])
	enough, tooFew := append(lossOf(0, 1, 4), false), append(lossOf(0, 1, 4, 6), true, true)
	checkBears(t, impl.KindLocal, enough[:8], true)
	checkBears(t, impl.KindLocal, tooFew[:8], false)
	checkFits(t, impl.KindLocal, wide[:8], enough[:8], true)
}
