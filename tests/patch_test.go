package tests

import (
	"maps"
	"math"
	"slices"
	"testing"

	"loop.example/keelson/impl"
)

// allPatches are the patches of every position and every nonzero element.
func allPatches() []impl.Patch {
	var list []impl.Patch
	for at := range 4 {
		for dif := 1; dif <= 30; dif++ {
			list = append(list, impl.Patch{At: at, Dif: dif})
		}
	}
	return list
}

// pairs are patches written out: a position and a difference each.
type pairs [][2]int

func (p pairs) patches() []impl.Patch {
	var l []impl.Patch
	for _, pair := range p {
		l = append(l, impl.Patch{At: pair[0], Dif: pair[1]})
	}
	return l
}

// notPatches have a position that is none, a difference of 0 or that is no element, or both.
func notPatches() []impl.Patch {
	places := []int{
		-1, 4, -4, 5, 7, 8, 31, 1 << 8, 1<<8 + 3, 1 << 16, 1 << 32, 1<<32 + 3,
		math.MaxInt, math.MinInt, math.MinInt + 3,
	}
	difs := append(notElements(), 0)
	list := []impl.Patch{{}}
	for _, at := range places {
		for dif := range 31 {
			list = append(list, impl.Patch{At: at, Dif: dif})
		}
		for _, dif := range difs {
			list = append(list, impl.Patch{At: at, Dif: dif})
		}
	}
	for at := range 4 {
		for _, dif := range difs {
			list = append(list, impl.Patch{At: at, Dif: dif})
		}
	}
	return list
}

// fewNotPatches are some of notPatches, for tests that try much with each.
func fewNotPatches() []impl.Patch {
	list := pairs{{0, 0}, {-1, 1}, {4, 1}, {3, 0}, {1, -1}, {2, 31}, {-1, -1}, {4, 31}, {math.MinInt, math.MaxInt}}.patches()
	for i, p := range notPatches() {
		if i%41 == 0 {
			list = append(list, p)
		}
	}
	return list
}

// somePatchLists are no patch, one, one for each position, and several at one position, which add up to zero or do not.
func somePatchLists() [][]impl.Patch {
	var list [][]impl.Patch
	for _, l := range []pairs{
		nil,
		{{0, 1}}, {{3, 30}}, {{1, 16}}, {{2, 15}},
		{{0, 1}, {1, 2}, {2, 3}, {3, 4}}, {{3, 30}, {2, 30}, {1, 30}, {0, 30}},
		{{0, 1}, {0, 30}}, {{2, 16}, {2, 15}}, {{3, 30}, {3, 30}}, {{1, 5}, {1, 5}},
		{{1, 10}, {1, 20}, {1, 1}}, {{0, 7}, {3, 9}, {0, 24}, {3, 22}}, {{2, 1}, {1, 1}, {2, 1}, {1, 1}, {2, 29}},
		slices.Repeat(pairs{{3, 1}}, 31), slices.Repeat(pairs{{0, 30}, {2, 7}}, 100),
	} {
		list = append(list, l.patches())
	}
	n := 5
	for count := range 24 {
		var l []impl.Patch
		for range count {
			n = (n*1103 + 12345) % 65537
			l = append(l, impl.Patch{At: n / 31 % 4, Dif: 1 + n%30})
		}
		list = append(list, l)
	}
	return list
}

func plainPatched(data []int, l []impl.Patch) []int {
	data = slices.Clone(data)
	for _, p := range l {
		data[p.At] = plainSum(data[p.At], p.Dif)
	}
	return data
}

func plainPatchOf(a []int, b []int) []impl.Patch {
	var l []impl.Patch
	for at := range a {
		if a[at] != b[at] {
			l = append(l, impl.Patch{At: at, Dif: plainDif(b[at], a[at])})
		}
	}
	return l
}

func plainPatchRow(kind int, p impl.Patch) []int {
	var all []int
	for _, row := range plainRows(kind) {
		all = append(all, plainMul(row[p.At], p.Dif))
	}
	return all
}

// patched is what PatchDo must return.
func (c stripeCase) patched(p impl.Patch, which []bool) (stripeCase, bool) {
	data, vers := c.read()
	if data == nil || c.top() == 99 {
		return c, false
	}
	data, next := plainPatched(data, []impl.Patch{p}), c.top()+1
	more := stripeCase{cloneStripe(c.s), maps.Clone(c.data)}
	more.data[next] = data
	for _, at := range c.shardsOf(vers) {
		if which[at] {
			more.s = withShard(more.s, at, plainShards(c.s.Kind, data)[at], next)
		}
	}
	return more, true
}

func flagsOfSet(set int) []bool {
	which := make([]bool, 8)
	for at := range which {
		which[at] = set>>at&1 == 1
	}
	return which
}

// readStripes are those of fewStripes that are read and are not of version VersMax.
func readStripes() []stripeCase {
	return slices.DeleteFunc(fewStripes(), func(c stripeCase) bool {
		data, _ := c.read()
		return data == nil || c.top() == 99
	})
}

func checkPatchOk(t *testing.T, p impl.Patch, want bool) {
	t.Helper()
	if got := impl.PatchOk(p); got != want {
		t.Errorf("PatchOk(%v) = %v, want %v", p, got, want)
	}
}

func checkPatchOf(t *testing.T, a []int, b []int, want []impl.Patch) {
	t.Helper()
	if got := impl.PatchOf(a, b); !slices.Equal(got, want) {
		t.Errorf("PatchOf(%v, %v) = %v, want %v", a, b, got, want)
	}
}

func checkPatchData(t *testing.T, data []int, l []impl.Patch, want []int) {
	t.Helper()
	checkVec(t, impl.PatchData(data, l), want, "PatchData", data, l)
}

func checkPatchRow(t *testing.T, kind int, p impl.Patch, want []int) {
	t.Helper()
	checkVec(t, impl.PatchRow(kind, p), want, "PatchRow", kind, p)
}

// checkPatchDo returns the result that it expects.
func checkPatchDo(t *testing.T, c stripeCase, p impl.Patch, which []bool) (stripeCase, bool) {
	t.Helper()
	want, wantOk := c.patched(p, which)
	got, ok := impl.PatchDo(c.s, p, which)
	if ok != wantOk || !equalStripe(got, want.s) {
		t.Errorf("PatchDo(%v, %v, %v) = %v, %v, want %v, %v", c.s, p, which, got, ok, want.s, wantOk)
	}
	return want, wantOk
}

func checkPatchDoInvalid(t *testing.T, s impl.Stripe, p impl.Patch, which []bool) {
	t.Helper()
	if got, ok := impl.PatchDo(s, p, which); ok || !equalStripe(got, impl.Stripe{}) {
		t.Errorf("PatchDo(%v, %v, %v) = %v, %v, want the zero value, false", s, p, which, got, ok)
	}
}

// checkPatchDoFails expects the stripe as it was, whatever the shards are.
func checkPatchDoFails(t *testing.T, s impl.Stripe, p impl.Patch) {
	t.Helper()
	forEachFlags(func(which []bool, _ []int) {
		if got, ok := impl.PatchDo(s, p, which); ok || !equalStripe(got, s) {
			t.Errorf("PatchDo(%v, %v, %v) = %v, %v, want it unchanged, false", s, p, which, got, ok)
		}
	})
}

// Promise 72; each pair of vectors, among them equal ones and some that differ everywhere.
func TestPatchOfEachPair(t *testing.T) {
	check := func(a []int, b []int) {
		t.Helper()
		l := impl.PatchOf(a, b)
		checkPatchOf(t, a, b, plainPatchOf(a, b))
		checkPatchData(t, a, l, b)
		differ := 0
		for at := range a {
			if a[at] != b[at] {
				differ++
			}
		}
		if len(l) != differ || slices.ContainsFunc(l, func(p impl.Patch) bool { return !impl.PatchOk(p) }) {
			t.Errorf("PatchOf(%v, %v) = %v, which are not %d patches", a, b, l, differ)
		}
	}
	for _, a := range someVectors() {
		for _, b := range someVectors() {
			check(a, b)
		}
	}
	for n := range 31 {
		for m := range 31 {
			check([]int{n, m, n, m}, []int{m, n, m, n})
			for at := range 4 {
				a, b := []int{30, 0, 17, 1}, []int{30, 0, 17, 1}
				a[at], b[at] = n, m
				check(a, b)
			}
		}
	}
}

// Promise 72; every choice of positions at which the data differ.
func TestPatchOfPositions(t *testing.T) {
	for i, a := range someVectors() {
		for set := range 16 {
			b := slices.Clone(a)
			var want []impl.Patch
			for at := range b {
				if set>>at&1 == 1 {
					dif := 1 + (7*i+11*at)%30
					b[at] = plainSum(b[at], dif)
					want = append(want, impl.Patch{At: at, Dif: dif})
				}
			}
			checkPatchOf(t, a, b, want)
			checkPatchData(t, a, want, b)
		}
	}
}

// Promise 72; patches written out.
func TestPatchOfValues(t *testing.T) {
	for _, c := range []struct {
		a, b []int
		want pairs
	}{
		{[]int{1, 2, 3, 4}, []int{1, 2, 3, 4}, nil},
		{[]int{0, 0, 0, 0}, []int{0, 0, 0, 0}, nil},
		{[]int{1, 2, 3, 4}, []int{1, 0, 3, 5}, pairs{{1, 29}, {3, 1}}},
		{[]int{1, 0, 3, 5}, []int{1, 2, 3, 4}, pairs{{1, 2}, {3, 30}}},
		{[]int{0, 0, 0, 0}, []int{30, 0, 0, 0}, pairs{{0, 30}}},
		{[]int{30, 0, 0, 0}, []int{0, 0, 0, 0}, pairs{{0, 1}}},
		{[]int{30, 30, 30, 30}, []int{0, 0, 0, 0}, pairs{{0, 1}, {1, 1}, {2, 1}, {3, 1}}},
		{[]int{0, 0, 0, 0}, []int{1, 15, 16, 30}, pairs{{0, 1}, {1, 15}, {2, 16}, {3, 30}}},
		{[]int{5, 5, 5, 5}, []int{5, 5, 4, 6}, pairs{{2, 30}, {3, 1}}},
	} {
		checkPatchOf(t, c.a, c.b, c.want.patches())
		checkPatchData(t, c.a, c.want.patches(), c.b)
	}
}

// Promise 72, invalid data, on either side and on both.
func TestPatchOfInvalid(t *testing.T) {
	for _, bad := range notVectors() {
		for _, good := range someVectors() {
			checkPatchOf(t, bad, good, nil)
			checkPatchOf(t, good, bad, nil)
		}
		for _, other := range notVectors() {
			checkPatchOf(t, bad, other, nil)
		}
	}
}

// Promise 73; lists of patches, up to long ones.
func TestPatchDataEachList(t *testing.T) {
	for _, data := range someVectors() {
		checkPatchData(t, data, nil, data)
		checkPatchData(t, data, []impl.Patch{}, data)
		for _, l := range somePatchLists() {
			checkPatchData(t, data, l, plainPatched(data, l))
		}
		for _, p := range allPatches() {
			checkPatchData(t, data, []impl.Patch{p}, plainPatched(data, []impl.Patch{p}))
		}
	}
	// Each position is patched 100000 times by its own number and one.
	long := slices.Repeat(pairs{{0, 1}, {1, 2}, {2, 3}, {3, 4}}.patches(), 100000)
	checkPatchData(t, []int{0, 0, 0, 30}, long, []int{25, 19, 13, 6})
}

// Promise 73; each order of the patches, and longer lists turned and reversed.
func TestPatchDataAnyOrder(t *testing.T) {
	for i, l := range somePatchLists() {
		data := someVectors()[i%37]
		want := impl.PatchData(data, l)
		if len(l) <= 5 {
			forEachOrder(slices.Clone(l), 0, func(other []impl.Patch) { checkPatchData(t, data, other, want) })
		}
		for at := range l {
			turned := append(slices.Clone(l[at:]), l[:at]...)
			checkPatchData(t, data, turned, want)
			slices.Reverse(turned)
			checkPatchData(t, data, turned, want)
		}
	}
}

// Promise 73; each prefix and the rest.
func TestPatchDataPrefix(t *testing.T) {
	for _, data := range someVectors() {
		for _, l := range somePatchLists() {
			want := impl.PatchData(data, l)
			for at := range len(l) + 1 {
				checkPatchData(t, impl.PatchData(data, l[:at]), l[at:], want)
			}
		}
	}
}

// Promise 73; data written out: no patch, and several at one position, which add up to zero or do not.
func TestPatchDataValues(t *testing.T) {
	data := []int{1, 2, 3, 30}
	for _, c := range []struct {
		l    pairs
		want []int
	}{
		{nil, []int{1, 2, 3, 30}},
		{pairs{{0, 1}}, []int{2, 2, 3, 30}},
		{pairs{{3, 1}}, []int{1, 2, 3, 0}},
		{pairs{{3, 30}}, []int{1, 2, 3, 29}},
		{pairs{{1, 29}}, []int{1, 0, 3, 30}},
		{pairs{{2, 16}, {2, 15}}, []int{1, 2, 3, 30}},
		{pairs{{2, 16}, {2, 16}}, []int{1, 2, 4, 30}},
		{pairs{{0, 30}, {1, 1}, {0, 30}, {1, 30}}, []int{30, 2, 3, 30}},
		{pairs{{0, 10}, {0, 20}, {0, 1}}, []int{1, 2, 3, 30}},
		{pairs{{3, 2}, {2, 2}, {1, 2}, {0, 2}}, []int{3, 4, 5, 1}},
	} {
		checkPatchData(t, data, c.l.patches(), c.want)
	}
}

// Promise 73, invalid data, and one invalid patch in each place among valid ones.
func TestPatchDataInvalid(t *testing.T) {
	for _, bad := range notVectors() {
		for _, l := range somePatchLists() {
			checkPatchData(t, bad, l, nil)
		}
		for _, p := range fewNotPatches() {
			checkPatchData(t, bad, []impl.Patch{p}, nil)
		}
	}
	for _, p := range notPatches() {
		for _, data := range someVectors() {
			checkPatchData(t, data, []impl.Patch{p}, nil)
		}
	}
	for i, l := range somePatchLists() {
		for _, p := range fewNotPatches() {
			for at := range len(l) + 1 {
				checkPatchData(t, someVectors()[i%37], slices.Insert(slices.Clone(l), at, p), nil)
			}
		}
	}
}

// Promise 73; a patch behind the length of the list does not count, valid or not.
func TestPatchDataCapacity(t *testing.T) {
	l := pairs{{0, 1}, {1, 5}, {-1, 0}, {0, 1}}.patches()
	checkPatchData(t, []int{1, 2, 3, 4}, l[:0], []int{1, 2, 3, 4})
	checkPatchData(t, []int{1, 2, 3, 4}, l[:2], []int{2, 7, 3, 4})
	checkPatchData(t, []int{1, 2, 3, 4}, l[:3], nil)
	checkPatchData(t, []int{1, 2, 3, 4}, l, nil)
	checkPatchData(t, []int{1, 2, 3, 4}, l[3:], []int{2, 2, 3, 4})
}

// Promise 74; every patch.
func TestPatchRowEachPatch(t *testing.T) {
	for _, kind := range bothKinds() {
		for _, p := range allPatches() {
			checkPatchRow(t, kind, p, plainPatchRow(kind, p))
			unit := make([]int, 4)
			unit[p.At] = p.Dif
			checkPatchRow(t, kind, p, impl.CodeAll(kind, unit))
		}
	}
}

// Promise 74, as it is put.
func TestPatchRowSum(t *testing.T) {
	for _, kind := range bothKinds() {
		most := impl.CodeMost(kind)
		for _, p := range allPatches() {
			row := impl.PatchRow(kind, p)
			nonzero := 0
			for _, n := range row {
				if n != 0 {
					nonzero++
				}
			}
			if nonzero <= most {
				t.Errorf("PatchRow(%d, %v) = %v, of which only %d are nonzero", kind, p, row, nonzero)
			}
			for _, data := range someVectors() {
				want := impl.CodeAll(kind, data)
				for at := range want {
					want[at] = impl.FieldSum(want[at], row[at])
				}
				checkVec(t, impl.CodeAll(kind, impl.PatchData(data, []impl.Patch{p})), want, "CodeAll of PatchData", kind, data, p)
			}
		}
	}
}

// Promise 74; several patches, also at one position.
func TestPatchRowSumOfLists(t *testing.T) {
	for _, kind := range bothKinds() {
		for _, data := range someVectors() {
			for _, l := range somePatchLists() {
				want := impl.CodeAll(kind, data)
				for _, p := range l {
					for at, n := range impl.PatchRow(kind, p) {
						want[at] = impl.FieldSum(want[at], n)
					}
				}
				checkVec(t, impl.CodeAll(kind, impl.PatchData(data, l)), want, "CodeAll of PatchData", kind, data, l)
			}
		}
	}
}

// Promises 74 and 75; rows written out.
func TestPatchRowValues(t *testing.T) {
	for _, c := range []struct {
		kind int
		p    impl.Patch
		want []int
	}{
		{impl.KindLocal, impl.Patch{At: 0, Dif: 1}, []int{1, 0, 0, 0, 1, 0, 1, 1}},
		{impl.KindLocal, impl.Patch{At: 1, Dif: 2}, []int{0, 2, 0, 0, 2, 0, 4, 6}},
		{impl.KindLocal, impl.Patch{At: 2, Dif: 30}, []int{0, 0, 30, 0, 0, 30, 27, 22}},
		{impl.KindLocal, impl.Patch{At: 3, Dif: 4}, []int{0, 0, 0, 4, 0, 4, 1, 15}},
		{impl.KindWide, impl.Patch{At: 0, Dif: 9}, []int{9, 9, 9, 9, 9, 9, 9, 9}},
		{impl.KindWide, impl.Patch{At: 1, Dif: 2}, []int{2, 4, 6, 8, 10, 12, 14, 16}},
		{impl.KindWide, impl.Patch{At: 2, Dif: 1}, []int{1, 4, 9, 16, 25, 5, 18, 2}},
		{impl.KindWide, impl.Patch{At: 3, Dif: 30}, []int{30, 23, 4, 29, 30, 1, 29, 15}},
	} {
		checkPatchRow(t, c.kind, c.p, c.want)
	}
}

// Promise 75.
func TestPatchRowLocal(t *testing.T) {
	for _, p := range allPatches() {
		row := impl.PatchRow(impl.KindLocal, p)
		if len(row) != 8 {
			t.Fatalf("PatchRow(%d, %v) = %v", impl.KindLocal, p, row)
		}
		for at := range 4 {
			if want := at == p.At; (row[at] != 0) != want {
				t.Errorf("PatchRow(%d, %v) = %v at data shard %d", impl.KindLocal, p, row, at)
			}
		}
		own, other := 4, 5
		if p.At >= 2 {
			own, other = 5, 4
		}
		if row[own] != p.Dif || row[p.At] != p.Dif || row[other] != 0 {
			t.Errorf("PatchRow(%d, %v) = %v, with parities %d and %d", impl.KindLocal, p, row, own, other)
		}
	}
}

// Promises 74 and 75, invalid codes and patches.
func TestPatchRowInvalid(t *testing.T) {
	for _, kind := range notKinds() {
		for _, p := range allPatches() {
			checkPatchRow(t, kind, p, nil)
		}
		for _, p := range notPatches() {
			checkPatchRow(t, kind, p, nil)
		}
	}
	for _, kind := range bothKinds() {
		for _, p := range notPatches() {
			checkPatchRow(t, kind, p, nil)
		}
	}
}

// Promise 76; every flag list for some stripes.
func TestPatchDoEachFlags(t *testing.T) {
	patches := allPatches()
	for i, c := range fewStripes() {
		forEachFlags(func(which []bool, at []int) {
			more, ok := checkPatchDo(t, c, patches[(17*i+setOf(at))%len(patches)], which)
			if ok {
				checkWhole(t, more)
			}
		})
	}
}

// Promise 76; every patch for some stripes.
func TestPatchDoEachPatch(t *testing.T) {
	for i, c := range fewStripes() {
		for n, p := range allPatches() {
			for _, set := range []int{255, 1 + (i*11+n*7)%255} {
				checkPatchDo(t, c, p, flagsOfSet(set))
			}
		}
	}
}

// Promise 76; every stripe of two versions, and many of more.
func TestPatchDoEachStripe(t *testing.T) {
	patches := allPatches()
	number := 0
	forEachStripe(func(c stripeCase) {
		number++
		for i, set := range []int{0, 255, number % 256, number * 37 % 256} {
			checkPatchDo(t, c, patches[(number+31*i)%len(patches)], flagsOfSet(set))
		}
	})
}

// Promise 76, as it is put.
func TestPatchDoShards(t *testing.T) {
	patches := allPatches()
	for i, c := range fewStripes() {
		data, vers, okRead := impl.StripeRead(c.s)
		top := impl.StripeTop(c.s)
		forEachFlags(func(which []bool, set []int) {
			p := patches[(29*i+7*len(set))%len(patches)]
			s, ok := impl.PatchDo(c.s, p, which)
			if ok != (okRead && top < 99) {
				t.Fatalf("PatchDo(%v, %v, %v) = %v, %v", c.s, p, which, s, ok)
			}
			if !ok {
				checkStripe(t, s, c.s, "PatchDo", c.s, p, which)
				return
			}
			all, row := impl.CodeAll(c.s.Kind, impl.PatchData(data, []impl.Patch{p})), impl.PatchRow(c.s.Kind, p)
			want := cloneStripe(c.s)
			for at := range 8 {
				if which[at] && c.s.There[at] && c.s.Vers[at] == vers {
					want.Vals[at], want.Vers[at] = all[at], top+1
					if impl.FieldSum(c.s.Vals[at], row[at]) != all[at] {
						t.Errorf("shard %d of %v plus that of %v is not %d", at, c.s, row, all[at])
					}
				}
			}
			checkStripe(t, s, want, "PatchDo", c.s, p, which)
			checkStripeOk(t, s, true)
		})
	}
}

// Promise 76; stripes of version VersMax and stripes that cannot be read are left as they are, and VersMax-1 is patched.
func TestPatchDoTop(t *testing.T) {
	for _, kind := range bothKinds() {
		data := []int{1, 2, 3, 4}
		for _, vers := range []int{1, 2, 97, 98} {
			c := stripeCase{plainStripe(kind, data, vers), map[int][]int{vers: data}}
			more, ok := checkPatchDo(t, c, impl.Patch{At: 2, Dif: 30}, lossOf())
			if !ok || more.top() != vers+1 {
				t.Errorf("PatchDo(%v) = %v, %v", c.s, more.s, ok)
			}
			checkWhole(t, more)
		}
		checkPatchDoFails(t, plainStripe(kind, data, 99), impl.Patch{At: 0, Dif: 1})
		// One shard of version VersMax is enough, though a lower one is read.
		checkPatchDoFails(t, withShard(plainStripe(kind, data, 1), 7, 12, 99), impl.Patch{At: 0, Dif: 1})
		checkPatchDo(t, stripeCaseOf(kind, []int{1, 1, 1, 1, 1, 1, 1, 98}, map[int][]int{1: data, 98: {9, 9, 9, 9}}),
			impl.Patch{At: 3, Dif: 7}, lossOf())
		// No shard, too few, and enough only of two versions together.
		checkPatchDoFails(t, emptyStripe(kind), impl.Patch{At: 1, Dif: 1})
		checkPatchDoFails(t, withShard(emptyStripe(kind), 0, 30, 1), impl.Patch{At: 0, Dif: 1})
		checkPatchDoFails(t, stripeCaseOf(kind, []int{5, 5, 5, 0, 0, 6, 6, 6}, map[int][]int{5: data, 6: data}).s,
			impl.Patch{At: 3, Dif: 2})
	}
}

// patchDone is what must become of a stripe when the patch of 2 at position 1 is done at some shards, and what is read then.
type patchDone struct {
	s          impl.Stripe
	at         []int
	vals, vers []int
	read       []int
	version    int
}

func (c patchDone) check(t *testing.T) {
	t.Helper()
	want := impl.Stripe{Kind: c.s.Kind, Vals: c.vals, Vers: c.vers, There: c.s.There}
	got, ok := impl.PatchDo(c.s, impl.Patch{At: 1, Dif: 2}, flagList(c.at))
	if !ok || !equalStripe(got, want) {
		t.Errorf("PatchDo(%v, .., %v) = %v, %v, want %v", c.s, c.at, got, ok, want)
	}
	checkStripeRead(t, got, c.read, c.version)
}

// Promises 76 and 77; stripes written out, of one version: no flag, too few, enough and all.
func TestPatchDoValues(t *testing.T) {
	s := impl.Stripe{Kind: 1, Vals: []int{1, 2, 3, 4, 3, 7, 18, 18}, Vers: slices.Repeat([]int{5}, 8), There: lossOf()}
	lost := withoutShard(s, 3)
	was, now := []int{1, 2, 3, 4}, []int{1, 4, 3, 4}
	for _, c := range []patchDone{
		{s, nil, []int{1, 2, 3, 4, 3, 7, 18, 18}, []int{5, 5, 5, 5, 5, 5, 5, 5}, was, 5},
		{s, []int{1, 4}, []int{1, 4, 3, 4, 5, 7, 18, 18}, []int{5, 6, 5, 5, 6, 5, 5, 5}, was, 5},
		// A flagged shard has the new version, even if its value stays the same.
		{s, []int{0}, []int{1, 2, 3, 4, 3, 7, 18, 18}, []int{6, 5, 5, 5, 5, 5, 5, 5}, was, 5},
		{s, []int{0, 1, 2, 4}, []int{1, 4, 3, 4, 5, 7, 18, 18}, []int{6, 6, 6, 5, 6, 5, 5, 5}, was, 5},
		{s, []int{0, 1, 2, 3}, []int{1, 4, 3, 4, 3, 7, 18, 18}, []int{6, 6, 6, 6, 5, 5, 5, 5}, now, 6},
		{s, []int{2, 3, 6, 7}, []int{1, 2, 3, 4, 3, 7, 22, 24}, []int{5, 5, 6, 6, 5, 5, 6, 6}, now, 6},
		{s, []int{0, 1, 2, 3, 4, 5, 6, 7}, []int{1, 4, 3, 4, 5, 7, 22, 24}, []int{6, 6, 6, 6, 6, 6, 6, 6}, now, 6},
		{lost, []int{3}, []int{1, 2, 3, 0, 3, 7, 18, 18}, []int{5, 5, 5, 0, 5, 5, 5, 5}, was, 5},
		{lost, []int{3, 6}, []int{1, 2, 3, 0, 3, 7, 22, 18}, []int{5, 5, 5, 0, 5, 5, 6, 5}, was, 5},
		{lost, []int{0, 1, 2, 3, 4}, []int{1, 4, 3, 0, 5, 7, 18, 18}, []int{6, 6, 6, 0, 6, 5, 5, 5}, nil, 0},
		{lost, []int{0, 1, 2, 3, 5}, []int{1, 4, 3, 0, 3, 7, 18, 18}, []int{6, 6, 6, 0, 5, 6, 5, 5}, now, 6},
	} {
		c.check(t)
	}
}

// Promises 76 and 77; stripes written out, of several versions.
func TestPatchDoOtherVersions(t *testing.T) {
	// Shard 4 and 7 are older than what is read, shard 5 is newer, and shard 6 is not available.
	mixed := impl.Stripe{Kind: 1, Vals: []int{1, 2, 3, 4, 18, 18, 0, 19}, Vers: []int{5, 5, 5, 5, 4, 7, 0, 4}, There: lossOf(6)}
	older := impl.Stripe{Kind: 2, Vals: []int{9, 9, 9, 9, 28, 24, 15, 25}, Vers: []int{7, 7, 7, 7, 8, 8, 8, 8}, There: lossOf()}
	was, now, nine := []int{1, 2, 3, 4}, []int{1, 4, 3, 4}, []int{9, 0, 0, 0}
	for _, c := range []patchDone{
		{mixed, nil, []int{1, 2, 3, 4, 18, 18, 0, 19}, []int{5, 5, 5, 5, 4, 7, 0, 4}, was, 5},
		{mixed, []int{4, 5, 6, 7}, []int{1, 2, 3, 4, 18, 18, 0, 19}, []int{5, 5, 5, 5, 4, 7, 0, 4}, was, 5},
		{mixed, []int{1, 4, 5, 6, 7}, []int{1, 4, 3, 4, 18, 18, 0, 19}, []int{5, 8, 5, 5, 4, 7, 0, 4}, nil, 0},
		{mixed, []int{0, 1, 2, 3}, []int{1, 4, 3, 4, 18, 18, 0, 19}, []int{8, 8, 8, 8, 4, 7, 0, 4}, now, 8},
		{mixed, []int{0, 1, 2, 3, 4, 5, 6, 7}, []int{1, 4, 3, 4, 18, 18, 0, 19}, []int{8, 8, 8, 8, 4, 7, 0, 4}, now, 8},
		{older, []int{0, 1, 2, 3}, []int{9, 9, 9, 9, 28, 24, 15, 25}, []int{7, 7, 7, 7, 8, 8, 8, 8}, was, 8},
		{older, []int{4}, []int{9, 9, 9, 9, 7, 24, 15, 25}, []int{7, 7, 7, 7, 9, 8, 8, 8}, nine, 7},
		{older, []int{0, 5, 6, 7}, []int{9, 9, 9, 9, 28, 5, 29, 10}, []int{7, 7, 7, 7, 8, 9, 9, 9}, nine, 7},
		{older, []int{4, 5, 6, 7}, []int{9, 9, 9, 9, 7, 5, 29, 10}, []int{7, 7, 7, 7, 9, 9, 9, 9}, now, 9},
		{older, []int{0, 1, 2, 3, 4, 5, 6, 7}, []int{9, 9, 9, 9, 7, 5, 29, 10}, []int{7, 7, 7, 7, 9, 9, 9, 9}, now, 9},
	} {
		c.check(t)
	}
}

// Promise 77, as it is put; if nothing is read, no version has enough shards left.
func TestPatchDoNeverMixed(t *testing.T) {
	patches := allPatches()
	check := func(c stripeCase, p impl.Patch, which []bool) {
		t.Helper()
		data, vers := c.read()
		s, ok := impl.PatchDo(c.s, p, which)
		if !ok {
			return
		}
		now, after, okAfter := impl.StripeRead(s)
		switch {
		case !okAfter:
			for _, v := range s.Vers {
				if impl.CodeBears(s.Kind, flagList(stripeCase{s, nil}.shardsOf(v))) {
					t.Errorf("nothing is read after PatchDo(%v, %v, %v) = %v", c.s, p, which, s)
				}
			}
		case after == impl.StripeTop(c.s)+1:
			checkVec(t, now, impl.PatchData(data, []impl.Patch{p}), "StripeRead", s)
		case after == vers:
			checkVec(t, now, data, "StripeRead", s)
		case after < vers:
			checkVec(t, now, c.data[after], "StripeRead", s)
		default:
			t.Errorf("StripeRead of PatchDo(%v, %v, %v) = %v, %d", c.s, p, which, now, after)
		}
	}
	for i, c := range readStripes() {
		forEachFlags(func(which []bool, set []int) { check(c, patches[(i+3*setOf(set))%len(patches)], which) })
	}
	number := 0
	forEachStripe(func(c stripeCase) {
		number++
		check(c, patches[number%len(patches)], flagsOfSet(number*53%256))
	})
}

// Promise 77; the flagged shards are sufficient, those left are, both, or none.
func TestPatchDoSufficient(t *testing.T) {
	for _, kind := range bothKinds() {
		data, p := []int{1, 2, 3, 4}, impl.Patch{At: 3, Dif: 30}
		forEachFlags(func(there []bool, at []int) {
			vers := make([]int, 8)
			for _, i := range at {
				vers[i] = 6
			}
			c := stripeCaseOf(kind, vers, map[int][]int{6: data})
			forEachFlags(func(which []bool, set []int) {
				s, ok := impl.PatchDo(c.s, p, which)
				flagged, left := setOf(at)&setOf(set), setOf(at)&^setOf(set)
				switch {
				case !sufficientSets()[kind][setOf(at)]:
					if ok || !equalStripe(s, c.s) {
						t.Errorf("PatchDo(%v, .., %v) = %v, %v", c.s, which, s, ok)
					}
				case sufficientSets()[kind][flagged]:
					checkStripeRead(t, s, []int{1, 2, 3, 3}, 7)
				case sufficientSets()[kind][left]:
					checkStripeRead(t, s, data, 6)
				default:
					checkStripeRead(t, s, nil, 0)
				}
			})
		})
	}
}

// Promises 76 and 77, invalid stripes, patches and flags, which count before the version and what is read.
func TestPatchDoInvalid(t *testing.T) {
	cases := []impl.Stripe{
		plainStripe(1, []int{1, 2, 3, 4}, 5), plainStripe(2, []int{1, 2, 3, 4}, 99), emptyStripe(1),
		withShard(emptyStripe(2), 3, 3, 99), plainStripe(2, []int{30, 0, 0, 1}, 98),
	}
	for _, c := range fewStripes() {
		cases = append(cases, c.s)
	}
	flagLists := [][]bool{lossOf(), make([]bool, 8), lossOf(0, 1, 2, 3), nil}
	mixed := pairs{{0, 1}, {3, 30}, {1, 16}, {4, 1}, {0, 0}}.patches()
	for _, s := range cases {
		for i, p := range notPatches() {
			checkPatchDoInvalid(t, s, p, flagLists[i%len(flagLists)])
		}
		for _, which := range notFlags() {
			for _, p := range mixed {
				checkPatchDoInvalid(t, s, p, which)
			}
		}
	}
	for i, s := range notStripes() {
		for _, which := range flagLists {
			checkPatchDoInvalid(t, s, allPatches()[i%120], which)
			checkPatchDoInvalid(t, s, notPatches()[i%len(notPatches())], which)
		}
	}
}

// Promises 72 to 77; data that become others patch by patch, with all shards each time.
func TestPatchDoEachDifference(t *testing.T) {
	for _, kind := range bothKinds() {
		for i, a := range someVectors() {
			for n, b := range someVectors() {
				vers := 1 + (i*37+n)%95
				s := newStripe(t, kind, a, vers)
				l := impl.PatchOf(a, b)
				for _, p := range l {
					more, ok := impl.PatchDo(s, p, lossOf())
					if !ok {
						t.Fatalf("PatchDo(%v, %v) fails", s, p)
					}
					s = more
				}
				checkStripe(t, s, newStripe(t, kind, b, vers+len(l)), "PatchDo from", a, b)
			}
		}
	}
}

// Promises 76 and 77; long sequences of patches, writes, losses and mends, with the version up to VersMax.
func TestPatchSequences(t *testing.T) {
	all, patches := someVectors(), allPatches()
	for i := range 60 {
		n := 23 + 1000*i
		next := func(below int) int {
			n = (n*1103 + 12345) % 65537
			return n / 7 % below
		}
		vers, data := 1+i, all[next(len(all))]
		c := stripeCase{newStripe(t, 1+i%2, data, vers), map[int][]int{vers: data}}
		for range 150 {
			switch next(8) {
			case 0, 1, 2:
				// The version of a few shards is soon above the one that is read.
				c, _ = checkPatchDo(t, c, patches[next(len(patches))], flagsOfSet(next(256)))
			case 3:
				c, _ = checkStripeWrite(t, c, all[next(len(all))], flagsOfSet(next(256)))
			case 4:
				c = checkStripeLose(t, c, next(8))
			default:
				c, _ = checkStripeMend(t, c, next(8))
			}
			checkWhole(t, c)
		}
	}
}

// Promise 78; every position and every difference around the valid ones, and others.
func TestPatchOkExactly(t *testing.T) {
	for at := -20; at <= 40; at++ {
		for dif := -100; dif <= 300; dif++ {
			want := at >= 0 && at <= 3 && dif >= 1 && dif <= 30
			checkPatchOk(t, impl.Patch{At: at, Dif: dif}, want)
		}
	}
	for at := -300; at <= 300; at++ {
		checkPatchOk(t, impl.Patch{At: at, Dif: 7}, at >= 0 && at <= 3)
	}
	for _, p := range allPatches() {
		checkPatchOk(t, p, true)
	}
	for _, p := range notPatches() {
		checkPatchOk(t, p, false)
	}
}

// Promise 78; every patch changes the data, at its position only.
func TestPatchChangesData(t *testing.T) {
	for _, data := range someVectors() {
		for _, p := range allPatches() {
			got := impl.PatchData(data, []impl.Patch{p})
			if slices.Equal(got, data) {
				t.Errorf("PatchData(%v, %v) does not change them", data, p)
			}
			checkPatchOf(t, data, got, []impl.Patch{p})
		}
	}
	for n := range 31 {
		for _, p := range allPatches() {
			data := []int{n, n, n, n}
			if slices.Equal(impl.PatchData(data, []impl.Patch{p}), data) {
				t.Errorf("PatchData(%v, %v) does not change them", data, p)
			}
		}
	}
}

// spoilPatches overwrites a list up to its capacity, so that whatever shares its memory changes.
func spoilPatches(l []impl.Patch) {
	l = l[:cap(l)]
	for i := range l {
		l[i] = impl.Patch{At: -7, Dif: -7}
	}
}

// Promise 72, memory.
func TestPatchOfApart(t *testing.T) {
	for i, v := range someVectors() {
		w := someVectors()[(i*5+1)%37]
		a, b := append(make([]int, 0, 12), v...), append(make([]int, 0, 12), w...)
		first, again := impl.PatchOf(a, b), impl.PatchOf(a, b)
		spoilPatches(first)
		spoil(a)
		spoil(b)
		if want := plainPatchOf(v, w); !slices.Equal(again, want) {
			t.Errorf("PatchOf(%v, %v) = %v, want %v, after others are overwritten", v, w, again, want)
		}
	}
}

// Promises 73 and 74, memory; also without a patch.
func TestPatchResultsApart(t *testing.T) {
	for i, v := range someVectors() {
		for _, l := range somePatchLists() {
			checkApart(t, "PatchData", v, nil, func(a []int, _ []int) []int { return impl.PatchData(a, l) })
		}
		p := allPatches()[i*3]
		checkApart(t, "PatchRow", nil, nil, func([]int, []int) []int { return impl.PatchRow(1+i%2, p) })
	}
}

// Promises 72 to 78; no function changes its arguments, valid or not, up to their capacity.
func TestPatchArgumentsUnchanged(t *testing.T) {
	stripes, vectors := notStripes(), append(notVectors(), someVectors()...)
	flagLists, lists := append(notFlags(), lossOf(), lossOf(2, 3)), somePatchLists()
	for _, p := range fewNotPatches() {
		lists = append(lists, []impl.Patch{{At: 1, Dif: 2}, p, {At: 3, Dif: 30}})
	}
	for _, c := range fewStripes() {
		stripes = append(stripes, c.s)
	}
	for i, c := range stripes {
		s := roomyStripe(c)
		data := append(make([]int, 0, 300), vectors[i%len(vectors)]...)
		other := append(make([]int, 0, 300), vectors[i*7%len(vectors)]...)
		which := append(make([]bool, 0, 300), flagLists[i%len(flagLists)]...)
		l := append(make([]impl.Patch, 0, 300), lists[i%len(lists)]...)
		wasS, wasData, wasOther := wholeStripe(s), slices.Clone(data[:300]), slices.Clone(other[:300])
		wasWhich, wasL := slices.Clone(which[:300]), slices.Clone(l[:300])
		impl.PatchOf(data, other)
		impl.PatchData(data, l)
		impl.PatchDo(s, allPatches()[i%120], which)
		impl.PatchDo(s, fewNotPatches()[i%10], which)
		if !equalStripe(wholeStripe(s), wasS) || !slices.Equal(data[:300], wasData) || !slices.Equal(other[:300], wasOther) {
			t.Fatalf("the stripe %v, %v or %v is changed", c, data, other)
		}
		if !slices.Equal(which[:300], wasWhich) || !slices.Equal(l[:300], wasL) {
			t.Fatalf("%v or %v is changed", which, l)
		}
	}
}

// Promises 76 and 77, memory; also where a stripe is returned as it was, because it is of version VersMax, cannot be
// read, or no shard is flagged, or none that is of the version that is read.
func TestPatchDoApart(t *testing.T) {
	var list []impl.Stripe
	for _, c := range fewStripes() {
		list = append(list, c.s)
	}
	for i, s := range append(list, impl.Stripe{}, impl.Stripe{Kind: 3, Vals: make([]int, 8), Vers: make([]int, 8), There: lossOf()}) {
		p := allPatches()[i%120]
		checkStripeApart(t, "PatchDo", s, func(s impl.Stripe, _ []int, which []bool) impl.Stripe {
			s, _ = impl.PatchDo(s, p, which)
			return s
		})
		checkStripeApart(t, "PatchDo of no shard", s, func(s impl.Stripe, _ []int, _ []bool) impl.Stripe {
			s, _ = impl.PatchDo(s, p, make([]bool, 8))
			return s
		})
		checkStripeApart(t, "PatchDo of one shard", s, func(s impl.Stripe, _ []int, _ []bool) impl.Stripe {
			s, _ = impl.PatchDo(s, p, flagList([]int{i % 8}))
			return s
		})
		checkStripeApart(t, "PatchDo of no patch", s, func(s impl.Stripe, _ []int, which []bool) impl.Stripe {
			s, _ = impl.PatchDo(s, impl.Patch{At: 4, Dif: 1}, which)
			return s
		})
	}
}

// Promises 72 to 77; arguments may share memory with each other, and their capacity does not count.
func TestPatchSharedArguments(t *testing.T) {
	fives := slices.Repeat([]int{5}, 12)
	yes := slices.Repeat([]bool{true}, 12)
	checkPatchOf(t, fives[:4], fives[:4], nil)
	checkPatchOf(t, fives[:4], fives[2:6], nil)
	checkPatchOf(t, fives[:4], fives[:5], nil)
	checkPatchData(t, fives[:4], pairs{{2, 27}}.patches(), []int{5, 5, 1, 5})
	checkPatchData(t, fives[:3], nil, nil)
	// All values are 5, as in the shards of [5 0 0 0] with KindWide, and so are all versions.
	s := impl.Stripe{Kind: impl.KindWide, Vals: fives[:8], Vers: fives[:8], There: yes[:8]}
	got, ok := impl.PatchDo(s, impl.Patch{At: 0, Dif: 30}, s.There)
	if want := plainStripe(impl.KindWide, []int{4, 0, 0, 0}, 6); !ok || !equalStripe(got, want) {
		t.Errorf("PatchDo = %v, %v, want %v", got, ok, want)
	}
	for _, count := range []int{7, 9, 12} {
		checkPatchDoInvalid(t, s, impl.Patch{At: 0, Dif: 30}, yes[:count])
	}
	if !slices.Equal(fives, slices.Repeat([]int{5}, 12)) || slices.Contains(yes, false) {
		t.Error("arguments are changed")
	}
}
