package tests

import (
	"runtime"
	"slices"
	"sync"
	"testing"

	"loop.example/keelson/impl"
)

// setOf has one bit for each of these shards.
func setOf(at []int) int {
	set := 0
	for _, i := range at {
		set |= 1 << i
	}
	return set
}

// flagList is the flag list in which just these shards are available.
func flagList(at []int) []bool {
	there := make([]bool, 8)
	for _, i := range at {
		there[i] = true
	}
	return there
}

// pickInts is the numbers at these indexes, as long as there are that many.
func pickInts(list []int, at []int) []int {
	var picked []int
	for _, i := range at {
		if i < len(list) {
			picked = append(picked, list[i])
		}
	}
	return picked
}

// sufficientSets tell of each set of shards of a code whether it is sufficient, found without row reduction.
var sufficientSets = sync.OnceValue(func() map[int][]bool {
	sets := map[int][]bool{}
	for _, kind := range bothKinds() {
		sets[kind] = make([]bool, 256)
		forEachFlags(func(_ []bool, at []int) { sets[kind][setOf(at)] = plainSufficient(kind, at) })
	}
	return sets
})

// readSample is a list of values with, for each set of shards, how many data have these values at just this set, and
// one of them. That answers for any available shards which data they leave, because all data have been tried.
type readSample struct {
	kind  int
	vals  []int
	count [256]int
	data  [256][]int
}

func readSampleOf(kind int, vals []int, words [][8]int8) *readSample {
	s := &readSample{kind: kind, vals: vals}
	for i, word := range words {
		same := 0
		for at, n := range word {
			if int(n) == vals[at] {
				same |= 1 << at
			}
		}
		if s.count[same] == 0 {
			s.data[same] = []int{i / 29791, i / 961 % 31, i / 31 % 31, i % 31}
		}
		s.count[same]++
	}
	return s
}

// fits says whether any data have the values at these shards, whatever they have at the others.
func (s *readSample) fits(at []int) bool {
	return len(s.possible(at)) > 0
}

// possible are the data that have the values at these shards: all of them if they are one or none, and else two.
func (s *readSample) possible(at []int) [][]int {
	set := setOf(at)
	var list [][]int
	for same, count := range s.count {
		if same&set == set {
			list = append(list, slices.Repeat(s.data[same:same+1], min(count, 2))...)
		}
	}
	return list[:min(len(list), 2)]
}

// read is what ReadData must return: data if there is only one of them, and else nil.
func (s *readSample) read(at []int) []int {
	list := s.possible(at)
	if len(list) != 1 {
		return nil
	}
	return list[0]
}

// find is what ReadFind must return.
func (s *readSample) find(at []int) int {
	if s.fits(at) {
		return -1
	}
	var found []int
	for i := range at {
		if s.fits(slices.Delete(slices.Clone(at), i, i+1)) {
			found = append(found, at[i])
		}
	}
	if len(found) != 1 {
		return -2
	}
	return found[0]
}

// readValues are the shards of data, these with each shard changed alone and with each two changed, values that
// change from one data to another at some shard, and values of no data.
func readValues(kind int) [][]int {
	data := someVectors()
	list := [][]int{plainShards(kind, data[0]), plainShards(kind, data[4]), plainShards(kind, data[10]), plainShards(kind, data[25])}
	for a := range 8 {
		one := plainShards(kind, data[12+a])
		one[a] = plainSum(one[a], 1+7*a%30)
		list = append(list, one)
		for b := range a {
			two := plainShards(kind, data[29-a-b])
			two[a], two[b] = plainSum(two[a], 30-3*b), plainSum(two[b], 1+a)
			list = append(list, two)
		}
		list = append(list, slices.Concat(plainShards(kind, data[20])[:a], plainShards(kind, data[30])[a:]))
	}
	return append(list, someValues()...)
}

// readSamples are those of readValues for both codes.
var readSamples = sync.OnceValue(func() []*readSample {
	var list []*readSample
	for _, kind := range bothKinds() {
		words := plainWords(kind)
		for _, vals := range readValues(kind) {
			list = append(list, readSampleOf(kind, vals, words))
		}
	}
	return list
})

// forEachSample visits all samples with all flag lists.
func forEachSample(visit func(s *readSample, there []bool, at []int)) {
	for _, s := range readSamples() {
		forEachFlags(func(there []bool, at []int) { visit(s, there, at) })
	}
}

// samplesOf are the samples of one code.
func samplesOf(kind int) []*readSample {
	var list []*readSample
	for _, s := range readSamples() {
		if s.kind == kind {
			list = append(list, s)
		}
	}
	return list
}

// wantedFrom is what ReadFrom must return: the shards that no plan makes of available ones before them.
func wantedFrom(kind int, at []int) []int {
	if !sufficientSets()[kind][setOf(at)] {
		return nil
	}
	var from []int
	for i, shard := range at {
		if _, ok := wantedPlan(kind, shard, flagList(at[:i])); !ok {
			from = append(from, shard)
		}
	}
	return from
}

// wantedReceived is the part of an order that ReadSoon must receive, and nil if it must fail before that is sufficient.
func wantedReceived(kind int, order []int) []int {
	set := 0
	for i, at := range order {
		if at < 0 || at > 7 || set>>at&1 == 1 {
			return nil
		}
		set |= 1 << at
		if sufficientSets()[kind][set] {
			return order[:i+1]
		}
	}
	return nil
}

func checkReadFrom(t *testing.T, kind int, there []bool, want []int) {
	t.Helper()
	checkVec(t, impl.ReadFrom(kind, there), want, "ReadFrom", kind, there)
}

// checkReadData expects ReadData to fail if want is nil.
func checkReadData(t *testing.T, kind int, vals []int, there []bool, want []int) {
	t.Helper()
	got, ok := impl.ReadData(kind, vals, there)
	if ok != (want != nil) || !slices.Equal(got, want) {
		t.Errorf("ReadData(%d, %v, %v) = %v, %v, want %v", kind, vals, there, got, ok, want)
	}
}

// checkReadSoon expects ReadSoon to fail if want is nil; the number of received shards counts also then.
func checkReadSoon(t *testing.T, kind int, vals []int, order []int, want []int, count int) {
	t.Helper()
	got, n, ok := impl.ReadSoon(kind, vals, order)
	if ok != (want != nil) || n != count || !slices.Equal(got, want) {
		t.Errorf("ReadSoon(%d, %v, %v) = %v, %d, %v, want %v, %d",
			kind, vals, order[:min(len(order), 20)], got, n, ok, want, count)
	}
}

// checkSampleSoon expects of ReadSoon what trying all data tells.
func checkSampleSoon(t *testing.T, s *readSample, order []int) {
	t.Helper()
	received := wantedReceived(s.kind, order)
	if received == nil {
		checkReadSoon(t, s.kind, s.vals, order, nil, 0)
		return
	}
	checkReadSoon(t, s.kind, s.vals, order, s.read(received), len(received))
}

func checkReadFind(t *testing.T, kind int, vals []int, there []bool, want int) {
	t.Helper()
	if got := impl.ReadFind(kind, vals, there); got != want {
		t.Errorf("ReadFind(%d, %v, %v) = %d, want %d", kind, vals, there, got, want)
	}
}

// forEachOrderFrom visits an order and all that begin with it, of different shards.
func forEachOrderFrom(order []int, visit func(order []int)) {
	visit(slices.Clone(order))
	for at := range 8 {
		if !slices.Contains(order, at) {
			forEachOrderFrom(append(slices.Clip(order), at), visit)
		}
	}
}

// Promise 50; every set of available shards.
func TestReadFromEachSet(t *testing.T) {
	for _, kind := range bothKinds() {
		forEachFlags(func(there []bool, at []int) { checkReadFrom(t, kind, there, wantedFrom(kind, at)) })
	}
}

// Promise 50, as it is put.
func TestReadFromSpans(t *testing.T) {
	for _, kind := range bothKinds() {
		rows := plainRows(kind)
		forEachFlags(func(there []bool, at []int) {
			from := impl.ReadFrom(kind, there)
			if len(from) == 0 && !impl.CodeBears(kind, there) {
				return
			}
			if len(from) != 4 || !impl.CodeBears(kind, flagList(from)) {
				t.Fatalf("ReadFrom(%d, %v) = %v, not sufficient", kind, there, from)
			}
			for i, shard := range from {
				if !slices.Contains(at, shard) || i > 0 && shard <= from[i-1] {
					t.Errorf("ReadFrom(%d, %v) = %v, not available or not ascending", kind, there, from)
				}
			}
			for i, shard := range at {
				if !slices.Contains(from, shard) && !impl.SpanHas(pick(rows, at[:i]), rows[shard]) {
					t.Errorf("ReadFrom(%d, %v) = %v, though shard %d is new", kind, there, from, shard)
				}
			}
		})
	}
}

// Promise 50; lists written out: no shard, too few, just enough, and groups of which one shard is left out.
func TestReadFromValues(t *testing.T) {
	for _, c := range []struct{ at, local, wide []int }{
		{nil, nil, nil},
		{[]int{3}, nil, nil},
		{[]int{5, 6, 7}, nil, nil},
		{[]int{0, 1, 2, 3, 4, 5, 6, 7}, []int{0, 1, 2, 3}, []int{0, 1, 2, 3}},
		{[]int{4, 5, 6, 7}, []int{4, 5, 6, 7}, []int{4, 5, 6, 7}},
		{[]int{0, 1, 2, 4}, nil, []int{0, 1, 2, 4}},
		{[]int{0, 1, 4, 5, 6}, []int{0, 1, 5, 6}, []int{0, 1, 4, 5}},
		{[]int{0, 1, 2, 4, 5}, []int{0, 1, 2, 5}, []int{0, 1, 2, 4}},
		{[]int{2, 3, 5, 6, 7}, []int{2, 3, 6, 7}, []int{2, 3, 5, 6}},
		{[]int{1, 2, 3, 5, 7}, []int{1, 2, 3, 7}, []int{1, 2, 3, 5}},
		{[]int{0, 1, 4, 6, 7}, []int{0, 1, 6, 7}, []int{0, 1, 4, 6}},
		{[]int{1, 3, 4, 5, 6, 7}, []int{1, 3, 4, 5}, []int{1, 3, 4, 5}},
		{[]int{0, 2, 6, 7}, []int{0, 2, 6, 7}, []int{0, 2, 6, 7}},
	} {
		checkReadFrom(t, impl.KindLocal, flagList(c.at), c.local)
		checkReadFrom(t, impl.KindWide, flagList(c.at), c.wide)
	}
}

// Promise 50, invalid codes and flags.
func TestReadFromInvalid(t *testing.T) {
	for _, there := range notFlags() {
		for _, kind := range append(notKinds(), bothKinds()...) {
			checkReadFrom(t, kind, there, nil)
		}
	}
	forEachFlags(func(there []bool, _ []int) {
		for _, kind := range notKinds() {
			checkReadFrom(t, kind, there, nil)
		}
	})
}

// Promise 51; every set of available shards, whatever elements the other shards have.
func TestReadDataOfShards(t *testing.T) {
	for _, kind := range bothKinds() {
		forEachFlags(func(there []bool, at []int) {
			sufficient := sufficientSets()[kind][setOf(at)]
			for i, data := range someVectors() {
				all := impl.CodeAll(kind, data)
				want := data
				if !sufficient {
					want = nil
				}
				checkReadData(t, kind, all, there, want)
				for at := range there {
					if !there[at] {
						all[at] = (all[at] + i + at + 1) % 31
					}
				}
				checkReadData(t, kind, all, there, want)
			}
		})
	}
}

// Promise 51; each element at each position, of every sufficient set.
func TestReadDataEachElement(t *testing.T) {
	for _, kind := range bothKinds() {
		forEachFlags(func(there []bool, at []int) {
			if !sufficientSets()[kind][setOf(at)] {
				return
			}
			for n := range 124 {
				data := []int{0, 30, 17, 0}
				data[n%4] = n / 4
				checkReadData(t, kind, plainShards(kind, data), there, data)
			}
		})
	}
}

// Promise 51; all data, each of one of four sets that use every shard between them.
func TestReadDataAllData(t *testing.T) {
	sets := [][]bool{lossOf(0, 2, 3, 5), lossOf(1, 3, 4, 6), lossOf(3), lossOf()}
	var group sync.WaitGroup
	for _, kind := range bothKinds() {
		words := plainWords(kind)
		for first := range 31 {
			group.Go(func() {
				vals := make([]int, 8)
				for i := first * 29791; i < (first+1)*29791; i++ {
					for at, n := range words[i] {
						vals[at] = int(n)
					}
					checkReadData(t, kind, vals, sets[i%4], []int{first, i / 961 % 31, i / 31 % 31, i % 31})
				}
			})
		}
	}
	group.Wait()
}

// Promises 51 and 52; data written out.
func TestReadDataValues(t *testing.T) {
	local, wide := []int{1, 2, 3, 4, 3, 7, 18, 18}, []int{10, 18, 18, 3, 28, 24, 15, 25}
	changed := []int{1, 2, 3, 4, 5, 7, 18, 18}
	data := []int{1, 2, 3, 4}
	for _, c := range []struct {
		kind int
		vals []int
		at   []int
		want []int
	}{
		{impl.KindLocal, local, []int{0, 1, 2, 3, 4, 5, 6, 7}, data},
		{impl.KindLocal, local, []int{0, 1, 2, 3}, data},
		{impl.KindLocal, local, []int{4, 5, 6, 7}, data},
		{impl.KindLocal, local, []int{0, 4, 3, 5}, data},
		{impl.KindLocal, local, []int{0, 1, 4, 6, 7}, data},
		{impl.KindLocal, local, []int{0, 1, 4, 6}, nil},
		{impl.KindLocal, local, []int{0, 1, 2}, nil},
		{impl.KindLocal, local, nil, nil},
		{impl.KindLocal, changed, []int{0, 1, 2, 3}, data},
		{impl.KindLocal, changed, []int{0, 1, 2, 3, 5, 6, 7}, data},
		{impl.KindLocal, changed, []int{0, 1, 2, 3, 4}, nil},
		{impl.KindLocal, changed, []int{0, 2, 3, 4}, []int{1, 4, 3, 4}},
		{impl.KindLocal, changed, []int{0, 2, 3, 4, 5}, []int{1, 4, 3, 4}},
		{impl.KindLocal, changed, []int{0, 2, 3, 4, 6}, nil},
		{impl.KindLocal, make([]int, 8), []int{4, 5, 6, 7}, []int{0, 0, 0, 0}},
		{impl.KindLocal, make([]int, 8), []int{5, 6, 7}, nil},
		{impl.KindWide, wide, []int{0, 1, 2, 3, 4, 5, 6, 7}, data},
		{impl.KindWide, wide, []int{0, 1, 2, 4}, data},
		{impl.KindWide, wide, []int{4, 5, 6, 7}, data},
		{impl.KindWide, wide, []int{4, 5, 7}, nil},
		{impl.KindWide, []int{1, 2, 3, 4, 5, 6, 7, 9}, []int{0, 2, 4, 6}, []int{0, 1, 0, 0}},
		{impl.KindWide, []int{1, 2, 3, 4, 5, 6, 7, 9}, []int{0, 2, 4, 6, 7}, nil},
		{impl.KindWide, []int{9, 9, 9, 9, 9, 9, 9, 9}, []int{3, 4, 5, 6, 7}, []int{9, 0, 0, 0}},
		{impl.KindLocal, wide, []int{0, 1, 2, 3, 4, 5, 6, 7}, nil},
		{impl.KindWide, local, []int{0, 1, 2, 3, 4, 5, 6, 7}, nil},
	} {
		checkReadData(t, c.kind, c.vals, flagList(c.at), c.want)
	}
}

// Promise 52; every set of available shards, with values that fit and values that do not.
func TestReadDataEachSet(t *testing.T) {
	forEachSample(func(s *readSample, there []bool, at []int) {
		want := s.read(at)
		checkReadData(t, s.kind, s.vals, there, want)
		if both := impl.CodeBears(s.kind, there) && impl.CodeFits(s.kind, s.vals, there); both != (want != nil) {
			t.Errorf("the shards %v of %v of code %d are sufficient and fit: %v", at, s.vals, s.kind, both)
		}
	})
}

// Promise 52.
func TestReadDataAgrees(t *testing.T) {
	forEachSample(func(s *readSample, there []bool, at []int) {
		data, ok := impl.ReadData(s.kind, s.vals, there)
		if !ok {
			return
		}
		all := impl.CodeAll(s.kind, data)
		checkVec(t, pickInts(all, at), pickInts(s.vals, at), "CodeAll of ReadData", s.kind, s.vals, there)
	})
}

// Promise 52; each value of each available shard, where others can tell it and where they cannot.
func TestReadDataChanged(t *testing.T) {
	for _, kind := range bothKinds() {
		data := []int{5, 0, 30, 16}
		all := plainShards(kind, data)
		forEachFlags(func(there []bool, at []int) {
			if !sufficientSets()[kind][setOf(at)] {
				return
			}
			for i, changed := range at {
				others := slices.Delete(slices.Clone(at), i, i+1)
				told := sufficientSets()[kind][setOf(others)]
				for more := range 31 {
					vals := slices.Clone(all)
					vals[changed] = plainSum(vals[changed], more)
					got, ok := impl.ReadData(kind, vals, there)
					if ok == (told && more > 0) || (more == 0) != slices.Equal(got, data) {
						t.Errorf("ReadData(%d, %v, %v) = %v, %v, with %d added", kind, vals, there, got, ok, more)
					}
				}
			}
		})
	}
}

// Promises 51 and 52, invalid codes, values and flags; values must be elements at lost shards too.
func TestReadDataInvalid(t *testing.T) {
	for _, kind := range append(notKinds(), bothKinds()...) {
		for _, vals := range notValues() {
			for _, there := range [][]bool{lossOf(), make([]bool, 8), lossOf(0, 2, 4, 6), lossOf(1, 3, 5, 7), lossOf(0, 1), lossOf(6, 7)} {
				checkReadData(t, kind, vals, there, nil)
			}
		}
		for _, there := range notFlags() {
			checkReadData(t, kind, make([]int, 8), there, nil)
			checkReadData(t, kind, nil, there, nil)
		}
	}
	for _, kind := range notKinds() {
		for _, data := range someVectors() {
			checkReadData(t, kind, plainShards(impl.KindLocal, data), lossOf(), nil)
			checkReadData(t, kind, plainShards(impl.KindWide, data), lossOf(3, 4), nil)
		}
	}
}

// Promise 53; every order of different shards, of each length.
func TestReadSoonEachOrder(t *testing.T) {
	for _, kind := range bothKinds() {
		samples := samplesOf(kind)
		number := 0
		forEachOrderFrom(nil, func(order []int) {
			checkSampleSoon(t, samples[number%len(samples)], order)
			number++
		})
	}
}

// Promise 53, as it is put.
func TestReadSoonPrefix(t *testing.T) {
	for _, kind := range bothKinds() {
		samples := samplesOf(kind)
		number := 0
		forEachOrderFrom(nil, func(order []int) {
			number++
			s := samples[number%len(samples)]
			got, n, ok := impl.ReadSoon(kind, s.vals, order)
			if n == 0 {
				checkBears(t, kind, flagList(order), false)
				return
			}
			if n < 0 || n > len(order) {
				t.Fatalf("ReadSoon(%d, %v, %v) has received %d shards", kind, s.vals, order, n)
			}
			checkBears(t, kind, flagList(order[:n]), true)
			checkBears(t, kind, flagList(order[:n-1]), false)
			data, okData := impl.ReadData(kind, s.vals, flagList(order[:n]))
			if ok != okData || !slices.Equal(got, data) {
				t.Errorf("ReadSoon(%d, %v, %v) = %v, %d, %v, but ReadData is %v, %v", kind, s.vals, order, got, n, ok, data, okData)
			}
		})
	}
}

// Promise 53; every order of up to five of the shards and the two integers beside them, also with repetitions.
func TestReadSoonShortOrders(t *testing.T) {
	for _, kind := range bothKinds() {
		samples := samplesOf(kind)
		orders := 1
		for length := range 6 {
			for number := range orders {
				order := make([]int, length)
				rest := number
				for i := range order {
					order[i] = rest%10 - 1
					rest /= 10
				}
				checkSampleSoon(t, samples[number%len(samples)], order)
			}
			orders *= 10
		}
	}
}

// Promise 53; results written out.
func TestReadSoonValues(t *testing.T) {
	local, wide := []int{1, 2, 3, 4, 3, 7, 18, 18}, []int{10, 18, 18, 3, 28, 24, 15, 25}
	changed := []int{1, 2, 3, 4, 5, 7, 18, 18}
	data := []int{1, 2, 3, 4}
	for _, c := range []struct {
		kind  int
		vals  []int
		order []int
		want  []int
		count int
	}{
		// Sufficient after VecLen shards, and later.
		{impl.KindLocal, local, []int{0, 1, 2, 3}, data, 4},
		{impl.KindLocal, local, []int{7, 6, 5, 4, 3, 2, 1, 0}, data, 4},
		{impl.KindLocal, local, []int{4, 0, 1, 7, 6, 2}, data, 5},
		{impl.KindLocal, local, []int{6, 3, 5, 2, 0}, data, 5},
		{impl.KindWide, wide, []int{4, 0, 1, 7, 6, 2}, data, 4},
		{impl.KindWide, wide, []int{3, 2, 1, 0}, data, 4},
		// Never.
		{impl.KindLocal, local, nil, nil, 0},
		{impl.KindLocal, local, []int{}, nil, 0},
		{impl.KindLocal, local, []int{0}, nil, 0},
		{impl.KindLocal, local, []int{4, 0, 1, 7}, nil, 0},
		{impl.KindLocal, local, []int{0, 1, 2}, nil, 0},
		{impl.KindWide, wide, []int{7, 3, 5}, nil, 0},
		// Twice or invalid, ahead of the place where they are sufficient and behind it.
		{impl.KindLocal, local, []int{0, 0, 1, 2, 3}, nil, 0},
		{impl.KindLocal, local, []int{0, 1, 2, 0, 3}, nil, 0},
		{impl.KindLocal, local, []int{4, 0, 1, 7, 7, 6}, nil, 0},
		{impl.KindLocal, local, []int{4, 0, 1, 7, 6, 7}, data, 5},
		{impl.KindLocal, local, []int{0, 1, 2, 3, 3}, data, 4},
		{impl.KindWide, wide, []int{5, 5, 5, 5}, nil, 0},
		{impl.KindWide, wide, []int{5, 6, 0, 1, 5, 6, 0, 1}, data, 4},
		{impl.KindLocal, local, []int{-1, 0, 1, 2, 3}, nil, 0},
		{impl.KindLocal, local, []int{0, 1, 2, 8, 3}, nil, 0},
		{impl.KindLocal, local, []int{4, 0, 1, 7, -1, 6}, nil, 0},
		{impl.KindLocal, local, []int{4, 0, 1, 7, 6, -1}, data, 5},
		{impl.KindLocal, local, []int{0, 1, 2, 3, 8}, data, 4},
		{impl.KindWide, wide, []int{0, 1, 2, 8}, nil, 0},
		{impl.KindWide, wide, []int{0, 1, 2, 7, 8, -1, 7}, data, 4},
		// Values that do not fit, among those received and among the others.
		{impl.KindLocal, changed, []int{4, 0, 1, 7, 6, 2}, nil, 5},
		{impl.KindLocal, changed, []int{0, 1, 4, 2, 3}, nil, 5},
		{impl.KindLocal, changed, []int{0, 1, 2, 3, 4}, data, 4},
		{impl.KindLocal, changed, []int{5, 7, 6, 0, 4, 1}, data, 4},
		{impl.KindLocal, changed, []int{2, 3, 5, 0, 1, 4}, data, 5},
		{impl.KindLocal, changed, []int{2, 3, 5, 0, 4, 1}, []int{1, 4, 3, 4}, 5},
		{impl.KindLocal, changed, []int{0, 2, 3, 4, 1}, []int{1, 4, 3, 4}, 4},
		{impl.KindLocal, changed, []int{4, 0, 1, 7}, nil, 0},
		{impl.KindWide, []int{1, 2, 3, 4, 5, 6, 7, 9}, []int{6, 5, 4, 3, 7}, []int{0, 1, 0, 0}, 4},
		{impl.KindWide, []int{9, 9, 9, 9, 1, 2, 3, 4}, []int{1, 3, 0, 2, 4, 5}, []int{9, 0, 0, 0}, 4},
	} {
		checkReadSoon(t, c.kind, c.vals, c.order, c.want, c.count)
	}
}

// Promise 53; an invalid shard, or one that has been received, at each place of orders of all shards.
func TestReadSoonBadShard(t *testing.T) {
	for _, order := range [][]int{
		{0, 1, 2, 3, 4, 5, 6, 7}, {4, 1, 0, 7, 6, 5, 3, 2}, {3, 5, 2, 6, 1, 0, 4, 7}, {7, 6, 5, 4, 3, 2, 1, 0}, {2, 6, 3, 5, 7, 4, 1, 0},
	} {
		for _, s := range readSamples() {
			for at := range 9 {
				for _, bad := range append(notShards(), order[:at]...) {
					checkSampleSoon(t, s, slices.Insert(slices.Clone(order), at, bad))
				}
			}
		}
	}
}

// Promise 53; orders much longer than needed, or of one shard that comes again and again.
func TestReadSoonLongOrders(t *testing.T) {
	s := readSamples()[3]
	for _, count := range []int{9, 15, 16, 17, 255, 256, 257, 1 << 16, 1 << 20} {
		for _, more := range []int{0, 2, 7, -1, 8, 1 << 32} {
			rest := slices.Repeat([]int{more}, count)
			for _, first := range [][]int{nil, {3}, {0, 1, 4, 6}, {0, 1, 4, 6, 7}, {7, 5, 3, 1}, {0, 1, 2, 3, 4, 5, 6, 7}} {
				checkSampleSoon(t, s, slices.Concat(first, rest))
			}
		}
	}
}

// Promises 53 and 54; calls at the same time do not get in each other's way, and nothing is left of them.
func TestReadSoonAtOnce(t *testing.T) {
	// Samples are made first, so that no goroutine waits for these.
	samples := readSamples()
	sufficientSets()
	before := runtime.NumGoroutine()
	var group sync.WaitGroup
	for i, s := range samples {
		group.Go(func() {
			for n := range 40 {
				order := []int{0, 1, 4, 6, 7, 2, 3, 5, 0, 0, 0}
				order = slices.Concat(order[(i+n)%8:], order[:(i+n)%8], make([]int, 100*(n%3)))
				checkSampleSoon(t, s, order)
				// With go test -race this tells whether anything still reads the order.
				spoil(order)
			}
		})
	}
	group.Wait()
	left := runtime.NumGoroutine()
	for range 1000000 {
		if left <= before {
			return
		}
		// A goroutine that is done may still be counted for a moment.
		runtime.Gosched()
		left = runtime.NumGoroutine()
	}
	t.Errorf("%d goroutines are left, of %d before", left, before)
}

// Promise 54; all orders of all shards.
func TestReadSoonAnyOrder(t *testing.T) {
	data := someVectors()
	for kind, most := range map[int]int{impl.KindLocal: 5, impl.KindWide: 4} {
		if got := impl.ShardMax - impl.CodeMost(kind); got != most {
			t.Errorf("ShardMax-CodeMost(%d) = %d, want %d", kind, got, most)
		}
		number, latest := 0, 0
		forEachOrderFrom(nil, func(order []int) {
			if len(order) < 8 {
				return
			}
			want := data[number%len(data)]
			number++
			got, n, ok := impl.ReadSoon(kind, impl.CodeAll(kind, want), order)
			if !ok || !slices.Equal(got, want) || n < 4 || n > most {
				t.Errorf("ReadSoon of code %d of all shards of %v, as %v = %v, %d, %v", kind, want, order, got, n, ok)
			}
			latest = max(latest, n)
		})
		if number != 40320 || latest != most {
			t.Errorf("%d orders of code %d need at most %d shards, want %d", number, kind, latest, most)
		}
	}
}

// Promises 53 and 54, invalid codes and values; values must be elements also at shards that are not received.
func TestReadSoonInvalid(t *testing.T) {
	orders := [][]int{nil, {}, {0, 1, 2, 3}, {4, 0, 1, 7, 6, 2, 3, 5}, {7, 6, 5, 4}, {0, 1, 2, 3, 4, 5, 6, 7}, {0, 0}, {-1}, {8, 1, 2, 3}}
	for _, order := range orders {
		for _, kind := range append(notKinds(), bothKinds()...) {
			for _, vals := range notValues() {
				checkReadSoon(t, kind, vals, order, nil, 0)
			}
		}
		for _, kind := range notKinds() {
			for _, data := range someVectors() {
				checkReadSoon(t, kind, plainShards(impl.KindLocal, data), order, nil, 0)
				checkReadSoon(t, kind, plainShards(impl.KindWide, data), order, nil, 0)
			}
		}
	}
	for _, order := range [][]int{nil, {}, []int{0, 1, 2, 3, 4, 5, 6, 7}[:0]} {
		for _, s := range readSamples() {
			checkReadSoon(t, s.kind, s.vals, order, nil, 0)
		}
	}
}

// Promise 55; each value of each shard. With KindLocal the others tell it as well, as long as all are available.
func TestReadFindChanged(t *testing.T) {
	for _, kind := range bothKinds() {
		for _, data := range someVectors() {
			all := impl.CodeAll(kind, data)
			checkReadFind(t, kind, all, lossOf(), -1)
			for at, was := range all {
				for more := 1; more < 31; more++ {
					all[at] = plainSum(was, more)
					checkReadFind(t, kind, all, lossOf(), at)
				}
				all[at] = was
			}
		}
	}
}

// Promise 55; without a change, whichever shards are available and whatever elements the others have.
func TestReadFindUnchanged(t *testing.T) {
	for _, kind := range bothKinds() {
		forEachFlags(func(there []bool, _ []int) {
			for i, data := range someVectors()[8:20] {
				all := plainShards(kind, data)
				checkReadFind(t, kind, all, there, -1)
				for at := range there {
					if !there[at] {
						all[at] = (all[at] + i + at + 1) % 31
					}
				}
				checkReadFind(t, kind, all, there, -1)
			}
		})
	}
}

// Promise 56; every set of available shards, with values that fit and values that do not.
func TestReadFindEachSet(t *testing.T) {
	forEachSample(func(s *readSample, there []bool, at []int) {
		checkReadFind(t, s.kind, s.vals, there, s.find(at))
	})
}

// Promise 56, as it is put.
func TestReadFindFits(t *testing.T) {
	forEachSample(func(s *readSample, there []bool, at []int) {
		got := impl.ReadFind(s.kind, s.vals, there)
		if fits := impl.CodeFits(s.kind, s.vals, there); fits != (got == -1) {
			t.Errorf("ReadFind(%d, %v, %v) = %d, but CodeFits is %v", s.kind, s.vals, there, got, fits)
		}
		if got == -1 {
			return
		}
		var without []int
		for _, i := range at {
			others := slices.Clone(there)
			others[i] = false
			if impl.CodeFits(s.kind, s.vals, others) {
				without = append(without, i)
			}
		}
		if got == -2 && len(without) != 1 || got >= 0 && slices.Equal(without, []int{got}) {
			return
		}
		t.Errorf("ReadFind(%d, %v, %v) = %d, but the others fit without each of %v", s.kind, s.vals, there, got, without)
	})
}

// Promise 56; every set of available shards, each of these changed by each amount. The change is seen if the others
// make the shard, and found if they still do without any one of them.
func TestReadFindChangedEachSet(t *testing.T) {
	for _, kind := range bothKinds() {
		all := plainShards(kind, []int{5, 0, 30, 16})
		forEachFlags(func(there []bool, at []int) {
			for i, changed := range at {
				others := slices.Delete(slices.Clone(at), i, i+1)
				want := changed
				for j := range others {
					if _, ok := wantedPlan(kind, changed, flagList(slices.Delete(slices.Clone(others), j, j+1))); !ok {
						want = -2
					}
				}
				if _, ok := wantedPlan(kind, changed, flagList(others)); !ok {
					want = -1
				}
				for more := 1; more < 31; more++ {
					vals := slices.Clone(all)
					vals[changed] = plainSum(vals[changed], more)
					checkReadFind(t, kind, vals, there, want)
				}
			}
		})
	}
}

// Promise 56; each two shards changed by each amount: too many to find while all are available.
func TestReadFindTwoChanged(t *testing.T) {
	for _, kind := range bothKinds() {
		all := plainShards(kind, []int{0, 12, 29, 3})
		for a := range 8 {
			for b := range a {
				for n := range 900 {
					vals := slices.Clone(all)
					vals[a], vals[b] = plainSum(vals[a], 1+n%30), plainSum(vals[b], 1+n/30)
					checkReadFind(t, kind, vals, lossOf(), -2)
					checkReadFind(t, kind, vals, lossOf(a, b), -1)
				}
			}
		}
	}
}

// Promise 56; results written out: found, not to be told from others, more than one, and none at all.
func TestReadFindValues(t *testing.T) {
	first := []int{9, 2, 3, 4, 3, 7, 18, 18}
	last := []int{10, 18, 18, 3, 28, 24, 15, 26}
	for _, c := range []struct {
		kind int
		vals []int
		at   []int
		want int
	}{
		{impl.KindLocal, first, []int{0, 1, 2, 3, 4, 5, 6, 7}, 0},
		{impl.KindLocal, first, []int{1, 2, 3, 4, 5, 6, 7}, -1},
		{impl.KindLocal, first, []int{0, 1, 2, 3, 5, 6, 7}, 0},
		{impl.KindLocal, first, []int{0, 2, 3, 5, 6, 7}, -2},
		{impl.KindLocal, first, []int{0, 1, 2, 3, 4, 6}, 0},
		{impl.KindLocal, first, []int{0, 1, 4, 2, 3, 5}, -2},
		{impl.KindLocal, first, []int{0, 1, 4}, -2},
		{impl.KindLocal, first, []int{0, 1}, -1},
		{impl.KindLocal, first, []int{0, 2, 3, 5}, -1},
		{impl.KindLocal, first, []int{0}, -1},
		{impl.KindLocal, first, nil, -1},
		{impl.KindLocal, []int{1, 2, 3, 4, 3, 7, 18, 17}, []int{0, 1, 2, 3, 4, 5, 6, 7}, 7},
		{impl.KindLocal, []int{1, 2, 3, 4, 3, 7, 18, 17}, []int{0, 1, 2, 3, 7}, -2},
		{impl.KindLocal, []int{1, 2, 3, 4, 3, 7, 18, 17}, []int{0, 1, 2, 3, 4, 5, 7}, 7},
		{impl.KindLocal, []int{9, 2, 9, 4, 3, 7, 18, 18}, []int{0, 1, 2, 3, 4, 5, 6, 7}, -2},
		{impl.KindLocal, []int{9, 2, 9, 4, 3, 7, 18, 18}, []int{0, 1, 2, 3, 4, 5}, -2},
		{impl.KindLocal, []int{9, 2, 9, 4, 3, 7, 18, 18}, []int{1, 2, 3, 4, 5, 6, 7}, 2},
		{impl.KindWide, last, []int{0, 1, 2, 3, 4, 5, 6, 7}, 7},
		{impl.KindWide, last, []int{0, 1, 2, 3, 4, 5, 6}, -1},
		{impl.KindWide, last, []int{1, 2, 3, 4, 6, 7}, 7},
		{impl.KindWide, last, []int{1, 2, 3, 4, 7}, -2},
		{impl.KindWide, last, []int{1, 2, 3, 7}, -1},
		{impl.KindWide, last, nil, -1},
		{impl.KindWide, []int{11, 18, 18, 3, 28, 24, 15, 26}, []int{0, 1, 2, 3, 4, 5, 6, 7}, -2},
		{impl.KindWide, []int{11, 18, 18, 3, 28, 24, 15, 26}, []int{1, 2, 3, 4, 5, 6, 7}, 7},
		{impl.KindWide, []int{11, 18, 18, 3, 28, 24, 15, 26}, []int{0, 1, 2, 3, 4, 5, 6}, 0},
	} {
		checkReadFind(t, c.kind, c.vals, flagList(c.at), c.want)
	}
}

// Promises 55 and 56, invalid codes, values and flags; nothing available fits, but not with invalid arguments.
func TestReadFindInvalid(t *testing.T) {
	for _, kind := range append(notKinds(), bothKinds()...) {
		for _, vals := range notValues() {
			for _, there := range [][]bool{lossOf(), make([]bool, 8), lossOf(0, 2, 4, 6), lossOf(1, 3, 5, 7), lossOf(0), lossOf(7)} {
				checkReadFind(t, kind, vals, there, -2)
			}
		}
		for _, there := range notFlags() {
			checkReadFind(t, kind, make([]int, 8), there, -2)
			checkReadFind(t, kind, []int{1, 0, 0, 0, 0, 0, 0, 0}, there, -2)
			checkReadFind(t, kind, nil, there, -2)
		}
	}
	for _, kind := range notKinds() {
		for _, data := range someVectors() {
			checkReadFind(t, kind, plainShards(impl.KindLocal, data), lossOf(), -2)
			checkReadFind(t, kind, plainShards(impl.KindWide, data), make([]bool, 8), -2)
		}
	}
}

// Promise 57; every set of available shards that fit, with each sufficient subset.
func TestReadDataSubsets(t *testing.T) {
	for i, s := range readSamples() {
		if i%4 != 0 {
			continue
		}
		forEachFlags(func(there []bool, at []int) {
			if !impl.CodeFits(s.kind, s.vals, there) || !sufficientSets()[s.kind][setOf(at)] {
				return
			}
			want := s.read(at)
			for set := range 1 << 8 {
				if set&^setOf(at) == 0 && sufficientSets()[s.kind][set] {
					subset := make([]bool, 8)
					for i := range subset {
						subset[i] = set>>i&1 == 1
					}
					checkReadData(t, s.kind, s.vals, subset, want)
				}
			}
		})
	}
}

// Promises 50 to 57, memory.
func TestReadResultsApart(t *testing.T) {
	for _, kind := range bothKinds() {
		vals := plainShards(kind, []int{1, 2, 3, 30})
		forEachFlags(func(there []bool, at []int) {
			want := wantedFrom(kind, at)
			checkApart(t, "ReadFrom", nil, nil, func([]int, []int) []int { return impl.ReadFrom(kind, there) })
			checkReadFrom(t, kind, there, want)
			checkApart(t, "ReadData", vals, nil, func(vals []int, _ []int) []int {
				data, _ := impl.ReadData(kind, vals, there)
				return data
			})
			checkApart(t, "ReadSoon", vals, at, func(vals []int, order []int) []int {
				data, _, _ := impl.ReadSoon(kind, vals, order)
				return data
			})
			spoil(impl.ReadFrom(kind, there))
			data, _ := impl.ReadData(kind, vals, there)
			spoil(data)
			if want != nil {
				checkReadData(t, kind, vals, there, []int{1, 2, 3, 30})
				checkReadSoon(t, kind, vals, at, []int{1, 2, 3, 30}, len(wantedReceived(kind, at)))
			}
		})
	}
}

// Promises 50 to 57; no function changes its arguments, valid or not, up to their capacity.
func TestReadArgumentsUnchanged(t *testing.T) {
	lists := append(notValues(), plainShards(impl.KindLocal, []int{1, 2, 3, 30}), plainShards(impl.KindWide, []int{1, 2, 3, 30}))
	lists = append(lists, someValues()...)
	flagLists := append(notFlags(), lossOf(), lossOf(0, 3), lossOf(0, 1, 2, 3, 4), make([]bool, 8))
	orders := [][]int{nil, {0, 1, 4, 7, 6, 2}, {3, 2, 1, 0, -1}, {0, 0, 1}, {8}, {7, 6, 5, 4, 3, 2, 1, 0}, slices.Repeat([]int{5}, 40)}
	for _, kind := range append(bothKinds(), 0, 3) {
		for i, sample := range lists {
			vals := append(make([]int, 0, 300), sample...)
			order := append(make([]int, 0, 300), orders[i%len(orders)]...)
			wasVals, wasOrder := slices.Clone(vals[:300]), slices.Clone(order[:300])
			impl.ReadSoon(kind, vals, order)
			for _, flags := range flagLists {
				there := append(make([]bool, 0, 300), flags...)
				wasThere := slices.Clone(there[:300])
				impl.ReadFrom(kind, there)
				impl.ReadData(kind, vals, there)
				impl.ReadFind(kind, vals, there)
				if !slices.Equal(there[:300], wasThere) {
					t.Fatalf("the flags %v are changed", flags)
				}
			}
			if !slices.Equal(vals[:300], wasVals) || !slices.Equal(order[:300], wasOrder) {
				t.Fatalf("the values %v or the order beside them are changed", sample)
			}
		}
	}
}

// Promises 50 to 57; arguments may share memory, and their capacity does not count.
func TestReadSharedArguments(t *testing.T) {
	both := []int{0, 1, 2, 3, 4, 5, 6, 7, 31}
	checkReadSoon(t, impl.KindWide, both[:8], both[:8], []int{30, 1, 0, 0}, 4)
	checkReadSoon(t, impl.KindWide, both[:8], both[1:5], []int{30, 1, 0, 0}, 4)
	checkReadSoon(t, impl.KindLocal, both[:8], both[:8], []int{0, 1, 2, 3}, 4)
	checkReadSoon(t, impl.KindLocal, both[:8], both[:3], nil, 0)
	checkReadSoon(t, impl.KindLocal, both[:8], both[:0], nil, 0)
	checkReadSoon(t, impl.KindLocal, both, both[:8], nil, 0)
	checkReadSoon(t, impl.KindLocal, both[:7], both[:8], nil, 0)
	enough, tooFew := append(lossOf(0, 1, 4), false), append(lossOf(0, 1, 4, 6), true, true)
	vals := append(plainShards(impl.KindLocal, []int{1, 2, 3, 4}), 31)
	checkReadFrom(t, impl.KindLocal, enough[:8], []int{2, 3, 6, 7})
	checkReadFrom(t, impl.KindLocal, tooFew[:8], nil)
	checkReadData(t, impl.KindLocal, vals[:8], enough[:8], []int{1, 2, 3, 4})
	checkReadData(t, impl.KindLocal, vals[:8], tooFew[:8], nil)
	checkReadFind(t, impl.KindLocal, vals[:8], enough[:8], -1)
	checkReadFind(t, impl.KindLocal, vals, enough[:8], -2)
}
