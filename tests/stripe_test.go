package tests

import (
	"maps"
	"math"
	"slices"
	"sync"
	"testing"

	"loop.example/keelson/impl"
)

// stripeCase is a stripe with the data of each of its versions, so that what must be read of it is known beforehand.
type stripeCase struct {
	s    impl.Stripe
	data map[int][]int
}

// stripeCaseOf takes the version of each shard, with 0 for shards that are not available.
func stripeCaseOf(kind int, vers []int, data map[int][]int) stripeCase {
	s := impl.Stripe{Kind: kind, Vals: make([]int, 8), Vers: make([]int, 8), There: make([]bool, 8)}
	for at, v := range vers {
		if v != 0 {
			s = withShard(s, at, plainShards(kind, data[v])[at], v)
		}
	}
	return stripeCase{s, data}
}

// shardsOf are the available shards of a version.
func (c stripeCase) shardsOf(vers int) []int {
	var at []int
	for i, v := range c.s.Vers {
		if c.s.There[i] && v == vers {
			at = append(at, i)
		}
	}
	return at
}

// read is what StripeRead must return, without data if it must fail.
func (c stripeCase) read() ([]int, int) {
	for vers := 99; vers > 0; vers-- {
		if sufficientSets()[c.s.Kind][setOf(c.shardsOf(vers))] {
			return c.data[vers], vers
		}
	}
	return nil, 0
}

func (c stripeCase) top() int {
	return slices.Max(c.s.Vers)
}

// written is what StripeWrite must return, unless the highest version is VersMax.
func (c stripeCase) written(data []int, which []bool) stripeCase {
	more := stripeCase{cloneStripe(c.s), maps.Clone(c.data)}
	vers := c.top() + 1
	for at, n := range plainShards(c.s.Kind, data) {
		if which[at] {
			more.s.Vals[at], more.s.Vers[at], more.s.There[at] = n, vers, true
		}
	}
	more.data[vers] = data
	return more
}

// mended is what StripeMend must return.
func (c stripeCase) mended(at int) (stripeCase, bool) {
	data, vers := c.read()
	others := setOf(c.shardsOf(vers)) &^ (1 << at)
	if data == nil || !mendable()[[2]int{c.s.Kind, at}][others] {
		return c, false
	}
	return stripeCase{withShard(c.s, at, plainShards(c.s.Kind, data)[at], vers), c.data}, true
}

func (c stripeCase) lost(at int) stripeCase {
	return stripeCase{withoutShard(c.s, at), c.data}
}

// mendable tell, for a code and a shard, of each set of shards whether some plan makes the shard of it.
var mendable = sync.OnceValue(func() map[[2]int][]bool {
	sets := map[[2]int][]bool{}
	forEachLoss(func(kind int, lost int, there []bool, at []int) {
		key := [2]int{kind, lost}
		if sets[key] == nil {
			sets[key] = make([]bool, 256)
		}
		_, sets[key][setOf(at)] = wantedPlan(kind, lost, there)
	})
	return sets
})

func equalStripe(a impl.Stripe, b impl.Stripe) bool {
	return a.Kind == b.Kind && slices.Equal(a.Vals, b.Vals) && slices.Equal(a.Vers, b.Vers) && slices.Equal(a.There, b.There)
}

func cloneStripe(s impl.Stripe) impl.Stripe {
	return impl.Stripe{Kind: s.Kind, Vals: slices.Clone(s.Vals), Vers: slices.Clone(s.Vers), There: slices.Clone(s.There)}
}

func withShard(s impl.Stripe, at int, n int, vers int) impl.Stripe {
	s = cloneStripe(s)
	s.Vals[at], s.Vers[at], s.There[at] = n, vers, true
	return s
}

func withoutShard(s impl.Stripe, at int) impl.Stripe {
	s = cloneStripe(s)
	s.Vals[at], s.Vers[at], s.There[at] = 0, 0, false
	return s
}

// plainStripe is what StripeNew must return.
func plainStripe(kind int, data []int, vers int) impl.Stripe {
	return stripeCaseOf(kind, slices.Repeat([]int{vers}, 8), map[int][]int{vers: data}).s
}

// emptyStripe has no shard available.
func emptyStripe(kind int) impl.Stripe {
	return stripeCaseOf(kind, make([]int, 8), nil).s
}

// twoVersions gives each shard the first or the second of two versions, or none, as the digits of n tell.
func twoVersions(kind int, n int, pair [2]int, data [2][]int) stripeCase {
	vers := make([]int, 8)
	for at := range vers {
		if digit := n % 3; digit > 0 {
			vers[at] = pair[digit-1]
		}
		n /= 3
	}
	return stripeCaseOf(kind, vers, map[int][]int{pair[0]: data[0], pair[1]: data[1]})
}

// forEachTwoVersions visits both codes with every choice of no version, an older or a newer one for each shard. Every
// fourth of them has as its newer version VersMax, and some have the same data in both.
func forEachTwoVersions(visit func(c stripeCase)) {
	pairs := [][2]int{{1, 2}, {98, 99}, {7, 40}, {97, 98}}
	all := someVectors()
	for _, kind := range bothKinds() {
		for n := range 6561 {
			data := [2][]int{all[n%len(all)], all[(n*7+n/37)%len(all)]}
			visit(twoVersions(kind, n, pairs[n%4], data))
		}
	}
}

// forEachManyVersions visits stripes of up to eight versions.
func forEachManyVersions(visit func(c stripeCase)) {
	all := someVectors()
	n := 11
	next := func(below int) int {
		n = (n*1103 + 12345) % 65537
		return n % below
	}
	for i := range 4000 {
		data := map[int][]int{}
		var some []int
		for range 1 + i%8 {
			vers := 1 + next(99)
			some = append(some, vers)
			data[vers] = all[next(len(all))]
		}
		vers := make([]int, 8)
		for at := range vers {
			if next(7) > 0 {
				vers[at] = some[next(len(some))]
			}
		}
		visit(stripeCaseOf(1+i%2, vers, data))
	}
}

// forEachStripe visits stripes of no version, one, two and more.
func forEachStripe(visit func(c stripeCase)) {
	forEachTwoVersions(visit)
	forEachManyVersions(visit)
}

// fewStripes are some of forEachStripe, for tests that try much with each.
func fewStripes() []stripeCase {
	var list []stripeCase
	number := 0
	forEachStripe(func(c stripeCase) {
		if number%251 == 0 {
			list = append(list, c)
		}
		number++
	})
	for _, kind := range bothKinds() {
		list = append(list, stripeCase{emptyStripe(kind), map[int][]int{}})
		for _, vers := range []int{1, 98, 99} {
			data := []int{1, 2, 3, vers % 31}
			list = append(list, stripeCase{plainStripe(kind, data, vers), map[int][]int{vers: data}})
		}
	}
	return list
}

// notVersions are the integers beside the versions, others that a narrower integer type would wrap around, and the extremes.
func notVersions() []int {
	return []int{
		0, 100, -1, -99, 101, 127, 128, 255, 256, 1<<8 + 1, 1<<8 + 99, 1<<16 + 1, 1<<32 + 1, 1<<32 + 99,
		math.MaxInt, math.MinInt, math.MinInt + 1, math.MinInt + 99,
	}
}

// notStripes each have one flaw.
func notStripes() []impl.Stripe {
	zero := func(kind int) impl.Stripe { return plainStripe(kind, []int{0, 0, 0, 0}, 5) }
	list := []impl.Stripe{{}}
	for _, kind := range bothKinds() {
		list = append(list, impl.Stripe{Kind: kind})
		for _, bad := range notKinds() {
			for _, s := range []impl.Stripe{zero(kind), emptyStripe(kind), plainStripe(kind, []int{1, 2, 3, 4}, 1)} {
				s.Kind = bad
				list = append(list, s)
			}
		}
		for _, vals := range notValues() {
			s := zero(kind)
			s.Vals = vals
			list = append(list, s)
		}
		for _, there := range notFlags() {
			s, lost := zero(kind), emptyStripe(kind)
			s.There, lost.There = there, make([]bool, len(there))
			list = append(list, s, lost)
		}
		for _, count := range []int{0, 1, 4, 7, 9, 16, 1<<8 + 8} {
			s, lost := zero(kind), emptyStripe(kind)
			s.Vers, lost.Vers = slices.Repeat([]int{5}, count), make([]int, count)
			list = append(list, s, lost)
		}
		for at := range 8 {
			list = append(list, flawedShards(kind, at)...)
		}
	}
	return list
}

// flawedShards are stripes that are not valid because of one shard.
func flawedShards(kind int, at int) []impl.Stripe {
	var list []impl.Stripe
	add := func(s impl.Stripe, n int, vers int, there bool) {
		s = cloneStripe(s)
		s.Vals[at], s.Vers[at], s.There[at] = n, vers, there
		list = append(list, s)
	}
	data := []int{3, 0, 17, 30}
	was := plainShards(kind, data)[at]
	for _, s := range []impl.Stripe{plainStripe(kind, data, 4), emptyStripe(kind)} {
		for _, vers := range notVersions() {
			add(s, was, vers, true)
		}
		for _, n := range notElements() {
			add(s, n, 4, true)
			add(s, n, 0, false)
		}
		for n := 1; n < 31; n++ {
			add(s, n, 0, false)
			add(s, n, 4, false)
		}
		for _, vers := range []int{1, 3, 4, 5, 98, 99, 100, -1, 1 << 8, 1 << 32, math.MinInt} {
			add(s, 0, vers, false)
		}
	}
	// All other shards make it, so that it must not have any other value.
	for more := 1; more < 31; more++ {
		add(plainStripe(kind, data, 4), plainSum(was, more), 4, true)
	}
	return list
}

// newStripe is StripeNew of arguments that must be valid.
func newStripe(t *testing.T, kind int, data []int, vers int) impl.Stripe {
	t.Helper()
	s, ok := impl.StripeNew(kind, data, vers)
	if !ok {
		t.Fatalf("StripeNew(%d, %v, %d) fails", kind, data, vers)
	}
	return s
}

func checkStripe(t *testing.T, got impl.Stripe, want impl.Stripe, name string, arguments ...any) {
	t.Helper()
	if !equalStripe(got, want) {
		t.Errorf("%s%v = %v, want %v", name, arguments, got, want)
	}
}

func checkStripeOk(t *testing.T, s impl.Stripe, want bool) {
	t.Helper()
	if got := impl.StripeOk(s); got != want {
		t.Errorf("StripeOk(%v) = %v, want %v", s, got, want)
	}
}

func checkStripeTop(t *testing.T, s impl.Stripe, want int) {
	t.Helper()
	if got := impl.StripeTop(s); got != want {
		t.Errorf("StripeTop(%v) = %d, want %d", s, got, want)
	}
}

// checkStripeRead expects StripeRead to fail if want is nil.
func checkStripeRead(t *testing.T, s impl.Stripe, want []int, vers int) {
	t.Helper()
	got, v, ok := impl.StripeRead(s)
	if ok != (want != nil) || v != vers || !slices.Equal(got, want) {
		t.Errorf("StripeRead(%v) = %v, %d, %v, want %v, %d", s, got, v, ok, want, vers)
	}
}

// checkWhole expects a stripe to be valid, and its version and data to be those of the case.
func checkWhole(t *testing.T, c stripeCase) {
	t.Helper()
	data, vers := c.read()
	checkStripeOk(t, c.s, true)
	checkStripeTop(t, c.s, c.top())
	checkStripeRead(t, c.s, data, vers)
}

// checkStripeWrite returns the result that it expects.
func checkStripeWrite(t *testing.T, c stripeCase, data []int, which []bool) (stripeCase, bool) {
	t.Helper()
	want, wantOk := c, false
	if c.top() < 99 {
		want, wantOk = c.written(data, which), true
	}
	got, ok := impl.StripeWrite(c.s, data, which)
	if ok != wantOk || !equalStripe(got, want.s) {
		t.Errorf("StripeWrite(%v, %v, %v) = %v, %v, want %v, %v", c.s, data, which, got, ok, want.s, wantOk)
	}
	return want, wantOk
}

// checkStripeLose returns the result that it expects.
func checkStripeLose(t *testing.T, c stripeCase, at int) stripeCase {
	t.Helper()
	want := c.lost(at)
	checkStripe(t, impl.StripeLose(c.s, at), want.s, "StripeLose", c.s, at)
	return want
}

// checkStripeMend returns the result that it expects.
func checkStripeMend(t *testing.T, c stripeCase, at int) (stripeCase, bool) {
	t.Helper()
	want, wantOk := c.mended(at)
	got, ok := impl.StripeMend(c.s, at)
	if ok != wantOk || !equalStripe(got, want.s) {
		t.Errorf("StripeMend(%v, %d) = %v, %v, want %v, %v", c.s, at, got, ok, want.s, wantOk)
	}
	return want, wantOk
}

// checkNoStripe expects every function to take a stripe as invalid, whatever the other arguments are.
func checkNoStripe(t *testing.T, s impl.Stripe) {
	t.Helper()
	checkStripeOk(t, s, false)
	checkStripeTop(t, s, -1)
	checkStripeRead(t, s, nil, 0)
	for _, data := range [][]int{{1, 2, 3, 4}, {0, 0, 0, 0}, nil} {
		for _, which := range [][]bool{lossOf(), lossOf(0, 7), make([]bool, 8), nil} {
			checkWriteInvalid(t, s, data, which)
		}
	}
	for _, at := range []int{0, 3, 7, -1, 8} {
		checkShardInvalid(t, s, at)
	}
}

func checkWriteInvalid(t *testing.T, s impl.Stripe, data []int, which []bool) {
	t.Helper()
	if got, ok := impl.StripeWrite(s, data, which); ok || !equalStripe(got, impl.Stripe{}) {
		t.Errorf("StripeWrite(%v, %v, %v) = %v, %v, want the zero value, false", s, data, which, got, ok)
	}
}

// checkShardInvalid is for StripeLose and StripeMend, for which the same arguments are invalid.
func checkShardInvalid(t *testing.T, s impl.Stripe, at int) {
	t.Helper()
	checkStripe(t, impl.StripeLose(s, at), impl.Stripe{}, "StripeLose", s, at)
	if got, ok := impl.StripeMend(s, at); ok || !equalStripe(got, impl.Stripe{}) {
		t.Errorf("StripeMend(%v, %d) = %v, %v, want the zero value, false", s, at, got, ok)
	}
}

func TestStripeConstants(t *testing.T) {
	if impl.VersMax != 99 {
		t.Errorf("VersMax = %d, want 99", impl.VersMax)
	}
}

// Promise 58.
func TestStripeNewShards(t *testing.T) {
	check := func(kind int, data []int, vers int) {
		t.Helper()
		s := newStripe(t, kind, data, vers)
		want := impl.Stripe{Kind: kind, Vals: impl.CodeAll(kind, data), Vers: slices.Repeat([]int{vers}, 8), There: lossOf()}
		checkStripe(t, s, want, "StripeNew", kind, data, vers)
		checkStripe(t, s, plainStripe(kind, data, vers), "StripeNew", kind, data, vers)
		checkStripeOk(t, s, true)
		checkStripeTop(t, s, vers)
		checkStripeRead(t, s, data, vers)
	}
	for _, kind := range bothKinds() {
		for _, data := range someVectors() {
			for vers := 1; vers <= 99; vers++ {
				check(kind, data, vers)
			}
		}
		for n := range 31 {
			for at := range 4 {
				data := []int{30, 1, 17, 30}
				data[at] = n
				check(kind, data, 1+n)
			}
		}
	}
}

// Promise 58; stripes written out.
func TestStripeNewValues(t *testing.T) {
	yes := []bool{true, true, true, true, true, true, true, true}
	for _, c := range []struct {
		data []int
		vers int
		want impl.Stripe
	}{
		{[]int{1, 2, 3, 4}, 1, impl.Stripe{
			Kind: 1, Vals: []int{1, 2, 3, 4, 3, 7, 18, 18}, Vers: []int{1, 1, 1, 1, 1, 1, 1, 1}, There: yes}},
		{[]int{1, 2, 3, 4}, 99, impl.Stripe{
			Kind: 2, Vals: []int{10, 18, 18, 3, 28, 24, 15, 25}, Vers: []int{99, 99, 99, 99, 99, 99, 99, 99}, There: yes}},
		{[]int{0, 0, 0, 0}, 98, impl.Stripe{
			Kind: 1, Vals: []int{0, 0, 0, 0, 0, 0, 0, 0}, Vers: []int{98, 98, 98, 98, 98, 98, 98, 98}, There: yes}},
		{[]int{9, 0, 0, 0}, 2, impl.Stripe{
			Kind: 2, Vals: []int{9, 9, 9, 9, 9, 9, 9, 9}, Vers: []int{2, 2, 2, 2, 2, 2, 2, 2}, There: yes}},
	} {
		checkStripe(t, newStripe(t, c.want.Kind, c.data, c.vers), c.want, "StripeNew", c.want.Kind, c.data, c.vers)
	}
}

// Promise 58, invalid codes, data and versions.
func TestStripeNewInvalid(t *testing.T) {
	check := func(kind int, data []int, vers int) {
		t.Helper()
		if s, ok := impl.StripeNew(kind, data, vers); ok || !equalStripe(s, impl.Stripe{}) {
			t.Errorf("StripeNew(%d, %v, %d) = %v, %v, want the zero value, false", kind, data, vers, s, ok)
		}
	}
	for _, data := range someVectors() {
		for _, vers := range []int{1, 2, 98, 99} {
			for _, kind := range notKinds() {
				check(kind, data, vers)
			}
		}
		for _, vers := range notVersions() {
			for _, kind := range append(notKinds(), bothKinds()...) {
				check(kind, data, vers)
			}
		}
		for vers := -300; vers <= 1000; vers++ {
			if vers < 1 || vers > 99 {
				check(impl.KindLocal, data, vers)
			}
		}
	}
	for _, data := range notVectors() {
		for _, kind := range append(notKinds(), bothKinds()...) {
			check(kind, data, 1)
			check(kind, data, 99)
			check(kind, data, 0)
		}
	}
}

// Promises 59 and 60; every choice of two versions, and some of more.
func TestStripeReadEachStripe(t *testing.T) {
	forEachStripe(func(c stripeCase) { checkWhole(t, c) })
}

// Promises 59 and 60, as they are put.
func TestStripeReadData(t *testing.T) {
	forEachStripe(func(c stripeCase) {
		data, vers, ok := impl.StripeRead(c.s)
		for _, v := range c.s.Vers {
			if v > vers && impl.CodeBears(c.s.Kind, flagList(c.shardsOf(v))) {
				t.Errorf("StripeRead(%v) = %v, %d, %v, but version %d is sufficient", c.s, data, vers, ok, v)
			}
		}
		if !ok {
			return
		}
		there := flagList(c.shardsOf(vers))
		if !impl.CodeBears(c.s.Kind, there) {
			t.Errorf("StripeRead(%v) = %v, %d, which is not sufficient", c.s, data, vers)
		}
		checkReadData(t, c.s.Kind, c.s.Vals, there, data)
	})
}

// Promises 59 and 60; stripes written out, the highest version with enough shards and without.
func TestStripeReadValues(t *testing.T) {
	local, wide := []int{1, 2, 3, 4, 3, 7, 18, 18}, []int{10, 18, 18, 3, 28, 24, 15, 25}
	for _, c := range []struct {
		kind       int
		vals, vers []int
		want       []int
		read       int
	}{
		{impl.KindLocal, local, []int{3, 3, 3, 3, 3, 3, 3, 3}, []int{1, 2, 3, 4}, 3},
		{impl.KindLocal, make([]int, 8), make([]int, 8), nil, 0},
		{impl.KindWide, make([]int, 8), make([]int, 8), nil, 0},
		// Three shards of one write do not count.
		{impl.KindLocal, []int{9, 9, 3, 4, 18, 7, 18, 18}, []int{2, 2, 1, 1, 2, 1, 1, 1}, []int{1, 2, 3, 4}, 1},
		// Four of them do, unless three are of one group.
		{impl.KindLocal, []int{9, 9, 9, 9, 3, 7, 18, 18}, []int{2, 2, 2, 2, 1, 1, 1, 1}, []int{9, 9, 9, 9}, 2},
		{impl.KindLocal, []int{9, 9, 9, 4, 18, 7, 18, 18}, []int{2, 2, 2, 1, 2, 1, 1, 1}, []int{1, 2, 3, 4}, 1},
		{impl.KindLocal, []int{1, 2, 3, 4, 9, 9, 9, 9}, []int{2, 2, 2, 2, 1, 1, 1, 1}, []int{1, 2, 3, 4}, 2},
		// Neither group and none of the two versions is enough, though both together are.
		{impl.KindLocal, []int{1, 2, 9, 9, 3, 18, 0, 0}, []int{1, 1, 2, 2, 1, 2, 0, 0}, nil, 0},
		{impl.KindLocal, []int{1, 2, 3, 9, 0, 0, 0, 0}, []int{1, 1, 1, 2, 0, 0, 0, 0}, nil, 0},
		{impl.KindLocal, []int{5, 6, 7, 8, 9, 10, 11, 12}, []int{1, 2, 3, 4, 5, 6, 7, 8}, nil, 0},
		{impl.KindWide, wide, []int{99, 99, 99, 99, 99, 99, 99, 99}, []int{1, 2, 3, 4}, 99},
		{impl.KindWide, []int{9, 9, 9, 9, 28, 24, 15, 25}, []int{7, 7, 7, 7, 8, 8, 8, 8}, []int{1, 2, 3, 4}, 8},
		{impl.KindWide, []int{9, 9, 9, 9, 28, 24, 15, 25}, []int{8, 8, 8, 8, 7, 7, 7, 7}, []int{9, 0, 0, 0}, 8},
		{impl.KindWide, []int{9, 9, 9, 0, 28, 24, 15, 25}, []int{8, 8, 8, 0, 7, 7, 7, 7}, []int{1, 2, 3, 4}, 7},
		{impl.KindWide, []int{9, 9, 9, 0, 0, 24, 15, 25}, []int{8, 8, 8, 0, 0, 7, 7, 7}, nil, 0},
		{impl.KindWide, []int{9, 9, 9, 9, 1, 24, 15, 25}, []int{1, 1, 1, 1, 99, 98, 98, 98}, []int{9, 0, 0, 0}, 1},
	} {
		there := make([]bool, 8)
		for at, v := range c.vers {
			there[at] = v > 0
		}
		s := impl.Stripe{Kind: c.kind, Vals: c.vals, Vers: c.vers, There: there}
		checkStripeOk(t, s, true)
		checkStripeRead(t, s, c.want, c.read)
		checkStripeTop(t, s, slices.Max(c.vers))
	}
}

// Promises 59 and 60; two versions of four shards each, both of them sufficient, again and again: whichever of both a
// function looks at first, the newer one counts.
func TestStripeReadTwoSufficient(t *testing.T) {
	for i, four := range setsOf(4) {
		for n := range 20 {
			old := 1 + (i*20+n)%98
			newer := min(99, old+1+n%3)
			vers := slices.Repeat([]int{old}, 8)
			for _, at := range four {
				vers[at] = newer
			}
			data := map[int][]int{old: {n, 0, 30, i % 31}, newer: {n, 1, 30, i % 31}}
			checkStripeRead(t, stripeCaseOf(impl.KindWide, vers, data).s, data[newer], newer)
			checkWhole(t, stripeCaseOf(impl.KindLocal, vers, data))
		}
	}
}

// Promises 61 and 63; every flag list for some stripes, and some flag lists for every stripe.
func TestStripeWriteEachStripe(t *testing.T) {
	all := someVectors()
	for i, c := range fewStripes() {
		forEachFlags(func(which []bool, at []int) {
			more, ok := checkStripeWrite(t, c, all[(i+setOf(at))%len(all)], which)
			if ok {
				checkWhole(t, more)
			}
		})
	}
	number := 0
	forEachStripe(func(c stripeCase) {
		number++
		for _, set := range []int{0, 255, number % 256, (number * 37) % 256} {
			checkStripeWrite(t, c, all[number%len(all)], flagsOfSet(set))
		}
	})
}

// Promise 61, as it is put.
func TestStripeWriteShards(t *testing.T) {
	for i, c := range fewStripes() {
		data := someVectors()[i%37]
		forEachFlags(func(which []bool, _ []int) {
			s, ok := impl.StripeWrite(c.s, data, which)
			if ok != (impl.StripeTop(c.s) < 99) {
				t.Fatalf("StripeWrite(%v, %v, %v) = %v, %v", c.s, data, which, s, ok)
			}
			if !ok {
				checkStripe(t, s, c.s, "StripeWrite", c.s, data, which)
				return
			}
			for at := range 8 {
				want := withoutShard(c.s, at)
				if which[at] {
					want = withShard(want, at, impl.CodeAll(c.s.Kind, data)[at], impl.StripeTop(c.s)+1)
				} else {
					want = c.s
				}
				if s.Vals[at] != want.Vals[at] || s.Vers[at] != want.Vers[at] || s.There[at] != want.There[at] {
					t.Errorf("StripeWrite(%v, %v, %v) = %v, shard %d is wrong", c.s, data, which, s, at)
				}
			}
		})
	}
}

// Promise 62, as it is put.
func TestStripeWriteRead(t *testing.T) {
	for i, c := range fewStripes() {
		data := someVectors()[(3*i+1)%37]
		_, before, _ := impl.StripeRead(c.s)
		forEachFlags(func(which []bool, at []int) {
			s, ok := impl.StripeWrite(c.s, data, which)
			if !ok {
				return
			}
			if sufficientSets()[c.s.Kind][setOf(at)] {
				checkStripeRead(t, s, data, impl.StripeTop(c.s)+1)
				return
			}
			if _, after, _ := impl.StripeRead(s); after > before {
				t.Errorf("StripeWrite(%v, %v, %v) = %v, of version %d", c.s, data, which, s, after)
			}
		})
	}
}

// Promises 61 and 62; writes written out: to no shard, too few, enough, and all.
func TestStripeWriteValues(t *testing.T) {
	s := impl.Stripe{Kind: 1, Vals: []int{1, 2, 3, 4, 3, 0, 18, 18}, Vers: []int{4, 4, 4, 4, 4, 0, 4, 4}, There: lossOf(5)}
	nine := []int{9, 9, 9, 9}
	for _, c := range []struct {
		at         []int
		vals, vers []int
		read       []int
		version    int
	}{
		{nil, []int{1, 2, 3, 4, 3, 0, 18, 18}, []int{4, 4, 4, 4, 4, 0, 4, 4}, []int{1, 2, 3, 4}, 4},
		{[]int{5}, []int{1, 2, 3, 4, 3, 18, 18, 18}, []int{4, 4, 4, 4, 4, 5, 4, 4}, []int{1, 2, 3, 4}, 4},
		{[]int{0, 1, 4}, []int{9, 9, 3, 4, 18, 0, 18, 18}, []int{5, 5, 4, 4, 5, 0, 4, 4}, []int{1, 2, 3, 4}, 4},
		{[]int{0, 1, 2, 4}, []int{9, 9, 9, 4, 18, 0, 18, 18}, []int{5, 5, 5, 4, 5, 0, 4, 4}, nil, 0},
		{[]int{0, 1, 2, 3}, []int{9, 9, 9, 9, 3, 0, 18, 18}, []int{5, 5, 5, 5, 4, 0, 4, 4}, nine, 5},
		{[]int{0, 2, 6, 7}, []int{9, 2, 9, 4, 3, 0, 11, 19}, []int{5, 4, 5, 4, 4, 0, 5, 5}, nine, 5},
		{[]int{0, 1, 2, 3, 4, 5, 6, 7}, []int{9, 9, 9, 9, 18, 18, 11, 19}, []int{5, 5, 5, 5, 5, 5, 5, 5}, nine, 5},
	} {
		there := slices.Clone(s.There)
		there[5] = slices.Contains(c.at, 5)
		want := impl.Stripe{Kind: 1, Vals: c.vals, Vers: c.vers, There: there}
		got, ok := impl.StripeWrite(s, nine, flagList(c.at))
		if !ok || !equalStripe(got, want) {
			t.Errorf("StripeWrite(%v, %v, %v) = %v, %v, want %v", s, nine, c.at, got, ok, want)
		}
		checkStripeRead(t, got, c.read, c.version)
	}
}

// Promise 61; a stripe of version VersMax is left as it is, whatever would be written, and one below it is not.
func TestStripeWriteTop(t *testing.T) {
	for _, kind := range bothKinds() {
		last := stripeCase{plainStripe(kind, []int{1, 2, 3, 4}, 98), map[int][]int{98: {1, 2, 3, 4}}}
		more, ok := checkStripeWrite(t, last, []int{5, 6, 7, 8}, lossOf(0, 1, 2, 3, 4))
		if !ok || more.top() != 99 {
			t.Fatalf("StripeWrite(%v) = %v, %v", last.s, more.s, ok)
		}
		forEachFlags(func(which []bool, _ []int) {
			for _, c := range []stripeCase{more, {plainStripe(kind, []int{1, 2, 3, 4}, 99), nil}} {
				got, ok := impl.StripeWrite(c.s, []int{5, 6, 7, 8}, which)
				if ok || !equalStripe(got, c.s) {
					t.Errorf("StripeWrite(%v, .., %v) = %v, %v, want it unchanged, false", c.s, which, got, ok)
				}
			}
		})
		// Once its newest shards are lost, their version is free.
		for at := range 8 {
			more = checkStripeLose(t, more, at)
		}
		more, ok = checkStripeWrite(t, more, []int{5, 6, 7, 8}, lossOf())
		if !ok || more.top() != 1 {
			t.Errorf("a write to a stripe without shards has version %d, %v", more.top(), ok)
		}
	}
}

// Promises 61 and 62, invalid stripes, data and flags, which count before the version.
func TestStripeWriteInvalid(t *testing.T) {
	cases := fewStripes()
	for i, data := range notVectors() {
		for _, which := range [][]bool{lossOf(), make([]bool, 8), lossOf(0, 1, 2, 3), nil} {
			checkWriteInvalid(t, cases[i%len(cases)].s, data, which)
			checkWriteInvalid(t, plainStripe(1+i%2, []int{1, 2, 3, 4}, 99), data, which)
		}
	}
	for i, which := range notFlags() {
		for _, data := range someVectors() {
			checkWriteInvalid(t, cases[i%len(cases)].s, data, which)
			checkWriteInvalid(t, plainStripe(1+i%2, []int{1, 2, 3, 4}, 99), data, which)
		}
	}
}

// Promise 63, as it is put.
func TestStripeWriteAll(t *testing.T) {
	all := someVectors()
	number := 0
	forEachStripe(func(c stripeCase) {
		number++
		data, vers := all[number%len(all)], impl.StripeTop(c.s)+1
		if vers > 99 {
			return
		}
		s, ok := impl.StripeWrite(c.s, data, lossOf())
		want, _ := impl.StripeNew(c.s.Kind, data, vers)
		if !ok || !equalStripe(s, want) {
			t.Errorf("StripeWrite(%v, %v) of all shards = %v, %v, want %v", c.s, data, s, ok, want)
		}
	})
}

// Promise 64; each shard of every stripe.
func TestStripeLoseEachStripe(t *testing.T) {
	forEachStripe(func(c stripeCase) {
		_, before := c.read()
		for at := range 8 {
			less := checkStripeLose(t, c, at)
			checkStripe(t, impl.StripeLose(less.s, at), less.s, "StripeLose", less.s, at)
			if _, after, _ := impl.StripeRead(less.s); after > before {
				t.Errorf("without shard %d the version of %v is %d", at, c.s, after)
			}
		}
	})
}

// Promise 64; losses written out.
func TestStripeLoseValues(t *testing.T) {
	s := impl.Stripe{Kind: 1, Vals: []int{9, 9, 9, 9, 3, 0, 18, 18}, Vers: []int{5, 5, 5, 5, 4, 0, 4, 4}, There: lossOf(5)}
	want := impl.Stripe{Kind: 1, Vals: []int{9, 9, 0, 9, 3, 0, 18, 18}, Vers: []int{5, 5, 0, 5, 4, 0, 4, 4}, There: lossOf(2, 5)}
	checkStripe(t, impl.StripeLose(s, 2), want, "StripeLose", s, 2)
	checkStripe(t, impl.StripeLose(s, 5), s, "StripeLose", s, 5)
	checkStripe(t, impl.StripeLose(want, 2), want, "StripeLose", want, 2)
	want = impl.Stripe{Kind: 1, Vals: []int{9, 9, 9, 9, 3, 0, 18, 0}, Vers: []int{5, 5, 5, 5, 4, 0, 4, 0}, There: lossOf(5, 7)}
	checkStripe(t, impl.StripeLose(s, 7), want, "StripeLose", s, 7)
}

// Promises 64 and 66, invalid stripes and shards.
func TestStripeShardInvalid(t *testing.T) {
	for _, c := range fewStripes() {
		for _, at := range notShards() {
			checkShardInvalid(t, c.s, at)
		}
		for at := -300; at <= 300; at++ {
			if at < 0 || at > 7 {
				checkShardInvalid(t, c.s, at)
			}
		}
	}
}

// Promise 65; every set of lost shards, lost from the first on and from the last on.
func TestStripeLoseMost(t *testing.T) {
	for _, kind := range bothKinds() {
		most := impl.CodeMost(kind)
		for i, data := range someVectors() {
			vers := []int{1, 2, 50, 98, 99}[i%5]
			whole := newStripe(t, kind, data, vers)
			forEachFlags(func(there []bool, at []int) {
				var lost []int
				for shard, here := range there {
					if !here {
						lost = append(lost, shard)
					}
				}
				up, down := whole, whole
				for i, shard := range lost {
					up, down = impl.StripeLose(up, shard), impl.StripeLose(down, lost[len(lost)-1-i])
				}
				checkStripe(t, up, down, "without", lost)
				if len(lost) <= most {
					checkStripeRead(t, up, data, vers)
				}
				if sufficientSets()[kind][setOf(at)] {
					checkStripeRead(t, up, data, vers)
				} else {
					checkStripeRead(t, up, nil, 0)
				}
			})
		}
	}
}

// Promises 66 and 67; each shard of every stripe.
func TestStripeMendEachStripe(t *testing.T) {
	forEachStripe(func(c stripeCase) {
		for at := range 8 {
			checkStripeMend(t, c, at)
		}
	})
}

// Promises 66 and 67, as they are put.
func TestStripeMendRead(t *testing.T) {
	number := 0
	forEachStripe(func(c stripeCase) {
		number++
		at := number % 8
		data, vers, okRead := impl.StripeRead(c.s)
		s, ok := impl.StripeMend(c.s, at)
		other := !c.s.There[at] || c.s.Vers[at] != vers
		if ok && !okRead || okRead && other && !ok {
			t.Errorf("StripeMend(%v, %d) = %v, %v, StripeRead is %v", c.s, at, s, ok, okRead)
		}
		if !ok {
			checkStripe(t, s, c.s, "StripeMend", c.s, at)
			return
		}
		want := withShard(c.s, at, impl.CodeAll(c.s.Kind, data)[at], vers)
		checkStripe(t, s, want, "StripeMend", c.s, at)
		checkStripeRead(t, s, data, vers)
	})
}

// Promises 66 and 67; mends written out.
func TestStripeMendValues(t *testing.T) {
	for _, c := range []struct {
		kind       int
		vals, vers []int
		at, want   int
		version    int
	}{
		// Not available; the other shards of its group are, or are not.
		{1, []int{1, 2, 3, 4, 3, 7, 18, 0}, []int{3, 3, 3, 3, 3, 3, 3, 0}, 7, 18, 3},
		{1, []int{0, 2, 3, 4, 3, 7, 18, 18}, []int{0, 3, 3, 3, 3, 3, 3, 3}, 0, 1, 3},
		{1, []int{0, 2, 3, 4, 0, 0, 18, 0}, []int{0, 3, 3, 3, 0, 0, 3, 0}, 0, 1, 3},
		{1, []int{0, 2, 3, 4, 0, 0, 18, 0}, []int{0, 99, 99, 99, 0, 0, 99, 0}, 5, 7, 99},
		{2, []int{0, 0, 0, 0, 28, 24, 15, 25}, []int{0, 0, 0, 0, 1, 1, 1, 1}, 0, 10, 1},
		// Available in an older version, and in a newer one of too few shards.
		{1, []int{1, 2, 3, 4, 18, 7, 18, 18}, []int{5, 5, 5, 5, 4, 5, 5, 5}, 4, 3, 5},
		{1, []int{1, 2, 3, 4, 18, 7, 18, 18}, []int{5, 5, 5, 5, 6, 5, 5, 5}, 4, 3, 5},
		{1, []int{1, 9, 3, 4, 18, 7, 18, 18}, []int{5, 6, 5, 5, 6, 5, 5, 5}, 4, 3, 5},
		{1, []int{1, 9, 3, 4, 18, 7, 18, 18}, []int{5, 6, 5, 5, 6, 5, 5, 5}, 1, 2, 5},
		{2, []int{9, 9, 9, 9, 28, 24, 15, 25}, []int{7, 7, 7, 7, 8, 8, 8, 8}, 0, 10, 8},
		{2, []int{9, 9, 9, 9, 28, 24, 15, 25}, []int{8, 8, 8, 8, 7, 7, 7, 7}, 7, 9, 8},
		// Available in the version that is read, and made of others.
		{1, []int{1, 2, 3, 4, 3, 7, 18, 18}, []int{5, 5, 5, 5, 5, 5, 5, 5}, 2, 3, 5},
		{1, []int{1, 2, 3, 4, 3, 9, 9, 0}, []int{5, 5, 5, 5, 5, 4, 4, 0}, 4, 3, 5},
		{2, []int{10, 18, 18, 3, 28, 9, 9, 9}, []int{5, 5, 5, 5, 5, 4, 4, 4}, 4, 28, 5},
	} {
		s := impl.Stripe{Kind: c.kind, Vals: c.vals, Vers: c.vers, There: make([]bool, 8)}
		for at, v := range c.vers {
			s.There[at] = v > 0
		}
		want := withShard(s, c.at, c.want, c.version)
		got, ok := impl.StripeMend(s, c.at)
		if !ok || !equalStripe(got, want) {
			t.Errorf("StripeMend(%v, %d) = %v, %v, want %v", s, c.at, got, ok, want)
		}
	}
}

// Promise 67; mends that fail written out: nothing is read, or the others of its version do not make the shard.
func TestStripeMendFails(t *testing.T) {
	for _, c := range []struct {
		kind       int
		vals, vers []int
		at         []int
	}{
		{1, make([]int, 8), make([]int, 8), []int{0, 3, 4, 7}},
		{2, make([]int, 8), make([]int, 8), []int{0, 3, 4, 7}},
		// Two of a group make the third, but the stripe cannot be read.
		{1, []int{0, 2, 0, 0, 3, 0, 0, 0}, []int{0, 1, 0, 0, 1, 0, 0, 0}, []int{0, 1, 4, 7}},
		{1, []int{0, 2, 3, 4, 3, 7, 0, 0}, []int{0, 1, 2, 2, 1, 2, 0, 0}, []int{0, 1, 2, 5, 6}},
		{2, []int{9, 9, 9, 0, 28, 24, 15, 0}, []int{8, 8, 8, 0, 7, 7, 7, 0}, []int{0, 3, 4, 7}},
		// Each of four shards of the version that is read would need the other three and one more.
		{1, []int{1, 2, 3, 4, 0, 0, 0, 0}, []int{1, 1, 1, 1, 0, 0, 0, 0}, []int{0, 1, 2, 3}},
		{1, []int{9, 9, 9, 9, 3, 7, 18, 18}, []int{2, 2, 2, 2, 1, 1, 1, 1}, []int{0, 1, 2, 3}},
		{2, []int{9, 9, 9, 9, 28, 24, 15, 25}, []int{7, 7, 7, 7, 8, 8, 8, 8}, []int{4, 5, 6, 7}},
		// Of five shards, three are a group, and the other two are needed.
		{1, []int{1, 2, 0, 0, 3, 0, 18, 18}, []int{1, 1, 0, 0, 1, 0, 1, 1}, []int{6, 7}},
	} {
		s := impl.Stripe{Kind: c.kind, Vals: c.vals, Vers: c.vers, There: make([]bool, 8)}
		for at, v := range c.vers {
			s.There[at] = v > 0
		}
		for _, at := range c.at {
			if got, ok := impl.StripeMend(s, at); ok || !equalStripe(got, s) {
				t.Errorf("StripeMend(%v, %d) = %v, %v, want it unchanged, false", s, at, got, ok)
			}
		}
	}
}

// Promise 68; also without some of the other shards.
func TestStripeLoseMend(t *testing.T) {
	for _, kind := range bothKinds() {
		for i, data := range someVectors() {
			vers := []int{1, 99, 98, 40}[i%4]
			whole := newStripe(t, kind, data, vers)
			for at := range 8 {
				if s, ok := impl.StripeMend(impl.StripeLose(whole, at), at); !ok || !equalStripe(s, whole) {
					t.Errorf("%v without shard %d is mended as %v, %v", whole, at, s, ok)
				}
				if s, ok := impl.StripeMend(whole, at); !ok || !equalStripe(s, whole) {
					t.Errorf("StripeMend(%v, %d) = %v, %v", whole, at, s, ok)
				}
			}
		}
	}
}

// Promise 69; from the first shard on and from the last on.
func TestStripeMendAll(t *testing.T) {
	forEachStripe(func(c stripeCase) {
		data, vers, ok := impl.StripeRead(c.s)
		if !ok {
			return
		}
		want := newStripe(t, c.s.Kind, data, vers)
		for _, order := range [][]int{{0, 1, 2, 3, 4, 5, 6, 7}, {7, 6, 5, 4, 3, 2, 1, 0}} {
			s := c.s
			for _, at := range order {
				if c.s.There[at] && c.s.Vers[at] == vers {
					continue
				}
				more, ok := impl.StripeMend(s, at)
				if !ok {
					t.Fatalf("StripeMend(%v, %d) fails", s, at)
				}
				s = more
			}
			checkStripe(t, s, want, "mends of", c.s, order)
		}
	})
}

// Promise 70; every set of available shards of one version, with values that fit and values that do not, and all
// shards of two versions, one of these sets and all others.
func TestStripeOkFits(t *testing.T) {
	for _, kind := range bothKinds() {
		samples := samplesOf(kind)
		for i, one := range samples {
			other := samples[(i+1)%len(samples)]
			forEachFlags(func(there []bool, at []int) {
				alone, both := emptyStripe(kind), plainStripe(kind, []int{0, 0, 0, 0}, 3)
				both.Vals = slices.Clone(other.vals)
				var rest []int
				for shard, here := range there {
					if !here {
						rest = append(rest, shard)
						continue
					}
					alone = withShard(alone, shard, one.vals[shard], 99)
					both = withShard(both, shard, one.vals[shard], 2+i%2*2)
				}
				checkStripeOk(t, alone, one.fits(at))
				checkStripeOk(t, both, one.fits(at) && other.fits(rest))
			})
		}
	}
}

// Promise 70; one shard of a stripe changed by each amount is seen if the others of its version make it.
func TestStripeOkChanged(t *testing.T) {
	number := 0
	forEachStripe(func(c stripeCase) {
		number++
		for at, vers := range c.s.Vers {
			if vers == 0 || (number+at)%5 > 0 {
				continue
			}
			others := setOf(c.shardsOf(vers)) &^ (1 << at)
			s := withShard(c.s, at, plainSum(c.s.Vals[at], 1+number%30), vers)
			checkStripeOk(t, s, !mendable()[[2]int{s.Kind, at}][others])
		}
	})
}

// Promise 70, as it is put, for stripes that the functions themselves return.
func TestStripeOkAsPut(t *testing.T) {
	check := func(s impl.Stripe) {
		t.Helper()
		checkStripeOk(t, s, true)
		for _, vers := range s.Vers {
			there := make([]bool, 8)
			for at := range there {
				there[at] = s.There[at] && s.Vers[at] == vers
			}
			checkFits(t, s.Kind, s.Vals, there, true)
		}
		for at, here := range s.There {
			if !here && (s.Vals[at] != 0 || s.Vers[at] != 0) {
				t.Errorf("%v has something at shard %d, which is not available", s, at)
			}
		}
	}
	for i, c := range fewStripes() {
		for at := range 8 {
			check(impl.StripeLose(c.s, at))
			s, _ := impl.StripeMend(c.s, at)
			check(s)
			s, _ = impl.StripeWrite(c.s, someVectors()[i%37], lossOf(at, 7-at, i%8))
			check(s)
		}
	}
}

// Promise 70, and of all others what becomes of invalid stripes.
func TestStripeInvalid(t *testing.T) {
	for _, s := range notStripes() {
		checkNoStripe(t, s)
	}
}

// Promise 70; stripes written out: shards that fit or do not, in one version and in two, and flaws of one shard.
func TestStripeOkValues(t *testing.T) {
	for _, c := range []struct {
		vals, vers []int
		there      []bool
		want       bool
	}{
		{make([]int, 8), make([]int, 8), make([]bool, 8), true},
		{[]int{1, 2, 3, 4, 3, 7, 18, 18}, []int{1, 1, 1, 1, 1, 1, 1, 1}, lossOf(), true},
		{[]int{1, 2, 3, 4, 3, 7, 18, 18}, []int{1, 2, 3, 4, 5, 6, 98, 99}, lossOf(), true},
		{[]int{1, 2, 3, 4, 4, 7, 18, 18}, []int{1, 1, 1, 1, 1, 1, 1, 1}, lossOf(), false},
		{[]int{1, 2, 3, 4, 4, 7, 18, 18}, []int{1, 1, 1, 1, 2, 1, 1, 1}, lossOf(), true},
		{[]int{1, 2, 3, 4, 4, 7, 18, 18}, []int{1, 2, 1, 1, 1, 1, 1, 1}, lossOf(), false},
		{[]int{1, 2, 3, 4, 4, 7, 0, 0}, []int{1, 2, 1, 1, 1, 1, 0, 0}, lossOf(6, 7), true},
		{[]int{1, 2, 3, 4, 4, 7, 0, 0}, []int{2, 2, 1, 1, 2, 1, 0, 0}, lossOf(6, 7), false},
		{[]int{1, 2, 3, 4, 3, 8, 0, 0}, []int{2, 2, 1, 1, 2, 1, 0, 0}, lossOf(6, 7), false},
		{[]int{1, 2, 3, 4, 3, 7, 18, 18}, []int{1, 1, 1, 1, 1, 1, 1, 1}, lossOf(7), false},
		{[]int{1, 2, 3, 4, 3, 7, 18, 18}, []int{1, 1, 1, 1, 1, 1, 1, 0}, lossOf(7), false},
		{[]int{1, 2, 3, 4, 3, 7, 18, 0}, []int{1, 1, 1, 1, 1, 1, 1, 1}, lossOf(7), false},
		{[]int{1, 2, 3, 4, 3, 7, 18, 0}, []int{1, 1, 1, 1, 1, 1, 1, 0}, lossOf(7), true},
		{[]int{1, 2, 3, 4, 3, 7, 18, 18}, []int{1, 1, 1, 1, 1, 1, 1, 0}, lossOf(), false},
		{[]int{1, 2, 3, 4, 3, 7, 18, 18}, []int{1, 1, 1, 1, 1, 1, 1, 100}, lossOf(), false},
	} {
		checkStripeOk(t, impl.Stripe{Kind: impl.KindLocal, Vals: c.vals, Vers: c.vers, There: c.there}, c.want)
	}
}

// Promise 71; every set of shards of the first write, to new stripes, stripes of two versions, and none.
func TestStripeWriteTwice(t *testing.T) {
	all := someVectors()
	for i, c := range fewStripes() {
		top := impl.StripeTop(c.s)
		if top > 97 {
			continue
		}
		forEachFlags(func(which []bool, at []int) {
			one, other := all[(i+len(at))%37], all[(2*i+5)%37]
			s, ok := impl.StripeWrite(c.s, one, which)
			vers := impl.StripeTop(s) + 1
			if !ok || vers > top+2 {
				t.Fatalf("StripeWrite(%v, %v, %v) = %v, %v", c.s, one, which, s, ok)
			}
			s, ok = impl.StripeWrite(s, other, lossOf())
			if !ok {
				t.Fatalf("StripeWrite(%v, %v) of all shards fails", s, other)
			}
			checkStripeRead(t, s, other, vers)
		})
	}
}

// Promises 59 to 71; long sequences of writes, losses and mends, with the version up to VersMax.
func TestStripeSequences(t *testing.T) {
	all := someVectors()
	for i := range 60 {
		n := 17 + 1000*i
		next := func(below int) int {
			n = (n*1103 + 12345) % 65537
			return n / 7 % below
		}
		vers, data := 1+i%99, all[next(len(all))]
		c := stripeCase{newStripe(t, 1+i%2, data, vers), map[int][]int{vers: data}}
		for range 150 {
			switch next(6) {
			case 0, 1:
				which := make([]bool, 8)
				for at := range which {
					which[at] = next(3) > 0
				}
				c, _ = checkStripeWrite(t, c, all[next(len(all))], which)
			case 2, 3:
				c = checkStripeLose(t, c, next(8))
			default:
				c, _ = checkStripeMend(t, c, next(8))
			}
			checkWhole(t, c)
		}
	}
}

// roomyStripe is a copy of a stripe with spare capacity, to tempt an implementation that appends.
func roomyStripe(s impl.Stripe) impl.Stripe {
	return impl.Stripe{
		Kind:  s.Kind,
		Vals:  append(make([]int, 0, 20), s.Vals...),
		Vers:  append(make([]int, 0, 20), s.Vers...),
		There: append(make([]bool, 0, 20), s.There...),
	}
}

// wholeStripe is a copy of a stripe with what is in the capacity of its slices.
func wholeStripe(s impl.Stripe) impl.Stripe {
	s.Vals, s.Vers, s.There = s.Vals[:cap(s.Vals)], s.Vers[:cap(s.Vers)], s.There[:cap(s.There)]
	return cloneStripe(s)
}

// spoilFlags overwrites a flag list up to its capacity, so that whatever shares its memory changes.
func spoilFlags(there []bool) {
	there = there[:cap(there)]
	for at := range there {
		there[at] = !there[at]
	}
}

// checkStripeApart expects a call to leave a stripe, data and flags as they are, capacity included, and its result to
// share no memory with them, nor with the result of the same call made again, nor one slice of it with another.
func checkStripeApart(t *testing.T, name string, c impl.Stripe, call func(s impl.Stripe, data []int, which []bool) impl.Stripe) {
	t.Helper()
	s, data, which := roomyStripe(c), append(make([]int, 0, 20), 9, 8, 7, 6), append(make([]bool, 0, 20), lossOf(1, 5)...)
	wasS, wasData, wasWhich := wholeStripe(s), slices.Clone(data[:20]), slices.Clone(which[:20])
	unchanged := func() bool {
		return equalStripe(wholeStripe(s), wasS) && slices.Equal(data[:20], wasData) && slices.Equal(which[:20], wasWhich)
	}
	first, again := call(s, data, which), call(s, data, which)
	want := cloneStripe(again)
	if !unchanged() {
		t.Errorf("%s of %v changes its arguments", name, c)
	}
	spoil(first.Vals)
	if !slices.Equal(first.Vers, want.Vers) || !slices.Equal(first.There, want.There) {
		t.Errorf("slices of one result of %s of %v share memory", name, c)
	}
	vals := slices.Clone(first.Vals[:cap(first.Vals)])
	spoil(first.Vers)
	spoilFlags(first.There)
	if !slices.Equal(first.Vals[:cap(first.Vals)], vals) {
		t.Errorf("slices of one result of %s of %v share memory", name, c)
	}
	if !unchanged() {
		t.Errorf("%s of %v shares memory with its arguments", name, c)
	}
	if !equalStripe(again, want) {
		t.Errorf("two results of %s of %v share memory", name, c)
	}
	spoil(s.Vals)
	spoil(s.Vers)
	spoilFlags(s.There)
	spoil(data)
	spoilFlags(which)
	if !equalStripe(again, want) {
		t.Errorf("the result of %s of %v changes with its arguments", name, c)
	}
}

// Promises 58 to 71, memory; also where a stripe is returned as it was, because a write or a mend fails, a write has no
// shard, or a shard was not available.
func TestStripeResultsApart(t *testing.T) {
	var list []impl.Stripe
	for _, c := range fewStripes() {
		list = append(list, c.s)
	}
	for _, s := range append(list, impl.Stripe{}, impl.Stripe{Kind: 3, Vals: make([]int, 8), Vers: make([]int, 8), There: lossOf()}) {
		checkStripeApart(t, "StripeNew", s, func(s impl.Stripe, data []int, _ []bool) impl.Stripe {
			s, _ = impl.StripeNew(s.Kind, data, 7)
			return s
		})
		checkStripeApart(t, "StripeWrite", s, func(s impl.Stripe, data []int, which []bool) impl.Stripe {
			s, _ = impl.StripeWrite(s, data, which)
			return s
		})
		checkStripeApart(t, "StripeWrite of no shard", s, func(s impl.Stripe, data []int, _ []bool) impl.Stripe {
			s, _ = impl.StripeWrite(s, data, make([]bool, 8))
			return s
		})
		checkStripeApart(t, "StripeWrite of nothing", s, func(s impl.Stripe, _ []int, which []bool) impl.Stripe {
			s, _ = impl.StripeWrite(s, nil, which)
			return s
		})
		for at := -1; at <= 8; at++ {
			checkStripeApart(t, "StripeLose", s, func(s impl.Stripe, _ []int, _ []bool) impl.Stripe {
				return impl.StripeLose(s, at)
			})
			checkStripeApart(t, "StripeMend", s, func(s impl.Stripe, _ []int, _ []bool) impl.Stripe {
				s, _ = impl.StripeMend(s, at)
				return s
			})
		}
	}
}

// Promises 58 and 59, memory of the data.
func TestStripeDataApart(t *testing.T) {
	for _, c := range fewStripes() {
		s := roomyStripe(c.s)
		was := wholeStripe(s)
		first, vers, _ := impl.StripeRead(s)
		again, _, _ := impl.StripeRead(s)
		spoil(first)
		impl.StripeOk(s)
		impl.StripeTop(s)
		if !equalStripe(wholeStripe(s), was) {
			t.Errorf("the data of %v share its memory, or it is changed", c.s)
		}
		spoil(s.Vals)
		spoil(s.Vers)
		spoilFlags(s.There)
		if want, wantVers := c.read(); !slices.Equal(again, want) || vers != wantVers {
			t.Errorf("the data %v of %v share memory", again, c.s)
		}
	}
}

// Promises 58 to 71; no function changes its arguments, valid or not, up to their capacity.
func TestStripeArgumentsUnchanged(t *testing.T) {
	vectors, flagLists := append(notVectors(), someVectors()...), append(notFlags(), lossOf(), lossOf(2, 3))
	for i, c := range notStripes() {
		s := roomyStripe(c)
		data := append(make([]int, 0, 300), vectors[i%len(vectors)]...)
		which := append(make([]bool, 0, 300), flagLists[i%len(flagLists)]...)
		wasS, wasData, wasWhich := wholeStripe(s), slices.Clone(data[:300]), slices.Clone(which[:300])
		impl.StripeNew(s.Kind, data, i)
		impl.StripeOk(s)
		impl.StripeTop(s)
		impl.StripeRead(s)
		impl.StripeWrite(s, data, which)
		impl.StripeLose(s, i%9)
		impl.StripeMend(s, i%9)
		if !equalStripe(wholeStripe(s), wasS) || !slices.Equal(data[:300], wasData) || !slices.Equal(which[:300], wasWhich) {
			t.Fatalf("the stripe %v, %v or %v is changed", c, data, which)
		}
	}
}

// Promises 58 to 71; the slices of a stripe may share memory with each other and with the data, and their capacity
// does not count.
func TestStripeSharedArguments(t *testing.T) {
	fives := slices.Repeat([]int{5}, 12)
	yes := slices.Repeat([]bool{true}, 12)
	// All values are 5, as in the shards of [5 0 0 0] with KindWide, and so are all versions.
	s := impl.Stripe{Kind: impl.KindWide, Vals: fives[:8], Vers: fives[:8], There: yes[:8]}
	checkStripeOk(t, s, true)
	checkStripeTop(t, s, 5)
	checkStripeRead(t, s, []int{5, 0, 0, 0}, 5)
	checkStripe(t, impl.StripeLose(s, 3), withoutShard(s, 3), "StripeLose", s, 3)
	got, ok := impl.StripeMend(impl.StripeLose(s, 3), 3)
	if !ok || !equalStripe(got, s) {
		t.Errorf("StripeMend = %v, %v, want %v", got, ok, s)
	}
	got, ok = impl.StripeWrite(s, fives[:4], s.There)
	if want := plainStripe(impl.KindWide, []int{5, 5, 5, 5}, 6); !ok || !equalStripe(got, want) {
		t.Errorf("StripeWrite = %v, %v, want %v", got, ok, want)
	}
	got, ok = impl.StripeWrite(s, fives[4:8], s.There)
	if want := plainStripe(impl.KindWide, []int{5, 5, 5, 5}, 6); !ok || !equalStripe(got, want) {
		t.Errorf("StripeWrite = %v, %v, want %v", got, ok, want)
	}
	for _, count := range []int{7, 9, 12} {
		checkNoStripe(t, impl.Stripe{Kind: impl.KindWide, Vals: fives[:count], Vers: fives[:8], There: yes[:8]})
		checkNoStripe(t, impl.Stripe{Kind: impl.KindWide, Vals: fives[:8], Vers: fives[:count], There: yes[:8]})
		checkNoStripe(t, impl.Stripe{Kind: impl.KindWide, Vals: fives[:8], Vers: fives[:8], There: yes[:count]})
		checkNoStripe(t, impl.Stripe{Kind: impl.KindWide, Vals: fives[:count], Vers: fives[:count], There: yes[:count]})
	}
	if !slices.Equal(fives, slices.Repeat([]int{5}, 12)) || slices.Contains(yes, false) {
		t.Error("arguments are changed")
	}
}
