package tests

import (
	"math"
	"slices"
	"sync"
	"testing"

	"loop.example/keelson/impl"
)

// What is known of each shard of a keepCase.
const (
	shardLost = iota
	shardElder
	shardWritten
)

// keepCase is a Keep by what is known of it, so that what must become of it is known beforehand. Without an intent next,
// data and vers do not count.
type keepCase struct {
	kind   int
	elder  []int
	old    int
	shards [8]int
	on     bool
	next   int
	data   []int
	vers   int
}

// wholeCase is what KeepNew must return, but in any version.
func wholeCase(kind int, data []int, vers int) keepCase {
	return keepCase{kind: kind, elder: data, old: vers, shards: [8]int(slices.Repeat([]int{shardElder}, 8))}
}

// shardsIn are the shards that are lost, elder or written.
func (c keepCase) shardsIn(state int) []int {
	var at []int
	for i, s := range c.shards {
		if s == state {
			at = append(at, i)
		}
	}
	return at
}

// sufficient says whether the elder shards are.
func (c keepCase) sufficient() bool {
	return sufficientSets()[c.kind][setOf(c.shardsIn(shardElder))]
}

func (c keepCase) keep() impl.Keep {
	s := impl.Stripe{Kind: c.kind, Vals: make([]int, 8), Vers: make([]int, 8), There: make([]bool, 8)}
	put := func(kind int, data []int, vers int, shards []int) {
		rows := plainRows(kind)
		for _, at := range shards {
			s.Vals[at], s.Vers[at], s.There[at] = plainVecDot(rows[at], data), vers, true
		}
	}
	put(c.kind, c.elder, c.old, c.shardsIn(shardElder))
	if !c.on {
		return impl.Keep{Stripe: s}
	}
	put(c.next, c.data, c.vers, c.shardsIn(shardWritten))
	return impl.Keep{Stripe: s, On: true, Kind: c.next, Data: slices.Clone(c.data), Vers: c.vers}
}

// read is what KeepRead must return.
func (c keepCase) read() []int {
	if c.on {
		return c.data
	}
	return c.elder
}

// begun is what KeepBegin must return, written what KeepShard must, and so on.
func (c keepCase) begun(kind int, data []int) (keepCase, bool) {
	if c.on || c.old == 99 {
		return c, false
	}
	c.on, c.next, c.data, c.vers = true, kind, data, c.old+1
	return c, true
}

func (c keepCase) written(at int) (keepCase, bool) {
	if c.on {
		c.shards[at] = shardWritten
	}
	return c, c.on
}

func (c keepCase) ended() (keepCase, bool) {
	if !c.on || len(c.shardsIn(shardWritten)) < 8 {
		return c, false
	}
	return c.redone(), true
}

func (c keepCase) redone() keepCase {
	if !c.on {
		return c
	}
	return wholeCase(c.next, c.data, c.vers)
}

func (c keepCase) lost(at int) keepCase {
	less := c
	less.shards[at] = shardLost
	if !c.on && !less.sufficient() {
		return c
	}
	return less
}

func (c keepCase) mended(at int) (keepCase, bool) {
	if c.on {
		return c.written(at)
	}
	c.shards[at] = shardLost
	ok := c.sufficient()
	// What could not be mended is there, because all shards are sufficient.
	c.shards[at] = shardElder
	return c, ok
}

// forEachRest visits keeps without an intent: both codes, with each sufficient set of shards.
func forEachRest(visit func(c keepCase)) {
	all, versions := someVectors(), []int{1, 2, 50, 97, 98, 99}
	for _, kind := range bothKinds() {
		forEachFlags(func(_ []bool, at []int) {
			set := setOf(at)
			if !sufficientSets()[kind][set] {
				return
			}
			c := keepCase{kind: kind, elder: all[(set+kind)%len(all)], old: versions[set%len(versions)]}
			for _, i := range at {
				c.shards[i] = shardElder
			}
			visit(c)
		})
	}
}

// forEachIntent visits keeps with an intent: both codes for the stripe and for the intent, with every choice of lost,
// elder or written for each shard. Some have the same data in both, and in some the versions are not next to each other.
func forEachIntent(visit func(c keepCase)) {
	all, pairs := someVectors(), [][2]int{{1, 2}, {98, 99}, {7, 8}, {3, 40}, {97, 98}, {1, 99}, {98, 99}}
	for _, kind := range bothKinds() {
		for _, next := range bothKinds() {
			for n := range 6561 {
				pair := pairs[n%len(pairs)]
				c := keepCase{kind: kind, elder: all[n%37], old: pair[0], on: true, next: next, data: all[(n*5+n/37)%37], vers: pair[1]}
				for at, digits := 0, n; at < 8; at, digits = at+1, digits/3 {
					c.shards[at] = digits % 3
				}
				visit(c)
			}
		}
	}
}

func forEachKeep(visit func(c keepCase)) {
	forEachRest(visit)
	forEachIntent(visit)
}

// fewKeeps are some of forEachKeep, for tests that try much with each.
func fewKeeps() []keepCase {
	var list []keepCase
	number := 0
	forEachKeep(func(c keepCase) {
		if number%383 == 0 {
			list = append(list, c)
		}
		number++
	})
	for i, kind := range bothKinds() {
		for _, vers := range []int{1, 98, 99} {
			list = append(list, wholeCase(kind, []int{1, 2, 3, vers % 31}, vers))
		}
		for _, next := range bothKinds() {
			c, _ := wholeCase(kind, []int{4, 3, 2, i}, 98).begun(next, []int{0, 30, 7, 1})
			list = append(list, c)
			for at := range 8 {
				c, _ = c.written(at)
			}
			list = append(list, c)
			for at := range 8 {
				c = c.lost(at)
			}
			list = append(list, c)
		}
	}
	return list
}

// intentsOf are intents of both codes on a whole stripe of this code, of which no shard is written.
func intentsOf(kind int) []keepCase {
	var list []keepCase
	for _, next := range bothKinds() {
		c, _ := wholeCase(kind, []int{1, 2, 3, 4}, 4).begun(next, []int{5, 6, 7, 8})
		list = append(list, c)
	}
	return list
}

func equalKeep(a impl.Keep, b impl.Keep) bool {
	return equalStripe(a.Stripe, b.Stripe) && a.On == b.On &&
		a.Kind == b.Kind && slices.Equal(a.Data, b.Data) && a.Vers == b.Vers
}

func cloneKeep(k impl.Keep) impl.Keep {
	return impl.Keep{Stripe: cloneStripe(k.Stripe), On: k.On, Kind: k.Kind, Data: slices.Clone(k.Data), Vers: k.Vers}
}

// plainKeepOk goes through the document's conditions one by one.
func plainKeepOk(k impl.Keep) bool {
	s := k.Stripe
	if !slices.Contains(bothKinds(), s.Kind) || len(s.Vals) != 8 || len(s.Vers) != 8 || len(s.There) != 8 {
		return false
	}
	if k.On && (!slices.Contains(bothKinds(), k.Kind) || !plainElements(k.Data, 4) || k.Vers < 1 || k.Vers > 99) {
		return false
	}
	if !k.On && (k.Kind != 0 || len(k.Data) > 0 || k.Vers != 0) {
		return false
	}
	var rest []int
	for at, there := range s.There {
		switch {
		case !there:
			if s.Vals[at] != 0 || s.Vers[at] != 0 {
				return false
			}
		case k.On && s.Vers[at] == k.Vers:
			if s.Vals[at] != plainShards(k.Kind, k.Data)[at] {
				return false
			}
		default:
			rest = append(rest, at)
		}
	}
	for _, at := range rest {
		if vers := s.Vers[at]; vers < 1 || vers > 99 || vers != s.Vers[rest[0]] || k.On && vers > k.Vers {
			return false
		}
	}
	return plainRestFits(s, rest) && (k.On || sufficientSets()[s.Kind][setOf(rest)])
}

func plainElements(list []int, count int) bool {
	return len(list) == count && !slices.ContainsFunc(list, func(n int) bool { return n < 0 || n > 30 })
}

// plainRestFits looks of each shard whether those before it make it, by plans that are found without row reduction.
func plainRestFits(s impl.Stripe, rest []int) bool {
	if !plainElements(pickInts(s.Vals, rest), len(rest)) {
		return false
	}
	for i, at := range rest {
		p, ok := firstPlans()[[2]int{s.Kind, at}][setOf(rest[:i])]
		if ok && plainCombined(s.Vals, p) != s.Vals[at] {
			return false
		}
	}
	return true
}

func plainCombined(vals []int, p impl.Plan) int {
	n := 0
	for i, at := range p.From {
		n = plainSum(n, plainMul(vals[at], p.By[i]))
	}
	return n
}

// firstPlans are, for a code and a shard, the plans that make the shard of each set of shards of which one does.
var firstPlans = sync.OnceValue(func() map[[2]int]map[int]impl.Plan {
	plans := map[[2]int]map[int]impl.Plan{}
	forEachLoss(func(kind int, lost int, _ []bool, others []int) {
		key := [2]int{kind, lost}
		if plans[key] == nil {
			plans[key] = map[int]impl.Plan{}
		}
		if p, ok := wantedPlan(kind, lost, flagList(others)); ok {
			plans[key][setOf(others)] = p
		}
	})
	return plans
})

func checkKeep(t *testing.T, got impl.Keep, want impl.Keep, name string, arguments ...any) {
	t.Helper()
	if !equalKeep(got, want) {
		t.Errorf("%s%v = %v, want %v", name, arguments, got, want)
	}
}

// keepDone is what an operation of a case must return.
type keepDone struct {
	c  keepCase
	ok bool
}

func keepDoneOf(c keepCase, ok bool) keepDone {
	return keepDone{c, ok}
}

// check returns what it expects, so that a test can go on with it.
func (d keepDone) check(t *testing.T, got impl.Keep, ok bool, name string, arguments ...any) (keepCase, bool) {
	t.Helper()
	if want := d.c.keep(); ok != d.ok || !equalKeep(got, want) {
		t.Errorf("%s%v = %v, %v, want %v, %v", name, arguments, got, ok, want, d.ok)
	}
	return d.c, d.ok
}

func checkKeepOk(t *testing.T, k impl.Keep, want bool) {
	t.Helper()
	if got := impl.KeepOk(k); got != want {
		t.Errorf("KeepOk(%v) = %v, want %v", k, got, want)
	}
}

// checkKeepRead expects KeepRead to fail if want is nil.
func checkKeepRead(t *testing.T, k impl.Keep, want []int) {
	t.Helper()
	got, ok := impl.KeepRead(k)
	if ok != (want != nil) || !slices.Equal(got, want) {
		t.Errorf("KeepRead(%v) = %v, %v, want %v", k, got, ok, want)
	}
}

// checkStored expects a keep to be valid, and to be read as that of the case.
func checkStored(t *testing.T, c keepCase) {
	t.Helper()
	k := c.keep()
	checkKeepOk(t, k, true)
	checkKeepRead(t, k, c.read())
}

// checkKeepBegin and those below it return the results that they expect.
func checkKeepBegin(t *testing.T, c keepCase, kind int, data []int) (keepCase, bool) {
	t.Helper()
	k := c.keep()
	got, ok := impl.KeepBegin(k, kind, data)
	return keepDoneOf(c.begun(kind, data)).check(t, got, ok, "KeepBegin", k, kind, data)
}

func checkKeepShard(t *testing.T, c keepCase, at int) (keepCase, bool) {
	t.Helper()
	k := c.keep()
	got, ok := impl.KeepShard(k, at)
	return keepDoneOf(c.written(at)).check(t, got, ok, "KeepShard", k, at)
}

func checkKeepEnd(t *testing.T, c keepCase) (keepCase, bool) {
	t.Helper()
	k := c.keep()
	got, ok := impl.KeepEnd(k)
	return keepDoneOf(c.ended()).check(t, got, ok, "KeepEnd", k)
}

func checkKeepRedo(t *testing.T, c keepCase) keepCase {
	t.Helper()
	k, want := c.keep(), c.redone()
	checkKeep(t, impl.KeepRedo(k), want.keep(), "KeepRedo", k)
	return want
}

func checkKeepLose(t *testing.T, c keepCase, at int) keepCase {
	t.Helper()
	k, want := c.keep(), c.lost(at)
	checkKeep(t, impl.KeepLose(k, at), want.keep(), "KeepLose", k, at)
	return want
}

func checkKeepMend(t *testing.T, c keepCase, at int) (keepCase, bool) {
	t.Helper()
	k := c.keep()
	got, ok := impl.KeepMend(k, at)
	return keepDoneOf(c.mended(at)).check(t, got, ok, "KeepMend", k, at)
}

func checkBeginInvalid(t *testing.T, k impl.Keep, kind int, data []int) {
	t.Helper()
	if got, ok := impl.KeepBegin(k, kind, data); ok || !equalKeep(got, impl.Keep{}) {
		t.Errorf("KeepBegin(%v, %d, %v) = %v, %v, want the zero value, false", k, kind, data, got, ok)
	}
}

// checkAtInvalid is for KeepShard, KeepLose and KeepMend, for which the same arguments are invalid.
func checkAtInvalid(t *testing.T, k impl.Keep, at int) {
	t.Helper()
	if got, ok := impl.KeepShard(k, at); ok || !equalKeep(got, impl.Keep{}) {
		t.Errorf("KeepShard(%v, %d) = %v, %v, want the zero value, false", k, at, got, ok)
	}
	checkKeep(t, impl.KeepLose(k, at), impl.Keep{}, "KeepLose", k, at)
	if got, ok := impl.KeepMend(k, at); ok || !equalKeep(got, impl.Keep{}) {
		t.Errorf("KeepMend(%v, %d) = %v, %v, want the zero value, false", k, at, got, ok)
	}
}

// checkNoKeep expects every function to take a keep as invalid, whatever the other arguments are.
func checkNoKeep(t *testing.T, k impl.Keep) {
	t.Helper()
	checkKeepOk(t, k, false)
	checkKeepRead(t, k, nil)
	checkBeginInvalid(t, k, impl.KindLocal, []int{1, 2, 3, 4})
	checkBeginInvalid(t, k, impl.KindWide, []int{0, 0, 0, 0})
	checkBeginInvalid(t, k, 0, nil)
	for _, at := range []int{0, 5, 7, -1, 8} {
		checkAtInvalid(t, k, at)
	}
	if got, ok := impl.KeepEnd(k); ok || !equalKeep(got, impl.Keep{}) {
		t.Errorf("KeepEnd(%v) = %v, %v, want the zero value, false", k, got, ok)
	}
	checkKeep(t, impl.KeepRedo(k), impl.Keep{}, "KeepRedo", k)
}

// checkKeepExactly expects a keep to be valid just if the conditions hold, and no function to take it if they do not.
func checkKeepExactly(t *testing.T, k impl.Keep) {
	t.Helper()
	if plainKeepOk(k) {
		checkKeepOk(t, k, true)
		return
	}
	checkNoKeep(t, k)
}

// Promise 79.
func TestKeepNewStripe(t *testing.T) {
	check := func(kind int, data []int) {
		t.Helper()
		k, ok := impl.KeepNew(kind, data)
		if want := (impl.Keep{Stripe: newStripe(t, kind, data, 1)}); !ok || !equalKeep(k, want) {
			t.Errorf("KeepNew(%d, %v) = %v, %v, want %v", kind, data, k, ok, want)
		}
		checkKeep(t, k, wholeCase(kind, data, 1).keep(), "KeepNew", kind, data)
		checkKeepOk(t, k, true)
		checkKeepRead(t, k, data)
	}
	for _, kind := range bothKinds() {
		for _, data := range someVectors() {
			check(kind, data)
		}
		for n := range 31 {
			for at := range 4 {
				data := []int{30, 1, 17, 30}
				data[at] = n
				check(kind, data)
			}
		}
	}
}

// Promise 79, invalid codes and data.
func TestKeepNewInvalid(t *testing.T) {
	check := func(kind int, data []int) {
		t.Helper()
		if k, ok := impl.KeepNew(kind, data); ok || !equalKeep(k, impl.Keep{}) {
			t.Errorf("KeepNew(%d, %v) = %v, %v, want the zero value, false", kind, data, k, ok)
		}
	}
	for _, kind := range notKinds() {
		for _, data := range someVectors() {
			check(kind, data)
		}
	}
	for _, data := range notVectors() {
		for _, kind := range append(notKinds(), bothKinds()...) {
			check(kind, data)
		}
	}
}

// writtenOut is the stripe of [1 2 3 4] in version 1, while [9 9 9 9] is being written over it in the other code.
func writtenOut(vals []int, vers []int) impl.Keep {
	there := make([]bool, 8)
	for at, v := range vers {
		there[at] = v > 0
	}
	return impl.Keep{
		Stripe: impl.Stripe{Kind: impl.KindLocal, Vals: vals, Vers: vers, There: there},
		On:     true, Kind: impl.KindWide, Data: []int{9, 9, 9, 9}, Vers: 2,
	}
}

// Promises 79 to 84 and 86 to 88; a write written out, with losses, from its beginning to its end.
func TestKeepValues(t *testing.T) {
	k, ok := impl.KeepNew(impl.KindLocal, []int{1, 2, 3, 4})
	check := func(vals []int, vers []int, read []int) {
		t.Helper()
		if !ok {
			t.Fatal("an operation fails")
		}
		want := writtenOut(vals, vers)
		if read[0] == 1 {
			want = impl.Keep{Stripe: want.Stripe}
		}
		checkKeep(t, k, want, "step")
		checkKeepOk(t, k, true)
		checkKeepRead(t, k, read)
	}
	was, now := []int{1, 2, 3, 4}, []int{9, 9, 9, 9}
	check([]int{1, 2, 3, 4, 3, 7, 18, 18}, []int{1, 1, 1, 1, 1, 1, 1, 1}, was)
	k = impl.KeepLose(k, 6)
	check([]int{1, 2, 3, 4, 3, 7, 0, 18}, []int{1, 1, 1, 1, 1, 1, 0, 1}, was)
	k, ok = impl.KeepBegin(k, impl.KindWide, now)
	check([]int{1, 2, 3, 4, 3, 7, 0, 18}, []int{1, 1, 1, 1, 1, 1, 0, 1}, now)
	k, ok = impl.KeepShard(k, 3)
	check([]int{1, 2, 3, 21, 3, 7, 0, 18}, []int{1, 1, 1, 2, 1, 1, 0, 1}, now)
	k, ok = impl.KeepMend(k, 6)
	check([]int{1, 2, 3, 21, 3, 7, 4, 18}, []int{1, 1, 1, 2, 1, 1, 2, 1}, now)
	k = impl.KeepLose(impl.KeepLose(impl.KeepLose(k, 0), 1), 3)
	check([]int{0, 0, 3, 0, 3, 7, 4, 18}, []int{0, 0, 1, 0, 1, 1, 2, 1}, now)
	for _, at := range []int{7, 0, 3, 1, 5, 4, 3} {
		k, ok = impl.KeepShard(k, at)
	}
	check([]int{5, 11, 3, 21, 9, 6, 4, 26}, []int{2, 2, 1, 2, 2, 2, 2, 2}, now)
	if same, ok := impl.KeepEnd(k); ok || !equalKeep(same, k) {
		t.Errorf("KeepEnd(%v) = %v, %v, want it unchanged, false", k, same, ok)
	}
	done := impl.Keep{Stripe: impl.Stripe{
		Kind: impl.KindWide, Vals: []int{5, 11, 19, 21, 9, 6, 4, 26}, Vers: []int{2, 2, 2, 2, 2, 2, 2, 2}, There: lossOf(),
	}}
	checkKeep(t, impl.KeepRedo(k), done, "KeepRedo", k)
	k, ok = impl.KeepShard(k, 2)
	check(slices.Clone(done.Stripe.Vals), slices.Clone(done.Stripe.Vers), now)
	k, ok = impl.KeepEnd(k)
	if !ok {
		t.Error("KeepEnd fails")
	}
	checkKeep(t, k, done, "KeepEnd")
	checkKeepRead(t, k, now)
	checkStripeRead(t, k.Stripe, now, 2)
}

// Promise 80; every keep: with an intent nothing changes, and without one there is one, unless the version is VersMax.
func TestKeepBeginEachKeep(t *testing.T) {
	all := someVectors()
	number := 0
	forEachKeep(func(c keepCase) {
		number++
		for _, kind := range bothKinds() {
			begun, _ := checkKeepBegin(t, c, kind, all[(number+kind)%37])
			if number%7 == 0 {
				checkStored(t, begun)
				checkKeepBegin(t, begun, 3-kind, all[number*5%37])
			}
		}
		checkKeepBegin(t, c, c.kind, c.elder)
	})
}

// Promise 80, as it is put; also when the second intent is the same, or shards have been written or lost.
func TestKeepBeginTwice(t *testing.T) {
	all := someVectors()
	forEachRest(func(c keepCase) {
		if c.old == 99 {
			return
		}
		for i, data := range all {
			kind := 1 + i%2
			k, ok := impl.KeepBegin(c.keep(), kind, data)
			if !ok {
				t.Fatalf("KeepBegin(%v, %d, %v) fails", c.keep(), kind, data)
			}
			if i%3 > 0 {
				k, _ = impl.KeepShard(k, i%8)
				k = impl.KeepLose(k, i*5%8)
			}
			for _, more := range []int{kind, 3 - kind} {
				for _, again := range [][]int{data, all[(i+1)%37]} {
					if same, ok := impl.KeepBegin(k, more, again); ok || !equalKeep(same, k) {
						t.Errorf("KeepBegin(%v, %d, %v) = %v, %v, want it unchanged, false", k, more, again, same, ok)
					}
				}
			}
		}
	})
}

// Promises 80 and 91; every version: the next one is that of the intent, and after VersMax there is none.
func TestKeepBeginVersions(t *testing.T) {
	for _, kind := range bothKinds() {
		for vers := 1; vers <= 99; vers++ {
			whole := wholeCase(kind, []int{1, 2, 3, 4}, vers)
			for _, c := range []keepCase{whole, whole.lost(0).lost(5)} {
				k := c.keep()
				got, ok := impl.KeepBegin(k, 3-kind, []int{9, 9, 9, 9})
				want := cloneKeep(k)
				if vers < 99 {
					want.On, want.Kind, want.Data, want.Vers = true, 3-kind, []int{9, 9, 9, 9}, vers+1
				}
				if ok != (vers < 99) || !equalKeep(got, want) {
					t.Errorf("KeepBegin(%v) = %v, %v, want %v", k, got, ok, want)
				}
			}
		}
	}
}

// Promise 80, invalid codes and data, which count before an intent that there is and before the version.
func TestKeepBeginInvalid(t *testing.T) {
	for i, c := range fewKeeps() {
		k := c.keep()
		for _, kind := range notKinds() {
			checkBeginInvalid(t, k, kind, someVectors()[i%37])
			checkBeginInvalid(t, k, kind, nil)
		}
		for n, data := range notVectors() {
			checkBeginInvalid(t, k, 1+n%2, data)
			checkBeginInvalid(t, k, notKinds()[n%len(notKinds())], data)
		}
	}
}

// Promise 81; every set of shards that are written, from the first on or from the last on, some of them twice.
func TestKeepAllOrNothing(t *testing.T) {
	all := someVectors()
	forEachRest(func(c keepCase) {
		if c.old == 99 {
			return
		}
		for set := range 256 {
			kind, data := 1+set%2, all[set%37]
			k, ok := impl.KeepBegin(c.keep(), kind, data)
			for i := range 16 {
				at := i % 8
				if set&4 == 0 {
					at = 7 - at
				}
				if set>>at&1 == 1 && (i < 8 || at%3 == 0) {
					k, _ = impl.KeepShard(k, at)
				}
			}
			if !ok {
				t.Fatalf("KeepBegin(%v, %d, %v) fails", c.keep(), kind, data)
			}
			checkKeep(t, impl.KeepRedo(k), impl.Keep{Stripe: newStripe(t, kind, data, c.old+1)}, "KeepRedo", k)
		}
	})
}

// Promise 81; shards are lost before the intent, during it, and written again, up to all of them.
func TestKeepAllOrNothingLosses(t *testing.T) {
	for _, kind := range bothKinds() {
		for _, next := range bothKinds() {
			for _, before := range [][]int{nil, {0}, {7, 1}, {4, 2, 6}} {
				for _, during := range [][]int{nil, {3}, {0, 1, 2, 3}, {7, 6, 5, 4, 3, 2, 1, 0}} {
					for _, written := range [][]int{nil, {3}, {0, 2, 0, 6}, {1, 5, 7}, {7, 6, 5, 4, 3, 2, 1}, {0, 1, 2, 3, 4, 5, 6, 7}} {
						c := wholeCase(kind, []int{30, 0, 2, 11}, 41)
						for _, at := range before {
							c = checkKeepLose(t, c, at)
						}
						c, _ = checkKeepBegin(t, c, next, []int{7, 7, 0, 30})
						for _, at := range written {
							c, _ = checkKeepShard(t, c, at)
						}
						for _, at := range during {
							c = checkKeepLose(t, c, at)
							checkStored(t, c)
						}
						for _, at := range written {
							c, _ = checkKeepShard(t, c, at)
							checkStored(t, c)
						}
						k, want := c.keep(), newStripe(t, next, []int{7, 7, 0, 30}, 42)
						checkKeep(t, impl.KeepRedo(k), impl.Keep{Stripe: want}, "KeepRedo", k)
					}
				}
			}
		}
	}
}

// Promise 82; each shard of every keep.
func TestKeepShardEachKeep(t *testing.T) {
	number := 0
	forEachKeep(func(c keepCase) {
		number++
		for at := range 8 {
			written, ok := checkKeepShard(t, c, at)
			if ok && (number+at)%11 == 0 {
				checkStored(t, written)
			}
		}
	})
}

// Promise 82, as it is put.
func TestKeepShardOthers(t *testing.T) {
	number := 0
	forEachKeep(func(c keepCase) {
		number++
		k, at := c.keep(), number%8
		got, ok := impl.KeepShard(k, at)
		if !c.on {
			if ok || !equalKeep(got, k) {
				t.Errorf("KeepShard(%v, %d) = %v, %v, want it unchanged, false", k, at, got, ok)
			}
			return
		}
		s := got.Stripe
		if !ok || !s.There[at] || s.Vals[at] != impl.CodeAll(k.Kind, k.Data)[at] || s.Vers[at] != k.Vers {
			t.Fatalf("KeepShard(%v, %d) = %v, %v", k, at, got, ok)
		}
		s.There[at], s.Vals[at], s.Vers[at] = k.Stripe.There[at], k.Stripe.Vals[at], k.Stripe.Vers[at]
		checkKeep(t, got, k, "KeepShard, but for this shard,", k, at)
		before, _ := impl.KeepRead(k)
		got, _ = impl.KeepShard(k, at)
		checkKeepRead(t, got, before)
	})
}

// Promise 83; every keep.
func TestKeepEndEachKeep(t *testing.T) {
	forEachKeep(func(c keepCase) { checkKeepEnd(t, c) })
}

// Promise 83, as it is put; all shards written, and all but one, which is lost, or elder.
func TestKeepEndAllWritten(t *testing.T) {
	for _, kind := range bothKinds() {
		for i, data := range someVectors() {
			for _, next := range bothKinds() {
				vers := []int{1, 2, 60, 97, 98}[i%5]
				c, _ := wholeCase(kind, []int{1, 2, 3, 4}, vers).begun(next, data)
				for at := range 8 {
					c, _ = c.written(at)
				}
				k := c.keep()
				done, ok := impl.KeepEnd(k)
				if want := (impl.Keep{Stripe: newStripe(t, next, data, vers+1)}); !ok || !equalKeep(done, want) {
					t.Errorf("KeepEnd(%v) = %v, %v, want %v", k, done, ok, want)
				}
				checkStripeRead(t, done.Stripe, data, vers+1)
				checkKeepRead(t, done, data)
				for at := range 8 {
					for _, state := range []int{shardLost, shardElder} {
						c.shards[at] = state
						k := c.keep()
						if same, ok := impl.KeepEnd(k); ok || !equalKeep(same, k) {
							t.Errorf("KeepEnd(%v) = %v, %v, want it unchanged, false", k, same, ok)
						}
					}
					c.shards[at] = shardWritten
				}
				if same, ok := impl.KeepEnd(done); ok || !equalKeep(same, done) {
					t.Errorf("KeepEnd(%v) = %v, %v, want it unchanged, false", done, same, ok)
				}
			}
		}
	}
}

// Promise 84; every keep.
func TestKeepRedoEachKeep(t *testing.T) {
	forEachKeep(func(c keepCase) { checkKeepRedo(t, c) })
}

// Promise 84, as it is put.
func TestKeepRedoTwice(t *testing.T) {
	forEachKeep(func(c keepCase) {
		k := c.keep()
		before, _ := impl.KeepRead(k)
		once := impl.KeepRedo(k)
		if once.On || once.Kind != 0 || len(once.Data) > 0 || once.Vers != 0 {
			t.Errorf("KeepRedo(%v) = %v, which has an intent", k, once)
		}
		checkKeepOk(t, once, true)
		checkKeepRead(t, once, before)
		checkKeep(t, impl.KeepRedo(once), once, "KeepRedo", once)
		if !c.on {
			checkKeep(t, once, k, "KeepRedo", k)
		}
	})
}

// Promise 85; every order of the shards, of intents of the other code; each order is one of all below its beginning.
func TestKeepShardAnyOrder(t *testing.T) {
	for _, kind := range bothKinds() {
		begun := intentsOf(kind)[2-kind]
		done := impl.KeepRedo(begun.keep())
		number := 0
		var visit func(k impl.Keep, c keepCase, left []int)
		visit = func(k impl.Keep, c keepCase, left []int) {
			checkKeep(t, k, c.keep(), "KeepShard of all but", left)
			if len(left) == 0 {
				number++
				if end, ok := impl.KeepEnd(k); !ok || !equalKeep(end, done) {
					t.Errorf("KeepEnd(%v) = %v, %v, want %v", k, end, ok, done)
				}
			}
			for i, at := range left {
				more, ok := impl.KeepShard(k, at)
				written, _ := c.written(at)
				if !ok {
					t.Fatalf("KeepShard(%v, %d) fails", k, at)
				}
				visit(more, written, slices.Delete(slices.Clone(left), i, i+1))
			}
		}
		visit(begun.keep(), begun, []int{0, 1, 2, 3, 4, 5, 6, 7})
		if number != 40320 {
			t.Errorf("%d orders", number)
		}
	}
}

// Promise 85; every intent, whatever has been written and lost, by all shards in some order.
func TestKeepRedoIsAllShards(t *testing.T) {
	number := 0
	forEachIntent(func(c keepCase) {
		number++
		k := c.keep()
		want := impl.KeepRedo(k)
		for i := range 8 {
			more, ok := impl.KeepShard(k, (number+3*i)%8)
			if !ok {
				t.Fatalf("KeepShard(%v) fails", k)
			}
			k = more
		}
		if end, ok := impl.KeepEnd(k); !ok || !equalKeep(end, want) {
			t.Errorf("KeepEnd(%v) = %v, %v, want %v", k, end, ok, want)
		}
	})
}

// Promises 86 and 90; every keep is valid, and read.
func TestKeepReadEachKeep(t *testing.T) {
	forEachKeep(func(c keepCase) { checkStored(t, c) })
}

// Promise 86, as it is put; the data of the intent count, whatever the elder shards are read as.
func TestKeepReadIntent(t *testing.T) {
	forEachKeep(func(c keepCase) {
		k := c.keep()
		if k.On {
			checkKeepRead(t, k, k.Data)
			return
		}
		data, _, ok := impl.StripeRead(k.Stripe)
		if !ok {
			t.Fatalf("StripeRead(%v) fails", k.Stripe)
		}
		checkKeepRead(t, k, data)
	})
}

// Promise 87; each shard of every keep.
func TestKeepLoseEachKeep(t *testing.T) {
	number := 0
	forEachKeep(func(c keepCase) {
		number++
		for at := range 8 {
			less := checkKeepLose(t, c, at)
			if (number+at)%11 == 0 {
				checkStored(t, less)
				checkKeepLose(t, less, at)
			}
		}
	})
}

// Promise 87, as it is put.
func TestKeepNeverLost(t *testing.T) {
	number := 0
	forEachKeep(func(c keepCase) {
		number++
		for _, at := range []int{number % 8, (number*3 + 1) % 8} {
			k := c.keep()
			before, _ := impl.KeepRead(k)
			less := impl.KeepLose(k, at)
			checkKeepRead(t, less, before)
			_, _, okRead := impl.StripeRead(impl.StripeLose(k.Stripe, at))
			if keeps := !k.On && !okRead; less.Stripe.There[at] != keeps {
				t.Errorf("KeepLose(%v, %d) = %v, keeps the shard: want %v", k, at, less, keeps)
			}
		}
	})
}

// Promise 87; all shards are to be lost, in some orders: without an intent as many stay as are needed, with one none does.
func TestKeepLoseAll(t *testing.T) {
	for _, kind := range bothKinds() {
		for i, data := range someVectors() {
			for turn := range 8 {
				k, _ := impl.KeepNew(kind, data)
				for n := range 16 {
					k = impl.KeepLose(k, (n*(1+2*(i%4))+turn)%8)
					checkKeepRead(t, k, data)
				}
				if left := len(stripeCase{k.Stripe, nil}.shardsOf(1)); left != 4 {
					t.Errorf("%d shards are left of %v", left, k)
				}
				k, _ = impl.KeepBegin(k, 3-kind, []int{4, 3, 2, 1})
				for at := range 8 {
					k = impl.KeepLose(k, at)
					checkKeepRead(t, k, []int{4, 3, 2, 1})
				}
				want := impl.Keep{Stripe: emptyStripe(kind), On: true, Kind: 3 - kind, Data: []int{4, 3, 2, 1}, Vers: 2}
				checkKeep(t, k, want, "KeepLose of all shards")
				checkKeep(t, impl.KeepRedo(k), wholeCase(3-kind, []int{4, 3, 2, 1}, 2).keep(), "KeepRedo", k)
			}
		}
	}
}

// Promise 88; each shard of every keep.
func TestKeepMendEachKeep(t *testing.T) {
	number := 0
	forEachKeep(func(c keepCase) {
		number++
		for at := range 8 {
			more, _ := checkKeepMend(t, c, at)
			if (number+at)%11 == 0 {
				checkStored(t, more)
			}
		}
	})
}

// Promise 88, as it is put.
func TestKeepMendRead(t *testing.T) {
	check := func(k impl.Keep, at int) {
		t.Helper()
		before, _ := impl.KeepRead(k)
		more, ok := impl.KeepMend(k, at)
		others := slices.Clone(k.Stripe.There)
		others[at] = false
		if fails := !k.On && k.Stripe.There[at] && !impl.CodeBears(k.Stripe.Kind, others); ok == fails {
			t.Errorf("KeepMend(%v, %d) = %v, %v", k, at, more, ok)
		}
		if !ok {
			checkKeep(t, more, k, "KeepMend", k, at)
		} else if !more.Stripe.There[at] {
			t.Errorf("KeepMend(%v, %d) = %v, where it is not available", k, at, more)
		}
		checkKeepRead(t, more, before)
	}
	number := 0
	forEachIntent(func(c keepCase) {
		number++
		check(c.keep(), number%8)
	})
	forEachRest(func(c keepCase) {
		for at := range 8 {
			check(c.keep(), at)
		}
	})
}

// Promise 88; a shard that is available is mended while the others suffice, with and without an intent.
func TestKeepMendValues(t *testing.T) {
	for _, kind := range bothKinds() {
		whole := wholeCase(kind, []int{1, 2, 3, 4}, 99)
		few := whole.lost(4).lost(5).lost(6).lost(7)
		if len(few.shardsIn(shardElder)) != 4 {
			t.Fatalf("%v has other shards than four", few)
		}
		for at := range 8 {
			if same, ok := impl.KeepMend(whole.keep(), at); !ok || !equalKeep(same, whole.keep()) {
				t.Errorf("KeepMend(%v, %d) = %v, %v", whole.keep(), at, same, ok)
			}
			if _, ok := impl.KeepMend(few.keep(), at); ok != (at >= 4) {
				t.Errorf("KeepMend(%v, %d) is %v", few.keep(), at, ok)
			}
		}
		few.old = 98
		begun, _ := few.begun(3-kind, []int{9, 0, 0, 0})
		for at := range 8 {
			begun, _ = checkKeepMend(t, begun, at)
			checkStored(t, begun)
		}
		if done, ok := impl.KeepEnd(begun.keep()); !ok || !equalKeep(done, wholeCase(3-kind, []int{9, 0, 0, 0}, 99).keep()) {
			t.Errorf("KeepEnd(%v) = %v, %v", begun.keep(), done, ok)
		}
	}
}

// Promise 89; each available shard of every keep without an intent, whether it can be lost or not.
func TestKeepLoseMend(t *testing.T) {
	forEachRest(func(c keepCase) {
		for _, at := range c.shardsIn(shardElder) {
			k := c.keep()
			less := impl.KeepLose(k, at)
			more, ok := impl.KeepMend(less, at)
			checkKeep(t, more, k, "KeepLose and KeepMend", k, at)
			if ok == less.Stripe.There[at] {
				t.Errorf("KeepMend(%v, %d) is %v", less, at, ok)
			}
		}
	})
}

// Promise 91; every code, and every version but VersMax.
func TestKeepRedoNextVersion(t *testing.T) {
	all := someVectors()
	for vers := 1; vers <= 98; vers++ {
		for _, kind := range bothKinds() {
			for _, next := range bothKinds() {
				c := wholeCase(kind, all[vers%37], vers).lost(vers % 8)
				k, ok := impl.KeepBegin(c.keep(), next, all[(vers+1)%37])
				k = impl.KeepRedo(k)
				if low := slices.Min(k.Stripe.Vers); !ok || low <= vers || low != slices.Max(k.Stripe.Vers) || low > 99 {
					t.Errorf("after %v the versions are %v", c.keep(), k.Stripe.Vers)
				}
				checkKeepRead(t, k, all[(vers+1)%37])
				checkStripeRead(t, k.Stripe, all[(vers+1)%37], vers+1)
			}
		}
	}
}

// Promise 91; write after write, from version 1 to VersMax, in one code and the other.
func TestKeepEachVersion(t *testing.T) {
	k, ok := impl.KeepNew(impl.KindLocal, []int{0, 0, 0, 0})
	for vers := 2; vers <= 99; vers++ {
		data := []int{vers % 31, 1, vers * 7 % 31, 30}
		k, ok = impl.KeepBegin(k, 1+vers/2%2, data)
		if !ok {
			t.Fatalf("KeepBegin fails before version %d", vers)
		}
		k, _ = impl.KeepShard(k, vers%8)
		k = impl.KeepRedo(impl.KeepLose(k, vers*3%8))
		checkKeep(t, k, wholeCase(1+vers/2%2, data, vers).keep(), "KeepRedo")
		k = impl.KeepLose(k, vers*5%8)
	}
	if same, ok := impl.KeepBegin(k, impl.KindWide, []int{1, 2, 3, 4}); ok || !equalKeep(same, k) {
		t.Errorf("KeepBegin(%v) = %v, %v, want it unchanged, false", k, same, ok)
	}
}

// Promises 80 to 91; long sequences of all operations, with the version up to VersMax.
func TestKeepSequences(t *testing.T) {
	all := someVectors()
	for i := range 80 {
		n := 29 + 1000*i
		next := func(below int) int {
			n = (n*1103 + 12345) % 65537
			return n / 7 % below
		}
		c := wholeCase(1+i%2, all[next(37)], 1+i*5%99)
		for range 200 {
			switch next(10) {
			case 0, 1:
				c, _ = checkKeepBegin(t, c, 1+next(2), all[next(37)])
			case 2, 3, 4:
				c, _ = checkKeepShard(t, c, next(8))
			case 5:
				c, _ = checkKeepEnd(t, c)
			case 6:
				if next(3) == 0 {
					c = checkKeepRedo(t, c)
				}
			case 7, 8:
				c = checkKeepLose(t, c, next(8))
			default:
				c, _ = checkKeepMend(t, c, next(8))
			}
			checkStored(t, c)
		}
	}
}

// withNote is a keep with other fields of the intent.
func withNote(k impl.Keep, on bool, kind int, data []int, vers int) impl.Keep {
	k = cloneKeep(k)
	k.On, k.Kind, k.Data, k.Vers = on, kind, slices.Clone(data), vers
	return k
}

// notKeeps each have one flaw.
func notKeeps() []impl.Keep {
	list := []impl.Keep{{}, {On: true, Kind: impl.KindWide, Data: []int{1, 2, 3, 4}, Vers: 2}}
	for _, s := range notStripes() {
		k := impl.Keep{Stripe: s}
		list = append(list, k, withNote(k, true, impl.KindWide, []int{5, 0, 0, 0}, 99))
	}
	// More than one version, or too few shards to be read.
	for i, c := range fewStripes() {
		if data, vers := c.read(); data == nil || slices.ContainsFunc(c.s.Vers, func(v int) bool { return v != 0 && v != vers }) {
			list = append(list, impl.Keep{Stripe: c.s})
		}
		if low, high := slices.Min(c.s.Vers), c.top(); low > 0 && low < high && high < 99 {
			list = append(list, impl.Keep{Stripe: c.s, On: true, Kind: 1 + i%2, Data: []int{1, 2, 3, 4}, Vers: high + 1})
		}
	}
	for _, kind := range bothKinds() {
		forEachFlags(func(there []bool, at []int) {
			if !sufficientSets()[kind][setOf(at)] {
				c := keepCase{kind: kind, elder: []int{1, 2, 3, 4}, old: 1}
				for _, i := range at {
					c.shards[i] = shardElder
				}
				list = append(list, c.keep())
			}
		})
		for _, c := range intentsOf(kind) {
			list = append(list, flawedIntents(c)...)
		}
		list = append(list, flawedRests(wholeCase(kind, []int{1, 2, 3, 4}, 4).keep())...)
	}
	return list
}

// flawedRests have no intent, but something of one.
func flawedRests(k impl.Keep) []impl.Keep {
	var list []impl.Keep
	for _, kind := range append(notKinds(), bothKinds()...) {
		if kind != 0 {
			list = append(list, withNote(k, false, kind, nil, 0))
		}
	}
	for _, data := range append(notVectors(), someVectors()...) {
		if len(data) > 0 {
			list = append(list, withNote(k, false, 0, data, 0))
		}
	}
	for _, vers := range []int{1, 2, 3, 4, 5, 6, 98, 99, 100, -1, -4, 1 << 8, 1 << 32, math.MaxInt, math.MinInt} {
		list = append(list, withNote(k, false, 0, nil, vers))
	}
	return append(list, withNote(k, false, 1, []int{1, 2, 3, 4}, 5), withNote(k, false, 2, []int{0, 0, 0, 0}, 1))
}

// flawedIntents have an intent that is none, or that is not for this stripe; of the case no shard is lost.
func flawedIntents(c keepCase) []impl.Keep {
	var list []impl.Keep
	written, _ := c.written(2)
	written, _ = written.written(7)
	for _, k := range []impl.Keep{c.keep(), written.keep()} {
		list = append(list, withNote(k, false, k.Kind, k.Data, k.Vers))
		for _, kind := range notKinds() {
			list = append(list, withNote(k, true, kind, k.Data, k.Vers))
		}
		for _, data := range notVectors() {
			list = append(list, withNote(k, true, k.Kind, data, k.Vers))
		}
		// The shards are of version 4, and of version 5 as far as they are written.
		for _, vers := range append(notVersions(), 1, 2, 3, 4) {
			list = append(list, withNote(k, true, k.Kind, k.Data, vers))
		}
	}
	for _, vers := range []int{6, 98, 99} {
		list = append(list, withNote(written.keep(), true, c.next, c.data, vers))
	}
	list = append(list, withNote(written.keep(), false, 0, nil, 0))
	return append(list, flawedWritten(written)...)
}

// flawedWritten have one written shard that is not that of the intent, or is not available.
func flawedWritten(c keepCase) []impl.Keep {
	var list []impl.Keep
	for _, at := range c.shardsIn(shardWritten) {
		was := c.keep().Stripe.Vals[at]
		for _, n := range notElements() {
			k := c.keep()
			k.Stripe.Vals[at] = n
			list = append(list, k)
		}
		for more := 1; more < 31; more++ {
			k := c.keep()
			k.Stripe.Vals[at] = plainSum(was, more)
			list = append(list, k)
		}
		for _, vers := range []int{0, 1, 3, 4, 5, 6, 99} {
			for _, n := range []int{0, 1, was} {
				if n == 0 && vers == 0 {
					continue
				}
				k := c.keep()
				k.Stripe.Vals[at], k.Stripe.Vers[at], k.Stripe.There[at] = n, vers, false
				list = append(list, k)
			}
		}
	}
	return list
}

// Promises 79 to 91, and of all others what becomes of invalid keeps.
func TestKeepInvalid(t *testing.T) {
	for _, k := range notKeeps() {
		if plainKeepOk(k) {
			t.Fatalf("%v is not invalid", k)
		}
		checkNoKeep(t, k)
	}
}

// Promises 82, 87 and 88, invalid shards.
func TestKeepShardInvalid(t *testing.T) {
	for _, c := range fewKeeps() {
		for _, at := range notShards() {
			checkAtInvalid(t, c.keep(), at)
		}
		for at := -100; at <= 100; at++ {
			if at < 0 || at > 7 {
				checkAtInvalid(t, c.keep(), at)
			}
		}
	}
}

// Promise 90, as it is put, for keeps that the functions themselves return.
func TestKeepOkAsPut(t *testing.T) {
	check := func(k impl.Keep) {
		t.Helper()
		checkKeepOk(t, k, true)
		top := impl.StripeTop(k.Stripe)
		for at, there := range k.Stripe.There {
			vers := k.Stripe.Vers[at]
			switch {
			case !there:
				if k.Stripe.Vals[at] != 0 || vers != 0 {
					t.Errorf("%v has something at shard %d", k, at)
				}
			case !k.On && vers != top, k.On && vers > k.Vers:
				t.Errorf("%v has version %d at shard %d", k, vers, at)
			case k.On && vers == k.Vers && k.Stripe.Vals[at] != impl.CodeAll(k.Kind, k.Data)[at]:
				t.Errorf("%v has at shard %d not that of the intent", k, at)
			}
		}
	}
	for i, c := range fewKeeps() {
		k := c.keep()
		begun, _ := impl.KeepBegin(k, 1+i%2, someVectors()[i%37])
		ended, _ := impl.KeepEnd(k)
		check(begun)
		check(ended)
		check(impl.KeepRedo(k))
		for at := range 8 {
			written, _ := impl.KeepShard(k, at)
			mended, _ := impl.KeepMend(k, at)
			check(written)
			check(mended)
			check(impl.KeepLose(k, at))
		}
	}
}

// Promise 90; one shard of a keep with other values, versions and flags. Only some of these are valid.
func TestKeepOkOtherShard(t *testing.T) {
	valid, invalid := 0, 0
	for i, c := range fewKeeps() {
		was := c.keep()
		for at := range 8 {
			vals := []int{0, was.Stripe.Vals[at], plainShards(c.kind, c.elder)[at], (i + at) % 31, 31, -1}
			if c.on {
				vals = append(vals, plainShards(c.next, c.data)[at], plainSum(plainShards(c.next, c.data)[at], 1))
			}
			for _, n := range vals {
				for _, vers := range []int{0, 1, c.old - 1, c.old, c.old + 1, c.vers - 1, c.vers, c.vers + 1, 99, 100, -1} {
					for _, there := range []bool{true, false} {
						k := cloneKeep(was)
						k.Stripe.Vals[at], k.Stripe.Vers[at], k.Stripe.There[at] = n, vers, there
						if plainKeepOk(k) {
							valid++
						} else {
							invalid++
						}
						checkKeepExactly(t, k)
					}
				}
			}
		}
	}
	if valid < 1000 || invalid < 10000 {
		t.Errorf("%d keeps are valid and %d are not", valid, invalid)
	}
}

// Promise 90; every keep with another code of the stripe, and with other codes, data and versions of the intent.
func TestKeepOkOtherNote(t *testing.T) {
	number := 0
	forEachKeep(func(c keepCase) {
		number++
		k := c.keep()
		k.Stripe.Kind = 3 - c.kind
		checkKeepOk(t, k, plainKeepOk(k))
		if !c.on || number%5 > 0 {
			return
		}
		k = c.keep()
		other := someVectors()[number%37]
		for _, k := range []impl.Keep{
			withNote(k, true, 3-k.Kind, k.Data, k.Vers),
			withNote(k, true, k.Kind, other, k.Vers),
			withNote(k, true, c.kind, c.elder, c.old),
			withNote(k, true, c.kind, c.elder, c.old-1),
			withNote(k, true, k.Kind, k.Data, k.Vers-1),
			withNote(k, true, k.Kind, k.Data, k.Vers+1),
			withNote(k, true, k.Kind, k.Data, 1),
			withNote(k, true, k.Kind, k.Data, 99),
			withNote(k, false, 0, nil, 0),
		} {
			checkKeepExactly(t, k)
		}
	})
}

// Promise 90; elder shards are of the stripe's code, and those of the intent of its own, though others would fit, too.
func TestKeepOkOtherCode(t *testing.T) {
	for _, kind := range bothKinds() {
		for set := range 256 {
			c, _ := wholeCase(kind, []int{1, 2, 3, 4}, 7).begun(3-kind, []int{5, 6, 7, 8})
			for at := range 8 {
				if set>>at&1 == 1 {
					c, _ = c.written(at)
				}
			}
			checkStored(t, c)
			// The shards of one of the two are all those of the other code.
			elder, written := c, c
			elder.kind, written.next = 3-kind, kind
			wrong := elder.keep()
			wrong.Stripe.Kind = kind
			checkKeepOk(t, wrong, plainKeepOk(wrong))
			if len(c.shardsIn(shardElder)) > 5 {
				checkKeepOk(t, wrong, false)
			}
			wrong = written.keep()
			wrong.Kind = 3 - kind
			checkKeepOk(t, wrong, set == 0)
		}
	}
}

// Promise 90; keeps written out.
func TestKeepOkValues(t *testing.T) {
	local, wide := []int{1, 2, 3, 4, 3, 7, 18, 18}, []int{10, 18, 18, 3, 28, 24, 15, 25}
	nine, mixed := []int{5, 11, 19, 21, 9, 6, 4, 26}, []int{1, 2, 3, 4, 9, 6, 4, 26}
	ones, half := slices.Repeat([]int{1}, 8), []int{1, 1, 1, 1, 2, 2, 2, 2}
	twos := slices.Repeat([]int{2}, 8)
	with := func(vals []int, vers []int, change func(k *impl.Keep)) impl.Keep {
		k := writtenOut(slices.Clone(vals), slices.Clone(vers))
		change(&k)
		return k
	}
	none := func(*impl.Keep) {}
	for i, c := range []struct {
		k    impl.Keep
		want bool
	}{
		{with(local, ones, none), true},
		{with(mixed, half, none), true},
		{with(nine, twos, none), true},
		{with(make([]int, 8), make([]int, 8), none), true},
		{with(wide, ones, none), false},
		{with(wide, ones, func(k *impl.Keep) { k.Stripe.Kind = impl.KindWide }), true},
		{with(local, ones, func(k *impl.Keep) { k.On = false }), false},
		{with(local, ones, func(k *impl.Keep) { *k = impl.Keep{Stripe: k.Stripe} }), true},
		{with(local, ones, func(k *impl.Keep) { *k = impl.Keep{Stripe: k.Stripe, Data: []int{}} }), true},
		{with(mixed, half, func(k *impl.Keep) { *k = impl.Keep{Stripe: k.Stripe} }), false},
		{with(local, half, func(k *impl.Keep) { *k = impl.Keep{Stripe: k.Stripe} }), false},
		{with(local, ones, func(k *impl.Keep) { k.Vers = 1 }), false},
		{with(local, ones, func(k *impl.Keep) { k.Vers, k.Kind, k.Data = 1, 1, []int{1, 2, 3, 4} }), true},
		{with(local, ones, func(k *impl.Keep) { k.Vers = 99 }), true},
		{with(local, ones, func(k *impl.Keep) { k.Vers = 100 }), false},
		{with(local, ones, func(k *impl.Keep) { k.Vers = 0 }), false},
		{with(mixed, half, func(k *impl.Keep) { k.Vers = 3 }), false},
		{with(mixed, half, func(k *impl.Keep) { k.Kind = 1 }), false},
		{with(mixed, half, func(k *impl.Keep) { k.Data[3] = 8 }), false},
		{with(local, half, none), false},
		{with(mixed, []int{3, 3, 3, 3, 2, 2, 2, 2}, none), false},
		{with(mixed, []int{1, 1, 1, 3, 2, 2, 2, 2}, none), false},
		{with(mixed, []int{3, 3, 3, 4, 2, 2, 2, 2}, func(k *impl.Keep) { k.Vers = 5 }), false},
		{with([]int{1, 2, 3, 4, 4, 6, 4, 26}, []int{1, 1, 1, 1, 1, 2, 2, 2}, none), false},
		{with([]int{1, 2, 0, 4, 4, 6, 4, 26}, []int{1, 1, 0, 1, 1, 2, 2, 2}, none), false},
		{with([]int{1, 0, 0, 4, 4, 6, 4, 26}, []int{1, 0, 0, 1, 1, 2, 2, 2}, none), true},
		// No shard of the elder version is left, so that any version is higher, but 0 is none.
		{with(make([]int, 8), make([]int, 8), func(k *impl.Keep) { k.Vers = 1 }), true},
		{with(make([]int, 8), make([]int, 8), func(k *impl.Keep) { k.Vers = 99 }), true},
		{with(make([]int, 8), make([]int, 8), func(k *impl.Keep) { k.Vers = 100 }), false},
		{with(make([]int, 8), make([]int, 8), func(k *impl.Keep) { k.Vers = 0 }), false},
		{with(make([]int, 8), make([]int, 8), func(k *impl.Keep) { k.Vers = -1 }), false},
		{with(nine, make([]int, 8), func(k *impl.Keep) { k.Vers, k.Stripe.There = 0, lossOf() }), false},
		{with(nine, slices.Repeat([]int{-1}, 8), func(k *impl.Keep) { k.Vers, k.Stripe.There = -1, lossOf() }), false},
		{with(nine, slices.Repeat([]int{100}, 8), func(k *impl.Keep) { k.Vers = 100 }), false},
		{with(nine, ones, func(k *impl.Keep) { k.Vers = 1 }), true},
		{with(nine, twos, func(k *impl.Keep) { k.Stripe.Kind = 3 }), false},
		{with(nine, twos, func(k *impl.Keep) { k.Stripe.There[3] = false }), false},
		{with(nine, twos, func(k *impl.Keep) { k.Stripe.There[3], k.Stripe.Vals[3] = false, 0 }), false},
		{with(nine, twos, func(k *impl.Keep) { k.Stripe.There[3], k.Stripe.Vers[3] = false, 0 }), false},
		{with(nine, twos, func(k *impl.Keep) {
			k.Stripe.There[3], k.Stripe.Vals[3], k.Stripe.Vers[3] = false, 0, 0
		}), true},
		{with(nine[:7], twos[:7], none), false},
		{with(nine, twos, func(k *impl.Keep) { k.Stripe.Vers = append(k.Stripe.Vers, 2) }), false},
		{with(nine, twos, func(k *impl.Keep) { k.Stripe.There = append(k.Stripe.There, true) }), false},
		{with(nine, twos, func(k *impl.Keep) { k.Stripe.Vals = append(k.Stripe.Vals, 0) }), false},
	} {
		if plainKeepOk(c.k) != c.want {
			t.Errorf("keep %d: %v is valid by the conditions: %v", i, c.k, !c.want)
		}
		checkKeepOk(t, c.k, c.want)
	}
}

// roomyKeep is a copy of a keep with spare capacity, to tempt an implementation that appends.
func roomyKeep(k impl.Keep) impl.Keep {
	k = cloneKeep(k)
	k.Stripe, k.Data = roomyStripe(k.Stripe), append(make([]int, 0, 20), k.Data...)
	return k
}

// wholeKeep is a copy of a keep with what is in the capacity of its slices.
func wholeKeep(k impl.Keep) impl.Keep {
	k.Stripe, k.Data = wholeStripe(k.Stripe), slices.Clone(k.Data[:cap(k.Data)])
	return k
}

// spoilKeep overwrites the slices of a keep up to their capacity.
func spoilKeep(k impl.Keep) {
	spoil(k.Stripe.Vals)
	spoil(k.Stripe.Vers)
	spoilFlags(k.Stripe.There)
	spoil(k.Data)
}

// checkOneApart expects no slice of a keep to share memory with another, and overwrites them all.
func checkOneApart(t *testing.T, name string, k impl.Keep) {
	t.Helper()
	lists := [][]int{k.Stripe.Vals, k.Stripe.Vers, k.Data}
	for i, list := range lists {
		before := wholeKeep(k)
		spoil(list)
		after := wholeKeep(k)
		for j, was := range [][]int{before.Stripe.Vals, before.Stripe.Vers, before.Data} {
			if j != i && !slices.Equal(was, lists[j][:cap(lists[j])]) {
				t.Errorf("slices of one result of %s share memory", name)
			}
		}
		if !slices.Equal(before.Stripe.There, after.Stripe.There) {
			t.Errorf("slices of one result of %s share memory", name)
		}
	}
	spoilFlags(k.Stripe.There)
}

// checkKeepApart expects a call to leave a keep and data as they are, capacity included, and its result to share no
// memory with them, nor with the result of the same call made again, nor one slice of it with another.
func checkKeepApart(t *testing.T, name string, c impl.Keep, call func(k impl.Keep, data []int) impl.Keep) {
	t.Helper()
	k, data := roomyKeep(c), append(make([]int, 0, 20), 9, 8, 7, 6)
	wasK, wasData := wholeKeep(k), slices.Clone(data[:20])
	unchanged := func() bool { return equalKeep(wholeKeep(k), wasK) && slices.Equal(data[:20], wasData) }
	first, again := call(k, data), call(k, data)
	want := cloneKeep(again)
	if !unchanged() {
		t.Errorf("%s of %v changes its arguments", name, c)
	}
	checkOneApart(t, name, first)
	if !unchanged() {
		t.Errorf("%s of %v shares memory with its arguments", name, c)
	}
	if !equalKeep(again, want) {
		t.Errorf("two results of %s of %v share memory", name, c)
	}
	spoilKeep(k)
	spoil(data)
	if !equalKeep(again, want) {
		t.Errorf("the result of %s of %v changes with its arguments", name, c)
	}
}

// Promises 79 to 89, memory; also where a keep is returned as it was, because there is an intent or none, the version is
// VersMax, shards are missing, or the stripe could not be read otherwise.
func TestKeepResultsApart(t *testing.T) {
	list := []impl.Keep{{}, {Stripe: emptyStripe(impl.KindWide)}}
	for _, c := range fewKeeps() {
		list = append(list, c.keep())
	}
	forEachRest(func(c keepCase) {
		if len(c.shardsIn(shardElder)) < 6 {
			list = append(list, c.keep())
		}
	})
	for _, k := range list {
		checkKeepApart(t, "KeepNew", k, func(k impl.Keep, data []int) impl.Keep {
			k, _ = impl.KeepNew(k.Stripe.Kind, data)
			return k
		})
		checkKeepApart(t, "KeepBegin", k, func(k impl.Keep, data []int) impl.Keep {
			k, _ = impl.KeepBegin(k, impl.KindWide, data)
			return k
		})
		checkKeepApart(t, "KeepBegin of nothing", k, func(k impl.Keep, _ []int) impl.Keep {
			k, _ = impl.KeepBegin(k, impl.KindWide, nil)
			return k
		})
		checkKeepApart(t, "KeepEnd", k, func(k impl.Keep, _ []int) impl.Keep {
			k, _ = impl.KeepEnd(k)
			return k
		})
		checkKeepApart(t, "KeepRedo", k, func(k impl.Keep, _ []int) impl.Keep { return impl.KeepRedo(k) })
		for at := -1; at <= 8; at++ {
			checkKeepApart(t, "KeepShard", k, func(k impl.Keep, _ []int) impl.Keep {
				k, _ = impl.KeepShard(k, at)
				return k
			})
			checkKeepApart(t, "KeepLose", k, func(k impl.Keep, _ []int) impl.Keep { return impl.KeepLose(k, at) })
			checkKeepApart(t, "KeepMend", k, func(k impl.Keep, _ []int) impl.Keep {
				k, _ = impl.KeepMend(k, at)
				return k
			})
		}
	}
}

// Promises 79 and 86, memory of the data.
func TestKeepDataApart(t *testing.T) {
	for _, c := range fewKeeps() {
		k := roomyKeep(c.keep())
		was := wholeKeep(k)
		first, _ := impl.KeepRead(k)
		again, _ := impl.KeepRead(k)
		impl.KeepOk(k)
		spoil(first)
		if !equalKeep(wholeKeep(k), was) {
			t.Errorf("the data of %v share its memory, or it is changed", c.keep())
		}
		spoilKeep(k)
		checkVec(t, again, c.read(), "KeepRead", c.keep())
	}
}

// Promises 79 to 91; no function changes its arguments, valid or not, up to their capacity.
func TestKeepArgumentsUnchanged(t *testing.T) {
	vectors := append(notVectors(), someVectors()...)
	list := notKeeps()
	for _, c := range fewKeeps() {
		list = append(list, c.keep())
	}
	for i, c := range list {
		k, data := roomyKeep(c), append(make([]int, 0, 300), vectors[i%len(vectors)]...)
		wasK, wasData := wholeKeep(k), slices.Clone(data[:300])
		impl.KeepNew(k.Kind, data)
		impl.KeepOk(k)
		impl.KeepRead(k)
		impl.KeepBegin(k, 1+i%3, data)
		impl.KeepShard(k, i%9)
		impl.KeepEnd(k)
		impl.KeepRedo(k)
		impl.KeepLose(k, i%9)
		impl.KeepMend(k, i%9)
		if !equalKeep(wholeKeep(k), wasK) || !slices.Equal(data[:300], wasData) {
			t.Fatalf("the keep %v or %v is changed", c, data)
		}
	}
}

// Promises 79 to 91; the slices of a keep may share memory with each other and with the data, and their capacity does not
// count.
func TestKeepSharedArguments(t *testing.T) {
	fives := slices.Repeat([]int{5}, 12)
	yes := slices.Repeat([]bool{true}, 12)
	// All values are 5, as in the shards of [5 0 0 0] with KindWide, and so are all versions.
	s := impl.Stripe{Kind: impl.KindWide, Vals: fives[:8], Vers: fives[:8], There: yes[:8]}
	rest := impl.Keep{Stripe: s, Data: fives[:0]}
	checkKeepRead(t, rest, []int{5, 0, 0, 0})
	k, ok := impl.KeepBegin(rest, impl.KindWide, fives[4:8])
	want := withNote(rest, true, impl.KindWide, []int{5, 5, 5, 5}, 6)
	if !ok || !equalKeep(k, want) {
		t.Errorf("KeepBegin = %v, %v, want %v", k, ok, want)
	}
	checkKeep(t, impl.KeepLose(rest, 3), impl.Keep{Stripe: withoutShard(rest.Stripe, 3)}, "KeepLose")
	both := impl.Keep{Stripe: s, On: true, Kind: impl.KindWide, Data: fives[:4], Vers: 6}
	checkKeepRead(t, both, []int{5, 5, 5, 5})
	k, ok = impl.KeepShard(both, 7)
	s7 := withShard(s, 7, plainShards(impl.KindWide, []int{5, 5, 5, 5})[7], 6)
	want = withNote(impl.Keep{Stripe: s7}, true, impl.KindWide, []int{5, 5, 5, 5}, 6)
	if !ok || !equalKeep(k, want) {
		t.Errorf("KeepShard = %v, %v, want %v", k, ok, want)
	}
	checkKeep(t, impl.KeepRedo(both), impl.Keep{Stripe: plainStripe(impl.KindWide, []int{5, 5, 5, 5}, 6)}, "KeepRedo")
	for _, count := range []int{3, 5, 8} {
		checkNoKeep(t, impl.Keep{Stripe: s, On: true, Kind: impl.KindWide, Data: fives[:count], Vers: 6})
	}
	for _, count := range []int{7, 9, 12} {
		s := impl.Stripe{Kind: impl.KindWide, Vals: fives[:count], Vers: fives[:count], There: yes[:count]}
		checkNoKeep(t, impl.Keep{Stripe: s})
		checkNoKeep(t, impl.Keep{Stripe: s, On: true, Kind: impl.KindWide, Data: fives[:4], Vers: 6})
	}
	if !slices.Equal(fives, slices.Repeat([]int{5}, 12)) || slices.Contains(yes, false) {
		t.Error("arguments are changed")
	}
}
