package tests

import (
	"math"
	"math/bits"
	"slices"
	"sync"
	"testing"

	"loop.example/keelson/impl"
)

// setsOf are all ascending lists of so many shards, in lexicographic order.
func setsOf(count int) [][]int {
	var list [][]int
	forEachFlags(func(_ []bool, at []int) {
		if len(at) == count {
			list = append(list, at)
		}
	})
	slices.SortFunc(list, slices.Compare)
	return list
}

// nonzeroTimes are all lists of so many nonzero elements.
func nonzeroTimes(count int) [][]int {
	list := [][]int{{}}
	for range count {
		var more [][]int
		for _, times := range list {
			for c := 1; c < 31; c++ {
				more = append(more, append(slices.Clone(times), c))
			}
		}
		list = more
	}
	return list
}

// plainPlansOf looks for the row of a shard among all sums of multiples of the rows of a set, so that it owes nothing
// to row reduction. It keeps the sums of one half of the set, because all sums of four rows are too many.
func plainPlansOf(kind int, lost int, set []int) []impl.Plan {
	rows := plainRows(kind)
	first, second := set[:len(set)/2], set[len(set)/2:]
	sums := map[[4]int][][]int{}
	for _, by := range nonzeroTimes(len(first)) {
		sum := [4]int(combination(pick(rows, first), by))
		sums[sum] = append(sums[sum], by)
	}
	var list []impl.Plan
	for _, by := range nonzeroTimes(len(second)) {
		rest := plainVecSum(rows[lost], plainVecScale(combination(pick(rows, second), by), 30))
		for _, begin := range sums[[4]int(rest)] {
			list = append(list, impl.Plan{Lost: lost, From: slices.Clone(set), By: slices.Concat(begin, by)})
		}
	}
	return list
}

// plainPlans are all correct plans of both codes and each shard, those of fewer shards first, and of as many shards
// the lexicographically first sets first.
var plainPlans = sync.OnceValue(func() map[[2]int][]impl.Plan {
	plans := map[[2]int][]impl.Plan{}
	for _, kind := range bothKinds() {
		for lost := range 8 {
			for count := 1; count <= 4; count++ {
				for _, set := range setsOf(count) {
					if !slices.Contains(set, lost) {
						key := [2]int{kind, lost}
						plans[key] = append(plans[key], plainPlansOf(kind, lost, set)...)
					}
				}
			}
		}
	}
	return plans
})

// wantedPlan is what PlanOf must return: the first correct plan whose shards are all available.
func wantedPlan(kind int, lost int, there []bool) (impl.Plan, bool) {
	for _, p := range plainPlans()[[2]int{kind, lost}] {
		if !slices.ContainsFunc(p.From, func(at int) bool { return !there[at] }) {
			return p, true
		}
	}
	return impl.Plan{}, false
}

// forEachPlan visits all correct plans of both codes, also those that are not of the fewest shards.
func forEachPlan(visit func(kind int, p impl.Plan)) {
	for _, kind := range bothKinds() {
		for lost := range 8 {
			for _, p := range plainPlans()[[2]int{kind, lost}] {
				visit(kind, clonePlan(p))
			}
		}
	}
}

// forEachLoss visits both codes, all flag lists and each shard, which is flagged as available in half of them.
func forEachLoss(visit func(kind int, lost int, there []bool, others []int)) {
	for _, kind := range bothKinds() {
		forEachFlags(func(there []bool, at []int) {
			for lost := range 8 {
				others := slices.DeleteFunc(slices.Clone(at), func(at int) bool { return at == lost })
				visit(kind, lost, there, others)
			}
		})
	}
}

func equalPlan(a impl.Plan, b impl.Plan) bool {
	return a.Lost == b.Lost && slices.Equal(a.From, b.From) && slices.Equal(a.By, b.By)
}

func clonePlan(p impl.Plan) impl.Plan {
	return impl.Plan{Lost: p.Lost, From: slices.Clone(p.From), By: slices.Clone(p.By)}
}

// roomyPlan is a copy of a plan with spare capacity, to tempt an implementation that appends.
func roomyPlan(p impl.Plan) impl.Plan {
	from, by := append(make([]int, 0, 12), p.From...), append(make([]int, 0, 12), p.By...)
	return impl.Plan{Lost: p.Lost, From: from, By: by}
}

// checkPlanOf expects the zero plan if want is nil.
func checkPlanOf(t *testing.T, kind int, lost int, there []bool, want *impl.Plan) {
	t.Helper()
	got, ok := impl.PlanOf(kind, lost, there)
	if want == nil {
		if ok || !equalPlan(got, impl.Plan{}) {
			t.Errorf("PlanOf(%d, %d, %v) = %v, %v, want false", kind, lost, there, got, ok)
		}
		return
	}
	if !ok || !equalPlan(got, *want) {
		t.Errorf("PlanOf(%d, %d, %v) = %v, %v, want %v", kind, lost, there, got, ok, *want)
	}
}

func checkPlanOk(t *testing.T, kind int, p impl.Plan, want bool) {
	t.Helper()
	if got := impl.PlanOk(kind, p); got != want {
		t.Errorf("PlanOk(%d, %v) = %v, want %v", kind, p, got, want)
	}
}

func checkPlanDo(t *testing.T, p impl.Plan, vals []int, want int) {
	t.Helper()
	if got, ok := impl.PlanDo(p, vals); !ok || got != want {
		t.Errorf("PlanDo(%v, %v) = %d, %v, want %d", p, vals, got, ok, want)
	}
}

func checkPlanDoFails(t *testing.T, p impl.Plan, vals []int) {
	t.Helper()
	if got, ok := impl.PlanDo(p, vals); ok || got != 0 {
		t.Errorf("PlanDo(%v, %v) = %d, %v, want 0, false", p, vals, got, ok)
	}
}

func checkPlanAllFails(t *testing.T, kind int, there []bool) {
	t.Helper()
	if got, ok := impl.PlanAll(kind, there); ok || len(got) != 0 {
		t.Errorf("PlanAll(%d, %v) = %v, %v, want false", kind, there, got, ok)
	}
}

// someValues are lists of ShardMax elements, few of which are shards of any data.
func someValues() [][]int {
	list := [][]int{
		make([]int, 8), slices.Repeat([]int{1}, 8), slices.Repeat([]int{30}, 8), {0, 1, 2, 3, 4, 5, 6, 7},
		{30, 0, 16, 15, 29, 1, 2, 8},
	}
	for at := range 8 {
		one := make([]int, 8)
		one[at] = 1 + 4*at%30
		list = append(list, one)
	}
	n := 3
	for range 12 {
		var vals []int
		for range 8 {
			n = (n*211 + 57) % 1013
			vals = append(vals, n%31)
		}
		list = append(list, vals)
	}
	return list
}

// somePlans are well-formed plans of one to four shards for each shard, nearly all of them incorrect.
func somePlans() []impl.Plan {
	var list []impl.Plan
	n := 5
	for lost := range 8 {
		for count := 1; count <= 4; count++ {
			for _, set := range setsOf(count) {
				if slices.Contains(set, lost) {
					continue
				}
				var by []int
				for range count {
					n = (n*173 + 29) % 1009
					by = append(by, 1+n%30)
				}
				list = append(list, impl.Plan{Lost: lost, From: set, By: by})
			}
		}
	}
	return list
}

// notPlans are not well formed. Where the flaw allows it, there is one that adds up to the lost row of KindLocal once
// the flaw is overlooked.
func notPlans() []impl.Plan {
	list := []impl.Plan{
		{},
		{Lost: 3},
		{Lost: 3, From: []int{}, By: []int{}},
		{Lost: 3, From: nil, By: []int{30, 1}},
		{Lost: 3, From: []int{2, 5}, By: nil},
		{Lost: 3, From: []int{2, 5}, By: []int{30}},
		{Lost: 3, From: []int{2, 5}, By: []int{30, 1, 1}},
		{Lost: 3, From: []int{2, 5}, By: []int{30, 1, 0}},
		{Lost: 3, From: []int{2, 5, 6}, By: []int{30, 1}},
		{Lost: 3, From: []int{2}, By: []int{30, 1}},
		{Lost: 3, From: []int{2, 5, 6, 7, 7}, By: []int{30, 1, 1, 30}},
		// Five shards and more.
		{Lost: 6, From: []int{0, 1, 2, 3, 4}, By: []int{2, 3, 4, 8, 30}},
		{Lost: 6, From: []int{0, 1, 2, 3, 4, 5}, By: []int{2, 3, 5, 9, 30, 30}},
		{Lost: 6, From: []int{0, 1, 2, 3, 7}, By: []int{0, 0, 0, 0, 1}},
		// Not ascending, or one of them twice.
		{Lost: 3, From: []int{5, 2}, By: []int{1, 30}},
		{Lost: 6, From: []int{0, 2, 1, 3}, By: []int{1, 4, 2, 8}},
		{Lost: 6, From: []int{3, 2, 1, 0}, By: []int{8, 4, 2, 1}},
		{Lost: 3, From: []int{2, 2, 5}, By: []int{15, 15, 1}},
		{Lost: 3, From: []int{2, 5, 5}, By: []int{30, 30, 2}},
		{Lost: 3, From: []int{2, 2}, By: []int{30, 1}},
		// The lost shard itself.
		{Lost: 3, From: []int{3}, By: []int{1}},
		{Lost: 0, From: []int{0}, By: []int{1}},
		{Lost: 7, From: []int{7}, By: []int{1}},
		{Lost: 3, From: []int{2, 3, 5}, By: []int{29, 30, 2}},
		{Lost: 0, From: []int{0, 1, 4}, By: []int{2, 1, 30}},
		{Lost: 4, From: []int{0, 1, 4}, By: []int{2, 2, 30}},
		// A coefficient 0.
		{Lost: 3, From: []int{2, 5, 6}, By: []int{30, 1, 0}},
		{Lost: 3, From: []int{0, 2, 5}, By: []int{0, 30, 1}},
		{Lost: 3, From: []int{2, 4, 5}, By: []int{30, 0, 1}},
		{Lost: 3, From: []int{2, 5}, By: []int{0, 0}},
		{Lost: 3, From: []int{2}, By: []int{0}},
	}
	for _, bad := range notElements() {
		list = append(list,
			impl.Plan{Lost: 3, From: []int{2, 5}, By: []int{bad, 1}},
			impl.Plan{Lost: 3, From: []int{2, 5}, By: []int{30, bad}},
			impl.Plan{Lost: 6, From: []int{0, 1, 2, 3}, By: []int{1, 2, 4, bad}},
			impl.Plan{Lost: 3, From: []int{2}, By: []int{bad}})
	}
	for _, by := range [][]int{{-1, 1}, {61, 1}, {30, 32}, {30, -30}, {30, 1 + 31<<8}, {30, 1<<32 + 1}} {
		list = append(list, impl.Plan{Lost: 3, From: []int{2, 5}, By: by})
	}
	for _, bad := range notShards() {
		list = append(list,
			impl.Plan{Lost: bad, From: []int{2, 5}, By: []int{30, 1}},
			impl.Plan{Lost: bad, From: []int{0}, By: []int{1}},
			impl.Plan{Lost: 3, From: []int{bad}, By: []int{1}},
			impl.Plan{Lost: 3, From: []int{bad, 5}, By: []int{30, 1}},
			impl.Plan{Lost: 3, From: []int{2, bad}, By: []int{30, 1}},
			impl.Plan{Lost: 6, From: []int{0, 1, 2, bad}, By: []int{1, 2, 4, 8}})
	}
	return list
}

// Promises 33 to 35; every set of available shards, each shard lost.
func TestPlanOfEachSet(t *testing.T) {
	forEachLoss(func(kind int, lost int, there []bool, _ []int) {
		want, ok := wantedPlan(kind, lost, there)
		if ok {
			checkPlanOf(t, kind, lost, there, &want)
		} else {
			checkPlanOf(t, kind, lost, there, nil)
		}
	})
}

// Promises 33 to 35; plans written out. Where several sets are as small, the first of them is taken.
func TestPlanOfValues(t *testing.T) {
	for _, c := range []struct {
		kind, lost int
		without    []int
		from, by   []int
	}{
		{impl.KindLocal, 0, nil, []int{1, 4}, []int{30, 1}},
		{impl.KindLocal, 1, nil, []int{0, 4}, []int{30, 1}},
		{impl.KindLocal, 2, nil, []int{3, 5}, []int{30, 1}},
		{impl.KindLocal, 3, nil, []int{2, 5}, []int{30, 1}},
		{impl.KindLocal, 4, nil, []int{0, 1}, []int{1, 1}},
		{impl.KindLocal, 5, nil, []int{2, 3}, []int{1, 1}},
		{impl.KindLocal, 6, nil, []int{0, 1, 2, 3}, []int{1, 2, 4, 8}},
		{impl.KindLocal, 7, nil, []int{0, 1, 2, 3}, []int{1, 3, 9, 27}},
		{impl.KindLocal, 0, []int{4}, []int{1, 2, 3, 6}, []int{29, 27, 23, 1}},
		{impl.KindLocal, 6, []int{0}, []int{1, 2, 3, 4}, []int{1, 4, 8, 1}},
		{impl.KindLocal, 6, []int{1, 3}, []int{0, 2, 4, 5}, []int{30, 27, 2, 8}},
		{impl.KindLocal, 0, []int{4, 6, 7}, nil, nil},
		{impl.KindLocal, 0, []int{1, 4}, []int{2, 3, 6, 7}, []int{6, 30, 3, 29}},
		{impl.KindLocal, 6, []int{0, 1, 7}, nil, nil},
		{impl.KindWide, 0, nil, []int{1, 2, 3, 4}, []int{4, 25, 4, 30}},
		{impl.KindWide, 7, nil, []int{0, 1, 2, 3}, []int{11, 8, 9, 4}},
		{impl.KindWide, 7, []int{0, 1, 2}, []int{3, 4, 5, 6}, []int{30, 4, 25, 4}},
		{impl.KindWide, 7, []int{0, 1, 2, 3}, nil, nil},
		{impl.KindWide, 0, []int{1, 2, 3, 4, 5, 6, 7}, nil, nil},
	} {
		want := &impl.Plan{Lost: c.lost, From: c.from, By: c.by}
		if c.from == nil {
			want = nil
		}
		checkPlanOf(t, c.kind, c.lost, lossOf(c.without...), want)
		checkPlanOf(t, c.kind, c.lost, lossOf(append(c.without, c.lost)...), want)
	}
}

// Promise 33.
func TestPlanOfCorrect(t *testing.T) {
	forEachLoss(func(kind int, lost int, there []bool, others []int) {
		p, ok := impl.PlanOf(kind, lost, there)
		if !ok {
			return
		}
		if p.Lost != lost || len(p.From) < 1 || len(p.From) > 4 || len(p.By) != len(p.From) {
			t.Fatalf("PlanOf(%d, %d, %v) = %v", kind, lost, there, p)
		}
		for _, at := range p.From {
			if !slices.Contains(others, at) {
				t.Errorf("PlanOf(%d, %d, %v) = %v, which uses %d", kind, lost, there, p, at)
			}
		}
		checkVec(t, combination(pick(plainRows(kind), p.From), p.By), rowOf(t, kind, lost), "the rows of", p)
		checkPlanOk(t, kind, p, true)
	})
}

// Promise 34.
func TestPlanOfSpan(t *testing.T) {
	forEachLoss(func(kind int, lost int, there []bool, others []int) {
		rows := plainRows(kind)
		want := impl.SpanHas(pick(rows, others), rows[lost])
		if p, ok := impl.PlanOf(kind, lost, there); ok != want {
			t.Errorf("PlanOf(%d, %d, %v) = %v, %v, want %v", kind, lost, there, p, ok, want)
		}
	})
}

// Promise 34; no shard is made of none.
func TestPlanOfNothing(t *testing.T) {
	for _, kind := range bothKinds() {
		for lost := range 8 {
			checkPlanOf(t, kind, lost, make([]bool, 8), nil)
			alone := make([]bool, 8)
			alone[lost] = true
			checkPlanOf(t, kind, lost, alone, nil)
		}
	}
}

// Promise 35.
func TestPlanOfFewest(t *testing.T) {
	forEachLoss(func(kind int, lost int, there []bool, others []int) {
		p, ok := impl.PlanOf(kind, lost, there)
		if !ok {
			return
		}
		rows := plainRows(kind)
		for i := range p.From {
			rest := slices.Delete(slices.Clone(p.From), i, i+1)
			if impl.SpanHas(pick(rows, rest), rows[lost]) {
				t.Errorf("PlanOf(%d, %d, %v) = %v, but %v are enough", kind, lost, there, p, rest)
			}
		}
		for set := range uint(1) << len(others) {
			if bits.OnesCount(set) >= len(p.From) {
				continue
			}
			var smaller []int
			for i, at := range others {
				if set>>i&1 == 1 {
					smaller = append(smaller, at)
				}
			}
			if impl.SpanHas(pick(rows, smaller), rows[lost]) {
				t.Errorf("PlanOf(%d, %d, %v) = %v, but %v are enough", kind, lost, there, p, smaller)
			}
		}
	})
}

// The chapter's rule for several sets; no set of as many shards before the one of the plan makes the shard.
func TestPlanOfFirst(t *testing.T) {
	forEachLoss(func(kind int, lost int, there []bool, others []int) {
		p, ok := impl.PlanOf(kind, lost, there)
		if !ok {
			return
		}
		rows := plainRows(kind)
		for _, set := range setsOf(len(p.From)) {
			if slices.Compare(set, p.From) >= 0 {
				break
			}
			here := !slices.ContainsFunc(set, func(at int) bool { return !slices.Contains(others, at) })
			if here && impl.SpanHas(pick(rows, set), rows[lost]) {
				t.Errorf("PlanOf(%d, %d, %v) = %v, but %v comes before it", kind, lost, there, p, set)
			}
		}
	})
}

// Promise 36; also, what has a plan has one with a further shard.
func TestPlanOfFurther(t *testing.T) {
	forEachLoss(func(kind int, lost int, there []bool, _ []int) {
		p, ok := impl.PlanOf(kind, lost, there)
		if !ok {
			return
		}
		for at := range there {
			more := slices.Clone(there)
			more[at] = true
			q, ok := impl.PlanOf(kind, lost, more)
			if !ok || len(q.From) > len(p.From) {
				t.Errorf("PlanOf(%d, %d, %v) = %v, with %d it is %v, %v", kind, lost, there, p, at, q, ok)
			}
		}
	})
}

// Promise 42.
func TestPlanOfLostFlag(t *testing.T) {
	forEachLoss(func(kind int, lost int, there []bool, _ []int) {
		p, ok := impl.PlanOf(kind, lost, there)
		other := slices.Clone(there)
		other[lost] = !there[lost]
		if q, okQ := impl.PlanOf(kind, lost, other); ok != okQ || !equalPlan(p, q) {
			t.Errorf("PlanOf(%d, %d, %v) = %v, %v, but %v, %v for %v", kind, lost, there, p, ok, q, okQ, other)
		}
	})
}

// Promise 34, invalid codes, shards and flags.
func TestPlanOfInvalid(t *testing.T) {
	for _, kind := range append(notKinds(), bothKinds()...) {
		for _, lost := range append(notShards(), 0, 3, 7) {
			for _, there := range notFlags() {
				checkPlanOf(t, kind, lost, there, nil)
			}
		}
		for _, lost := range notShards() {
			checkPlanOf(t, kind, lost, lossOf(), nil)
			checkPlanOf(t, kind, lost, lossOf(0), nil)
		}
	}
	for _, kind := range notKinds() {
		for lost := range 8 {
			checkPlanOf(t, kind, lost, lossOf(), nil)
			checkPlanOf(t, kind, lost, lossOf(lost), nil)
		}
	}
}

// Promise 37; all correct plans, also those that are not of the fewest shards.
func TestPlanDoEachPlan(t *testing.T) {
	for _, kind := range bothKinds() {
		for _, data := range someVectors() {
			all := impl.CodeAll(kind, data)
			for lost := range 8 {
				for _, p := range plainPlans()[[2]int{kind, lost}] {
					checkPlanDo(t, p, all, all[lost])
				}
			}
		}
	}
}

// Promise 37; every set of available shards. Nothing is read of a shard that is not in the plan.
func TestPlanDoOfPlanOf(t *testing.T) {
	data := [][]int{{5, 6, 7, 8}, {30, 0, 16, 1}}
	forEachLoss(func(kind int, lost int, there []bool, _ []int) {
		p, ok := impl.PlanOf(kind, lost, there)
		if !ok {
			return
		}
		for _, v := range data {
			all := plainShards(kind, v)
			want := all[lost]
			checkPlanDo(t, p, all, want)
			for at := range all {
				if at == lost || !there[at] {
					all[at] = 0
				}
			}
			checkPlanDo(t, p, all, want)
		}
	})
}

// Promise 37; all data, for the plan of each shard with all others available.
func TestPlanDoAllData(t *testing.T) {
	for _, kind := range bothKinds() {
		words := plainWords(kind)
		for lost := range 8 {
			p, ok := impl.PlanOf(kind, lost, lossOf(lost))
			if !ok {
				t.Fatalf("PlanOf(%d, %d) fails", kind, lost)
			}
			all := make([]int, 8)
			for _, word := range words {
				for at, n := range word {
					all[at] = int(n)
				}
				if got, ok := impl.PlanDo(p, all); !ok || got != all[lost] {
					t.Fatalf("PlanDo(%v, %v) = %d, %v", p, all, got, ok)
				}
			}
		}
	}
}

// checkUnits expects PlanOk to be as wanted, and PlanDo of all four unit vectors to be the lost shard only then.
func checkUnits(t *testing.T, kind int, units [][]int, p impl.Plan, want bool) {
	t.Helper()
	checkPlanOk(t, kind, p, want)
	same := true
	for _, all := range units {
		n, ok := impl.PlanDo(p, all)
		if !ok {
			t.Fatalf("PlanDo(%v, %v) fails", p, all)
		}
		same = same && n == all[p.Lost]
	}
	if same != want {
		t.Errorf("PlanDo(%v) of the unit vectors of code %d: equal is %v, want %v", p, kind, same, want)
	}
}

func unitShards(t *testing.T, kind int) [][]int {
	var units [][]int
	for at := range 4 {
		units = append(units, impl.CodeAll(kind, unitOf(t, at)))
	}
	return units
}

// Promises 37 and 38; all plans of one and two shards.
func TestPlanOkSmallPlans(t *testing.T) {
	for _, kind := range bothKinds() {
		rows, units := plainRows(kind), unitShards(t, kind)
		for count := 1; count <= 2; count++ {
			for _, set := range setsOf(count) {
				for _, by := range nonzeroTimes(count) {
					sum := combination(pick(rows, set), by)
					for lost := range 8 {
						if !slices.Contains(set, lost) {
							p := impl.Plan{Lost: lost, From: set, By: by}
							checkUnits(t, kind, units, p, slices.Equal(sum, rows[lost]))
						}
					}
				}
			}
		}
	}
}

// Promise 38; no shard is a multiple of one other, so a plan of one shard is well formed, but never correct.
func TestPlanOneShard(t *testing.T) {
	vals := []int{3, 1, 4, 1, 5, 9, 2, 6}
	for lost := range 8 {
		for at := range 8 {
			for by := 1; by < 31; by++ {
				p := impl.Plan{Lost: lost, From: []int{at}, By: []int{by}}
				checkPlanOk(t, impl.KindLocal, p, false)
				checkPlanOk(t, impl.KindWide, p, false)
				if at == lost {
					checkPlanDoFails(t, p, vals)
				} else {
					checkPlanDo(t, p, vals, plainMul(vals[at], by))
				}
			}
		}
	}
}

// Promises 37 and 38; all correct plans, and each with one coefficient, one shard or the lost shard changed.
func TestPlanOkChangedPlans(t *testing.T) {
	forEachPlan(func(kind int, p impl.Plan) {
		rows, units := plainRows(kind), unitShards(t, kind)
		checkUnits(t, kind, units, p, true)
		check := func(q impl.Plan) {
			sum := combination(pick(rows, q.From), q.By)
			checkUnits(t, kind, units, q, slices.Equal(sum, rows[q.Lost]))
		}
		for i := range p.By {
			for c := 1; c < 31; c++ {
				q := clonePlan(p)
				q.By[i] = c
				check(q)
			}
			for at := range 8 {
				q := clonePlan(p)
				q.From[i] = at
				if slices.IsSorted(q.From) && len(slices.Compact(slices.Clone(q.From))) == len(q.From) && at != p.Lost {
					check(q)
				}
			}
		}
		for lost := range 8 {
			if !slices.Contains(p.From, lost) {
				q := clonePlan(p)
				q.Lost = lost
				check(q)
			}
		}
	})
}

// Promise 38; plans of each set of one to four shards.
func TestPlanOkSomePlans(t *testing.T) {
	for _, kind := range bothKinds() {
		rows, units := plainRows(kind), unitShards(t, kind)
		for _, p := range somePlans() {
			checkUnits(t, kind, units, p, slices.Equal(combination(pick(rows, p.From), p.By), rows[p.Lost]))
		}
	}
}

// Promises 37 and 38; plans written out. A plan need not be of the fewest shards, and is correct for its own code only.
func TestPlanOkValues(t *testing.T) {
	for _, c := range []struct {
		p           impl.Plan
		local, wide bool
	}{
		{impl.Plan{Lost: 3, From: []int{2, 5}, By: []int{30, 1}}, true, false},
		{impl.Plan{Lost: 3, From: []int{2, 5}, By: []int{1, 1}}, false, false},
		{impl.Plan{Lost: 2, From: []int{3, 5}, By: []int{30, 1}}, true, false},
		{impl.Plan{Lost: 5, From: []int{2, 3}, By: []int{1, 1}}, true, false},
		{impl.Plan{Lost: 4, From: []int{2, 3}, By: []int{1, 1}}, false, false},
		{impl.Plan{Lost: 0, From: []int{1, 2, 3, 6}, By: []int{29, 27, 23, 1}}, true, false},
		{impl.Plan{Lost: 0, From: []int{1, 2, 3, 4}, By: []int{4, 25, 4, 30}}, false, true},
		{impl.Plan{Lost: 7, From: []int{0, 1, 2, 3}, By: []int{11, 8, 9, 4}}, false, true},
		{impl.Plan{Lost: 7, From: []int{3, 4, 5, 6}, By: []int{30, 4, 25, 4}}, false, true},
		{impl.Plan{Lost: 7, From: []int{3, 4, 5, 6}, By: []int{30, 4, 25, 5}}, false, false},
		{impl.Plan{Lost: 7, From: []int{0, 1, 2}, By: []int{11, 8, 9}}, false, false},
	} {
		checkPlanOk(t, impl.KindLocal, c.p, c.local)
		checkPlanOk(t, impl.KindWide, c.p, c.wide)
	}
}

// Promises 37 and 38, invalid codes and plans.
func TestPlanOkInvalid(t *testing.T) {
	for _, kind := range append(notKinds(), bothKinds()...) {
		for _, p := range notPlans() {
			checkPlanOk(t, kind, p, false)
		}
	}
	forEachPlan(func(_ int, p impl.Plan) {
		for _, kind := range notKinds() {
			checkPlanOk(t, kind, p, false)
		}
	})
}

// Promise 39.
func TestPlanDoSum(t *testing.T) {
	check := func(p impl.Plan) {
		for _, vals := range someValues() {
			want := 0
			for i, at := range p.From {
				want = plainSum(want, plainMul(p.By[i], vals[at]))
			}
			checkPlanDo(t, p, vals, want)
		}
	}
	for _, p := range somePlans() {
		check(p)
	}
	forEachPlan(func(_ int, p impl.Plan) { check(p) })
}

// doneBy is PlanDo of a plan and values that must be valid.
func doneBy(t *testing.T, p impl.Plan, vals []int) int {
	t.Helper()
	n, ok := impl.PlanDo(p, vals)
	if !ok {
		t.Fatalf("PlanDo(%v, %v) fails", p, vals)
	}
	return n
}

// Promise 39.
func TestPlanDoLinear(t *testing.T) {
	for i, p := range somePlans() {
		if i%7 != 0 {
			continue
		}
		for _, a := range someValues() {
			n := doneBy(t, p, a)
			for c := range 31 {
				var scaled []int
				for _, m := range a {
					scaled = append(scaled, impl.FieldMul(m, c))
				}
				checkPlanDo(t, p, scaled, impl.FieldMul(n, c))
			}
			for _, b := range someValues() {
				var sum []int
				for at := range a {
					sum = append(sum, impl.FieldSum(a[at], b[at]))
				}
				checkPlanDo(t, p, sum, impl.FieldSum(n, doneBy(t, p, b)))
			}
		}
	}
}

// Promises 37 and 39; values written out. A plan is carried out without regard to any code.
func TestPlanDoValues(t *testing.T) {
	vals := []int{5, 6, 7, 8, 11, 15, 16, 30}
	for _, c := range []struct {
		from, by []int
		want     int
	}{
		{[]int{2, 5}, []int{30, 1}, 8},
		{[]int{2, 5}, []int{1, 1}, 22},
		{[]int{0}, []int{1}, 5},
		{[]int{7}, []int{30}, 1},
		{[]int{0, 1}, []int{30, 30}, 20},
		{[]int{0, 4, 7}, []int{2, 3, 4}, 8},
		{[]int{0, 1, 2, 4}, []int{1, 2, 3, 4}, 20},
		{[]int{4, 5, 6, 7}, []int{30, 30, 30, 30}, 21},
	} {
		checkPlanDo(t, impl.Plan{Lost: 3, From: c.from, By: c.by}, vals, c.want)
	}
}

// Promise 39, invalid plans and values; values must be elements also at shards that are not in the plan.
func TestPlanDoInvalid(t *testing.T) {
	for _, p := range notPlans() {
		for _, vals := range someValues() {
			checkPlanDoFails(t, p, vals)
		}
		checkPlanDoFails(t, p, nil)
		checkPlanDoFails(t, p, []int{31, 0, 0, 0, 0, 0, 0, 0})
	}
	for i, p := range somePlans() {
		if i%11 != 0 {
			continue
		}
		for _, vals := range notValues() {
			checkPlanDoFails(t, p, vals)
		}
	}
}

// Promise 40.
func TestPlanNearValues(t *testing.T) {
	wants := map[int][]int{impl.KindLocal: {2, 2, 2, 2, 2, 2, 4, 4}, impl.KindWide: {4, 4, 4, 4, 4, 4, 4, 4}}
	for _, kind := range bothKinds() {
		for lost, want := range wants[kind] {
			if got := impl.PlanNear(kind, lost); got != want {
				t.Errorf("PlanNear(%d, %d) = %d, want %d", kind, lost, got, want)
			}
			for _, there := range [][]bool{lossOf(), lossOf(lost)} {
				if p, ok := impl.PlanOf(kind, lost, there); !ok || len(p.From) != want {
					t.Errorf("PlanOf(%d, %d, %v) = %v, %v, want %d shards", kind, lost, there, p, ok, want)
				}
			}
		}
	}
}

// Promise 40, invalid codes and shards.
func TestPlanNearInvalid(t *testing.T) {
	check := func(kind int, lost int) {
		if got := impl.PlanNear(kind, lost); got != 0 {
			t.Errorf("PlanNear(%d, %d) = %d, want 0", kind, lost, got)
		}
	}
	for _, lost := range append(notShards(), math.MaxInt-7) {
		for _, kind := range append(notKinds(), bothKinds()...) {
			check(kind, lost)
		}
	}
	for _, kind := range notKinds() {
		for lost := range 8 {
			check(kind, lost)
		}
	}
}

// checkPlanAll compares PlanAll with PlanOf of each lost shard, and with the plans wanted of these.
func checkPlanAll(t *testing.T, kind int, there []bool) {
	t.Helper()
	var want []impl.Plan
	for lost, here := range there {
		if here {
			continue
		}
		p, ok := wantedPlan(kind, lost, there)
		if q, okQ := impl.PlanOf(kind, lost, there); okQ != ok || !equalPlan(p, q) {
			t.Errorf("PlanOf(%d, %d, %v) = %v, %v, want %v, %v", kind, lost, there, q, okQ, p, ok)
		}
		if !ok {
			checkPlanAllFails(t, kind, there)
			return
		}
		want = append(want, p)
	}
	if got, ok := impl.PlanAll(kind, there); !ok || !slices.EqualFunc(got, want, equalPlan) {
		t.Errorf("PlanAll(%d, %v) = %v, %v, want %v", kind, there, got, ok, want)
	}
}

// Promise 41; every set of available shards. All rows together have rank VecLen, so that it fails if CodeBears does.
func TestPlanAllEachSet(t *testing.T) {
	for _, kind := range bothKinds() {
		forEachFlags(func(there []bool, _ []int) {
			checkPlanAll(t, kind, there)
			if got, ok := impl.PlanAll(kind, there); ok != impl.CodeBears(kind, there) {
				t.Errorf("PlanAll(%d, %v) = %v, %v, but not so CodeBears", kind, there, got, ok)
			}
		})
	}
}

// Promise 41; lists written out. No plan uses a shard that another plan makes.
func TestPlanAllValues(t *testing.T) {
	for _, c := range []struct {
		kind int
		lost []int
		want []impl.Plan
	}{
		{impl.KindLocal, []int{0, 5}, []impl.Plan{
			{Lost: 0, From: []int{1, 4}, By: []int{30, 1}},
			{Lost: 5, From: []int{2, 3}, By: []int{1, 1}},
		}},
		{impl.KindLocal, []int{3, 4, 6}, []impl.Plan{
			{Lost: 3, From: []int{2, 5}, By: []int{30, 1}},
			{Lost: 4, From: []int{0, 1}, By: []int{1, 1}},
			{Lost: 6, From: []int{0, 1, 2, 5}, By: []int{1, 2, 27, 8}},
		}},
		{impl.KindLocal, []int{0, 1}, []impl.Plan{
			{Lost: 0, From: []int{2, 3, 4, 6}, By: []int{4, 8, 2, 30}},
			{Lost: 1, From: []int{2, 3, 4, 6}, By: []int{27, 23, 30, 1}},
		}},
		{impl.KindWide, []int{0, 7}, []impl.Plan{
			{Lost: 0, From: []int{1, 2, 3, 4}, By: []int{4, 25, 4, 30}},
			{Lost: 7, From: []int{1, 2, 3, 4}, By: []int{21, 5, 17, 20}},
		}},
	} {
		got, ok := impl.PlanAll(c.kind, lossOf(c.lost...))
		if !ok || !slices.EqualFunc(got, c.want, equalPlan) {
			t.Errorf("PlanAll(%d) without %v = %v, %v, want %v", c.kind, c.lost, got, ok, c.want)
		}
	}
}

// Promise 41; nothing lost, and everything.
func TestPlanAllEnds(t *testing.T) {
	for _, kind := range bothKinds() {
		if got, ok := impl.PlanAll(kind, lossOf()); !ok || len(got) != 0 {
			t.Errorf("PlanAll(%d) with nothing lost = %v, %v, want none, true", kind, got, ok)
		}
		checkPlanAllFails(t, kind, make([]bool, 8))
	}
}

// Promise 41, invalid codes and flags; a list that is no flag list fails also if it has no lost shard.
func TestPlanAllInvalid(t *testing.T) {
	for _, kind := range append(notKinds(), bothKinds()...) {
		for _, there := range notFlags() {
			checkPlanAllFails(t, kind, there)
		}
	}
	for _, kind := range notKinds() {
		forEachFlags(func(there []bool, _ []int) { checkPlanAllFails(t, kind, there) })
	}
}

// checkPlansApart expects plans to share no memory, up to their capacity, among their slices: spoiling one spoils no other.
func checkPlansApart(t *testing.T, plans []impl.Plan, name string, arguments ...any) {
	t.Helper()
	var parts [][]int
	for _, p := range plans {
		parts = append(parts, p.From, p.By)
	}
	for i, part := range parts {
		was := wholeMatrix(parts[:i:i])
		rest := wholeMatrix(slices.Clip(parts[i+1:]))
		spoil(part)
		if !equalMatrix(wholeMatrix(parts[:i:i]), was) || !equalMatrix(wholeMatrix(slices.Clip(parts[i+1:])), rest) {
			t.Errorf("%s%v: slice %d of the plans shares memory with another", name, arguments, i)
		}
	}
}

// Promise 33, memory; spoiled plans do not spoil later ones either.
func TestPlanOfApart(t *testing.T) {
	forEachLoss(func(kind int, lost int, there []bool, _ []int) {
		first, ok := impl.PlanOf(kind, lost, there)
		again, _ := impl.PlanOf(kind, lost, there)
		if !ok {
			return
		}
		want := clonePlan(first)
		checkPlansApart(t, []impl.Plan{first, again}, "PlanOf", kind, lost, there)
		checkPlanOf(t, kind, lost, there, &want)
	})
}

// Promise 41, memory.
func TestPlanAllApart(t *testing.T) {
	for _, kind := range bothKinds() {
		forEachFlags(func(there []bool, _ []int) {
			first, ok := impl.PlanAll(kind, there)
			again, _ := impl.PlanAll(kind, there)
			if !ok {
				return
			}
			checkPlansApart(t, slices.Concat(first, again), "PlanAll", kind, there)
			kept := slices.Clone(again)
			for i := range first[:cap(first)] {
				first[:cap(first)][i] = impl.Plan{Lost: -7}
			}
			if !slices.EqualFunc(again, kept, equalPlan) {
				t.Errorf("two lists of PlanAll(%d, %v) share memory", kind, there)
			}
			checkPlanAll(t, kind, there)
		})
	}
}

// Promises 33 to 42; no function changes its arguments, valid or not, up to their capacity.
func TestPlanArgumentsUnchanged(t *testing.T) {
	for _, kind := range append(bothKinds(), 0, 3) {
		for _, flags := range append(notFlags(), lossOf(), lossOf(0, 3), lossOf(0, 1, 2, 3, 4), make([]bool, 8)) {
			there := append(make([]bool, 0, 300), flags...)
			was := slices.Clone(there[:300])
			for _, lost := range []int{0, 3, 7, -1, 8} {
				impl.PlanOf(kind, lost, there)
			}
			impl.PlanAll(kind, there)
			if !slices.Equal(there[:300], was) {
				t.Fatalf("the flags %v are changed", flags)
			}
		}
	}
	lists := append(someValues()[:6], notValues()...)
	for i, sample := range append(notPlans(), somePlans()...) {
		p := roomyPlan(sample)
		was := roomyPlan(sample)
		vals := append(make([]int, 0, 300), lists[i%len(lists)]...)
		wasVals := slices.Clone(vals[:300])
		impl.PlanOk(impl.KindLocal, p)
		impl.PlanOk(impl.KindWide, p)
		impl.PlanOk(0, p)
		impl.PlanDo(p, vals)
		if !slices.Equal(p.From[:cap(p.From)], was.From[:cap(was.From)]) || !slices.Equal(p.By[:cap(p.By)], was.By[:cap(was.By)]) {
			t.Fatalf("the plan %v is changed", sample)
		}
		if !slices.Equal(vals[:300], wasVals) {
			t.Fatalf("the values beside %v are changed", sample)
		}
	}
}

// Promises 33, 37 and 39; arguments may share memory, and their capacity does not count.
func TestPlanSharedArguments(t *testing.T) {
	wide := []int{1, 2, 3, 5, 3, 7, 18, 18, 31}
	p := impl.Plan{Lost: 0, From: wide[:2], By: wide[:2]}
	checkPlanDo(t, p, wide[:8], 8)
	checkPlanOk(t, impl.KindLocal, p, false)
	from, by := []int{2, 5, 6, 7, 4, 9}, []int{30, 1, 0, 31, -1}
	checkPlanOk(t, impl.KindLocal, impl.Plan{Lost: 3, From: from[:2], By: by[:2]}, true)
	checkPlanDo(t, impl.Plan{Lost: 3, From: from[:2], By: by[:2]}, wide[:8], 4)
	checkPlanOk(t, impl.KindLocal, impl.Plan{Lost: 3, From: from[:2], By: by[:1]}, false)
	checkPlanOf(t, impl.KindLocal, 3, append(lossOf(), false)[:8], &impl.Plan{Lost: 3, From: []int{2, 5}, By: []int{30, 1}})
}
