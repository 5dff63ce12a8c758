package tests

import (
	"math"
	"slices"
	"testing"

	"loop.example/keelson/impl"
)

func load(shard int) impl.Step {
	return impl.Step{Op: impl.StepLoad, A: shard}
}

func mul(step int, by int) impl.Step {
	return impl.Step{Op: impl.StepMul, A: step, B: by}
}

func add(a int, b int) impl.Step {
	return impl.Step{Op: impl.StepAdd, A: a, B: b}
}

// nextSteps are all steps that may follow so many steps.
func nextSteps(at int) []impl.Step {
	var list []impl.Step
	for shard := range 8 {
		list = append(list, load(shard))
	}
	for a := range at {
		for c := range 31 {
			list = append(list, mul(a, c))
		}
		for b := range at {
			list = append(list, add(a, b))
		}
	}
	return list
}

// mixedProgram has so many steps, which a short rule picks among all that may follow; one in three is a load.
func mixedProgram(count int, seed int) []impl.Step {
	var l []impl.Step
	for at := range count {
		seed = (seed*137 + 41) % 1009
		switch {
		case at == 0 || seed%3 == 0:
			l = append(l, load(seed%8))
		case seed%3 == 1:
			l = append(l, mul(seed%at, seed%31))
		default:
			l = append(l, add(seed%at, seed/7%at))
		}
	}
	return l
}

// doubling adds each result to itself, from one load on.
func doubling(shard int, count int) []impl.Step {
	l := []impl.Step{load(shard)}
	for at := range count - 1 {
		l = append(l, add(at, at))
	}
	return l
}

// somePrograms are programs of 1 to ProgMax steps: each load alone, steps that refer to step 0 and to the one just
// before, results that no step uses, the last of them and the first, and others by a short rule.
func somePrograms() [][]impl.Step {
	list := [][]impl.Step{
		{load(0), load(7)}, {load(7), load(0)}, {load(3), load(3)},
		{load(2), mul(0, 0)}, {load(2), mul(0, 1)}, {load(2), mul(0, 30)}, {load(5), add(0, 0)},
		{load(1), mul(0, 7), load(6)}, {load(1), load(6), mul(0, 7)}, {load(1), load(6), mul(1, 7)},
		{load(1), load(6), add(0, 1)}, {load(1), load(6), add(1, 0)}, {load(1), load(6), add(0, 0)},
		{load(1), load(6), add(1, 1)}, {load(0), load(1), load(2), add(0, 2)},
		{load(2), mul(0, 30), load(5), add(1, 2)}, {load(2), load(5), mul(0, 30), add(2, 1)},
		{load(0), mul(0, 5), mul(1, 25), mul(0, 2), add(3, 2)},
		doubling(4, 16), doubling(0, 2),
		{load(0), load(1), load(2), load(3), load(4), load(5), load(6), load(7), add(0, 1), add(8, 2), add(9, 3),
			add(10, 4), add(11, 5), add(12, 6), add(13, 7), mul(14, 9)},
		{load(7), mul(0, 2), add(0, 1), add(0, 2), add(0, 3), mul(0, 30), add(5, 0), load(1), load(2), add(0, 8), mul(0, 16),
			mul(10, 0), add(10, 11), add(0, 12), mul(13, 3), add(14, 0)},
	}
	for shard := range 8 {
		list = append(list, []impl.Step{load(shard)})
	}
	for count := 2; count <= 16; count++ {
		list = append(list, mixedProgram(count, count), mixedProgram(count, 100+count))
	}
	return list
}

// notPrograms have no step, steps too many, though all of these are valid, or one invalid step: alone, as the last, or
// before a valid one. Where the flaw allows it, a result can be computed once it is overlooked.
func notPrograms() [][]impl.Step {
	list := [][]impl.Step{
		nil, {}, []impl.Step{load(0)}[:0], doubling(0, 17), slices.Repeat([]impl.Step{load(3)}, 17), mixedProgram(17, 1),
		mixedProgram(40, 2), slices.Repeat([]impl.Step{load(0)}, 1<<8+1), slices.Repeat([]impl.Step{load(0)}, 1<<16+1),
		append(mixedProgram(16, 3), impl.Step{}),
	}
	for _, before := range [][]impl.Step{nil, {load(1)}, {load(2), mul(0, 30), load(5)}, mixedProgram(14, 4), mixedProgram(15, 5)} {
		for _, bad := range notSteps(len(before)) {
			l := append(slices.Clone(before), bad)
			list = append(list, l)
			if len(l) < 16 {
				list = append(list, append(slices.Clone(l), load(6)))
			}
		}
	}
	return list
}

// notSteps are invalid after so many steps.
func notSteps(at int) []impl.Step {
	var list []impl.Step
	for _, op := range []int{0, 4, -1, -2, -3, 5, 8, 1<<8 + 1, 1<<8 + 2, 1<<32 + 1, 1<<32 + 3, math.MaxInt, math.MinInt, math.MinInt + 1} {
		list = append(list, impl.Step{Op: op}, impl.Step{Op: op, A: at - 1, B: at - 1}, impl.Step{Op: op, A: 3})
	}
	for _, bad := range notShards() {
		list = append(list, load(bad))
	}
	for _, unused := range []int{1, -1, 2, 3, 7, 8, 31, 1 << 8, 1 << 32, math.MaxInt, math.MinInt} {
		list = append(list, impl.Step{Op: impl.StepLoad, A: 3, B: unused}, impl.Step{Op: impl.StepLoad, B: unused})
	}
	for _, bad := range []int{at, at + 1, at + 2, 15, 16, 17, -1, -2, -16, 1 << 8, 1 << 16, 1 << 32, math.MaxInt, math.MinInt} {
		if bad >= 0 && bad < at {
			continue
		}
		list = append(list, mul(bad, 1), mul(bad, 2), add(bad, bad), add(bad, 0), add(0, bad), add(bad, at-1), add(at-1, bad))
	}
	for _, bad := range notElements() {
		list = append(list, mul(0, bad), mul(at-1, bad))
	}
	return list
}

// plainResults carry out a program step by step on values; they are the results of all its steps.
func plainResults(l []impl.Step, vals []int) []int {
	var results []int
	for _, s := range l {
		switch s.Op {
		case impl.StepLoad:
			results = append(results, vals[s.A])
		case impl.StepMul:
			results = append(results, plainMul(results[s.A], s.B))
		case impl.StepAdd:
			results = append(results, plainSum(results[s.A], results[s.B]))
		}
	}
	return results
}

// plainProgRow carries out a program on each column of the generator matrix.
func plainProgRow(kind int, l []impl.Step) []int {
	var row []int
	for column := range 4 {
		var vals []int
		for _, r := range plainRows(kind) {
			vals = append(vals, r[column])
		}
		row = append(row, plainResults(l, vals)[len(l)-1])
	}
	return row
}

// plainProgOf writes down the steps of a plan by what the document says, each with its number.
func plainProgOf(p impl.Plan) []impl.Step {
	var l []impl.Step
	sum := -1
	for i := range p.From {
		l = append(l, load(p.From[i]))
		value := len(l) - 1
		if p.By[i] != 1 {
			l = append(l, mul(value, p.By[i]))
			value++
		}
		if i == 0 {
			sum = value
			continue
		}
		l = append(l, add(sum, value))
		sum = value + 1
	}
	return l
}

// plansWithOnes are well-formed plans of one to four shards, with each mix of coefficients 1 and others, most of them incorrect.
func plansWithOnes() []impl.Plan {
	var list []impl.Plan
	n := 7
	for _, p := range somePlans() {
		for ones := range 1 << len(p.By) {
			q := clonePlan(p)
			for i := range q.By {
				n = (n*173 + 29) % 1009
				q.By[i] = 2 + n%29
				if ones>>i&1 == 1 {
					q.By[i] = 1
				}
			}
			list = append(list, q)
		}
	}
	return list
}

// progOf is ProgOf of a plan that must be well formed.
func progOf(t *testing.T, p impl.Plan) []impl.Step {
	t.Helper()
	l, ok := impl.ProgOf(p)
	if !ok {
		t.Fatalf("ProgOf(%v) fails", p)
	}
	return l
}

// progRowOf is ProgRow of a code and a program that must be valid.
func progRowOf(t *testing.T, kind int, l []impl.Step) []int {
	t.Helper()
	row, ok := impl.ProgRow(kind, l)
	if !ok {
		t.Fatalf("ProgRow(%d, %v) fails", kind, l)
	}
	return row
}

func checkProgOf(t *testing.T, p impl.Plan, want []impl.Step) {
	t.Helper()
	if got, ok := impl.ProgOf(p); !ok || !slices.Equal(got, want) {
		t.Errorf("ProgOf(%v) = %v, %v, want %v", p, got, ok, want)
	}
}

func checkProgOk(t *testing.T, l []impl.Step, want bool) {
	t.Helper()
	if got := impl.ProgOk(l); got != want {
		t.Errorf("ProgOk(%v) = %v, want %v", l, got, want)
	}
}

func checkProgRun(t *testing.T, l []impl.Step, vals []int, want int) {
	t.Helper()
	if got, ok := impl.ProgRun(l, vals); !ok || got != want {
		t.Errorf("ProgRun(%v, %v) = %d, %v, want %d", l, vals, got, ok, want)
	}
}

func checkProgRunFails(t *testing.T, l []impl.Step, vals []int) {
	t.Helper()
	if got, ok := impl.ProgRun(l, vals); ok || got != 0 {
		t.Errorf("ProgRun(%v, %v) = %d, %v, want 0, false", l, vals, got, ok)
	}
}

func checkProgRowFails(t *testing.T, kind int, l []impl.Step) {
	t.Helper()
	if got, ok := impl.ProgRow(kind, l); ok || len(got) != 0 {
		t.Errorf("ProgRow(%d, %v) = %v, %v, want false", kind, l, got, ok)
	}
}

func checkProgMany(t *testing.T, l []impl.Step, op int, want int) {
	t.Helper()
	if got := impl.ProgMany(l, op); got != want {
		t.Errorf("ProgMany(%v, %d) = %d, want %d", l, op, got, want)
	}
}

func TestProgConstants(t *testing.T) {
	if impl.StepLoad != 1 || impl.StepMul != 2 || impl.StepAdd != 3 || impl.ProgMax != 16 {
		t.Errorf("StepLoad, StepMul, StepAdd, ProgMax = %d, %d, %d, %d, want 1, 2, 3, 16",
			impl.StepLoad, impl.StepMul, impl.StepAdd, impl.ProgMax)
	}
}

// Promises 43 and 44; plans with coefficients 1 and others at every place.
func TestProgOfSteps(t *testing.T) {
	for _, p := range plansWithOnes() {
		l := progOf(t, p)
		checkProgOf(t, p, plainProgOf(p))
		checkProgOk(t, l, true)
	}
	forEachPlan(func(_ int, p impl.Plan) { checkProgOf(t, p, plainProgOf(p)) })
}

// Promises 43 and 44; programs written out: of one step, of as many as a plan can have, and those between.
func TestProgOfValues(t *testing.T) {
	for _, c := range []struct {
		from, by []int
		want     []impl.Step
	}{
		{[]int{5}, []int{1}, []impl.Step{load(5)}},
		{[]int{0}, []int{30}, []impl.Step{load(0), mul(0, 30)}},
		{[]int{7}, []int{2}, []impl.Step{load(7), mul(0, 2)}},
		{[]int{0, 1}, []int{1, 1}, []impl.Step{load(0), load(1), add(0, 1)}},
		{[]int{2, 5}, []int{30, 1}, []impl.Step{load(2), mul(0, 30), load(5), add(1, 2)}},
		{[]int{2, 5}, []int{1, 30}, []impl.Step{load(2), load(5), mul(1, 30), add(0, 2)}},
		{[]int{2, 5}, []int{3, 4}, []impl.Step{load(2), mul(0, 3), load(5), mul(2, 4), add(1, 3)}},
		{[]int{0, 1, 2}, []int{1, 1, 1}, []impl.Step{load(0), load(1), add(0, 1), load(2), add(2, 3)}},
		{[]int{0, 1, 7}, []int{1, 9, 1}, []impl.Step{load(0), load(1), mul(1, 9), add(0, 2), load(7), add(3, 4)}},
		{[]int{0, 1, 2, 4}, []int{1, 1, 1, 1}, []impl.Step{
			load(0), load(1), add(0, 1), load(2), add(2, 3), load(4), add(4, 5),
		}},
		{[]int{0, 1, 2, 4}, []int{1, 2, 4, 8}, []impl.Step{
			load(0), load(1), mul(1, 2), add(0, 2), load(2), mul(4, 4), add(3, 5), load(4), mul(7, 8), add(6, 8),
		}},
		{[]int{4, 5, 6, 7}, []int{30, 4, 25, 4}, []impl.Step{
			load(4), mul(0, 30), load(5), mul(2, 4), add(1, 3), load(6), mul(5, 25), add(4, 6), load(7), mul(8, 4), add(7, 9),
		}},
	} {
		checkProgOf(t, impl.Plan{Lost: 3, From: c.from, By: c.by}, c.want)
	}
}

// Promise 43; the shard that is lost makes no difference to the program.
func TestProgOfLost(t *testing.T) {
	for lost := range 8 {
		if lost != 2 && lost != 5 {
			p := impl.Plan{Lost: lost, From: []int{2, 5}, By: []int{30, 1}}
			checkProgOf(t, p, []impl.Step{load(2), mul(0, 30), load(5), add(1, 2)})
		}
	}
}

// Promise 43.
func TestProgOfRuns(t *testing.T) {
	check := func(p impl.Plan) {
		l := progOf(t, p)
		for _, vals := range someValues() {
			want := 0
			for i, at := range p.From {
				want = plainSum(want, plainMul(p.By[i], vals[at]))
			}
			checkProgRun(t, l, vals, want)
			checkPlanDo(t, p, vals, want)
		}
	}
	for _, p := range plansWithOnes() {
		check(p)
	}
	forEachPlan(func(_ int, p impl.Plan) { check(p) })
}

// Promise 43; every set of available shards. Nothing is loaded of a shard that is not in the plan.
func TestProgOfMends(t *testing.T) {
	forEachLoss(func(kind int, lost int, there []bool, _ []int) {
		p, ok := impl.PlanOf(kind, lost, there)
		if !ok {
			return
		}
		l := progOf(t, p)
		for _, data := range [][]int{{5, 6, 7, 8}, {30, 0, 16, 1}} {
			all := plainShards(kind, data)
			want := all[lost]
			for at := range all {
				if at == lost || !there[at] {
					all[at] = 0
				}
			}
			checkProgRun(t, l, all, want)
		}
	})
}

// Promise 44.
func TestProgOfCounts(t *testing.T) {
	check := func(p impl.Plan) {
		l := progOf(t, p)
		others := 0
		for _, c := range p.By {
			if c != 1 {
				others++
			}
		}
		checkProgMany(t, l, impl.StepLoad, len(p.From))
		checkProgMany(t, l, impl.StepMul, others)
		checkProgMany(t, l, impl.StepAdd, len(p.From)-1)
		if want := len(p.From) + others + len(p.From) - 1; len(l) != want {
			t.Errorf("ProgOf(%v) = %v, of %d steps, want %d", p, l, len(l), want)
		}
	}
	for _, p := range plansWithOnes() {
		check(p)
	}
	forEachPlan(func(_ int, p impl.Plan) { check(p) })
}

// Promises 43 and 44, invalid plans.
func TestProgOfInvalid(t *testing.T) {
	for _, p := range notPlans() {
		if l, ok := impl.ProgOf(p); ok || len(l) != 0 {
			t.Errorf("ProgOf(%v) = %v, %v, want false", p, l, ok)
		}
	}
}

// Promises 43 and 47; each prefix of each program, so that every step is once the last.
func TestProgRunEachStep(t *testing.T) {
	for _, l := range somePrograms() {
		for _, vals := range someValues() {
			for at, want := range plainResults(l, vals) {
				checkProgRun(t, l[:at+1], vals, want)
			}
		}
	}
}

// Promises 43 and 47; results written out. The last step is the result, whether others are used or not.
func TestProgRunValues(t *testing.T) {
	vals := []int{5, 6, 7, 8, 11, 15, 16, 30}
	for _, c := range []struct {
		l    []impl.Step
		want int
	}{
		{[]impl.Step{load(0)}, 5},
		{[]impl.Step{load(7)}, 30},
		{[]impl.Step{load(7), load(0)}, 5},
		{[]impl.Step{load(0), mul(0, 0)}, 0},
		{[]impl.Step{load(0), mul(0, 1)}, 5},
		{[]impl.Step{load(7), mul(0, 30)}, 1},
		{[]impl.Step{load(7), add(0, 0)}, 29},
		{[]impl.Step{load(2), mul(0, 30), load(5), add(1, 2)}, 8},
		{[]impl.Step{load(2), mul(0, 30), load(5), add(1, 2), load(4)}, 11},
		{[]impl.Step{load(2), mul(0, 30), load(5), add(1, 2), mul(0, 2)}, 14},
		{[]impl.Step{load(2), mul(0, 30), load(5), add(1, 2), add(0, 3)}, 15},
		{[]impl.Step{load(2), mul(0, 30), load(5), add(1, 2), add(3, 0)}, 15},
		{[]impl.Step{load(2), mul(0, 30), load(5), add(2, 2)}, 30},
		{doubling(0, 6), 5},
		{doubling(0, 16), 5},
		{doubling(1, 15), 3},
		{[]impl.Step{load(0), add(0, 0), add(0, 1), add(0, 2), add(0, 3)}, 25},
	} {
		checkProgRun(t, c.l, vals, c.want)
	}
}

// Promise 47; each step that may follow, up to ProgMax steps, after results that a shorter program tells.
func TestProgAppend(t *testing.T) {
	for i, l := range somePrograms() {
		if len(l) == 16 {
			continue
		}
		vals := someValues()[3+i%20]
		var results []int
		for at := range l {
			n, ok := impl.ProgRun(l[:at+1], vals)
			if !ok {
				t.Fatalf("ProgRun(%v, %v) fails", l[:at+1], vals)
			}
			results = append(results, n)
		}
		for _, s := range nextSteps(len(l)) {
			more := append(slices.Clone(l), s)
			switch s.Op {
			case impl.StepLoad:
				checkProgRun(t, more, vals, vals[s.A])
			case impl.StepMul:
				checkProgRun(t, more, vals, impl.FieldMul(results[s.A], s.B))
			case impl.StepAdd:
				checkProgRun(t, more, vals, impl.FieldSum(results[s.A], results[s.B]))
			}
		}
	}
}

// Promise 47.
func TestProgAppendRow(t *testing.T) {
	for _, kind := range bothKinds() {
		for _, l := range somePrograms() {
			if len(l) == 16 {
				continue
			}
			last := len(l) - 1
			row, first := progRowOf(t, kind, l), progRowOf(t, kind, l[:1])
			for c := range 31 {
				more := append(slices.Clone(l), mul(last, c))
				checkVec(t, progRowOf(t, kind, more), impl.VecScale(row, c), "ProgRow", kind, more)
			}
			for s, want := range map[impl.Step][]int{
				load(6):      rowOf(t, kind, 6),
				mul(0, 17):   impl.VecScale(first, 17),
				add(last, 0): impl.VecSum(row, first),
				add(0, last): impl.VecSum(row, first),
			} {
				more := append(slices.Clone(l), s)
				checkVec(t, progRowOf(t, kind, more), want, "ProgRow", kind, more)
			}
			twice := append(slices.Clone(l), add(last, last))
			checkVec(t, progRowOf(t, kind, twice), impl.VecScale(row, 2), "ProgRow", kind, twice)
		}
	}
}

// Promise 47, invalid programs and values; values must be elements also at shards that are not loaded.
func TestProgRunInvalid(t *testing.T) {
	for _, l := range notPrograms() {
		for _, vals := range someValues()[:5] {
			checkProgRunFails(t, l, vals)
		}
		checkProgRunFails(t, l, nil)
		checkProgRunFails(t, l, []int{31, 0, 0, 0, 0, 0, 0, 0})
	}
	for _, l := range somePrograms() {
		for _, vals := range notValues() {
			checkProgRunFails(t, l, vals)
		}
	}
}

// Promise 45.
func TestProgRowValues(t *testing.T) {
	for _, kind := range bothKinds() {
		for _, l := range somePrograms() {
			for at := range l {
				checkVec(t, progRowOf(t, kind, l[:at+1]), plainProgRow(kind, l[:at+1]), "ProgRow", kind, l[:at+1])
			}
		}
		for shard := range 8 {
			checkVec(t, progRowOf(t, kind, []impl.Step{load(shard)}), rowOf(t, kind, shard), "ProgRow", kind, shard)
		}
	}
	for _, c := range []struct {
		l           []impl.Step
		local, wide []int
	}{
		{[]impl.Step{load(4)}, []int{1, 1, 0, 0}, []int{1, 5, 25, 1}},
		{[]impl.Step{load(6), mul(0, 0)}, []int{0, 0, 0, 0}, []int{0, 0, 0, 0}},
		{[]impl.Step{load(6), mul(0, 30)}, []int{30, 29, 27, 23}, []int{30, 24, 13, 29}},
		{[]impl.Step{load(2), mul(0, 30), load(5), add(1, 2)}, []int{0, 0, 0, 1}, []int{0, 3, 27, 3}},
		{[]impl.Step{load(7), add(0, 0), load(0)}, []int{1, 0, 0, 0}, []int{1, 1, 1, 1}},
	} {
		checkVec(t, progRowOf(t, impl.KindLocal, c.l), c.local, "ProgRow", impl.KindLocal, c.l)
		checkVec(t, progRowOf(t, impl.KindWide, c.l), c.wide, "ProgRow", impl.KindWide, c.l)
	}
}

// Promise 45.
func TestProgRunOfShards(t *testing.T) {
	for _, kind := range bothKinds() {
		for _, l := range somePrograms() {
			row := progRowOf(t, kind, l)
			for _, data := range someVectors() {
				checkProgRun(t, l, impl.CodeAll(kind, data), impl.VecDot(row, data))
			}
		}
	}
}

// Promise 45; all data, for a program that uses every shard.
func TestProgRunAllData(t *testing.T) {
	l := []impl.Step{
		load(0), load(1), mul(1, 2), add(0, 2), load(2), load(3), add(4, 5), add(3, 6), load(4), mul(8, 30), load(5),
		load(6), load(7), add(11, 12), add(9, 13), add(14, 7),
	}
	for _, kind := range bothKinds() {
		row := progRowOf(t, kind, l)
		all := make([]int, 8)
		data := 0
		words := plainWords(kind)
		forEachVector(func(v []int) {
			for at, n := range words[data] {
				all[at] = int(n)
			}
			data++
			want := (row[0]*v[0] + row[1]*v[1] + row[2]*v[2] + row[3]*v[3]) % 31
			if got, ok := impl.ProgRun(l, all); !ok || got != want {
				t.Fatalf("ProgRun(%v, %v) = %d, %v, want %d", l, all, got, ok, want)
			}
		})
	}
}

// Promise 45, invalid codes and programs.
func TestProgRowInvalid(t *testing.T) {
	for _, l := range notPrograms() {
		for _, kind := range append(bothKinds(), 0, 3, -1) {
			checkProgRowFails(t, kind, l)
		}
	}
	for _, l := range somePrograms() {
		for _, kind := range notKinds() {
			checkProgRowFails(t, kind, l)
		}
	}
}

// checkProved expects PlanOk to be as wanted, and ProgRow of ProgOf to be the row of the lost shard only then.
func checkProved(t *testing.T, kind int, rows [][]int, p impl.Plan, want bool) {
	t.Helper()
	checkPlanOk(t, kind, p, want)
	row := progRowOf(t, kind, progOf(t, p))
	checkVec(t, row, combination(pick(rows, p.From), p.By), "ProgRow of ProgOf", kind, p)
	if same := slices.Equal(row, rows[p.Lost]); same != want {
		t.Errorf("ProgRow of ProgOf(%v) = %v for code %d, the row of the lost shard: %v, want %v", p, row, kind, same, want)
	}
}

// Promise 46; all correct plans, and each with one coefficient or the lost shard changed.
func TestProgProvesPlans(t *testing.T) {
	forEachPlan(func(kind int, p impl.Plan) {
		rows := plainRows(kind)
		checkProved(t, kind, rows, p, true)
		for i, c := range p.By {
			q := clonePlan(p)
			q.By[i] = 1 + c%30
			checkProved(t, kind, rows, q, false)
		}
		for lost := range 8 {
			if lost != p.Lost && !slices.Contains(p.From, lost) {
				q := clonePlan(p)
				q.Lost = lost
				checkProved(t, kind, rows, q, false)
			}
		}
	})
}

// Promise 46; plans that are correct for one code at most.
func TestProgProvesOtherPlans(t *testing.T) {
	for _, kind := range bothKinds() {
		rows := plainRows(kind)
		check := func(p impl.Plan) {
			checkProved(t, kind, rows, p, slices.Equal(combination(pick(rows, p.From), p.By), rows[p.Lost]))
		}
		for _, p := range plansWithOnes() {
			check(p)
		}
		forEachPlan(func(_ int, p impl.Plan) { check(p) })
	}
}

// Promise 46; every set of available shards.
func TestProgProvesPlanOf(t *testing.T) {
	forEachLoss(func(kind int, lost int, there []bool, _ []int) {
		if p, ok := impl.PlanOf(kind, lost, there); ok {
			checkProved(t, kind, plainRows(kind), p, true)
		}
	})
}

// Promise 48; an operation that no program has is counted 0 times.
func TestProgManyAdds(t *testing.T) {
	for _, l := range somePrograms() {
		wants := map[int]int{}
		for _, s := range l {
			wants[s.Op]++
		}
		total := 0
		for _, op := range []int{impl.StepLoad, impl.StepMul, impl.StepAdd} {
			checkProgMany(t, l, op, wants[op])
			total += impl.ProgMany(l, op)
		}
		if total != len(l) {
			t.Errorf("ProgMany of the three operations of %v adds up to %d, want %d", l, total, len(l))
		}
		for _, op := range []int{0, 4, -1, 1<<8 + 1, 1<<32 + 1, math.MaxInt, math.MinInt} {
			checkProgMany(t, l, op, 0)
		}
	}
}

// Promise 48; numbers written out.
func TestProgManyValues(t *testing.T) {
	for _, c := range []struct {
		l               []impl.Step
		load, mul, adds int
	}{
		{[]impl.Step{load(0)}, 1, 0, 0},
		{[]impl.Step{load(2), mul(0, 30), load(5), add(1, 2)}, 2, 1, 1},
		{[]impl.Step{load(2), mul(0, 30), mul(1, 1), mul(2, 3)}, 1, 3, 0},
		{doubling(3, 16), 1, 0, 15},
		{slices.Repeat([]impl.Step{load(7)}, 16), 16, 0, 0},
	} {
		checkProgMany(t, c.l, impl.StepLoad, c.load)
		checkProgMany(t, c.l, impl.StepMul, c.mul)
		checkProgMany(t, c.l, impl.StepAdd, c.adds)
	}
}

// Promise 48, invalid programs.
func TestProgManyInvalid(t *testing.T) {
	for _, l := range notPrograms() {
		for _, op := range []int{impl.StepLoad, impl.StepMul, impl.StepAdd, 0, 4, -1} {
			checkProgMany(t, l, op, -1)
		}
	}
}

// Promise 49.
func TestProgOkPrefixes(t *testing.T) {
	for _, l := range somePrograms() {
		for count := 1; count <= len(l); count++ {
			checkProgOk(t, l[:count], true)
		}
		checkProgOk(t, l[:0], false)
	}
}

// Promise 49; each step near the valid ones, after programs of each length.
func TestProgOkEachStep(t *testing.T) {
	for count := range 17 {
		before := mixedProgram(count, 50+count)
		valid := nextSteps(count)
		for op := -1; op <= 5; op++ {
			for a := -2; a <= 18; a++ {
				for b := -2; b <= 33; b++ {
					s := impl.Step{Op: op, A: a, B: b}
					l := append(slices.Clone(before), s)
					want := count < 16 && slices.Contains(valid, s)
					if got := impl.ProgOk(l); got != want {
						t.Fatalf("ProgOk(%v) = %v, want %v", l, got, want)
					}
				}
			}
		}
	}
}

// Promise 49; a step that refers to itself, to a later one or below 0, and an unknown operation, at each place.
func TestProgOkFlaws(t *testing.T) {
	for at := range 16 {
		for _, bad := range []impl.Step{
			mul(at, 1), add(at, at), add(at, 0), add(0, at), mul(at+1, 1), add(at+1, 0), add(0, at+1), mul(-1, 1), add(-1, 0),
			add(0, -1), mul(15, 1), add(15, 15), {Op: 0}, {Op: 4}, {Op: -1}, {Op: 4, A: at - 1}, load(-1), load(8),
			{Op: impl.StepLoad, A: 3, B: 1}, mul(0, 31), mul(0, -1),
		} {
			l := mixedProgram(16, 9)
			checkProgOk(t, l, true)
			l[at] = bad
			checkProgOk(t, l, false)
		}
	}
}

// Promise 49, invalid programs.
func TestProgOkInvalid(t *testing.T) {
	for _, l := range notPrograms() {
		checkProgOk(t, l, false)
	}
	for _, l := range somePrograms() {
		checkProgOk(t, l, true)
		for _, bad := range notSteps(len(l)) {
			checkProgOk(t, append(slices.Clone(l), bad), false)
		}
	}
}

// spoilSteps overwrites a program up to its capacity, as spoil does a list of numbers.
func spoilSteps(l []impl.Step) {
	l = l[:cap(l)]
	for i := range l {
		l[i] = impl.Step{Op: -7, A: -7, B: -7}
	}
}

// wholePlan is a plan with its slices up to their capacity.
func wholePlan(p impl.Plan) impl.Plan {
	return impl.Plan{Lost: p.Lost, From: p.From[:cap(p.From)], By: p.By[:cap(p.By)]}
}

// Promise 43, memory; a spoiled program spoils neither its plan nor another program.
func TestProgOfApart(t *testing.T) {
	for i, sample := range plansWithOnes() {
		if i%5 != 0 {
			continue
		}
		p, was := roomyPlan(sample), roomyPlan(sample)
		first, again := progOf(t, p), progOf(t, p)
		spoilSteps(first)
		if !equalPlan(wholePlan(p), wholePlan(was)) {
			t.Fatalf("the plan %v is changed, or shares memory with its program", sample)
		}
		spoil(p.From)
		spoil(p.By)
		if !slices.Equal(again, plainProgOf(sample)) {
			t.Errorf("a program of %v shares memory with another, or with the plan", sample)
		}
		checkProgOf(t, sample, plainProgOf(sample))
	}
	for _, p := range notPlans() {
		roomy, was := roomyPlan(p), roomyPlan(p)
		impl.ProgOf(roomy)
		if !equalPlan(wholePlan(roomy), wholePlan(was)) {
			t.Fatalf("the plan %v is changed", p)
		}
	}
}

// Promise 45, memory; a spoiled row spoils neither another nor the rows of the code.
func TestProgRowApart(t *testing.T) {
	for _, kind := range bothKinds() {
		for _, l := range somePrograms() {
			want := plainProgRow(kind, l)
			first, again := progRowOf(t, kind, l), progRowOf(t, kind, l)
			spoil(first)
			checkVec(t, again, want, "ProgRow", kind, l)
			checkVec(t, progRowOf(t, kind, l), want, "ProgRow", kind, l)
		}
		for shard, want := range plainRows(kind) {
			checkVec(t, rowOf(t, kind, shard), want, "CodeRow", kind, shard)
		}
	}
}

// Promises 43 to 49; no function changes its arguments, valid or not, up to their capacity.
func TestProgArgumentsUnchanged(t *testing.T) {
	lists := append(someValues()[:6], notValues()...)
	for i, sample := range append(somePrograms(), notPrograms()...) {
		l := append(make([]impl.Step, 0, len(sample)+20), sample...)
		vals := append(make([]int, 0, 300), lists[i%len(lists)]...)
		wasSteps, wasVals := slices.Clone(l[:cap(l)]), slices.Clone(vals[:300])
		impl.ProgOk(l)
		impl.ProgRun(l, vals)
		impl.ProgRow(impl.KindLocal, l)
		impl.ProgRow(impl.KindWide, l)
		impl.ProgRow(0, l)
		impl.ProgMany(l, impl.StepLoad)
		impl.ProgMany(l, 0)
		if !slices.Equal(l[:cap(l)], wasSteps) {
			t.Fatalf("the program %v is changed", sample)
		}
		if !slices.Equal(vals[:300], wasVals) {
			t.Fatalf("the values beside %v are changed", sample)
		}
	}
}

// Promises 43 to 49; the capacity of arguments does not count, and calls leave nothing behind for later ones.
func TestProgCapacity(t *testing.T) {
	vals := []int{5, 6, 7, 8, 11, 15, 16, 30, 31}
	l := []impl.Step{load(2), mul(0, 30), load(5), add(1, 2), add(4, 4), {Op: 9}}
	checkProgRun(t, l[:4], vals[:8], 8)
	checkProgRunFails(t, l[:5], vals[:8])
	checkProgRunFails(t, l[:4], vals)
	checkProgRun(t, l[:2], vals[:8], 24)
	checkProgRun(t, l[2:3], vals[:8], 15)
	checkProgRunFails(t, l[1:4], vals[:8])
	checkProgMany(t, l[:4], impl.StepAdd, 1)
	checkProgMany(t, l[:3], impl.StepAdd, 0)
	checkProgMany(t, l[3:4], impl.StepAdd, -1)
	checkVec(t, progRowOf(t, impl.KindLocal, l[:4]), []int{0, 0, 0, 1}, "ProgRow", l[:4])
	checkProgRowFails(t, impl.KindLocal, l[:5])
	from, by := []int{2, 5, 6, 7, 4, 9}, []int{30, 1, 0, 31, -1}
	checkProgOf(t, impl.Plan{Lost: 3, From: from[:2], By: by[:2]}, l[:4])
}
