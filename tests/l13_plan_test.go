package tests

import (
	"fmt"
	"slices"
	"strconv"
	"strings"
	"testing"

	"loop.example/g00914/impl"
)

func plan(periods int, when ...int) impl.Plan { return impl.Plan{Periods: periods, When: when} }

// evenJob has blocks of the same tonnes and the same value.
func evenJob(arcs [][]int, tonnes, value, mine, mill, periods int) impl.Job {
	n := len(arcs)
	return impl.Job{Arcs: arcs, Tonnes: slices.Repeat([]int{tonnes}, n), Values: slices.Repeat([]int{value}, n), Limits: impl.Limits{Mine: mine, Mill: mill}, Periods: periods, Num: 9, Den: 10}
}

// tightJob has limits that some plans meet and others do not.
func tightJob(arcs [][]int, most, seed int) impl.Job {
	next := numbersFrom(uint64(seed))
	n := len(arcs)
	j := impl.Job{Arcs: arcs, Tonnes: mixedNumbers(n, most, seed), Values: mixedValues(n, seed), Periods: 1 + seed%6, Den: 1 + next(19)}
	j.Num = 1 + next(j.Den-1)
	fair := 0
	for _, tonnes := range j.Tonnes {
		fair += tonnes
	}
	fair = fair/j.Periods + 1
	j.Limits = impl.Limits{Mine: min(next(2*fair), 1000000), Mill: min(next(fair), 1000000)}
	return j
}

// goodJobs of arcs have all numbers of periods, and limits of 0, of all tonnes and between.
func goodJobs(arcs [][]int, seed int) []impl.Job {
	jobs := []impl.Job{
		evenJob(arcs, 10000, 1, 1000000, 1000000, 1+seed%6), evenJob(arcs, 100, 1, 300, 200, 6), evenJob(arcs, 100, 0, 250, 0, 1+(seed+3)%6),
		evenJob(arcs, 0, 1000000, 0, 0, 1), evenJob(arcs, 1, -1000000, 0, 1000000, 2), evenJob(arcs, 1, 1, 1000000, 0, 1+(seed+2)%6),
	}
	for k, most := range []int{10000, 10000, 50, 3, 1} {
		jobs = append(jobs, tightJob(arcs, most, 5*seed+k))
	}
	jobs[seed%len(jobs)].Num, jobs[seed%len(jobs)].Den = 1, 1
	jobs[(seed+1)%len(jobs)].Num, jobs[(seed+1)%len(jobs)].Den = 20, 20
	return jobs
}

// planWhere is a plan for a job with the periods that a function tells.
func planWhere(j impl.Job, when func(i int) int) impl.Plan {
	p := impl.Plan{Periods: j.Periods}
	for i := range j.Arcs {
		p.When = append(p.When, when(i))
	}
	return p
}

// somePlans for a job keep the order or do not, and mine nothing, all blocks, some, one or all but one.
func somePlans(j impl.Job, reach [][]bool, seed int) []impl.Plan {
	n, next := len(j.Arcs), numbersFrom(uint64(seed))
	at, last := next(n-1), j.Periods-1
	plans := []impl.Plan{
		planWhere(j, func(i int) int { return -1 }), planWhere(j, func(i int) int { return 0 }), planWhere(j, func(i int) int { return last }),
		planWhere(j, func(i int) int { return i * j.Periods / n }), planWhere(j, func(i int) int { return (n - 1 - i) * j.Periods / n }),
		planWhere(j, func(i int) int { return i%(j.Periods+1) - 1 }), planWhere(j, func(i int) int { return (n-i)%(j.Periods+1) - 1 }),
		planOfTwo(j, last, -1, func(i int) bool { return i == at }), planOfTwo(j, -1, last, func(i int) bool { return i == at }),
		planOfTwo(j, 0, -1, func(i int) bool { return i < at }), planOfTwo(j, -1, 0, func(i int) bool { return i < at }),
	}
	for _, p := range []impl.Plan{planWhere(j, func(i int) int { return next(j.Periods) - 1 }), planWhere(j, func(i int) int { return next(last) })} {
		plans = append(plans, p, delayedByHand(j, reach, p))
	}
	return plans
}

// planOfTwo has one period for the blocks that are wanted, and another one for all others.
func planOfTwo(j impl.Job, period, other int, wanted func(i int) bool) impl.Plan {
	return planWhere(j, func(i int) int {
		if wanted(i) {
			return period
		}
		return other
	})
}

func copyPlan(p impl.Plan) impl.Plan {
	return impl.Plan{Periods: p.Periods, When: slices.Clone(p.When)}
}

func copyJob(j impl.Job) impl.Job {
	j.Arcs, j.Tonnes, j.Values = copyArcs(j.Arcs), slices.Clone(j.Tonnes), slices.Clone(j.Values)
	return j
}

func samePlan(a, b impl.Plan) bool { return a.Periods == b.Periods && slices.Equal(a.When, b.When) }

func isNoPlan(p impl.Plan) bool { return samePlan(p, impl.Plan{}) }

func checkSamePlan(t *testing.T, what string, got impl.Plan, ok bool, want impl.Plan) {
	t.Helper()
	if !ok || !samePlan(got, want) {
		t.Errorf("%s: %v %v, not %v", what, got, ok, want)
	}
}

func checkNoPlan(t *testing.T, what string, got impl.Plan, ok bool) {
	t.Helper()
	if ok || !isNoPlan(got) {
		t.Errorf("%s: %v %v, not nothing", what, got, ok)
	}
}

func areWithin(l []int, n, least, most int) bool {
	return len(l) == n && !slices.ContainsFunc(l, func(number int) bool { return number < least || number > most })
}

// isJobByHand goes through the words of the document.
func isJobByHand(j impl.Job) bool {
	n := len(j.Arcs)
	numbers := []int{j.Limits.Mine, j.Limits.Mill}
	return areArcsByHand(j.Arcs) && areWithin(j.Tonnes, n, 0, 10000) && areWithin(j.Values, n, -1000000, 1000000) && areWithin(numbers, 2, 0, 1000000) &&
		areWithin([]int{j.Periods}, 1, 1, 6) && areWithin([]int{j.Den}, 1, 1, 20) && areWithin([]int{j.Num}, 1, 1, j.Den)
}

func isPlanByHand(j impl.Job, p impl.Plan) bool {
	return p.Periods == j.Periods && areWithin(p.When, len(j.Arcs), -1, j.Periods-1)
}

// faultsByHand looks at each two blocks, in lexicographic order.
func faultsByHand(j impl.Job, p impl.Plan) [][]int {
	var faults [][]int
	for i, when := range p.When {
		for k, other := range p.When {
			if when >= 0 && slices.Contains(j.Arcs[i], k) && (other == -1 || other > when) {
				faults = append(faults, []int{i, k})
			}
		}
	}
	return faults
}

// tonnesByHand adds each mined block to its period.
func tonnesByHand(j impl.Job, p impl.Plan) [][]int {
	sums := make([][]int, j.Periods)
	for t := range sums {
		sums[t] = []int{0, 0}
	}
	for i, t := range p.When {
		if t >= 0 {
			sums[t][0] += j.Tonnes[i]
			if j.Values[i] > 0 {
				sums[t][1] += j.Tonnes[i]
			}
		}
	}
	return sums
}

func overByHand(j impl.Job, p impl.Plan) []int {
	sums := tonnesByHand(j, p)
	return numbersWhere(j.Periods, func(t int) bool { return sums[t][0] > j.Limits.Mine || sums[t][1] > j.Limits.Mill })
}

func pitByHand(p impl.Plan, t int) []int {
	return numbersWhere(len(p.When), func(i int) bool { return p.When[i] >= 0 && p.When[i] <= t })
}

// earliestByHand asks for one period after the other whether all that can be mined up to its end is enough.
func earliestByHand(j impl.Job, reach [][]bool) []int {
	earliest := make([]int, len(j.Arcs))
	for i := range earliest {
		all, ore := 0, 0
		for _, k := range coneByHand(reach, i) {
			all += j.Tonnes[k]
			if j.Values[k] > 0 {
				ore += j.Tonnes[k]
			}
		}
		earliest[i] = slices.IndexFunc(numbersWhere(j.Periods, func(int) bool { return true }), func(t int) bool {
			return (t+1)*j.Limits.Mine >= all && (t+1)*j.Limits.Mill >= ore
		})
	}
	return earliest
}

// delayedByHand gives each block the greatest period of its cone, and none if one block of the cone has none: this is where the delays come from, however many blocks they pass.
func delayedByHand(j impl.Job, reach [][]bool, p impl.Plan) impl.Plan {
	return planWhere(j, func(i int) int {
		latest := p.When[i]
		for _, k := range coneByHand(reach, i) {
			if p.When[k] == -1 {
				return -1
			}
			latest = max(latest, p.When[k])
		}
		return latest
	})
}

func planTextByHand(p impl.Plan) string {
	s := ""
	for t := range p.Periods {
		s += fmt.Sprint(t) + ":"
		for i, when := range p.When {
			if when == t {
				s += fmt.Sprint(" ", i)
			}
		}
		s += "\n"
	}
	return s
}

// checkOrder demands promise 13 of the pits: they grow, and they are closures just if the order is kept.
func checkOrder(t *testing.T, j impl.Job, p impl.Plan) {
	t.Helper()
	what := fmt.Sprint(j, p)
	want := faultsByHand(j, p)
	faults, ok := impl.OrderFaults(j, p)
	checkLists(t, "faults "+what, faults, ok, want)
	pits, ok := impl.PitsOfPlan(j, p)
	if !ok || len(pits) != j.Periods {
		t.Error("PitsOfPlan", what, pits, ok)
		return
	}
	closed := true
	for at, pit := range pits {
		checkList(t, fmt.Sprint("pit ", at, what), pit, ok, pitByHand(p, at))
		is, _ := impl.IsClosure(j.Arcs, pit)
		closed = closed && is
		if at > 0 && !isIn(pits[at-1], pit) {
			t.Error("a block is lost from a pit", what, at, pits)
		}
	}
	if closed != (len(want) == 0) {
		t.Error("pits are closures:", closed, what, pits)
	}
}

// checkTonnes demands promise 13 of the tonnes: those up to the end of a period are those of its pit.
func checkTonnes(t *testing.T, j impl.Job, p impl.Plan) {
	t.Helper()
	what := fmt.Sprint(j, p)
	sums, ok := impl.TonnesIn(j, p)
	checkLists(t, "tonnes "+what, sums, ok, tonnesByHand(j, p))
	all, ore := 0, 0
	for at := range sums {
		all, ore = all+sums[at][0], ore+sums[at][1]
		pit := pitByHand(p, at)
		rich := slices.DeleteFunc(slices.Clone(pit), func(i int) bool { return j.Values[i] <= 0 })
		if all != sumByHand(j.Tonnes, pit) || ore != sumByHand(j.Tonnes, rich) {
			t.Error("tonnes are not those of the pit", what, at, all, ore)
		}
	}
	over, ok := impl.OverLimits(j, p)
	checkList(t, "over limits "+what, over, ok, overByHand(j, p))
	want := len(over) == 0 && len(faultsByHand(j, p)) == 0
	if is, ok := impl.IsFeasible(j, p); is != want || !ok {
		t.Error("IsFeasible", what, is, ok)
	}
}

// checkDelay demands what the document says, and that the order is kept, that no block comes earlier, and that delays end.
func checkDelay(t *testing.T, j impl.Job, reach [][]bool, p impl.Plan) {
	t.Helper()
	what := fmt.Sprint("delayed ", j, p)
	delayed, ok := impl.DelayBlocks(j, p)
	checkSamePlan(t, what, delayed, ok, delayedByHand(j, reach, p))
	if faults, ok := impl.OrderFaults(j, delayed); len(faults) > 0 || !ok {
		t.Error("a delayed plan does not keep the order", what, delayed, faults)
	}
	again, ok := impl.DelayBlocks(j, delayed)
	checkSamePlan(t, "again "+what, again, ok, delayed)
	if len(faultsByHand(j, p)) == 0 && !samePlan(delayed, p) {
		t.Error("a plan that keeps the order is changed", what, delayed)
	}
}

func checkPlanText(t *testing.T, j impl.Job, p impl.Plan) {
	t.Helper()
	want := planTextByHand(p)
	s, ok := impl.PlanText(j, p)
	if s != want || !ok {
		t.Errorf("text of %v: %q %v, not %q", p, s, ok, want)
	}
	parsed, ok := impl.ParsePlan(j, want)
	checkSamePlan(t, fmt.Sprintf("plan of %q", want), parsed, ok, p)
}

// checkMove demands the plan with one other period, or nothing if there is no such block or no such period.
func checkMove(t *testing.T, j impl.Job, p impl.Plan, i, to int) {
	t.Helper()
	what := fmt.Sprint("moved ", j, p, i, to)
	moved, ok := impl.MoveBlock(j, p, i, to)
	if i < 0 || i >= len(p.When) || to < -1 || to >= j.Periods {
		checkNoPlan(t, what, moved, ok)
		return
	}
	want := copyPlan(p)
	want.When[i] = to
	checkSamePlan(t, what, moved, ok, want)
}

func checkPlan(t *testing.T, j impl.Job, reach [][]bool, p impl.Plan) {
	t.Helper()
	if is, ok := impl.IsPlan(j, p); !is || !ok {
		t.Error("IsPlan", j, p, is, ok)
	}
	checkOrder(t, j, p)
	checkTonnes(t, j, p)
	checkDelay(t, j, reach, p)
	checkPlanText(t, j, p)
}

func checkJob(t *testing.T, j impl.Job, reach [][]bool) {
	t.Helper()
	if !impl.IsJob(j) || !isJobByHand(j) {
		t.Error("a job is refused", j)
	}
	earliest, ok := impl.EarliestPeriods(j)
	checkNumbers(t, fmt.Sprint("earliest periods ", j), earliest, ok, earliestByHand(j, reach))
}

// planCalls are all functions of a plan; they tell whether there is no result, and whether the call succeeds.
func planCalls() map[string]func(j impl.Job, p impl.Plan) (empty, ok bool) {
	ofLists := func(call func(impl.Job, impl.Plan) ([][]int, bool)) func(impl.Job, impl.Plan) (bool, bool) {
		return func(j impl.Job, p impl.Plan) (bool, bool) { l, ok := call(j, p); return len(l) == 0, ok }
	}
	return map[string]func(impl.Job, impl.Plan) (bool, bool){
		"OrderFaults": ofLists(impl.OrderFaults), "TonnesIn": ofLists(impl.TonnesIn), "PitsOfPlan": ofLists(impl.PitsOfPlan),
		"OverLimits": func(j impl.Job, p impl.Plan) (bool, bool) { l, ok := impl.OverLimits(j, p); return len(l) == 0, ok },
		"IsFeasible": func(j impl.Job, p impl.Plan) (bool, bool) { is, ok := impl.IsFeasible(j, p); return !is, ok },
		"MoveBlock": func(j impl.Job, p impl.Plan) (bool, bool) {
			q, ok := impl.MoveBlock(j, p, 0, 0)
			return isNoPlan(q), ok
		},
		"MoveBlock -": func(j impl.Job, p impl.Plan) (bool, bool) {
			q, ok := impl.MoveBlock(j, p, 0, -1)
			return isNoPlan(q), ok
		},
		"DelayBlocks": func(j impl.Job, p impl.Plan) (bool, bool) { q, ok := impl.DelayBlocks(j, p); return isNoPlan(q), ok },
		"PlanText":    func(j impl.Job, p impl.Plan) (bool, bool) { s, ok := impl.PlanText(j, p); return s == "", ok },
	}
}

// checkNothingOfPlan demands nothing from all functions of a plan. IsPlan fails only where the job is not valid.
func checkNothingOfPlan(t *testing.T, j impl.Job, p impl.Plan, validJob bool) {
	t.Helper()
	if is, ok := impl.IsPlan(j, p); is || ok != validJob {
		t.Error("IsPlan", j, p, is, ok)
	}
	for what, call := range planCalls() {
		if empty, ok := call(j, p); !empty || ok {
			t.Error(what, "gives something", j, p, empty, ok)
		}
	}
}

func checkNothingOfJob(t *testing.T, j impl.Job) {
	t.Helper()
	if impl.IsJob(j) || isJobByHand(j) {
		t.Error("no job, but taken", j)
	}
	if l, ok := impl.EarliestPeriods(j); len(l) != 0 || ok {
		t.Error("EarliestPeriods", j, l, ok)
	}
	for _, when := range []int{-1, 0} {
		p := planWhere(j, func(int) int { return when })
		checkNothingOfPlan(t, j, p, false)
		if len(p.When) < 200 && p.Periods < 200 {
			parsed, ok := impl.ParsePlan(j, planTextByHand(p))
			checkNoPlan(t, fmt.Sprint("plan of a text for no job ", j), parsed, ok)
		}
	}
}

func TestPlanExample(t *testing.T) {
	j := impl.Job{Arcs: [][]int{nil, nil, {0, 1}}, Tonnes: []int{100, 100, 100}, Values: []int{-1, -1, 5}, Limits: impl.Limits{Mine: 200, Mill: 200}, Periods: 2, Num: 9, Den: 10}
	l, ok := impl.EarliestPeriods(j)
	checkNumbers(t, "earliest periods", l, ok, []int{0, 0, 1})
	if s, ok := impl.PlanText(j, plan(2, 0, 0, 1)); s != "0: 0 1\n1: 2\n" || !ok {
		t.Errorf("text: %q %v", s, ok)
	}
	p, ok := impl.ParsePlan(j, "0: 0 1\n1: 2\n")
	checkSamePlan(t, "parsed", p, ok, plan(2, 0, 0, 1))
	if is, ok := impl.IsFeasible(j, plan(2, 0, 0, 1)); !is || !ok {
		t.Error("IsFeasible", is, ok)
	}
	pits, ok := impl.PitsOfPlan(j, plan(2, 0, 0, 1))
	checkLists(t, "pits", pits, ok, [][]int{{0, 1}, {0, 1, 2}})
	sums, ok := impl.TonnesIn(j, plan(2, 0, 0, 1))
	checkLists(t, "tonnes", sums, ok, [][]int{{200, 0}, {100, 100}})
	faults, ok := impl.OrderFaults(j, plan(2, 1, -1, 0))
	checkLists(t, "faults", faults, ok, [][]int{{2, 0}, {2, 1}})
}

// eachPlan has all plans for a job.
func eachPlan(j impl.Job, see func(p impl.Plan)) {
	n, count := len(j.Arcs), 1
	for range n {
		count *= j.Periods + 1
	}
	for choice := range count {
		rest := choice
		see(planWhere(j, func(int) int { when := rest%(j.Periods+1) - 1; rest /= j.Periods + 1; return when }))
	}
}

// Promise 13 for all plans of few blocks.
func TestPlansOfFewBlocks(t *testing.T) {
	for n := 1; n <= 4; n++ {
		eachArcs(n, func(arcs [][]int) {
			reach := reachByHand(arcs)
			for periods := 1; periods <= 6 && (n < 4 || periods < 4) && (n < 3 || periods < 5); periods++ {
				j := impl.Job{Arcs: arcs, Tonnes: []int{2, 1, 3, 0}[:n], Values: []int{0, 5, 1, -1}[:n], Limits: impl.Limits{Mine: 4, Mill: 3}, Periods: periods, Num: 1, Den: 2}
				checkJob(t, j, reach)
				eachPlan(j, func(p impl.Plan) { checkPlan(t, j, reach, p) })
			}
		})
	}
}

// Promise 13 for plans of many blocks.
func TestPlansOfManyBlocks(t *testing.T) {
	for k, arcs := range manyArcs() {
		reach := reachByHand(arcs)
		for at, j := range goodJobs(arcs, k) {
			checkJob(t, j, reach)
			plans := somePlans(j, reach, k+at)
			for shift := range 5 {
				checkPlan(t, j, reach, plans[(k+3*at+shift)%len(plans)])
			}
		}
	}
}

func TestJobsAtTheirEdges(t *testing.T) {
	if impl.MaxPeriods != 6 {
		t.Error("MaxPeriods", impl.MaxPeriods)
	}
	for periods := 1; periods <= 6; periods++ {
		for _, n := range []int{1, 2, 119, 120} {
			for _, limit := range []int{0, 1, 999999, 1000000} {
				for _, value := range []int{-1000000, -1, 0, 1, 1000000} {
					for _, tonnes := range []int{0, 1, 10000} {
						j := evenJob(stepArcs(n, 1), tonnes, value, limit, 1000000-limit, periods)
						checkJob(t, j, reachOfSteps(n))
					}
				}
			}
		}
	}
	for den := -1; den <= 22; den++ {
		for num := -1; num <= 22; num++ {
			j := evenJob(noArcs(2), 1, 1, 1, 1, 1)
			j.Num, j.Den = num, den
			if want := num >= 1 && num <= den && den <= 20; impl.IsJob(j) != want {
				t.Error("IsJob is wrong about the discount", num, den)
			}
		}
	}
	if impl.IsJob(impl.Job{}) {
		t.Error("a job of nothing is taken")
	}
}

// reachOfSteps is what reachByHand tells of a chain.
func reachOfSteps(n int) [][]bool {
	reach := make([][]bool, n)
	for i := range reach {
		reach[i] = make([]bool, n)
		for k := range i + 1 {
			reach[i][k] = true
		}
	}
	return reach
}

func TestFaultsAtTheirEdges(t *testing.T) {
	fork := [][]int{nil, nil, {0, 1}, {1}, {0, 1, 2, 3}}
	for _, c := range []struct {
		what string
		arcs [][]int
		when []int
		want [][]int
	}{
		{"nothing is mined", fork, []int{-1, -1, -1, -1, -1}, nil},
		{"all in one period", fork, []int{2, 2, 2, 2, 2}, nil},
		{"later than the blocks above", fork, []int{0, 1, 2, 1, 3}, nil},
		{"one block is not mined", fork, []int{0, -1, -1, -1, -1}, nil},
		{"one block above is later", fork, []int{0, 1, 0, 1, 1}, [][]int{{2, 1}}},
		{"both blocks above are later", fork, []int{1, 1, 0, 1, 1}, [][]int{{2, 0}, {2, 1}}},
		{"one block above is not mined", fork, []int{0, -1, 0, -1, -1}, [][]int{{2, 1}}},
		{"one is later and one is not mined", fork, []int{3, -1, 2, -1, -1}, [][]int{{2, 0}, {2, 1}}},
		{"faults of several blocks", fork, []int{-1, 1, 0, 0, -1}, [][]int{{2, 0}, {2, 1}, {3, 1}}},
		{"all faults of the last block", fork, []int{-1, -1, -1, -1, 5}, [][]int{{4, 0}, {4, 1}, {4, 2}, {4, 3}}},
		{"a late block stands between", fork, []int{0, 0, 5, 0, 4}, [][]int{{4, 2}}},
		{"a block not mined is no fault of its own", fork, []int{5, 5, -1, 5, -1}, nil},
		{"faults in falling periods", fork, []int{5, 4, 3, 2, 1}, [][]int{{2, 0}, {2, 1}, {3, 1}, {4, 0}, {4, 1}, {4, 2}, {4, 3}}},
		{"the last period and none", [][]int{nil, {0}}, []int{-1, 5}, [][]int{{1, 0}}},
		{"the first period and none", [][]int{nil, {0}}, []int{-1, 0}, [][]int{{1, 0}}},
		{"no arcs", noArcs(3), []int{5, -1, 0}, nil},
		{"one block", noArcs(1), []int{5}, nil},
	} {
		j := evenJob(c.arcs, 1, 1, 1000000, 1000000, 6)
		faults, ok := impl.OrderFaults(j, plan(6, c.when...))
		checkLists(t, c.what, faults, ok, c.want)
		if is, ok := impl.IsFeasible(j, plan(6, c.when...)); is != (len(c.want) == 0) || !ok {
			t.Error(c.what, "IsFeasible", is, ok)
		}
	}
}

// Blocks far apart, so that the pairs have more than one digit and do not stand in the order of their words.
func TestFaultsStandInOrder(t *testing.T) {
	j := evenJob(allArcs(120), 1, 1, 1000000, 1000000, 2)
	p := planWhere(j, func(i int) int { return 1 - i/60 })
	faults, ok := impl.OrderFaults(j, p)
	checkLists(t, "faults of two halves", faults, ok, faultsByHand(j, p))
	if len(faults) != 3600 || !slices.IsSortedFunc(faults, slices.Compare) || !slices.Equal(faults[0], []int{60, 0}) || !slices.Equal(faults[3599], []int{119, 59}) {
		t.Error("faults of two halves", len(faults))
	}
}

func TestLimitsAtTheirEdges(t *testing.T) {
	waste, ore := -1, 1
	for _, c := range []struct {
		what       string
		tonnes     []int
		values     []int
		when       []int
		mine, mill int
		sums       [][]int
		over       []int
	}{
		{"nothing is mined", []int{5, 5}, []int{ore, ore}, []int{-1, -1}, 0, 0, [][]int{{0, 0}, {0, 0}, {0, 0}}, nil},
		{"just so", []int{60, 40}, []int{ore, waste}, []int{1, 1}, 100, 60, [][]int{{0, 0}, {100, 60}, {0, 0}}, nil},
		{"one more than can be mined", []int{60, 41}, []int{ore, waste}, []int{1, 1}, 100, 60, [][]int{{0, 0}, {101, 60}, {0, 0}}, []int{1}},
		{"one more than can be milled", []int{61, 39}, []int{ore, waste}, []int{1, 1}, 100, 60, [][]int{{0, 0}, {100, 61}, {0, 0}}, []int{1}},
		{"one more of both", []int{61, 40}, []int{ore, waste}, []int{1, 1}, 100, 60, [][]int{{0, 0}, {101, 61}, {0, 0}}, []int{1}},
		{"the last one too much", []int{100, 101}, []int{waste, waste}, []int{0, 2}, 100, 0, [][]int{{100, 0}, {0, 0}, {101, 0}}, []int{2}},
		{"the first and the last one too much", []int{101, 102}, []int{waste, waste}, []int{2, 0}, 100, 0, [][]int{{102, 0}, {0, 0}, {101, 0}}, []int{0, 2}},
		{"too much in different ways", []int{50, 102}, []int{ore, waste}, []int{1, 2}, 100, 40, [][]int{{0, 0}, {50, 50}, {102, 0}}, []int{1, 2}},
		{"blocks of 0 are no ore", []int{100, 100}, []int{0, 0}, []int{0, 1}, 100, 0, [][]int{{100, 0}, {100, 0}, {0, 0}}, nil},
		{"blocks of 1 are ore", []int{100, 100}, []int{1, 0}, []int{0, 1}, 100, 99, [][]int{{100, 100}, {100, 0}, {0, 0}}, []int{0}},
		{"the least and the greatest value", []int{1, 2}, []int{-1000000, 1000000}, []int{0, 0}, 3, 2, [][]int{{3, 2}, {0, 0}, {0, 0}}, nil},
		{"nothing may be mined, and there is nothing", []int{0, 0}, []int{ore, waste}, []int{0, 1}, 0, 0, [][]int{{0, 0}, {0, 0}, {0, 0}}, nil},
		{"nothing may be mined", []int{1, 0}, []int{waste, ore}, []int{0, 1}, 0, 0, [][]int{{1, 0}, {0, 0}, {0, 0}}, []int{0}},
		{"nothing may be milled", []int{1, 1}, []int{waste, ore}, []int{0, 1}, 1000000, 0, [][]int{{1, 0}, {1, 1}, {0, 0}}, []int{1}},
		{"nothing may be milled, and nothing is", []int{1, 1}, []int{waste, ore}, []int{0, -1}, 1000000, 0, [][]int{{1, 0}, {0, 0}, {0, 0}}, nil},
		{"more may be milled than mined", []int{7, 7}, []int{ore, ore}, []int{0, 0}, 13, 1000000, [][]int{{14, 14}, {0, 0}, {0, 0}}, []int{0}},
		{"blocks that are not mined do not count", []int{10000, 7}, []int{ore, ore}, []int{-1, 2}, 7, 7, [][]int{{0, 0}, {0, 0}, {7, 7}}, nil},
	} {
		j := impl.Job{Arcs: noArcs(2), Tonnes: c.tonnes, Values: c.values, Limits: impl.Limits{Mine: c.mine, Mill: c.mill}, Periods: 3, Num: 1, Den: 1}
		p := plan(3, c.when...)
		sums, ok := impl.TonnesIn(j, p)
		checkLists(t, c.what, sums, ok, c.sums)
		over, ok := impl.OverLimits(j, p)
		checkList(t, c.what, over, ok, c.over)
		if is, ok := impl.IsFeasible(j, p); is != (len(c.over) == 0) || !ok {
			t.Error(c.what, "IsFeasible", is, ok)
		}
	}
}

// 100 full blocks are just what the greatest limits allow.
func TestGreatestLimits(t *testing.T) {
	for _, value := range []int{-1, 1} {
		j := evenJob(noArcs(120), 10000, value, 1000000, 1000000, 1)
		for _, count := range []int{99, 100, 101, 120} {
			p := planOfTwo(j, 0, -1, func(i int) bool { return i < count })
			sums, ok := impl.TonnesIn(j, p)
			checkLists(t, fmt.Sprint("full blocks ", count), sums, ok, [][]int{{10000 * count, 5000 * count * (value + 1)}})
			if is, ok := impl.IsFeasible(j, p); is != (count <= 100) || !ok {
				t.Error("IsFeasible", count, is, ok)
			}
		}
	}
}

func TestFeasibleNeedsBoth(t *testing.T) {
	j := impl.Job{Arcs: [][]int{nil, {0}}, Tonnes: []int{10, 10}, Values: []int{-1, 1}, Limits: impl.Limits{Mine: 10, Mill: 10}, Periods: 2, Num: 1, Den: 1}
	for _, c := range []struct {
		p    impl.Plan
		want bool
	}{
		{plan(2, 0, 1), true}, {plan(2, 0, 0), false}, {plan(2, 1, 0), false}, {plan(2, 1, 1), false}, {plan(2, -1, 0), false}, {plan(2, 1, -1), true}, {plan(2, -1, -1), true},
	} {
		if is, ok := impl.IsFeasible(j, c.p); is != c.want || !ok {
			t.Error("IsFeasible", c.p, is, ok)
		}
	}
}

func TestPitsOfPlansAtTheirEdges(t *testing.T) {
	for _, c := range []struct {
		what string
		arcs [][]int
		p    impl.Plan
		want [][]int
	}{
		{"nothing is mined", stepArcs(3, 1), plan(3, -1, -1, -1), [][]int{nil, nil, nil}},
		{"one period", stepArcs(3, 1), plan(1, 0, 0, -1), [][]int{{0, 1}}},
		{"one block in the last period", noArcs(1), plan(6, 5), [][]int{nil, nil, nil, nil, nil, {0}}},
		{"one block in the first period", noArcs(1), plan(6, 0), [][]int{{0}, {0}, {0}, {0}, {0}, {0}}},
		{"an empty period between", stepArcs(3, 1), plan(3, 0, 2, -1), [][]int{{0}, {0}, {0, 1}}},
		{"blocks that are not in order", stepArcs(3, 1), plan(3, 2, 1, 0), [][]int{{2}, {1, 2}, {0, 1, 2}}},
		{"a gap", noArcs(4), plan(2, 1, -1, 0, 1), [][]int{{2}, {0, 2, 3}}},
	} {
		j := evenJob(c.arcs, 1, 1, 1, 1, c.p.Periods)
		pits, ok := impl.PitsOfPlan(j, c.p)
		checkLists(t, c.what, pits, ok, c.want)
	}
}

func TestEarliestPeriodsAtTheirEdges(t *testing.T) {
	chain := stepArcs(4, 1)
	for _, c := range []struct {
		what       string
		arcs       [][]int
		tonnes     []int
		values     []int
		mine, mill int
		periods    int
		want       []int
	}{
		{"whole periods", chain, []int{100, 100, 100, 100}, []int{0, 0, 0, 0}, 100, 0, 4, []int{0, 1, 2, 3}},
		{"rounded up by one tonne", chain, []int{100, 101, 99, 101}, []int{0, 0, 0, 0}, 100, 0, 6, []int{0, 2, 2, 4}},
		{"just less than the periods", chain, []int{100, 100, 100, 100}, []int{0, 0, 0, 0}, 200, 0, 2, []int{0, 0, 1, 1}},
		{"just not less than the periods", chain, []int{100, 100, 100, 101}, []int{0, 0, 0, 0}, 200, 0, 2, []int{0, 0, 1, -1}},
		{"one period", chain, []int{100, 100, 100, 100}, []int{0, 0, 0, 0}, 200, 0, 1, []int{0, 0, -1, -1}},
		{"the mill is slower", chain, []int{100, 100, 100, 100}, []int{-1, 1, -1, 1}, 400, 50, 6, []int{0, 1, 1, 3}},
		{"the mine is slower", chain, []int{100, 100, 100, 100}, []int{-1, 1, -1, 1}, 50, 100, 6, []int{1, 3, 5, -1}},
		{"the mill is slower by a part", chain, []int{100, 100, 100, 100}, []int{1, 1, 1, 1}, 100, 99, 6, []int{1, 2, 3, 4}},
		{"nothing may be mined", chain, []int{0, 0, 1, 0}, []int{0, 0, 0, 0}, 0, 0, 6, []int{0, 0, -1, -1}},
		{"nothing may be milled", chain, []int{10, 0, 10, 1}, []int{0, 1, 0, 1}, 10, 0, 6, []int{0, 0, 1, -1}},
		{"nothing may be mined but milled", chain, []int{0, 0, 1, 0}, []int{0, 1, 1, 0}, 0, 1000000, 6, []int{0, 0, -1, -1}},
		{"no tonnes at all", chain, []int{0, 0, 0, 0}, []int{1, 1, 1, 1}, 0, 0, 1, []int{0, 0, 0, 0}},
		{"no tonnes and great limits", chain, []int{0, 0, 0, 0}, []int{1, 1, 1, 1}, 1000000, 1000000, 6, []int{0, 0, 0, 0}},
		{"less than one limit", chain, []int{1, 0, 0, 1}, []int{1, 1, 0, 0}, 1000000, 1000000, 6, []int{0, 0, 0, 0}},
		{"the greatest number of periods", chain, []int{3, 2, 1, 1}, []int{0, 0, 0, 0}, 1, 0, 6, []int{2, 4, 5, -1}},
		{"no arcs", noArcs(4), []int{1, 2, 3, 4}, []int{0, 0, 0, 0}, 1, 0, 3, []int{0, 1, 2, -1}},
		{"a block above that two others need counts once", [][]int{nil, {0}, {0}, {0, 1, 2}}, []int{10, 10, 10, 10}, []int{1, 0, 0, 0}, 20, 10, 2, []int{0, 0, 0, 1}},
		{"only the cone counts", [][]int{nil, nil, {0}, {1}}, []int{10, 90, 10, 10}, []int{0, 0, 0, 1}, 20, 10, 5, []int{0, 4, 0, 4}},
		{"one block", noArcs(1), []int{10000}, []int{1}, 10000, 1667, 6, []int{5}},
		{"one block and one tonne less", noArcs(1), []int{10000}, []int{1}, 10000, 1666, 6, []int{-1}},
	} {
		j := impl.Job{Arcs: c.arcs, Tonnes: c.tonnes, Values: c.values, Limits: impl.Limits{Mine: c.mine, Mill: c.mill}, Periods: c.periods, Num: 1, Den: 1}
		l, ok := impl.EarliestPeriods(j)
		checkNumbers(t, c.what, l, ok, c.want)
	}
}

// Each cone of a chain of full blocks, with limits that are met just so, and one tonne short of that.
func TestEarliestPeriodsOfMostBlocks(t *testing.T) {
	reach := reachOfSteps(120)
	for periods := 1; periods <= 6; periods++ {
		for limit := 1; limit <= 1000000; limit = 3*limit + periods {
			for _, value := range []int{0, 1} {
				checkJob(t, evenJob(stepArcs(120, 1), 10000, value, limit, 1000000, periods), reach)
				checkJob(t, evenJob(stepArcs(120, 1), 10000, value, 1000000, limit, periods), reach)
			}
		}
		for _, limit := range []int{1200000/periods - 1, 1200000 / periods, 1200000/periods + 1} {
			checkJob(t, evenJob(stepArcs(120, 1), 10000, 1, 1000000, min(limit, 1000000), periods), reach)
			checkJob(t, evenJob(stepArcs(120, 1), 10000, -1, min(limit, 1000000), 0, periods), reach)
		}
	}
}

func TestMovedBlocks(t *testing.T) {
	for k, arcs := range manyArcs() {
		reach := reachByHand(arcs)
		for at, j := range goodJobs(arcs, k)[k%3 : k%3+3] {
			plans := somePlans(j, reach, k)
			p := plans[(k+at)%len(plans)]
			for _, i := range []int{0, len(arcs) / 2, len(arcs) - 1} {
				for to := -3; to <= 8; to++ {
					checkMove(t, j, p, i, to)
				}
			}
			for _, n := range append(edgeInts(), len(arcs)) {
				checkMove(t, j, p, n, 0)
				checkMove(t, j, p, 0, n)
				checkMove(t, j, p, n, n)
			}
		}
	}
}

// A block can be moved against the order and beyond the limits, as plans need neither be in order nor within the limits.
func TestMovesAgainstOrderAndLimits(t *testing.T) {
	j := evenJob(stepArcs(3, 1), 100, 1, 100, 100, 3)
	for _, c := range []struct {
		i, to int
		want  impl.Plan
	}{
		{0, 0, plan(3, 0, 1, 2)}, {0, 2, plan(3, 2, 1, 2)}, {0, -1, plan(3, -1, 1, 2)}, {1, 1, plan(3, 0, 1, 2)}, {2, 0, plan(3, 0, 1, 0)}, {2, -1, plan(3, 0, 1, -1)},
	} {
		p, ok := impl.MoveBlock(j, plan(3, 0, 1, 2), c.i, c.to)
		checkSamePlan(t, fmt.Sprint("moved ", c.i, " to ", c.to), p, ok, c.want)
	}
	p, ok := impl.MoveBlock(j, plan(3, -1, -1, -1), 1, 2)
	checkSamePlan(t, "the only block", p, ok, plan(3, -1, 2, -1))
}

func TestDelaysAtTheirEdges(t *testing.T) {
	fork := [][]int{nil, nil, {0, 1}, {1}, {2, 3}}
	for _, c := range []struct {
		what string
		arcs [][]int
		when []int
		want []int
	}{
		{"in order already", fork, []int{0, 1, 1, 2, 5}, []int{0, 1, 1, 2, 5}},
		{"nothing is mined", fork, []int{-1, -1, -1, -1, -1}, []int{-1, -1, -1, -1, -1}},
		{"one block is delayed", fork, []int{0, 3, 1, 3, 4}, []int{0, 3, 3, 3, 4}},
		{"a delay passes on", fork, []int{0, 3, 1, 0, 2}, []int{0, 3, 3, 3, 3}},
		{"a delay passes on by one block alone", fork, []int{4, 0, 1, 0, 2}, []int{4, 0, 4, 0, 4}},
		{"the greatest delay counts", fork, []int{4, 5, 0, 0, 0}, []int{4, 5, 5, 5, 5}},
		{"own periods stay where they are later", fork, []int{1, 0, 0, 2, 5}, []int{1, 0, 1, 2, 5}},
		{"a block above is not mined", fork, []int{-1, 0, 0, 0, 0}, []int{-1, 0, -1, 0, -1}},
		{"no block above is mined", fork, []int{-1, -1, 5, 5, 5}, []int{-1, -1, -1, -1, -1}},
		{"a block that is not mined stays so", fork, []int{0, 0, -1, 5, 0}, []int{0, 0, -1, 5, -1}},
		{"late blocks are no help against one that is not mined", fork, []int{5, -1, 0, -1, 0}, []int{5, -1, -1, -1, -1}},
		{"a chain", stepArcs(5, 1), []int{5, 4, 3, 2, 1}, []int{5, 5, 5, 5, 5}},
		{"a chain that breaks", stepArcs(5, 1), []int{2, 0, -1, 0, 1}, []int{2, 2, -1, -1, -1}},
		{"no arcs", noArcs(5), []int{5, 0, -1, 3, 0}, []int{5, 0, -1, 3, 0}},
		{"one block", noArcs(1), []int{3}, []int{3}},
	} {
		j := evenJob(c.arcs, 1, 1, 0, 0, 6)
		p, ok := impl.DelayBlocks(j, plan(6, c.when...))
		checkSamePlan(t, c.what, p, ok, plan(6, c.want...))
	}
	j := evenJob(stepArcs(120, 1), 1, 1, 0, 0, 6)
	p, ok := impl.DelayBlocks(j, planWhere(j, func(i int) int { return (120 - i) / 24 }))
	checkSamePlan(t, "through all blocks", p, ok, planWhere(j, func(int) int { return 5 }))
}

func TestPlanTextsAtTheirEdges(t *testing.T) {
	for _, c := range []struct {
		p    impl.Plan
		want string
	}{
		{plan(1, -1), "0:\n"}, {plan(1, 0), "0: 0\n"}, {plan(2, -1), "0:\n1:\n"}, {plan(2, 1), "0:\n1: 0\n"}, {plan(2, 0), "0: 0\n1:\n"},
		{plan(3, 2, 2, 0, -1), "0: 2\n1:\n2: 0 1\n"}, {plan(3, 1, -1, 1, 1), "0:\n1: 0 2 3\n2:\n"},
		{plan(6, 5, 4, 3, 2, 1, 0, 5, 4, 3, 2, 1, 0), "0: 5 11\n1: 4 10\n2: 3 9\n3: 2 8\n4: 1 7\n5: 0 6\n"}, {plan(6, -1, -1), "0:\n1:\n2:\n3:\n4:\n5:\n"},
	} {
		j := evenJob(noArcs(len(c.p.When)), 1, 1, 0, 0, c.p.Periods)
		if s, ok := impl.PlanText(j, c.p); s != c.want || !ok {
			t.Errorf("text of %v: %q %v", c.p, s, ok)
		}
		p, ok := impl.ParsePlan(j, c.want)
		checkSamePlan(t, fmt.Sprintf("plan of %q", c.want), p, ok, c.p)
	}
	long := evenJob(stepArcs(120, 1), 1, 1, 0, 0, 1)
	s, ok := impl.PlanText(long, planWhere(long, func(int) int { return 0 }))
	if !ok || !strings.HasPrefix(s, "0: 0 1 2 ") || !strings.HasSuffix(s, " 9"+" 10 11"+s[strings.Index(s, " 12"):]) || !strings.HasSuffix(s, " 118 119\n") {
		t.Errorf("text of all blocks: %q %v", s, ok)
	}
}

// eachText has all texts of some signs up to a length.
func eachText(signs string, most int, see func(s string)) {
	texts := []string{""}
	for range most + 1 {
		var longer []string
		for _, s := range texts {
			see(s)
			for _, sign := range []byte(signs) {
				longer = append(longer, s+string(sign))
			}
		}
		texts = longer
	}
}

// Of all short texts those are taken that are the texts of plans, each one once.
func TestAllShortPlanTexts(t *testing.T) {
	for _, c := range []struct {
		n, periods, most int
		signs            string
		count            int
	}{
		{1, 1, 6, "01:- \n", 2}, {1, 2, 8, "01: \n", 3}, {2, 1, 7, "01: \n", 4}, {2, 1, 7, "012:\n ", 4}, {1, 1, 5, "0:\t\r\n +,", 2}, {3, 1, 7, "012: \n", 7},
	} {
		j := evenJob(noArcs(c.n), 1, 1, 0, 0, c.periods)
		count := 0
		eachText(c.signs, c.most, func(s string) {
			p, ok := impl.ParsePlan(j, s)
			if ok {
				count++
			}
			if ok && planTextByHand(p) != s || !ok && !isNoPlan(p) {
				t.Errorf("plan of %q: %v %v", s, p, ok)
			}
		})
		if count != c.count {
			t.Error("texts of", c.n, "blocks and", c.periods, "periods:", count, "are taken, not", c.count)
		}
	}
}

// wrongPlanTexts are texts that no plan of three blocks and two periods has.
func wrongPlanTexts() []string {
	good := "0: 0 1\n1: 2\n"
	texts := []string{
		"", "\n", "\n\n", " ", ":", ":\n:\n", "0", "0\n1\n", "0:", "0:\n", "0:\n1:", "0: 0 1\n", "1: 2\n", "0: 0 1\n1: 2", "0: 0 1 1: 2\n", "0: 0 1\r1: 2\r",
		"1: 2\n0: 0 1\n", "0: 0 1\n2: 2\n", "1: 0 1\n2: 2\n", "0: 0 1\n0: 2\n", "1:\n1:\n", "0: 0 1\n1: 2\n2:\n", "0: 0 1\n1: 2\n\n", "\n0: 0 1\n1: 2\n", "0: 0 1\n\n1: 2\n", "0:\n0: 0 1\n1: 2\n", "-1:\n0: 0 1\n1: 2\n", "0: 0 1\n1: 2\n-1:\n",
		"0: 0 1\n1: 2 \n", "0: 0 1 \n1: 2\n", "0: 0  1\n1: 2\n", "0:  0 1\n1: 2\n", "0:0 1\n1: 2\n", "0 : 0 1\n1: 2\n", " 0: 0 1\n1: 2\n", "0: 0 1\n 1: 2\n", "0: \n1:\n", "0:\n1: \n", "0:\t0 1\n1: 2\n", "0: 0\t1\n1: 2\n", "0: 0 1\r\n1: 2\r\n", "0: 0 1\v\n1: 2\n", "0: 0\u00a01\n1: 2\n", "0: 0 1\n1:\u20032\n",
		"0: 1 0\n1: 2\n", "0: 0 0\n1: 2\n", "0: 0 1 1\n1: 2\n", "0: 0 1 0\n1: 2\n", "0: 0 1\n1: 2 2\n", "0: 0 1\n1: 1 2\n", "0: 0 1\n1: 0\n", "0: 0 1 2\n1: 2\n", "0: 2\n1: 0 1 2\n", "0: 0 2 1\n1:\n",
		"0: 0 1\n1: 3\n", "0: 0 1\n1: 2 3\n", "0: 3\n1:\n", "0: -1 0 1\n1: 2\n", "0: 0 1\n1: -1\n", "0: 120\n1:\n", "0: 9223372036854775807\n1:\n", "0: 9223372036854775808\n1:\n", "0: 18446744073709551616\n1:\n", "0: -9223372036854775808\n1:\n", "0: 4294967296\n1:\n",
		"0: 00 1\n1: 2\n", "0: 0 01\n1: 2\n", "00: 0 1\n1: 2\n", "0: 0 1\n01: 2\n", "0: +0 1\n1: 2\n", "0: 0 +1\n1: 2\n", "0: -0 1\n1: 2\n", "0: 0 1\n1: 0x2\n", "0: 0 1\n1: 2.0\n", "0: 0 1\n1: 2e0\n", "0: 0 1\n1: 1_0\n", "+0: 0 1\n1: 2\n", "-0: 0 1\n1: 2\n", "0: 0 1\n+1: 2\n",
		"0:: 0 1\n1: 2\n", "0: 0 1:\n1: 2\n", "0: 0 1\n1; 2\n", "0; 0 1\n1: 2\n", "0: 0, 1\n1: 2\n", "0: 0,1\n1: 2\n", "0: a\n1:\n", "0: 0 1\n1: none\n", "a: 0 1\n1: 2\n", "0: 0 1\n1\n", "0 0 1\n1 2\n", "0:\n1:\n2", "0: . 0 1\n1: 2\n", "\"0: 0 1\n1: 2\n\"",
		"0: 0 1\n1: \u0662\n", "0: \uff10 1\n1: 2\n", "\ufeff0: 0 1\n1: 2\n", "0: 0 1\n1: 2\n\x00", "0: 0 1\x00\n1: 2\n", "0: 0 1\n1: \xff\n", "\xff",
		good + good, good + "0", good + " ", good + "1: 2\n", good[1:], good[:len(good)-1], "plan\n" + good,
		strings.Repeat("0:\n", 100000), strings.Repeat("0: 0 1\n1: 2\n", 10000), "0:" + strings.Repeat(" 0", 100000) + "\n1:\n", "0: " + strings.Repeat("0", 100000) + "\n1:\n", "0: 0 1\n1: 2" + strings.Repeat(" ", 100000) + "\n", strings.Repeat("\n", 100000), "0: " + strings.Repeat("9", 100000) + "\n1:\n",
	}
	for _, n := range edgeInts() {
		if n < 0 || n > 2 {
			texts = append(texts, "0: 0 1\n1: "+strconv.Itoa(n)+"\n", "0: "+strconv.Itoa(n)+"\n1:\n")
		}
		if n != 0 {
			texts = append(texts, strconv.Itoa(n)+": 0 1\n1: 2\n")
		}
	}
	return texts
}

func TestTextsThatNoPlanHas(t *testing.T) {
	j := evenJob([][]int{nil, nil, {0, 1}}, 100, 1, 200, 200, 2)
	for _, s := range wrongPlanTexts() {
		p, ok := impl.ParsePlan(j, s)
		checkNoPlan(t, fmt.Sprintf("plan of %.40q", s), p, ok)
	}
	// The text of a plan for another job.
	for _, c := range []struct {
		n, periods int
		p          impl.Plan
	}{
		{3, 2, plan(1, 0, 0, 0)}, {3, 2, plan(3, 0, 0, 1)}, {3, 2, plan(2, 0, 0, 1, 1)}, {3, 2, plan(3, -1, -1, -1)}, {1, 1, plan(2, -1)}, {1, 1, plan(1, -1, 0)}, {120, 6, planWhere(evenJob(noArcs(121), 1, 1, 1, 1, 6), func(i int) int { return i / 24 })}, {119, 5, planWhere(evenJob(noArcs(119), 1, 1, 1, 1, 6), func(i int) int { return i / 24 })},
	} {
		p, ok := impl.ParsePlan(evenJob(noArcs(c.n), 1, 1, 1, 1, c.periods), planTextByHand(c.p))
		checkNoPlan(t, fmt.Sprint("plan of the text for another job ", c.p), p, ok)
	}
}

// The text of a plan of fewer blocks is also one of a plan for a job of more blocks, of which the last ones are not mined.
func TestTextsOfFewerBlocks(t *testing.T) {
	p, ok := impl.ParsePlan(evenJob(noArcs(5), 1, 1, 0, 0, 2), "0: 0 1\n1: 2\n")
	checkSamePlan(t, "two blocks more", p, ok, plan(2, 0, 0, 1, -1, -1))
}

func TestPlanTextsWithOneByteChanged(t *testing.T) {
	j := evenJob(stepArcs(14, 3), 1, 1, 0, 0, 3)
	good := "0: 1 2 10\n1: 0 11 13\n2: 3\n"
	taken := 0
	check := func(s string) bool {
		p, ok := impl.ParsePlan(j, s)
		if ok && planTextByHand(p) != s || !ok && !isNoPlan(p) {
			t.Errorf("plan of %q: %v %v", s, p, ok)
		}
		return ok
	}
	for at := range len(good) + 1 {
		check(good[:at])
		check(good[at:])
		for b := range 256 {
			check(good[:at] + string([]byte{byte(b)}) + good[at:])
			if at < len(good) && check(good[:at]+string([]byte{byte(b)})+good[at+1:]) {
				taken++
			}
		}
		if at < len(good) {
			check(good[:at] + good[at+1:])
		}
	}
	// Each byte can be itself. Blocks 0, 2 and 3 can each be one of the blocks 4 to 9 as well, and each block of two digits can be block 12: all others are in a period already, or do not fit between their neighbours.
	if want := len(good) + 3*6 + 3; taken != want {
		t.Error("texts that differ in at most one byte:", taken, "are taken, not", want)
	}
}

// withEach has, for a list, the lists in which the first or the last number is out of range, and lists of other lengths.
func withEach(l []int, wrong []int) [][]int {
	lists := [][]int{nil, {}, l[:len(l)-1], append(slices.Clone(l), l[0]), slices.Repeat(l, 2), make([]int, 121), make([]int, 1000)}
	for _, n := range wrong {
		first, last := slices.Clone(l), slices.Clone(l)
		first[0], last[len(l)-1] = n, n
		lists = append(lists, first, last)
	}
	return slices.DeleteFunc(lists, func(other []int) bool { return len(other) == len(l) && slices.Equal(other, l) })
}

// wrongWorths are the numbers at both sides of the values and far from them.
func wrongWorths() []int {
	return append(slices.DeleteFunc(edgeInts(), func(n int) bool { return n >= -1000000 && n <= 1000000 }), -1000001, 1000001)
}

// wrongJobs have one part that is not valid, or parts that do not belong together.
func wrongJobs() []impl.Job {
	jobs := []impl.Job{{}, {Periods: 1, Num: 1, Den: 1}, {Arcs: [][]int{}, Tonnes: []int{}, Values: []int{}, Periods: 1, Num: 1, Den: 1}}
	for k, arcs := range wrongArcs() {
		jobs = append(jobs, evenJob(arcs, 1, 1, 1, 1, 1+k%6))
	}
	for _, n := range []int{1, 3, 120} {
		base := tightJob(stepArcs(n, 1), 10000, n)
		with := func(change func(j *impl.Job)) {
			j := copyJob(base)
			change(&j)
			jobs = append(jobs, j)
		}
		for _, l := range withEach(base.Tonnes, append(outside(10000), 10001)) {
			with(func(j *impl.Job) { j.Tonnes = l })
		}
		for _, l := range withEach(base.Values, wrongWorths()) {
			with(func(j *impl.Job) { j.Values = l })
		}
		for _, count := range []int{n - 1, n + 1, 121} {
			with(func(j *impl.Job) { j.Tonnes, j.Values = make([]int, count), make([]int, count) })
			with(func(j *impl.Job) { j.Arcs = noArcs(count) })
		}
		for _, limit := range append(outside(1000000), 1000001) {
			with(func(j *impl.Job) { j.Limits.Mine = limit })
			with(func(j *impl.Job) { j.Limits.Mill = limit })
			with(func(j *impl.Job) { j.Limits = impl.Limits{Mine: limit, Mill: limit} })
		}
		for _, periods := range append(outside(6), 0) {
			with(func(j *impl.Job) { j.Periods = periods })
		}
		for _, number := range append(outside(20), 0) {
			with(func(j *impl.Job) { j.Num, j.Den = number, 20 })
			with(func(j *impl.Job) { j.Num, j.Den = 1, number })
			with(func(j *impl.Job) { j.Num, j.Den = number, number })
		}
		with(func(j *impl.Job) { j.Num, j.Den = 2, 1 })
		with(func(j *impl.Job) { j.Num, j.Den = 20, 19 })
	}
	return jobs
}

func TestWrongJobsHaveNoPlans(t *testing.T) {
	for _, j := range wrongJobs() {
		checkNothingOfJob(t, j)
	}
}

// wrongPlans are plans that are not valid for a job.
func wrongPlans(j impl.Job) []impl.Plan {
	n := len(j.Arcs)
	good := planWhere(j, func(i int) int { return i%(j.Periods+1) - 1 })
	plans := []impl.Plan{{}, {Periods: j.Periods}, {When: good.When}}
	for _, periods := range append(outside(6), 0, j.Periods-1, j.Periods+1) {
		plans = append(plans, impl.Plan{Periods: periods, When: good.When}, impl.Plan{Periods: periods, When: slices.Repeat([]int{-1}, n)})
	}
	for _, when := range withEach(good.When, append(edgeInts(), -2, j.Periods, j.Periods+1)) {
		if len(when) != n || when[0] < -1 || when[0] >= j.Periods || when[n-1] < -1 || when[n-1] >= j.Periods {
			plans = append(plans, impl.Plan{Periods: j.Periods, When: when})
		}
	}
	return plans
}

func TestWrongPlans(t *testing.T) {
	for k, n := range []int{1, 2, 3, 20, 119, 120} {
		for at, arcs := range [][][]int{noArcs(n), allArcs(n), mixedArcs(n, 3, n)} {
			j := goodJobs(arcs, k+at)[k%11]
			for _, p := range wrongPlans(j) {
				if isPlanByHand(j, p) {
					t.Fatal("a plan that is meant to be wrong is not", j, p)
				}
				checkNothingOfPlan(t, j, p, true)
			}
		}
	}
}

// All lists of two numbers near the periods are plans or are not.
func TestPlansAtTheirEdges(t *testing.T) {
	for periods := 1; periods <= 6; periods++ {
		j := evenJob([][]int{nil, {0}}, 1, 1, 1, 1, periods)
		for a := -3; a <= 8; a++ {
			for b := -3; b <= 8; b++ {
				for given := -1; given <= 8; given++ {
					p := plan(given, a, b)
					if is, ok := impl.IsPlan(j, p); is != isPlanByHand(j, p) || !ok {
						t.Error("IsPlan", periods, p, is, ok)
					}
				}
			}
		}
	}
}

// A plan that is not valid is not moved, also not to one that would be valid.
func TestMovesOfWrongPlans(t *testing.T) {
	j := evenJob(noArcs(2), 1, 1, 1, 1, 2)
	for _, n := range append(outside(1), 2) {
		if n == -1 {
			continue
		}
		for to := -1; to <= 1; to++ {
			p, ok := impl.MoveBlock(j, plan(2, 0, n), 1, to)
			checkNoPlan(t, fmt.Sprint("moved from ", n, " to ", to), p, ok)
		}
	}
}

// usePlans calls all functions of chapter 13, and writes into everything that they return, so that shared memory shows.
func usePlans(j impl.Job, p impl.Plan, i, to int, s string) {
	impl.IsJob(j)
	impl.IsPlan(j, p)
	impl.IsFeasible(j, p)
	impl.PlanText(j, p)
	for _, call := range planListsFunctions() {
		lists, _ := call(j, p)
		for _, l := range lists {
			spoilList(l)
		}
		clear(lists[:cap(lists)])
	}
	over, _ := impl.OverLimits(j, p)
	earliest, _ := impl.EarliestPeriods(j)
	moved, _ := impl.MoveBlock(j, p, i, to)
	same, _ := impl.MoveBlock(j, p, 0, 0)
	delayed, _ := impl.DelayBlocks(j, p)
	parsed, _ := impl.ParsePlan(j, s)
	for _, l := range [][]int{over, earliest, moved.When, same.When, delayed.When, parsed.When} {
		spoilList(l)
	}
}

func planListsFunctions() map[string]func(j impl.Job, p impl.Plan) ([][]int, bool) {
	return map[string]func(impl.Job, impl.Plan) ([][]int, bool){"OrderFaults": impl.OrderFaults, "TonnesIn": impl.TonnesIn, "PitsOfPlan": impl.PitsOfPlan}
}

// planArguments are jobs with plans that belong together, and others that do not.
type planArguments struct {
	j impl.Job
	p impl.Plan
}

func goodPlanArguments() []planArguments {
	var all []planArguments
	for k, n := range []int{1, 2, 3, 7, 20, 119, 120} {
		for at, arcs := range [][][]int{noArcs(n), stepArcs(n, 1), allArcs(n), mixedArcs(n, 3, n), mixedArcs(n, 12, n+1)} {
			reach := reachByHand(arcs)
			for shift, j := range goodJobs(arcs, k+at) {
				plans := somePlans(j, reach, shift)
				all = append(all, planArguments{j, plans[(k+at+shift)%len(plans)]}, planArguments{j, plans[(3*shift+at)%len(plans)]})
			}
		}
	}
	return all
}

func wrongPlanArguments() []planArguments {
	var all []planArguments
	for k, j := range wrongJobs() {
		all = append(all, planArguments{j, planWhere(j, func(i int) int { return i%3 - 1 })}, planArguments{j, plan(k % 9)})
	}
	for k, n := range []int{1, 3, 120} {
		j := goodJobs(mixedArcs(n, 3, n), k)[5+k]
		for _, p := range wrongPlans(j) {
			all = append(all, planArguments{j, p})
		}
	}
	return all
}

// Promise 33: no argument makes a function of chapter 13 panic.
func TestPlansNeverPanic(t *testing.T) {
	numbers, texts := append(edgeInts(), 2, 3, 4, 7), wrongPlanTexts()
	for k, a := range append(goodPlanArguments(), wrongPlanArguments()...) {
		noPanic(t, fmt.Sprint("a function of arguments by their number ", k), func() {
			usePlans(a.j, a.p, numbers[k%len(numbers)], numbers[(7*k+3)%len(numbers)], texts[k%len(texts)])
			usePlans(a.j, a.p, k%122, k%8-1, "0: 0\n")
		})
	}
	for _, x := range numbers {
		for _, y := range numbers {
			noPanic(t, fmt.Sprint("a function of the numbers ", x, y), func() {
				j := evenJob([][]int{nil, {0}}, 1, 1, 1, 1, 2)
				usePlans(j, plan(2, x, y), x, y, "0: 0 1\n1:\n")
				usePlans(j, plan(x, y, 0), y, x, strconv.Itoa(x)+": "+strconv.Itoa(y)+"\n1:\n")
				for _, change := range []func(){
					func() { j.Tonnes = []int{x, y} }, func() { j.Values = []int{y, x} }, func() { j.Limits = impl.Limits{Mine: x, Mill: y} },
					func() { j.Periods = x }, func() { j.Num, j.Den = x, y }, func() { j.Arcs = [][]int{{x}, {y}} }, func() { j = impl.Job{} },
				} {
					change()
					usePlans(j, plan(j.Periods, 0, 0), 0, 1, "0: 0 1\n1:\n")
					usePlans(j, plan(2, 0, 1), x, y, "")
				}
			})
		}
	}
	for _, s := range texts {
		for _, j := range []impl.Job{{}, evenJob(noArcs(1), 1, 1, 1, 1, 1), evenJob(noArcs(120), 1, 1, 1, 1, 6)} {
			noPanic(t, fmt.Sprintf("ParsePlan %.40q", s), func() { impl.ParsePlan(j, s) })
		}
	}
}

// Promise 33: no function of chapter 13 changes its arguments or what lies behind them.
func TestPlanArgumentsStay(t *testing.T) {
	for k, given := range append(goodPlanArguments(), wrongPlanArguments()...) {
		j, p := given.j, given.p
		var whole [3][]int
		j.Tonnes, whole[0] = roomy(given.j.Tonnes)
		j.Values, whole[1] = roomy(given.j.Values)
		p.When, whole[2] = roomy(given.p.When)
		arcs, arcsMemory := roomyArcs(given.j.Arcs)
		j.Arcs = arcs
		kept, keptArcs := copyArcs(whole[:]), arcsMemory()
		usePlans(j, p, k%max(1, len(arcs)), k%4-1, planTextByHand(impl.Plan{Periods: min(p.Periods, 9), When: p.When}))
		if !sameArcs(whole[:], kept) || !sameArcs(arcsMemory(), keptArcs) {
			t.Fatal("an argument is changed", given)
		}
	}
}

// Promise 33: results are new memory, and no two lists of one result share it.
func TestPlanResultsAreNew(t *testing.T) {
	for _, a := range goodPlanArguments() {
		j, p := a.j, a.p
		keptJob, keptPlan, text := copyJob(j), copyPlan(p), planTextByHand(p)
		at := len(p.When) / 2
		for what, call := range map[string]func() []int{
			"OverLimits":         func() []int { l, _ := impl.OverLimits(j, p); return l },
			"EarliestPeriods":    func() []int { l, _ := impl.EarliestPeriods(j); return l },
			"MoveBlock":          func() []int { q, _ := impl.MoveBlock(j, p, at, 0); return q.When },
			"MoveBlock to where": func() []int { q, _ := impl.MoveBlock(j, p, at, p.When[at]); return q.When },
			"DelayBlocks":        func() []int { q, _ := impl.DelayBlocks(j, p); return q.When },
			"ParsePlan":          func() []int { q, _ := impl.ParsePlan(j, text); return q.When },
		} {
			checkFresh(t, what, call)
		}
		for what, call := range planListsFunctions() {
			lists, ok := call(j, p)
			want := copyArcs(lists)
			checkApart(t, what, lists, want)
			if again, also := call(j, p); !ok || !also || !sameArcs(again, want) {
				t.Error(what, "a changed result changes a later one", a, again)
			}
		}
		if !samePlan(p, keptPlan) || !sameArcs([][]int{j.Tonnes, j.Values}, [][]int{keptJob.Tonnes, keptJob.Values}) || !sameArcs(j.Arcs, keptJob.Arcs) {
			t.Fatal("a result shares memory with an argument", a)
		}
	}
}
