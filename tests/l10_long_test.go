package tests

import (
	"fmt"
	"slices"
	"testing"

	"loop.example/g00636/impl"
)

const mostTime = 100

// longCase is a graph with times, and all that the chapter tells of them.
type longCase struct {
	what     string
	g        impl.Graph
	times    []int
	earliest []int
	latest   []int
	slack    []int
	tails    []int
	way      []int
	end      int
}

type timeCase struct {
	what  string
	times []int
	task  int
	more  int
	want  []int
}

// longArgs is all that some function of the chapter takes.
type longArgs struct {
	g     impl.Graph
	times []int
	task  int
	more  int
}

// longAnswer is all that some function of the chapter answers.
type longAnswer struct {
	l  []int
	n  int
	ok bool
}

// graphTimeFuncs are the functions that take a graph and times.
func graphTimeFuncs() map[string]func(longArgs) longAnswer {
	return map[string]func(longArgs) longAnswer{
		"EarliestEnds": func(a longArgs) longAnswer {
			l, ok := impl.EarliestEnds(a.g, a.times)
			return longAnswer{l: l, ok: ok}
		},
		"LatestEnds": func(a longArgs) longAnswer {
			l, n, ok := impl.LatestEnds(a.g, a.times)
			return longAnswer{l: l, n: n, ok: ok}
		},
		"SlackOf": func(a longArgs) longAnswer {
			l, ok := impl.SlackOf(a.g, a.times)
			return longAnswer{l: l, ok: ok}
		},
		"LongestWay": func(a longArgs) longAnswer {
			l, n, ok := impl.LongestWay(a.g, a.times)
			return longAnswer{l: l, n: n, ok: ok}
		},
		"TailsOf": func(a longArgs) longAnswer {
			l, ok := impl.TailsOf(a.g, a.times)
			return longAnswer{l: l, ok: ok}
		},
	}
}

func longFuncs() map[string]func(longArgs) longAnswer {
	funcs := graphTimeFuncs()
	funcs["WithTime"] = func(a longArgs) longAnswer {
		l, ok := impl.WithTime(a.times, a.task, a.more)
		return longAnswer{l: l, ok: ok}
	}
	return funcs
}

func sameLongAnswer(a longAnswer, b longAnswer) bool {
	return slices.Equal(a.l, b.l) && a.n == b.n && a.ok == b.ok
}

func checkZeroLong(t *testing.T, what string, funcs map[string]func(longArgs) longAnswer, a longArgs) {
	t.Helper()
	for name, f := range funcs {
		if got := f(a); !sameLongAnswer(got, longAnswer{}) {
			t.Errorf("%s: %s of %d, %d, %d: %v", what, name, len(a.times), a.task, a.more, got)
		}
	}
}

func checkLong(t *testing.T, c longCase) {
	t.Helper()
	checkGoodCase(t, c.what, c.g)
	for name, want := range map[string]longAnswer{
		"EarliestEnds": {c.earliest, 0, true},
		"LatestEnds":   {c.latest, c.end, true},
		"SlackOf":      {c.slack, 0, true},
		"LongestWay":   {c.way, c.end, true},
		"TailsOf":      {c.tails, 0, true},
	} {
		if got := graphTimeFuncs()[name](longArgs{g: c.g, times: c.times}); !sameLongAnswer(got, want) {
			t.Errorf("%s: %s of %v, %v: %v; want %v", c.what, name, c.g, c.times, got, want)
		}
	}
}

func checkTime(t *testing.T, c timeCase) {
	t.Helper()
	if got, ok := impl.WithTime(c.times, c.task, c.more); !slices.Equal(got, c.want) || ok != (c.want != nil) {
		t.Errorf("%s: WithTime of %v, %d, %d: %v, %v; want %v", c.what, c.times, c.task, c.more, got, ok, c.want)
	}
}

// alike is that many times of one length.
func alike(tasks int, time int) []int {
	return slices.Repeat([]int{time}, tasks)
}

// backward is the list from its end on.
func backward(l []int) []int {
	l = slices.Clone(l)
	slices.Reverse(l)
	return l
}

// forked is 3 over 1 and 2, 1 and 2 over 0: two ways, the first one by 1.
func forked() impl.Graph {
	return graphOf([]int{0, 2, 1, 3}, map[int][]int{1: {0}, 2: {0}, 3: {1, 2}})
}

// timesOver are all lists of that many times up to the most.
func timesOver(tasks int, most int) [][]int {
	if tasks == 0 {
		return [][]int{nil}
	}
	var all [][]int
	for _, shorter := range timesOver(tasks-1, most) {
		for time := 1; time <= most; time++ {
			all = append(all, append(slices.Clone(shorter), time))
		}
	}
	return all
}

// timesFor gives a drawn time for each task, at most that one.
func (d *drawer) timesFor(tasks int, most int) []int {
	times := make([]int, tasks)
	for task := range times {
		times[task] = 1 + d.below(most)
	}
	return times
}

// eachTimed goes over all small graphs and over greater ones that are drawn, with times all
// alike, few ones (so that many ways are as long), any ones, and just 1 and 100 (much slack).
func eachTimed(check func(g impl.Graph, times []int)) {
	d := newDrawer()
	for _, g := range goodGraphs() {
		tasks := len(g.Needs)
		uneven := d.timesFor(tasks, 2)
		for task, time := range uneven {
			uneven[task] = 1 + (time-1)*(mostTime-1)
		}
		for _, times := range [][]int{alike(tasks, 1), alike(tasks, mostTime), d.timesFor(tasks, 3), d.timesFor(tasks, mostTime), uneven} {
			check(g, times)
		}
	}
}

// waysUp are all ways in the graph, each from what is needed on to what needs it.
func waysUp(g impl.Graph) [][]int {
	var ways [][]int
	for from := range g.Needs {
		for to := range g.Needs {
			for _, way := range waysBetween(g, from, to) {
				ways = append(ways, backward(way))
			}
		}
	}
	return ways
}

func timeOver(way []int, times []int) int {
	total := 0
	for _, task := range way {
		total += times[task]
	}
	return total
}

// longByHand says, apart from the program and from the Order, what the chapter tells: by all
// ways, each summed up for itself.
func longByHand(g impl.Graph, times []int) longCase {
	tasks := len(g.Needs)
	c := longCase{g: g, times: times, earliest: make([]int, tasks), tails: make([]int, tasks)}
	through := make([]int, tasks)
	for _, way := range waysUp(g) {
		total, first, last := timeOver(way, times), way[0], way[len(way)-1]
		c.earliest[last] = max(c.earliest[last], total)
		c.tails[first] = max(c.tails[first], total)
		for _, task := range way {
			through[task] = max(through[task], total)
		}
		if total > c.end || total == c.end && slices.Compare(way, c.way) < 0 {
			c.way, c.end = way, total
		}
	}
	for task := range tasks {
		c.slack = append(c.slack, c.end-through[task])
		c.latest = append(c.latest, c.earliest[task]+c.slack[task])
	}
	return c
}

func TestLong(t *testing.T) {
	for _, c := range []longCase{
		{"two ways, the second one longer", forked(), []int{1, 2, 3, 4}, []int{1, 3, 4, 8}, []int{1, 4, 4, 8}, []int{0, 1, 0, 0}, []int{8, 6, 7, 4}, []int{0, 2, 3}, 8},
		{"two ways, the first one longer", forked(), []int{1, 9, 3, 4}, []int{1, 10, 4, 14}, []int{1, 10, 10, 14}, []int{0, 0, 6, 0}, []int{14, 13, 7, 4}, []int{0, 1, 3}, 14},
		{"two ways as long", forked(), []int{1, 3, 3, 4}, []int{1, 4, 4, 8}, []int{1, 4, 4, 8}, []int{0, 0, 0, 0}, []int{8, 7, 7, 4}, []int{0, 1, 3}, 8},
		{"more tasks, less time", graphOf(ordered(4), map[int][]int{1: {0}, 2: {1}}), []int{1, 2, 3, 7}, []int{1, 3, 6, 7}, []int{2, 4, 7, 7}, []int{1, 1, 1, 0}, []int{6, 5, 3, 7}, []int{3}, 7},
		{"crossed", crossed(), []int{5, 4, 2, 1, 6, 3, 9}, []int{16, 4, 2, 5, 8, 11, 9}, []int{16, 7, 2, 8, 8, 11, 16}, []int{0, 3, 0, 3, 0, 0, 7}, []int{5, 13, 16, 9, 14, 8, 9}, []int{2, 4, 5, 0}, 16},
		{"the Order does not rise", chained(), []int{10, 20, 30, 40}, []int{70, 60, 100, 40}, []int{70, 60, 100, 40}, []int{0, 0, 0, 0}, []int{40, 60, 30, 100}, []int{3, 1, 0, 2}, 100},
		{"one that needs two of unlike ends", graphOf(ordered(3), map[int][]int{2: {0, 1}}), []int{9, 4, 1}, []int{9, 4, 10}, []int{9, 9, 10}, []int{0, 5, 0}, []int{10, 5, 1}, []int{0, 2}, 10},
		{"one that two of unlike tails need", graphOf(ordered(3), map[int][]int{1: {0}, 2: {0}}), []int{1, 4, 9}, []int{1, 5, 10}, []int{1, 10, 10}, []int{0, 5, 0}, []int{10, 4, 9}, []int{0, 2}, 10},
		{"a short need beside a long way", graphOf([]int{2, 1, 0}, map[int][]int{0: {1, 2}, 1: {2}}), []int{1, 100, 1}, []int{102, 101, 1}, []int{102, 101, 1}, []int{0, 0, 0}, []int{1, 101, 102}, []int{2, 1, 0}, 102},
	} {
		checkLong(t, c)
	}
}

func TestLongEdges(t *testing.T) {
	ten := make([]int, 10)
	tens := []int{1, 2, 3, 4, 5, 6, 7, 8, 9, 10}
	sums := []int{1, 3, 6, 10, 15, 21, 28, 36, 45, 55}
	rests := []int{55, 54, 52, 49, 45, 40, 34, 27, 19, 10}
	for _, c := range []longCase{
		{"one task alone", alone(), []int{7}, []int{7}, []int{7}, []int{0}, []int{7}, []int{0}, 7},
		{"one task alone, a time of 1", alone(), []int{1}, []int{1}, []int{1}, []int{0}, []int{1}, []int{0}, 1},
		{"one task alone, a time of 100", alone(), []int{100}, []int{100}, []int{100}, []int{0}, []int{100}, []int{0}, 100},
		{"two, no need", graphOf([]int{1, 0}, nil), []int{1, 100}, []int{1, 100}, []int{100, 100}, []int{99, 0}, []int{1, 100}, []int{1}, 100},
		{"no needs", graphOf([]int{2, 0, 1}, nil), []int{3, 8, 5}, []int{3, 8, 5}, []int{8, 8, 8}, []int{5, 0, 3}, []int{3, 8, 5}, []int{1}, 8},
		{"no needs, all as long", graphOf([]int{2, 0, 1}, nil), []int{4, 4, 4}, []int{4, 4, 4}, []int{4, 4, 4}, []int{0, 0, 0}, []int{4, 4, 4}, []int{0}, 4},
		{"no needs, the last ones as long", graphOf([]int{3, 2, 1, 0}, nil), []int{1, 4, 3, 4}, []int{1, 4, 3, 4}, []int{4, 4, 4, 4}, []int{3, 0, 1, 0}, []int{1, 4, 3, 4}, []int{1}, 4},
		{"MaxTasks, no need, the greatest times", graphOf(backward(ordered(10)), nil), alike(10, 100), alike(10, 100), alike(10, 100), ten, alike(10, 100), []int{0}, 100},
		{"MaxTasks, a chain", longChain(), backward(tens), backward(sums), backward(sums), ten, backward(rests), backward(ordered(10)), 55},
		{"MaxTasks, a chain, the least times", longChain(), alike(10, 1), backward(tens), backward(tens), ten, tens, backward(ordered(10)), 10},
		{"MaxTasks, a chain, the greatest times", longChain(), alike(10, 100), []int{1000, 900, 800, 700, 600, 500, 400, 300, 200, 100}, []int{1000, 900, 800, 700, 600, 500, 400, 300, 200, 100}, ten, []int{100, 200, 300, 400, 500, 600, 700, 800, 900, 1000}, backward(ordered(10)), 1000},
		{"MaxTasks, every need", everyNeed(), tens, sums, sums, ten, rests, ordered(10), 55},
		{"MaxTasks, nine over one", graphOf(ordered(10), map[int][]int{1: {0}, 2: {0}, 3: {0}, 4: {0}, 5: {0}, 6: {0}, 7: {0}, 8: {0}, 9: {0}}), alike(10, 2), []int{2, 4, 4, 4, 4, 4, 4, 4, 4, 4}, []int{2, 4, 4, 4, 4, 4, 4, 4, 4, 4}, ten, []int{4, 2, 2, 2, 2, 2, 2, 2, 2, 2}, []int{0, 1}, 4},
		{"MaxTasks, one over nine", graphOf(ordered(10), map[int][]int{9: ordered(9)}), alike(10, 2), []int{2, 2, 2, 2, 2, 2, 2, 2, 2, 4}, []int{2, 2, 2, 2, 2, 2, 2, 2, 2, 4}, ten, []int{4, 4, 4, 4, 4, 4, 4, 4, 4, 2}, []int{0, 9}, 4},
	} {
		checkLong(t, c)
	}
}

// Where several ways are as long the number of the task counts each time, not its place in the Order.
func TestLongestWayOfSeveral(t *testing.T) {
	twoChains := map[int][]int{1: {3}, 2: {0}}
	threeLevels := map[int][]int{2: {0, 1}, 3: {0, 1}, 4: {2, 3}, 5: {2, 3}}
	for _, c := range []struct {
		what  string
		g     impl.Graph
		times []int
		way   []int
	}{
		{"two chains", graphOf([]int{3, 1, 0, 2}, twoChains), alike(4, 5), []int{0, 2}},
		{"two chains, the second one longer", graphOf([]int{0, 2, 3, 1}, twoChains), []int{5, 6, 5, 5}, []int{3, 1}},
		{"two chains, as long by unlike times", graphOf([]int{3, 1, 0, 2}, twoChains), []int{1, 2, 9, 8}, []int{0, 2}},
		{"each level has two", graphOf([]int{1, 0, 3, 2, 5, 4}, threeLevels), alike(6, 7), []int{0, 2, 4}},
		{"each level has two, the first of the first shorter", graphOf([]int{1, 0, 3, 2, 5, 4}, threeLevels), []int{6, 7, 7, 7, 7, 7}, []int{1, 2, 4}},
		{"each level has two, the first of the second shorter", graphOf([]int{1, 0, 3, 2, 5, 4}, threeLevels), []int{7, 7, 6, 7, 7, 7}, []int{0, 3, 4}},
		{"each level has two, the first of the last shorter", graphOf([]int{1, 0, 3, 2, 5, 4}, threeLevels), []int{7, 7, 7, 7, 6, 7}, []int{0, 2, 5}},
		{"the lesser number of two ways stands behind", graphOf([]int{4, 3, 1, 2, 0}, map[int][]int{0: {1, 2}, 1: {3}, 2: {4}}), alike(5, 3), []int{3, 1, 0}},
		{"the first one counts ahead of a lesser one later", graphOf([]int{0, 1, 2, 3}, map[int][]int{2: {1}, 3: {0}}), alike(4, 2), []int{0, 3}},
		{"fewer tasks as long", graphOf([]int{1, 3, 0, 2}, map[int][]int{0: {1}, 2: {0}}), []int{2, 2, 2, 6}, []int{1, 0, 2}},
		{"more tasks as long", graphOf([]int{1, 2, 3, 0}, map[int][]int{2: {1}, 3: {2}}), []int{6, 2, 2, 2}, []int{0}},
		{"as long as what is left, but no user", graphOf(ordered(4), map[int][]int{2: {0}, 3: {0}}), []int{4, 3, 2, 3}, []int{0, 3}},
	} {
		checkGoodCase(t, c.what, c.g)
		if way, end, ok := impl.LongestWay(c.g, c.times); !slices.Equal(way, c.way) || end != timeOver(c.way, c.times) || !ok {
			t.Errorf("%s: LongestWay of %v, %v: %v, %d, %v; want %v", c.what, c.g, c.times, way, end, ok, c.way)
		}
	}
}

func TestWithTime(t *testing.T) {
	ten := alike(impl.MaxTasks, 50)
	for _, c := range []timeCase{
		{"the first one", []int{1, 2}, 0, 3, []int{4, 2}},
		{"the last one", []int{1, 2}, 1, 3, []int{1, 5}},
		{"within", []int{7, 8, 9}, 1, 10, []int{7, 18, 9}},
		{"no more", []int{7, 8, 9}, 1, 0, []int{7, 8, 9}},
		{"no more of 100", []int{100}, 0, 0, []int{100}},
		{"no more of 1", []int{1}, 0, 0, []int{1}},
		{"99 more of 1", []int{1, 1}, 0, 99, []int{100, 1}},
		{"99 more of 2", []int{2, 1}, 0, 99, nil},
		{"99 more of 100", []int{100}, 0, 99, nil},
		{"100 more", []int{1}, 0, 100, nil},
		{"exactly 100", []int{40, 3}, 0, 60, []int{100, 3}},
		{"one more than 100", []int{40, 3}, 0, 61, nil},
		{"one more of 99", []int{99}, 0, 1, []int{100}},
		{"one more of 100", []int{100}, 0, 1, nil},
		{"others of 100", []int{100, 1, 100}, 1, 99, []int{100, 100, 100}},
		{"below 0", []int{50, 50}, 0, -1, nil},
		{"far below 0", []int{50, 50}, 0, -49, nil},
		{"a great more", []int{1}, 0, 1 << 62, nil},
		{"the greatest int", []int{1}, 0, 1<<63 - 1, nil},
		{"the greatest int of 100", []int{100}, 0, 1<<63 - 1, nil},
		{"the least int", []int{100}, 0, -1 << 63, nil},
		{"MaxTasks, the first one", ten, 0, 50, append([]int{100}, ten[1:]...)},
		{"MaxTasks, the last one", ten, 9, 1, append(slices.Clone(ten[1:]), 51)},
		{"MaxTasks, one behind the last one", ten, impl.MaxTasks, 1, nil},
		{"one more than MaxTasks", alike(impl.MaxTasks+1, 50), 0, 1, nil},
		{"one more than MaxTasks, its last one", alike(impl.MaxTasks+1, 50), impl.MaxTasks, 1, nil},
		{"very many", alike(100000, 50), 0, 0, nil},
		{"no times", nil, 0, 0, nil},
		{"no times, an empty list", []int{}, 0, 1, nil},
		{"no times, below 0", nil, -1, 0, nil},
	} {
		checkTime(t, c)
	}
}

func TestWithTimeOfNoTask(t *testing.T) {
	for _, times := range [][]int{{1}, {1, 2, 3}, alike(impl.MaxTasks, 1)} {
		for _, no := range noTasks(len(times)) {
			for _, more := range []int{0, 1, 99} {
				checkTime(t, timeCase{"no such task", times, no, more, nil})
			}
		}
	}
}

func TestWithTimeAll(t *testing.T) {
	for time := -1; time <= mostTime+1; time++ {
		for more := -2; more <= mostTime+1; more++ {
			for task := range 3 {
				times := []int{17, 100, 1}
				times[task] = time
				c := timeCase{what: "all", times: times, task: task, more: more}
				if 1 <= time && 0 <= more && more <= 99 && time+more <= mostTime {
					c.want = slices.Clone(times)
					c.want[task] += more
				}
				checkTime(t, c)
			}
		}
	}
}

// badTimeLists are refused of a graph of that many tasks, at least three.
func badTimeLists(tasks int) map[string][]int {
	with := func(task int, time int) []int {
		times := alike(tasks, 50)
		times[task] = time
		return times
	}
	return map[string][]int{
		"none":                    nil,
		"none, an empty list":     {},
		"one too few":             alike(tasks-1, 50),
		"one too many":            alike(tasks+1, 50),
		"one alone":               {50},
		"twice as many":           alike(2*tasks, 50),
		"very many":               alike(100000, 50),
		"the first one of 0":      with(0, 0),
		"the last one of 0":       with(tasks-1, 0),
		"the first one of 101":    with(0, 101),
		"the last one of 101":     with(tasks-1, 101),
		"within of 0":             with(1, 0),
		"within of 101":           with(1, 101),
		"within below 0":          with(1, -1),
		"below 0":                 with(tasks-1, -50),
		"a great one":             with(0, 1<<62),
		"the greatest int":        with(1, 1<<63-1),
		"the least int":           with(1, -1<<63),
		"all of 0":                alike(tasks, 0),
		"all of 101":              alike(tasks, 101),
		"all below 0":             alike(tasks, -1),
		"one too many, it of 0":   append(alike(tasks, 50), 0),
		"one too many, it of 101": append(alike(tasks, 50), 101),
	}
}

func TestLongRefusesBadTimes(t *testing.T) {
	for _, g := range []impl.Graph{crossed(), chained(), forked(), everyNeed(), longChain(), graphOf(ordered(3), nil), graphOf(ordered(10), nil)} {
		for what, times := range badTimeLists(len(g.Needs)) {
			checkZeroLong(t, what, graphTimeFuncs(), longArgs{g: g, times: times})
		}
	}
}

func TestLongRefusesBadTimesOfTheOnlyOne(t *testing.T) {
	for _, times := range [][]int{nil, {}, {0}, {101}, {-1}, {1, 1}, {100, 100}, {1 << 62}, {-1 << 63}} {
		checkZeroLong(t, "the only one", graphTimeFuncs(), longArgs{g: alone(), times: times})
	}
}

func TestWithTimeRefusesBadTimes(t *testing.T) {
	for _, bad := range []int{0, 101, -1, 102, -50, 1 << 62, 1<<63 - 1, -1 << 63} {
		for place := range 4 {
			times := alike(4, 50)
			times[place] = bad
			for task := range 4 {
				for _, more := range []int{0, 1, 50, 99} {
					checkTime(t, timeCase{"bad times", times, task, more, nil})
				}
			}
		}
	}
}

func TestLongRefusesBadGraphs(t *testing.T) {
	for what, g := range badGraphs() {
		for _, times := range [][]int{nil, {}, {1}, alike(len(g.Needs), 1), alike(len(g.Order), 100), alike(3, 5), {1, 2, 3, 4}, {0, 1, 2}} {
			checkZeroLong(t, what, graphTimeFuncs(), longArgs{g: g, times: times})
		}
	}
}

// Of all times from -1 on just those in 1..100 are taken, at each place.
func TestLongTakesJustTimes(t *testing.T) {
	for time := -1; time <= mostTime+2; time++ {
		for task := range 4 {
			times := []int{3, 100, 1, 40}
			times[task] = time
			for name, f := range graphTimeFuncs() {
				got := f(longArgs{g: forked(), times: times})
				if want := 1 <= time && time <= mostTime; got.ok != want || !want && !sameLongAnswer(got, longAnswer{}) {
					t.Errorf("%s of %v: %v; want %v", name, times, got, want)
				}
			}
		}
	}
}

func TestPromise10ByHand(t *testing.T) {
	eachTimed(func(g impl.Graph, times []int) {
		checkLong(t, longByHand(g, times))
		if t.Failed() {
			t.FailNow()
		}
	})
}

func TestPromise10ByHandSmall(t *testing.T) {
	for _, g := range smallGraphs(3) {
		for _, times := range timesOver(len(g.Needs), 4) {
			checkLong(t, longByHand(g, times))
		}
	}
}

// checkEnds wants no task to end ahead of what it needs and its own time behind that, and none
// to end later than it must.
func checkEnds(t *testing.T, g impl.Graph, times []int) int {
	t.Helper()
	ends, ok := impl.EarliestEnds(g, times)
	if !ok || len(ends) != len(times) {
		t.Fatalf("EarliestEnds of %v, %v: %v, %v", g, times, ends, ok)
	}
	for task, needs := range g.Needs {
		begin := 0
		for _, need := range needs {
			begin = max(begin, ends[need])
		}
		if ends[task] != begin+times[task] {
			t.Fatalf("EarliestEnds of %v, %v: %v; %d can begin at %d", g, times, ends, task, begin)
		}
	}
	return slices.Max(ends)
}

func checkLongestWay(t *testing.T, g impl.Graph, times []int, end int) {
	t.Helper()
	way, told, ok := impl.LongestWay(g, times)
	if told != end || !ok || len(way) == 0 || timeOver(way, times) != end {
		t.Fatalf("LongestWay of %v, %v: %v, %d, %v; want %d", g, times, way, told, ok, end)
	}
	for i := 1; i < len(way); i++ {
		if !slices.Contains(g.Needs[way[i]], way[i-1]) {
			t.Fatalf("LongestWay of %v, %v: %v: %d does not need %d", g, times, way, way[i], way[i-1])
		}
	}
	if users, _ := impl.UsersOf(g, way[len(way)-1]); len(g.Needs[way[0]]) != 0 || len(users) != 0 {
		t.Fatalf("LongestWay of %v, %v: %v goes on", g, times, way)
	}
}

func TestPromise10LongestWay(t *testing.T) {
	eachTimed(func(g impl.Graph, times []int) {
		end := checkEnds(t, g, times)
		if latest, told, ok := impl.LatestEnds(g, times); told != end || !ok || slices.Max(latest) != end {
			t.Fatalf("LatestEnds of %v, %v: %v, %d, %v; want %d", g, times, latest, told, ok, end)
		}
		checkLongestWay(t, g, times, end)
	})
}

// checkLate wants the end to be later by that, where the task takes so much more.
func checkLate(t *testing.T, g impl.Graph, times []int, task int, more int, later int) bool {
	t.Helper()
	late, ok := impl.WithTime(times, task, more)
	if isGood := more <= 99 && times[task]+more <= mostTime; ok != isGood {
		t.Fatalf("WithTime of %v, %d, %d: %v, %v", times, task, more, late, ok)
	}
	if !ok {
		return false
	}
	_, before, _ := impl.LatestEnds(g, times)
	if _, after, also := impl.LatestEnds(g, late); !also || after != before+later {
		t.Fatalf("%v, %v: %d later by %d: %d, %v; was %d", g, times, task, more, after, also, before)
	}
	return true
}

func TestPromise10Slack(t *testing.T) {
	kept, moved := 0, 0
	eachTimed(func(g impl.Graph, times []int) {
		slack, ok := impl.SlackOf(g, times)
		if !ok || len(slack) != len(times) || slices.Min(slack) != 0 {
			t.Fatalf("SlackOf of %v, %v: %v, %v", g, times, slack, ok)
		}
		for task, left := range slack {
			if checkLate(t, g, times, task, left, 0) && left > 0 {
				kept++
			}
			if checkLate(t, g, times, task, left+1, 1) {
				moved++
			}
		}
	})
	if kept < 1000 || moved < 1000 {
		t.Error("too few were late", kept, moved)
	}
}

// What lies on the longest way must not be late at all.
func TestPromise10WayHasNoSlack(t *testing.T) {
	eachTimed(func(g impl.Graph, times []int) {
		slack, _ := impl.SlackOf(g, times)
		way, _, _ := impl.LongestWay(g, times)
		for _, task := range way {
			if slack[task] != 0 {
				t.Fatalf("SlackOf of %v, %v: %v; the longest way is %v", g, times, slack, way)
			}
		}
	})
}

// If each task ends as late as it may, all that need it can still end as late as they may.
func TestPromise10LatestEndsHold(t *testing.T) {
	eachTimed(func(g impl.Graph, times []int) {
		latest, end, _ := impl.LatestEnds(g, times)
		for task := range g.Needs {
			last := end
			users, _ := impl.UsersOf(g, task)
			for _, user := range users {
				last = min(last, latest[user]-times[user])
			}
			if latest[task] != last {
				t.Fatalf("LatestEnds of %v, %v: %v; want %d for %d", g, times, latest, last, task)
			}
		}
	})
}

// The Order in which a graph is kept is not seen in what its tasks take.
func TestPromise10AnyOrder(t *testing.T) {
	d := newDrawer()
	for _, g := range smallGraphs(4) {
		times := d.timesFor(len(g.Needs), 3)
		for name, f := range graphTimeFuncs() {
			want := f(longArgs{g: g, times: times})
			for _, order := range ordersOf(len(g.Needs)) {
				other := impl.Graph{Needs: g.Needs, Order: order}
				if got := f(longArgs{g: other, times: times}); got.ok && !sameLongAnswer(got, want) || got.ok != impl.GoodGraph(other) {
					t.Fatalf("%s of %v, %v: %v; want %v", name, other, times, got, want)
				}
			}
		}
	}
}

// checkLongMemory wants that nothing behind a length is read or handed out, nothing that was
// given is written into, and that what is answered is no part of it.
func checkLongMemory(t *testing.T, name string, a longArgs, f func(longArgs) longAnswer) {
	t.Helper()
	given, whole := roomyGraph(a.g)
	times, wholeTimes := roomyTasks(a.times)
	before, behind, beforeTimes := cloneGraph(whole), fmt.Sprint(behindNeeds(given)), slices.Clone(wholeTimes)
	got := f(longArgs{g: given, times: times, task: a.task, more: a.more})
	if want := f(a); !sameLongAnswer(got, want) {
		t.Fatalf("%s of %v reads behind a list: %v; want %v", name, a, got, want)
	}
	if behind := got.l[len(got.l):cap(got.l)]; slices.ContainsFunc(behind, func(n int) bool { return n != 0 }) {
		t.Fatalf("%s of %v hands out what lies behind a list: %v", name, a, behind)
	}
	overwriteTasks(got.l)
	if !sameGraph(whole, before) || !sameGraph(given, a.g) || fmt.Sprint(behindNeeds(given)) != behind {
		t.Fatalf("%s of %v wrote into the graph, or answers its memory: %v", name, a, whole)
	}
	if !slices.Equal(wholeTimes, beforeTimes) {
		t.Fatalf("%s of %v wrote into the times, or answers their memory: %v", name, a, wholeTimes)
	}
}

func TestPromise19LongStays(t *testing.T) {
	d := newDrawer()
	for _, g := range append(smallGraphs(3), drawnGraphs(150)...) {
		tasks := len(g.Needs)
		for _, times := range [][]int{alike(tasks, 1), alike(tasks, mostTime), d.timesFor(tasks, 3), d.timesFor(tasks, mostTime)} {
			for name, f := range longFuncs() {
				checkLongMemory(t, name, longArgs{g: g, times: times, task: d.below(tasks), more: 0}, f)
				checkLongMemory(t, name, longArgs{g: g, times: times, task: tasks - 1, more: d.below(mostTime)}, f)
			}
		}
	}
}

func TestPromise19LongBadStays(t *testing.T) {
	for what, g := range badGraphs() {
		if len(g.Order) > impl.MaxTasks+1 {
			continue
		}
		for name, f := range longFuncs() {
			for _, times := range [][]int{nil, alike(len(g.Needs), 5), alike(len(g.Order), 5), {0, 101, -1}} {
				checkLongMemory(t, what+": "+name, longArgs{g: g, times: times, task: 1, more: 5}, f)
			}
		}
	}
	for what, times := range badTimeLists(7) {
		for name, f := range longFuncs() {
			for _, task := range []int{-1, 0, 6, 7, impl.MaxTasks, 1 << 62, -1 << 63} {
				checkLongMemory(t, what+": "+name, longArgs{g: crossed(), times: times, task: task, more: 3}, f)
			}
		}
	}
}

// The times and the graph's lists may lie in one piece of memory.
func TestPromise19LongOneListTwice(t *testing.T) {
	all := []int{1, 2, 3, 4, 5}
	g := impl.Graph{Needs: [][]int{nil, all[:0], nil, all[:2], all[:3]}, Order: []int{2, 0, 1, 3, 4}}
	checkGoodCase(t, "one piece of memory", g)
	want := cloneGraph(g)
	for name, f := range longFuncs() {
		apart := f(longArgs{g: cloneGraph(g), times: slices.Clone(all), task: 2, more: 9})
		got := f(longArgs{g: g, times: all, task: 2, more: 9})
		if !sameLongAnswer(got, apart) || !got.ok {
			t.Errorf("%s of %v, %v: %v; want %v", name, g, all, got, apart)
		}
		overwriteTasks(got.l)
		if !sameGraph(g, want) || !slices.Equal(all, []int{1, 2, 3, 4, 5}) {
			t.Fatalf("%s: written into: %v, %v; want %v", name, g, all, want)
		}
	}
}

// What is answered by one call is not what the next one answers.
func TestPromise19LongApart(t *testing.T) {
	for _, g := range []impl.Graph{alone(), crossed(), everyNeed(), longChain(), graphOf(ordered(7), nil)} {
		for name, f := range longFuncs() {
			for _, more := range []int{0, 7} {
				args := longArgs{g: g, times: alike(len(g.Needs), 5), more: more}
				one, two := f(args), f(args)
				want := slices.Clone(two.l)
				overwriteTasks(one.l)
				if three := f(args); !one.ok || !slices.Equal(two.l, want) || !slices.Equal(three.l, want) {
					t.Errorf("two answers of %s share memory", name)
				}
			}
		}
	}
}

// The same again, however often: nothing is kept from call to call.
func TestLongKeepsNothing(t *testing.T) {
	graphs := append(smallGraphs(3), drawnGraphs(60)...)
	first := make([]map[string]longAnswer, len(graphs))
	for round := range 2 {
		for n, g := range graphs {
			answers := map[string]longAnswer{}
			for name, f := range longFuncs() {
				answers[name] = f(longArgs{g: g, times: alike(len(g.Needs), 1+n%mostTime), more: n % 50})
			}
			for name, was := range first[n] {
				if !sameLongAnswer(answers[name], was) {
					t.Fatalf("round %d: %s of %v: %v; was %v", round, name, g, answers[name], was)
				}
			}
			first[n] = answers
		}
	}
}
