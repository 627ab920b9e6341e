package tests

import (
	"fmt"
	"slices"
	"testing"

	"loop.example/g00636/impl"
)

type touchCase struct {
	what string
	g    impl.Graph
	l    []int
	want []int
}

type makeCase struct {
	what    string
	g       impl.Graph
	changed []int
	wanted  []int
	want    []int
}

type countCase struct {
	what string
	g    impl.Graph
	from int
	to   int
	want int
}

type closedCase struct {
	what string
	g    impl.Graph
	some []int
	want bool
}

// touchArgs is all that some function of the chapter takes.
type touchArgs struct {
	g    impl.Graph
	l    []int
	m    []int
	from int
	to   int
}

// touchAnswer is all that some function of the chapter answers.
type touchAnswer struct {
	l  []int
	n  int
	is bool
	ok bool
}

func touchFuncs() map[string]func(touchArgs) touchAnswer {
	return map[string]func(touchArgs) touchAnswer{
		"TouchedBy": func(a touchArgs) touchAnswer { l, ok := impl.TouchedBy(a.g, a.l); return touchAnswer{l: l, ok: ok} },
		"NeededFor": func(a touchArgs) touchAnswer { l, ok := impl.NeededFor(a.g, a.l); return touchAnswer{l: l, ok: ok} },
		"MustMake":  func(a touchArgs) touchAnswer { l, ok := impl.MustMake(a.g, a.l, a.m); return touchAnswer{l: l, ok: ok} },
		"LevelsOf":  func(a touchArgs) touchAnswer { l, ok := impl.LevelsOf(a.g); return touchAnswer{l: l, ok: ok} },
		"ReadyWith": func(a touchArgs) touchAnswer { l, ok := impl.ReadyWith(a.g, a.l); return touchAnswer{l: l, ok: ok} },
		"WaysTo": func(a touchArgs) touchAnswer {
			n, ok := impl.WaysTo(a.g, a.from, a.to)
			return touchAnswer{n: n, ok: ok}
		},
		"IsClosed": func(a touchArgs) touchAnswer { is, ok := impl.IsClosed(a.g, a.l); return touchAnswer{is: is, ok: ok} },
	}
}

func sameAnswer(a touchAnswer, b touchAnswer) bool {
	return slices.Equal(a.l, b.l) && a.n == b.n && a.is == b.is && a.ok == b.ok
}

func isZeroAnswer(a touchAnswer) bool {
	return sameAnswer(a, touchAnswer{})
}

// crossed is 5 over 3 and 4, 3 over 1 and 2, 4 over 2, 6 over none and under none.
func crossed() impl.Graph {
	return graphOf([]int{2, 6, 1, 4, 3, 5, 0}, map[int][]int{3: {1, 2}, 4: {2}, 5: {3, 4}, 0: {5}})
}

// chained is 2 over 0 over 1 over 3: neither the numbers nor the places rise along it alike.
func chained() impl.Graph {
	return graphOf([]int{3, 1, 0, 2}, map[int][]int{1: {3}, 0: {1}, 2: {0}})
}

func alone() impl.Graph {
	return graphOf([]int{0}, nil)
}

// everyNeed is MaxTasks tasks, each of which needs all lesser ones.
func everyNeed() impl.Graph {
	g := graphOf(ordered(impl.MaxTasks), nil)
	for task := range g.Needs {
		g.Needs[task] = ordered(task)
	}
	return g
}

// longChain is MaxTasks tasks, each of which needs the next greater one.
func longChain() impl.Graph {
	g := graphOf(ordered(impl.MaxTasks), nil)
	slices.Reverse(g.Order)
	for task := range impl.MaxTasks - 1 {
		g.Needs[task] = []int{task + 1}
	}
	return g
}

// risingOf is the rising list of the tasks whose bits are set.
func risingOf(tasks int, set uint64) []int {
	var l []int
	for task := range tasks {
		if set>>task&1 == 1 {
			l = append(l, task)
		}
	}
	return l
}

// risingLists are all rising lists of tasks of a small graph, and of a greater one none, all,
// each task alone, and a few that are drawn.
func risingLists(g impl.Graph) [][]int {
	tasks := len(g.Needs)
	if tasks <= 4 {
		var all [][]int
		for set := range uint64(1) << tasks {
			all = append(all, risingOf(tasks, set))
		}
		return all
	}
	lists := [][]int{nil, ordered(tasks)}
	state := uint64(2463534242)
	for task, needs := range g.Needs {
		lists = append(lists, []int{task})
		for range len(needs) + 1 {
			state = nextDrawn(state)
		}
		lists = append(lists, risingOf(tasks, state&(state>>24)), risingOf(tasks, state))
	}
	return lists
}

// badTaskLists are refused of a graph of that many tasks, at least three.
func badTaskLists(tasks int) map[string][]int {
	last := tasks - 1
	falling := ordered(tasks)
	slices.Reverse(falling)
	return map[string][]int{
		"falls":                      {1, 0},
		"falls in the end":           {0, 2, 1},
		"falls from the last one":    {last, 0},
		"all, falling":               falling,
		"one twice":                  {1, 1},
		"the first one twice":        {0, 0},
		"the last one twice":         {0, last, last},
		"one twice, apart":           {0, 1, 0},
		"all, and one again":         append(ordered(tasks), 0),
		"all, and the last one more": append(ordered(tasks), last),
		"-1":                         {-1},
		"-1 ahead":                   {-1, 0, 1},
		"-1 behind":                  {0, 1, -1},
		"not there":                  {tasks},
		"not there, behind others":   {0, last, tasks},
		"all, and one not there":     ordered(tasks + 1),
		"MaxTasks":                   {impl.MaxTasks},
		"far above":                  {0, impl.MaxTasks + 1},
		"a great one":                {0, 1 << 62},
		"the greatest int":           {1<<63 - 1},
		"the least int":              {-1 << 63},
		"all below 0":                {-3, -2, -1},
		"very many, alike":           make([]int, 100000),
		"very many, rising":          ordered(100000),
	}
}

// listFuncs are the functions that take a list of tasks, with that list in each of its places.
func listFuncs() map[string]func(impl.Graph, []int) touchAnswer {
	all := touchFuncs()
	by := func(name string, other []int, isSecond bool) func(impl.Graph, []int) touchAnswer {
		return func(g impl.Graph, l []int) touchAnswer {
			if isSecond {
				return all[name](touchArgs{g: g, l: other, m: l})
			}
			return all[name](touchArgs{g: g, l: l, m: other})
		}
	}
	return map[string]func(impl.Graph, []int) touchAnswer{
		"TouchedBy":                  by("TouchedBy", nil, false),
		"NeededFor":                  by("NeededFor", nil, false),
		"ReadyWith":                  by("ReadyWith", nil, false),
		"IsClosed":                   by("IsClosed", nil, false),
		"MustMake, changed":          by("MustMake", []int{0}, false),
		"MustMake, wanted":           by("MustMake", []int{0}, true),
		"MustMake, nothing wanted":   by("MustMake", nil, false),
		"MustMake, nothing changed":  by("MustMake", nil, true),
		"MustMake, changed of three": by("MustMake", []int{0, 1, 2}, false),
		"MustMake, wanted of three":  by("MustMake", []int{0, 1, 2}, true),
	}
}

// touchedByHand asks of each task, apart from the program, whether it leads to one that changed.
func touchedByHand(g impl.Graph, changed []int) []int {
	return tasksWhere(ordered(len(g.Needs)), func(task int) bool {
		return slices.ContainsFunc(changed, func(to int) bool { return leadsBy(g, task, to) })
	})
}

func neededByHand(g impl.Graph, wanted []int) []int {
	return tasksWhere(ordered(len(g.Needs)), func(task int) bool {
		return slices.ContainsFunc(wanted, func(from int) bool { return leadsBy(g, from, task) })
	})
}

func readyByHand(g impl.Graph, done []int) []int {
	return tasksWhere(ordered(len(g.Needs)), func(task int) bool {
		for _, need := range g.Needs[task] {
			if !slices.Contains(done, need) {
				return false
			}
		}
		return !slices.Contains(done, task)
	})
}

func closedByHand(g impl.Graph, some []int) bool {
	for _, task := range some {
		for user := range g.Needs {
			if slices.Contains(g.Needs[user], task) && !slices.Contains(some, user) {
				return false
			}
		}
	}
	return true
}

// levelByHand is how many needs the longest of all ways from the task has.
func levelByHand(g impl.Graph, task int) int {
	level := 0
	for to := range g.Needs {
		for _, way := range waysBetween(g, task, to) {
			level = max(level, len(way)-1)
		}
	}
	return level
}

func checkGoodCase(t *testing.T, what string, g impl.Graph) {
	t.Helper()
	if !impl.GoodGraph(g) {
		t.Fatalf("%s: the case is not good: %v", what, g)
	}
}

func checkTouch(t *testing.T, f func(impl.Graph, []int) ([]int, bool), cases []touchCase) {
	t.Helper()
	for _, c := range cases {
		checkGoodCase(t, c.what, c.g)
		if got, ok := f(c.g, c.l); !slices.Equal(got, c.want) || !ok {
			t.Errorf("%s: of %v, %v: %v, %v; want %v", c.what, c.g, c.l, got, ok, c.want)
		}
	}
}

func TestTouchedBy(t *testing.T) {
	checkTouch(t, impl.TouchedBy, []touchCase{
		{"nothing changed", crossed(), nil, nil},
		{"nothing changed, an empty list", crossed(), []int{}, nil},
		{"all changed", crossed(), ordered(7), ordered(7)},
		{"none needs it", crossed(), []int{0}, []int{0}},
		{"none needs it, and it needs none", crossed(), []int{6}, []int{6}},
		{"one over another", crossed(), []int{5}, []int{0, 5}},
		{"by one way", crossed(), []int{4}, []int{0, 4, 5}},
		{"reached by two ways", crossed(), []int{2}, []int{0, 2, 3, 4, 5}},
		{"what another one needs, too, is not touched", crossed(), []int{1}, []int{0, 1, 3, 5}},
		{"two that touch the same", crossed(), []int{1, 4}, []int{0, 1, 3, 4, 5}},
		{"one that the other touches", crossed(), []int{2, 5}, []int{0, 2, 3, 4, 5}},
		{"two apart", crossed(), []int{5, 6}, []int{0, 5, 6}},
		{"the Order does not rise", chained(), []int{1}, []int{0, 1, 2}},
		{"the Order does not rise, from its front", chained(), []int{3}, []int{0, 1, 2, 3}},
		{"the only one", alone(), []int{0}, []int{0}},
		{"the only one, not changed", alone(), nil, nil},
		{"MaxTasks, no need", graphOf(ordered(10), nil), []int{0, 9}, []int{0, 9}},
		{"MaxTasks, every need, the first one", everyNeed(), []int{0}, ordered(10)},
		{"MaxTasks, every need, the last one", everyNeed(), []int{9}, []int{9}},
		{"MaxTasks, a chain, from its end", longChain(), []int{9}, ordered(10)},
		{"MaxTasks, a chain, within it", longChain(), []int{4}, ordered(5)},
		{"MaxTasks, all changed", longChain(), ordered(10), ordered(10)},
	})
}

func TestNeededFor(t *testing.T) {
	checkTouch(t, impl.NeededFor, []touchCase{
		{"nothing wanted", crossed(), nil, nil},
		{"nothing wanted, an empty list", crossed(), []int{}, nil},
		{"all wanted", crossed(), ordered(7), ordered(7)},
		{"it needs none", crossed(), []int{2}, []int{2}},
		{"it needs none, and none needs it", crossed(), []int{6}, []int{6}},
		{"one need", crossed(), []int{4}, []int{2, 4}},
		{"reached by two ways", crossed(), []int{5}, []int{1, 2, 3, 4, 5}},
		{"one over another", crossed(), []int{0}, ordered(6)},
		{"what needs it, too, is not needed", crossed(), []int{3}, []int{1, 2, 3}},
		{"two that need the same", crossed(), []int{3, 4}, []int{1, 2, 3, 4}},
		{"one that the other needs", crossed(), []int{1, 3}, []int{1, 2, 3}},
		{"two apart", crossed(), []int{4, 6}, []int{2, 4, 6}},
		{"the Order does not rise", chained(), []int{0}, []int{0, 1, 3}},
		{"the Order does not rise, from its end", chained(), []int{2}, []int{0, 1, 2, 3}},
		{"the only one", alone(), []int{0}, []int{0}},
		{"the only one, not wanted", alone(), nil, nil},
		{"MaxTasks, no need", graphOf(ordered(10), nil), []int{0, 9}, []int{0, 9}},
		{"MaxTasks, every need, the first one", everyNeed(), []int{0}, []int{0}},
		{"MaxTasks, every need, the last one", everyNeed(), []int{9}, ordered(10)},
		{"MaxTasks, a chain, from its front", longChain(), []int{0}, ordered(10)},
		{"MaxTasks, a chain, within it", longChain(), []int{7}, []int{7, 8, 9}},
		{"MaxTasks, all wanted", longChain(), ordered(10), ordered(10)},
	})
}

func TestMustMake(t *testing.T) {
	for _, c := range []makeCase{
		{"nothing changed, nothing wanted", crossed(), nil, nil, nil},
		{"nothing changed", crossed(), nil, ordered(7), nil},
		{"nothing wanted", crossed(), ordered(7), nil, nil},
		{"all changed, all wanted", crossed(), ordered(7), ordered(7), []int{2, 6, 1, 4, 3, 5, 0}},
		{"all changed", crossed(), ordered(7), []int{3}, []int{2, 1, 3}},
		{"all wanted", crossed(), []int{4}, ordered(7), []int{4, 5, 0}},
		{"from the one to the other by two ways", crossed(), []int{2}, []int{5}, []int{2, 4, 3, 5}},
		{"by one way alone", crossed(), []int{1}, []int{5}, []int{1, 3, 5}},
		{"itself", crossed(), []int{3}, []int{3}, []int{3}},
		{"the changed one needs the wanted one", crossed(), []int{5}, []int{2}, nil},
		{"they share a need alone", crossed(), []int{3}, []int{4}, nil},
		{"they share a user alone", crossed(), []int{1}, []int{2}, nil},
		{"apart", crossed(), []int{6}, []int{0}, nil},
		{"several of each", crossed(), []int{1, 4, 6}, []int{3, 5}, []int{1, 4, 3, 5}},
		{"one of them to no end", crossed(), []int{1, 6}, []int{3, 4}, []int{1, 3}},
		{"the Order does not rise", chained(), []int{3}, []int{2}, []int{3, 1, 0, 2}},
		{"the Order does not rise, within it", chained(), []int{1}, []int{0}, []int{1, 0}},
		{"the only one", alone(), []int{0}, []int{0}, []int{0}},
		{"the only one, not changed", alone(), nil, []int{0}, nil},
		{"the only one, not wanted", alone(), []int{0}, nil, nil},
		{"MaxTasks, every need", everyNeed(), []int{3}, []int{6}, []int{3, 4, 5, 6}},
		{"MaxTasks, a chain back", longChain(), []int{9}, []int{0}, []int{9, 8, 7, 6, 5, 4, 3, 2, 1, 0}},
		{"MaxTasks, no need", graphOf([]int{9, 1, 2, 3, 4, 5, 6, 7, 8, 0}, nil), []int{0, 3, 9}, []int{0, 4, 9}, []int{9, 0}},
	} {
		checkGoodCase(t, c.what, c.g)
		if got, ok := impl.MustMake(c.g, c.changed, c.wanted); !slices.Equal(got, c.want) || !ok {
			t.Errorf("%s: MustMake of %v, %v, %v: %v, %v; want %v", c.what, c.g, c.changed, c.wanted, got, ok, c.want)
		}
	}
}

func TestLevelsOf(t *testing.T) {
	for _, c := range []touchCase{
		{"ways of one length", crossed(), nil, []int{3, 0, 0, 1, 1, 2, 0}},
		{"a chain, the Order does not rise", chained(), nil, []int{2, 1, 3, 0}},
		{"the long one of two ways, met first", graphOf(ordered(4), map[int][]int{1: {0}, 2: {1}, 3: {0, 2}}), nil, []int{0, 1, 2, 3}},
		{"the long one of two ways, met last", graphOf([]int{3, 2, 1, 0}, map[int][]int{2: {3}, 1: {2}, 0: {1, 3}}), nil, []int{3, 2, 1, 0}},
		{"a short need behind a long one", graphOf([]int{1, 0, 3, 2}, map[int][]int{0: {1}, 2: {0, 3}}), nil, []int{1, 0, 2, 0}},
		{"many needs are one level", graphOf(ordered(5), map[int][]int{4: {0, 1, 2, 3}}), nil, []int{0, 0, 0, 0, 1}},
		{"none needs another one", graphOf([]int{2, 0, 1}, nil), nil, []int{0, 0, 0}},
		{"the only one", alone(), nil, []int{0}},
		{"MaxTasks, no need", graphOf(ordered(10), nil), nil, make([]int, 10)},
		{"MaxTasks, every need", everyNeed(), nil, ordered(10)},
		{"MaxTasks, a chain back", longChain(), nil, []int{9, 8, 7, 6, 5, 4, 3, 2, 1, 0}},
	} {
		checkGoodCase(t, c.what, c.g)
		if got, ok := impl.LevelsOf(c.g); !slices.Equal(got, c.want) || !ok {
			t.Errorf("%s: LevelsOf %v: %v, %v; want %v", c.what, c.g, got, ok, c.want)
		}
	}
}

func TestReadyWith(t *testing.T) {
	checkTouch(t, impl.ReadyWith, []touchCase{
		{"nothing done", crossed(), nil, []int{1, 2, 6}},
		{"nothing done, an empty list", crossed(), []int{}, []int{1, 2, 6}},
		{"all done", crossed(), ordered(7), nil},
		{"one of two needs done", crossed(), []int{1}, []int{2, 6}},
		{"the only need done", crossed(), []int{2}, []int{1, 4, 6}},
		{"all needs done", crossed(), []int{1, 2}, []int{3, 4, 6}},
		{"one that needs none, and that none needs", crossed(), []int{6}, []int{1, 2}},
		{"done ones whose needs are not done", crossed(), []int{3, 4}, []int{1, 2, 5, 6}},
		{"a done one whose need is not done", crossed(), []int{5}, []int{0, 1, 2, 6}},
		{"all but one", crossed(), []int{0, 1, 2, 3, 4, 6}, []int{5}},
		{"all but one and its user", crossed(), []int{1, 2, 3, 4, 6}, []int{5}},
		{"all but two that need none", crossed(), []int{0, 3, 4, 5, 6}, []int{1, 2}},
		{"the Order does not rise", graphOf([]int{3, 1, 0, 2}, map[int][]int{0: {3}, 2: {0}}), nil, []int{1, 3}},
		{"a chain, its need's need alone is done", chained(), []int{3}, []int{1}},
		{"a chain, the need alone is done", chained(), []int{0}, []int{2, 3}},
		{"the only one", alone(), nil, []int{0}},
		{"the only one, done", alone(), []int{0}, nil},
		{"MaxTasks, no need", graphOf(ordered(10), nil), []int{0, 9}, []int{1, 2, 3, 4, 5, 6, 7, 8}},
		{"MaxTasks, every need, nothing done", everyNeed(), nil, []int{0}},
		{"MaxTasks, every need, all but the last one", everyNeed(), ordered(9), []int{9}},
		{"MaxTasks, every need, the first one not done", everyNeed(), []int{1, 2, 3, 4, 5, 6, 7, 8, 9}, []int{0}},
		{"MaxTasks, all done", longChain(), ordered(10), nil},
	})
}

func TestWaysTo(t *testing.T) {
	for _, c := range []countCase{
		{"itself", crossed(), 3, 3, 1},
		{"itself, that needs none", crossed(), 2, 2, 1},
		{"itself, that none needs", crossed(), 0, 0, 1},
		{"itself, apart from all", crossed(), 6, 6, 1},
		{"one need", crossed(), 4, 2, 1},
		{"two ways", crossed(), 5, 2, 2},
		{"two ways, and one need more ahead", crossed(), 0, 2, 2},
		{"one way of several needs", crossed(), 0, 1, 1},
		{"leads the other way round", crossed(), 2, 5, 0},
		{"needed by it", crossed(), 2, 4, 0},
		{"they share a need alone", crossed(), 3, 4, 0},
		{"they share a user alone", crossed(), 1, 2, 0},
		{"apart", crossed(), 6, 0, 0},
		{"apart, the other way round", crossed(), 0, 6, 0},
		{"a chain, the Order does not rise", chained(), 2, 3, 1},
		{"a short and a long way", graphOf(ordered(3), map[int][]int{1: {0}, 2: {0, 1}}), 2, 0, 2},
		{"three by three", graphOf(ordered(8), map[int][]int{1: {0}, 2: {0}, 3: {0}, 4: {1, 2, 3}, 5: {4}, 6: {4}, 7: {4, 5, 6}}), 7, 0, 9},
		{"the only one", alone(), 0, 0, 1},
		{"MaxTasks, no need", graphOf(ordered(10), nil), 9, 0, 0},
		{"MaxTasks, every need", everyNeed(), 9, 0, 256},
		{"MaxTasks, every need, within", everyNeed(), 7, 3, 8},
		{"MaxTasks, every need, side by side", everyNeed(), 9, 8, 1},
		{"MaxTasks, every need, the other way round", everyNeed(), 0, 9, 0},
		{"MaxTasks, a chain", longChain(), 0, 9, 1},
	} {
		checkGoodCase(t, c.what, c.g)
		if got, ok := impl.WaysTo(c.g, c.from, c.to); got != c.want || !ok {
			t.Errorf("%s: WaysTo of %v, %d, %d: %d, %v; want %d", c.what, c.g, c.from, c.to, got, ok, c.want)
		}
	}
}

func TestIsClosed(t *testing.T) {
	for _, c := range []closedCase{
		{"none", crossed(), nil, true},
		{"none, an empty list", crossed(), []int{}, true},
		{"all", crossed(), ordered(7), true},
		{"one that none needs", crossed(), []int{0}, true},
		{"one apart from all", crossed(), []int{6}, true},
		{"one with a user", crossed(), []int{5}, false},
		{"with its user", crossed(), []int{0, 5}, true},
		{"one of two users is not there", crossed(), []int{0, 2, 3, 5}, false},
		{"the other one of two users is not there", crossed(), []int{0, 2, 4, 5}, false},
		{"both users are there", crossed(), []int{0, 2, 3, 4, 5}, true},
		{"a user's user is not there", crossed(), []int{1, 3, 5}, false},
		{"a user is not there, its user is", crossed(), []int{0, 1, 5}, false},
		{"all that it needs, and no user", crossed(), []int{1, 2, 3}, false},
		{"all but one that needs none", crossed(), []int{0, 1, 3, 4, 5, 6}, true},
		{"all but the last user", crossed(), []int{1, 2, 3, 4, 5, 6}, false},
		{"a chain, the Order does not rise", chained(), []int{0, 2}, true},
		{"a chain, the Order does not rise, its beginning", chained(), []int{1, 3}, false},
		{"the only one", alone(), []int{0}, true},
		{"not the only one", alone(), nil, true},
		{"MaxTasks, no need", graphOf(ordered(10), nil), []int{0, 9}, true},
		{"MaxTasks, every need, the last one", everyNeed(), []int{9}, true},
		{"MaxTasks, every need, all but the last one", everyNeed(), ordered(9), false},
		{"MaxTasks, a chain, its users' end", longChain(), ordered(6), true},
		{"MaxTasks, a chain, all but the first user", longChain(), []int{1, 2, 3, 4, 5, 6, 7, 8, 9}, false},
	} {
		checkGoodCase(t, c.what, c.g)
		if got, ok := impl.IsClosed(c.g, c.some); got != c.want || !ok {
			t.Errorf("%s: IsClosed of %v, %v: %v, %v; want %v", c.what, c.g, c.some, got, ok, c.want)
		}
	}
}

// What is ready in turn n, where each turn does all that is ready, is what stands at level n.
func TestReadyWithTurnByTurn(t *testing.T) {
	for _, g := range goodGraphs() {
		levels, _ := impl.LevelsOf(g)
		var done []int
		for turn := range len(g.Needs) + 1 {
			ready, ok := impl.ReadyWith(g, done)
			want := tasksWhere(ordered(len(g.Needs)), func(task int) bool { return levels[task] == turn })
			if !slices.Equal(ready, want) || !ok {
				t.Fatalf("ReadyWith of %v, %v: %v, %v; want %v", g, done, ready, ok, want)
			}
			done = append(done, ready...)
			slices.Sort(done)
		}
		if !slices.Equal(done, ordered(len(g.Needs))) {
			t.Fatalf("of %v never ready but %v", g, done)
		}
	}
}

func TestReadyWithAll(t *testing.T) {
	for _, g := range goodGraphs() {
		for _, done := range risingLists(g) {
			if got, ok := impl.ReadyWith(g, done); !slices.Equal(got, readyByHand(g, done)) || !ok {
				t.Fatalf("ReadyWith of %v, %v: %v, %v; want %v", g, done, got, ok, readyByHand(g, done))
			}
		}
	}
}

func TestIsClosedAll(t *testing.T) {
	met := map[bool]int{}
	for _, g := range goodGraphs() {
		for _, some := range risingLists(g) {
			want := closedByHand(g, some)
			met[want]++
			if got, ok := impl.IsClosed(g, some); got != want || !ok {
				t.Fatalf("IsClosed of %v, %v: %v, %v; want %v", g, some, got, ok, want)
			}
		}
	}
	if met[true] < 1000 || met[false] < 1000 {
		t.Error("too few of a kind", met)
	}
}

func TestPromise6Touched(t *testing.T) {
	for _, g := range goodGraphs() {
		for _, changed := range risingLists(g) {
			got, ok := impl.TouchedBy(g, changed)
			if want := touchedByHand(g, changed); !slices.Equal(got, want) || !ok {
				t.Fatalf("TouchedBy of %v, %v: %v, %v; want %v", g, changed, got, ok, want)
			}
			if is, ok := impl.IsClosed(g, got); !is || !ok {
				t.Fatalf("IsClosed of %v, %v, which is touched by %v: %v, %v", g, got, changed, is, ok)
			}
			if again, ok := impl.TouchedBy(g, got); !slices.Equal(again, got) || !ok {
				t.Fatalf("TouchedBy of %v, %v, which is touched by %v: %v, %v", g, got, changed, again, ok)
			}
		}
	}
}

// Of all that is closed and has what changed, what is touched is the least.
func TestPromise6LeastClosed(t *testing.T) {
	for _, g := range smallGraphs(4) {
		lists := risingLists(g)
		for _, changed := range lists {
			least := ordered(len(g.Needs))
			for _, some := range lists {
				if is, _ := impl.IsClosed(g, some); is && hasAll(some, changed) && len(some) < len(least) {
					least = some
				}
			}
			if got, ok := impl.TouchedBy(g, changed); !slices.Equal(got, least) || !ok {
				t.Fatalf("TouchedBy of %v, %v: %v, %v; want %v", g, changed, got, ok, least)
			}
		}
	}
}

func hasAll(l []int, some []int) bool {
	return !slices.ContainsFunc(some, func(task int) bool { return !slices.Contains(l, task) })
}

func TestPromise6Needed(t *testing.T) {
	for _, g := range goodGraphs() {
		for _, wanted := range risingLists(g) {
			if got, ok := impl.NeededFor(g, wanted); !slices.Equal(got, neededByHand(g, wanted)) || !ok {
				t.Fatalf("NeededFor of %v, %v: %v, %v; want %v", g, wanted, got, ok, neededByHand(g, wanted))
			}
		}
	}
}

// A task is touched by another one just where that one is needed for it.
func TestPromise6TouchedAndNeeded(t *testing.T) {
	for _, g := range goodGraphs() {
		for task := range g.Needs {
			touched, _ := impl.TouchedBy(g, []int{task})
			for user := range g.Needs {
				needed, _ := impl.NeededFor(g, []int{user})
				if slices.Contains(touched, user) != slices.Contains(needed, task) {
					t.Fatalf("%v: touched by %d: %v, needed for %d: %v", g, task, touched, user, needed)
				}
			}
		}
	}
}

func TestPromise6MustMake(t *testing.T) {
	falls := 0
	for _, g := range goodGraphs() {
		lists := risingLists(g)
		for n, changed := range lists {
			touched, _ := impl.TouchedBy(g, changed)
			for _, wanted := range slices.Concat(lists[n:], lists[:n])[:min(16, len(lists))] {
				needed, _ := impl.NeededFor(g, wanted)
				want := tasksWhere(g.Order, func(task int) bool { return slices.Contains(touched, task) && slices.Contains(needed, task) })
				got, ok := impl.MustMake(g, changed, wanted)
				if !slices.Equal(got, want) || !ok {
					t.Fatalf("MustMake of %v, %v, %v: %v, %v; want %v", g, changed, wanted, got, ok, want)
				}
				if !slices.IsSorted(got) {
					falls++
				}
			}
		}
	}
	if falls < 1000 {
		t.Error("too few that do not rise", falls)
	}
}

func TestPromise6Levels(t *testing.T) {
	for _, g := range goodGraphs() {
		levels, ok := impl.LevelsOf(g)
		if len(levels) != len(g.Needs) || !ok {
			t.Fatalf("LevelsOf %v: %v, %v", g, levels, ok)
		}
		for task, needs := range g.Needs {
			if len(needs) == 0 && levels[task] != 0 || levels[task] != levelByHand(g, task) {
				t.Fatalf("LevelsOf %v: %v; want %d of %d", g, levels, levelByHand(g, task), task)
			}
			for _, need := range needs {
				if levels[task] <= levels[need] {
					t.Fatalf("LevelsOf %v: %v; %d needs %d", g, levels, task, need)
				}
			}
		}
	}
}

// waysOf wants an answer that is true.
func waysOf(t *testing.T, g impl.Graph, from int, to int) int {
	t.Helper()
	ways, ok := impl.WaysTo(g, from, to)
	if !ok {
		t.Fatalf("WaysTo of %v, %d, %d: %d, %v", g, from, to, ways, ok)
	}
	return ways
}

func TestPromise6Ways(t *testing.T) {
	many := 0
	for _, g := range goodGraphs() {
		for from, needs := range g.Needs {
			for to := range g.Needs {
				want := 0
				for _, need := range needs {
					want += waysOf(t, g, need, to)
				}
				if from == to {
					want = 1
				}
				got := waysOf(t, g, from, to)
				if got != want || got != len(waysBetween(g, from, to)) {
					t.Fatalf("WaysTo of %v, %d, %d: %d; want %d", g, from, to, got, want)
				}
				many = max(many, got)
			}
		}
	}
	if many < 20 {
		t.Error("too few ways", many)
	}
}

func TestTouchRefusesBadGraphs(t *testing.T) {
	lists := [][]int{nil, {0}, {1}, {0, 1}, {0, 1, 2}, {-1}, {2, 1}}
	for what, g := range badGraphs() {
		for name, f := range touchFuncs() {
			for _, l := range lists {
				for _, m := range lists {
					args := touchArgs{g: g, l: l, m: m, from: len(l), to: len(m)}
					if got := f(args); !isZeroAnswer(got) {
						t.Errorf("%s: %s of %v: %v", what, name, args, got)
					}
				}
			}
		}
	}
}

func TestTouchRefusesBadLists(t *testing.T) {
	for _, g := range []impl.Graph{crossed(), chained(), everyNeed(), longChain(), graphOf(ordered(3), nil), graphOf(ordered(10), nil)} {
		for what, l := range badTaskLists(len(g.Needs)) {
			for name, f := range listFuncs() {
				if got := f(g, l); !isZeroAnswer(got) {
					t.Errorf("%s: %s of %v, %d tasks: %v", what, name, g, len(l), got)
				}
			}
		}
	}
}

func TestTouchRefusesBadListsOfTheOnlyOne(t *testing.T) {
	for _, l := range [][]int{{-1}, {1}, {0, 0}, {0, 1}, {-1, 0}, {1, 0}, {0, -1}, {10}, {1 << 62}, {-1 << 63}} {
		for _, f := range []func(impl.Graph, []int) ([]int, bool){impl.TouchedBy, impl.NeededFor, impl.ReadyWith} {
			if got, ok := f(alone(), l); len(got) != 0 || ok {
				t.Errorf("%v: %v, %v", l, got, ok)
			}
		}
		if got, ok := impl.IsClosed(alone(), l); got || ok {
			t.Errorf("IsClosed of %v: %v, %v", l, got, ok)
		}
		for _, other := range [][]int{nil, {0}, l} {
			one, ok := impl.MustMake(alone(), l, other)
			two, also := impl.MustMake(alone(), other, l)
			if len(one) != 0 || ok || len(two) != 0 || also {
				t.Errorf("MustMake of %v, %v: %v, %v, %v, %v", l, other, one, ok, two, also)
			}
		}
	}
}

// Of all lists of up to three numbers from -1 on just those that rise and are tasks are taken.
func TestTouchTakesJustRisingTasks(t *testing.T) {
	lists := [][]int{nil}
	for a := -1; a <= 3; a++ {
		lists = append(lists, []int{a})
		for b := -1; b <= 3; b++ {
			lists = append(lists, []int{a, b})
			for c := -1; c <= 3; c++ {
				lists = append(lists, []int{a, b, c})
			}
		}
	}
	rising := [][]int{nil, {0}, {1}, {2}, {0, 1}, {0, 2}, {1, 2}, {0, 1, 2}}
	for _, g := range []impl.Graph{graphOf(ordered(3), nil), graphOf([]int{2, 0, 1}, map[int][]int{1: {0, 2}})} {
		for _, l := range lists {
			want := slices.ContainsFunc(rising, func(good []int) bool { return slices.Equal(good, l) })
			for name, f := range listFuncs() {
				if got := f(g, l); got.ok != want || !want && !isZeroAnswer(got) {
					t.Errorf("%s of %v, %v: %v; want %v", name, g, l, got, want)
				}
			}
		}
	}
}

func TestWaysToRefuses(t *testing.T) {
	for _, g := range []impl.Graph{crossed(), alone(), everyNeed()} {
		for _, no := range noTasks(len(g.Needs)) {
			for _, pair := range [][2]int{{no, 0}, {0, no}, {no, no}, {-1, no}, {no, -1}} {
				if got, ok := impl.WaysTo(g, pair[0], pair[1]); got != 0 || ok {
					t.Errorf("WaysTo of %v, %v: %d, %v", g, pair, got, ok)
				}
			}
		}
	}
}

// roomyTasks gives the list with something behind its length, and that whole.
func roomyTasks(l []int) ([]int, []int) {
	whole := append(slices.Clone(l), 77, -1, 0)
	return whole[:len(l)], whole
}

// checkTouchMemory wants that nothing behind a length is read, nothing that was given is
// written into, and that what is answered is no part of it.
func checkTouchMemory(t *testing.T, name string, a touchArgs, f func(touchArgs) touchAnswer) {
	t.Helper()
	given, whole := roomyGraph(a.g)
	l, wholeL := roomyTasks(a.l)
	m, wholeM := roomyTasks(a.m)
	before, behind := cloneGraph(whole), fmt.Sprint(behindNeeds(given))
	beforeL, beforeM := slices.Clone(wholeL), slices.Clone(wholeM)
	got := f(touchArgs{g: given, l: l, m: m, from: a.from, to: a.to})
	if want := f(a); !sameAnswer(got, want) {
		t.Fatalf("%s of %v reads behind a list: %v; want %v", name, a, got, want)
	}
	overwriteTasks(got.l)
	if !sameGraph(whole, before) || !sameGraph(given, a.g) || fmt.Sprint(behindNeeds(given)) != behind {
		t.Fatalf("%s of %v wrote into the graph, or answers its memory: %v", name, a, whole)
	}
	if !slices.Equal(wholeL, beforeL) || !slices.Equal(wholeM, beforeM) {
		t.Fatalf("%s of %v wrote into a list, or answers its memory: %v, %v", name, a, wholeL, wholeM)
	}
}

func TestPromise19TouchStays(t *testing.T) {
	for _, g := range append(smallGraphs(3), drawnGraphs(60)...) {
		lists := append(risingLists(g), []int{-1}, []int{1, 0}, []int{0, 0}, []int{len(g.Needs)})
		for n, l := range lists {
			m := lists[(n*7+3)%len(lists)]
			for name, f := range touchFuncs() {
				checkTouchMemory(t, name, touchArgs{g: g, l: l, m: m, from: n % len(g.Needs), to: n / 2 % len(g.Needs)}, f)
			}
		}
	}
}

func TestPromise19TouchBadStays(t *testing.T) {
	for what, g := range badGraphs() {
		if len(g.Order) > impl.MaxTasks+1 {
			continue
		}
		for name, f := range touchFuncs() {
			for _, l := range [][]int{nil, {0, 1}, {2, 1, 0}, {-1}} {
				checkTouchMemory(t, what+": "+name, touchArgs{g: g, l: l, m: []int{0, 2}, to: 1}, f)
			}
		}
	}
	for what, l := range badTaskLists(7) {
		for name, f := range touchFuncs() {
			checkTouchMemory(t, what+": "+name, touchArgs{g: crossed(), l: l, m: []int{0, 5}, from: 5, to: 2}, f)
			checkTouchMemory(t, what+": "+name, touchArgs{g: crossed(), l: []int{1, 2}, m: l, from: -1, to: 7}, f)
		}
	}
}

// The graph's own lists may be given as the tasks, and one list as both.
func TestPromise19TouchOneListTwice(t *testing.T) {
	all := ordered(5)
	g := impl.Graph{Needs: [][]int{all[:0], all[:1], all[:1], all[1:3], all[:0]}, Order: all}
	checkGoodCase(t, "one piece of memory", g)
	want := cloneGraph(g)
	for name, f := range touchFuncs() {
		for _, l := range append(g.Needs, g.Order) {
			apart := f(touchArgs{g: cloneGraph(g), l: slices.Clone(l), m: slices.Clone(l), from: 3})
			got := f(touchArgs{g: g, l: l, m: l, from: 3})
			if !sameAnswer(got, apart) || !got.ok {
				t.Errorf("%s of %v, %v: %v; want %v", name, g, l, got, apart)
			}
			overwriteTasks(got.l)
			if !sameGraph(g, want) {
				t.Fatalf("%s: written into: %v; want %v", name, g, want)
			}
		}
	}
}

// What is answered by one call is not what the next one answers.
func TestPromise19TouchApart(t *testing.T) {
	for _, g := range []impl.Graph{crossed(), everyNeed(), longChain(), graphOf(ordered(7), nil)} {
		for name, f := range touchFuncs() {
			args := touchArgs{g: g, l: []int{1, 5}, m: []int{0, 5}, from: 5, to: 1}
			one, two := f(args), f(args)
			want := slices.Clone(two.l)
			overwriteTasks(one.l)
			if three := f(args); !slices.Equal(two.l, want) || !slices.Equal(three.l, want) {
				t.Errorf("two answers of %s share memory", name)
			}
		}
	}
}

// The same again, however often: nothing is kept from call to call.
func TestTouchKeepsNothing(t *testing.T) {
	graphs := append(smallGraphs(3), drawnGraphs(40)...)
	first := make([]map[string]touchAnswer, len(graphs))
	for round := range 2 {
		for n, g := range graphs {
			answers := map[string]touchAnswer{}
			for name, f := range touchFuncs() {
				answers[name] = f(touchArgs{g: g, l: []int{0}, m: ordered(len(g.Needs)), from: len(g.Needs) - 1})
			}
			for name, was := range first[n] {
				if !sameAnswer(answers[name], was) {
					t.Fatalf("round %d: %s of %v: %v; was %v", round, name, g, answers[name], was)
				}
			}
			first[n] = answers
		}
	}
}
