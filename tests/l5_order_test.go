package tests

import (
	"fmt"
	"math/bits"
	"slices"
	"testing"

	"loop.example/g00636/impl"
)

type needCase struct {
	what  string
	g     impl.Graph
	task  int
	need  int
	order []int
	moved []int
}

type wayCase struct {
	what string
	g    impl.Graph
	task int
	need int
	way  []int
}

// graphOf gives a graph of that Order where each task needs what stands under it, or nothing.
func graphOf(order []int, needs map[int][]int) impl.Graph {
	g := impl.Graph{Needs: make([][]int, len(order)), Order: order}
	for task, l := range needs {
		g.Needs[task] = l
	}
	return g
}

// ordered is the Order of that many tasks of which none was moved.
func ordered(tasks int) []int {
	var order []int
	for task := range tasks {
		order = append(order, task)
	}
	return order
}

func cloneGraph(g impl.Graph) impl.Graph {
	c := impl.Graph{Order: slices.Clone(g.Order)}
	for _, needs := range g.Needs {
		c.Needs = append(c.Needs, slices.Clone(needs))
	}
	return c
}

func sameGraph(a impl.Graph, b impl.Graph) bool {
	return slices.Equal(a.Order, b.Order) && slices.EqualFunc(a.Needs, b.Needs, slices.Equal)
}

func isEmptyGraph(g impl.Graph) bool {
	return len(g.Needs) == 0 && len(g.Order) == 0
}

// ordersOf are all orders of that many tasks.
func ordersOf(tasks int) [][]int {
	if tasks == 0 {
		return [][]int{nil}
	}
	var orders [][]int
	for _, shorter := range ordersOf(tasks - 1) {
		for place := range tasks {
			orders = append(orders, slices.Insert(slices.Clone(shorter), place, tasks-1))
		}
	}
	return orders
}

// graphOfBits gives a graph of that Order with a need for each bit that is set; each pair
// of places has a bit of its own.
func graphOfBits(order []int, set uint64) impl.Graph {
	g := impl.Graph{Needs: make([][]int, len(order)), Order: slices.Clone(order)}
	bit := 0
	for place, task := range order {
		for _, need := range order[:place] {
			if set>>bit&1 == 1 {
				g.Needs[task] = append(g.Needs[task], need)
			}
			bit++
		}
	}
	for _, needs := range g.Needs {
		slices.Sort(needs)
	}
	return g
}

// smallGraphs are all good graphs of up to that many tasks.
func smallGraphs(most int) []impl.Graph {
	var graphs []impl.Graph
	for tasks := 1; tasks <= most; tasks++ {
		for _, order := range ordersOf(tasks) {
			for set := range uint64(1) << (tasks * (tasks - 1) / 2) {
				graphs = append(graphs, graphOfBits(order, set))
			}
		}
	}
	return graphs
}

// nextDrawn is a step of xorshift: the same numbers each time.
func nextDrawn(state uint64) uint64 {
	state ^= state << 13
	state ^= state >> 7
	return state ^ state<<17
}

// drawnGraphs are good graphs of 5 to MaxTasks tasks, from those of few needs to those of many.
func drawnGraphs(count int) []impl.Graph {
	var graphs []impl.Graph
	state := uint64(88172645463325252)
	for n := range count {
		order := ordered(5 + n%(impl.MaxTasks-4))
		for i := range order {
			state = nextDrawn(state)
			j := i + int(state>>33)%(len(order)-i)
			order[i], order[j] = order[j], order[i]
		}
		state = nextDrawn(state)
		set := state
		for range n % 4 {
			state = nextDrawn(state)
			set &= state
		}
		graphs = append(graphs, graphOfBits(order, set))
	}
	return graphs
}

func goodGraphs() []impl.Graph {
	return append(smallGraphs(4), drawnGraphs(1500)...)
}

// badGraphs are refused by each function.
func badGraphs() map[string]impl.Graph {
	none := func(tasks int) [][]int { return make([][]int, tasks) }
	long := make([]int, 100000)
	return map[string]impl.Graph{
		"no tasks":                   {},
		"no tasks, empty lists":      {Needs: [][]int{}, Order: []int{}},
		"Needs, no Order":            {Needs: none(3)},
		"an Order, no Needs":         {Order: ordered(3)},
		"one more than MaxTasks":     {Needs: none(impl.MaxTasks + 1), Order: ordered(impl.MaxTasks + 1)},
		"many":                       {Needs: none(5000), Order: ordered(5000)},
		"Order too short":            {Needs: none(3), Order: []int{0, 1}},
		"Order too short by first":   {Needs: none(3), Order: []int{1, 2}},
		"Order too long":             {Needs: none(3), Order: []int{0, 1, 2, 3}},
		"Order too long, one again":  {Needs: none(3), Order: []int{0, 1, 2, 0}},
		"Order very long":            {Needs: none(3), Order: long},
		"more Needs at MaxTasks":     {Needs: none(impl.MaxTasks + 1), Order: ordered(impl.MaxTasks)},
		"fewer Needs at MaxTasks":    {Needs: none(impl.MaxTasks - 1), Order: ordered(impl.MaxTasks)},
		"one of Needs more":          {Needs: none(4), Order: ordered(3)},
		"one of Needs less":          {Needs: none(2), Order: ordered(3)},
		"Order has one twice":        {Needs: none(3), Order: []int{0, 1, 1}},
		"Order has the first twice":  {Needs: none(3), Order: []int{0, 0, 2}},
		"Order has all alike":        {Needs: none(3), Order: []int{2, 2, 2}},
		"Order has no such task":     {Needs: none(3), Order: []int{0, 1, 3}},
		"Order has -1":               {Needs: none(3), Order: []int{0, -1, 2}},
		"Order has a great one":      {Needs: none(3), Order: []int{1 << 62, 1, 2}},
		"Order has the least int":    {Needs: none(3), Order: []int{0, 1, -1 << 63}},
		"ahead of its need":          graphOf([]int{0, 1, 2}, map[int][]int{0: {1}}),
		"ahead of its last need":     graphOf([]int{0, 1, 2}, map[int][]int{1: {0, 2}}),
		"far ahead of its need":      graphOf([]int{2, 0, 1}, map[int][]int{2: {1}}),
		"round by two":               graphOf([]int{0, 1, 2}, map[int][]int{0: {1}, 1: {0}}),
		"round by three":             graphOf([]int{0, 1, 2}, map[int][]int{0: {2}, 1: {0}, 2: {1}}),
		"needs itself":               graphOf([]int{0, 1, 2}, map[int][]int{1: {1}}),
		"needs itself, the last one": graphOf([]int{0, 1, 2}, map[int][]int{2: {0, 2}}),
		"the only task needs itself": graphOf([]int{0}, map[int][]int{0: {0}}),
		"needs fall":                 graphOf([]int{0, 1, 2}, map[int][]int{2: {1, 0}}),
		"needs have one twice":       graphOf([]int{0, 1, 2}, map[int][]int{2: {0, 0}}),
		"needs fall in the end":      graphOf([]int{0, 1, 2, 3}, map[int][]int{3: {0, 2, 1}}),
		"needs have the last twice":  graphOf([]int{0, 1, 2, 3}, map[int][]int{3: {0, 1, 1}}),
		"needs no such task":         graphOf([]int{0, 1, 2}, map[int][]int{2: {0, 3}}),
		"needs -1":                   graphOf([]int{0, 1, 2}, map[int][]int{2: {-1}}),
		"needs -1 and others":        graphOf([]int{0, 1, 2}, map[int][]int{2: {-1, 0, 1}}),
		"needs a great one":          graphOf([]int{0, 1, 2}, map[int][]int{2: {0, 1 << 62}}),
		"needs the least int":        graphOf([]int{0, 1, 2}, map[int][]int{0: {-1 << 63}}),
		"the first needs -1":         graphOf([]int{0, 1, 2}, map[int][]int{0: {-1}}),
		"needs very many":            graphOf([]int{0, 1, 2}, map[int][]int{1: long}),
	}
}

// noTasks are the numbers of no task of a graph of that many.
func noTasks(tasks int) []int {
	return []int{-1, -2, tasks, tasks + 1, impl.MaxTasks, impl.MaxTasks + 1, 1 << 62, -1 << 63, 1<<63 - 1}
}

// leadsBy says by asking on and on, apart from the program, whether needs lead from the one to the other.
func leadsBy(g impl.Graph, from int, to int) bool {
	if from == to {
		return true
	}
	return slices.ContainsFunc(g.Needs[from], func(need int) bool { return leadsBy(g, need, to) })
}

// waysBetween are all ways of needs from the one to the other.
func waysBetween(g impl.Graph, from int, to int) [][]int {
	if from == to {
		return [][]int{{to}}
	}
	var ways [][]int
	for _, need := range g.Needs[from] {
		for _, rest := range waysBetween(g, need, to) {
			ways = append(ways, append([]int{from}, rest...))
		}
	}
	return ways
}

// leastWay is of all ways the one that is to be told; nil where there is none.
func leastWay(g impl.Graph, from int, to int) []int {
	var best []int
	for _, way := range waysBetween(g, from, to) {
		if best == nil || len(way) < len(best) || len(way) == len(best) && slices.Compare(way, best) < 0 {
			best = way
		}
	}
	return best
}

// orderByHand is the Order behind a new need, as the chapter says it.
func orderByHand(g impl.Graph, task int, need int) []int {
	order := slices.Clone(g.Order)
	first, last := slices.Index(order, task), slices.Index(order, need)
	var former, latter, places []int
	for place := first; place <= last; place++ {
		switch here := order[place]; {
		case leadsBy(g, need, here):
			former, places = append(former, here), append(places, place)
		case leadsBy(g, here, task):
			latter, places = append(latter, here), append(places, place)
		}
	}
	for i, here := range append(former, latter...) {
		order[places[i]] = here
	}
	return order
}

func checkAdded(t *testing.T, cases []needCase) {
	t.Helper()
	for _, c := range cases {
		if !impl.GoodGraph(c.g) {
			t.Fatalf("%s: the case is not good: %v", c.what, c.g)
		}
		want := cloneGraph(c.g)
		want.Order = c.order
		want.Needs[c.task] = append(want.Needs[c.task], c.need)
		slices.Sort(want.Needs[c.task])
		if g, moved, ok := impl.AddNeed(c.g, c.task, c.need); !sameGraph(g, want) || !slices.Equal(moved, c.moved) || !ok {
			t.Errorf("%s: AddNeed of %v, %d, %d: %v, %v, %v; want %v, %v", c.what, c.g, c.task, c.need, g, moved, ok, want, c.moved)
		}
	}
}

// checkNotAdded wants nothing, the way that would be closed (none where the arguments are not as said), and false.
func checkNotAdded(t *testing.T, what string, g impl.Graph, task int, need int, way []int) {
	t.Helper()
	if got, l, ok := impl.AddNeed(g, task, need); !isEmptyGraph(got) || !slices.Equal(l, way) || ok {
		t.Errorf("%s: AddNeed of %v, %d, %d: %v, %v, %v; want nothing, %v", what, g, task, need, got, l, ok, way)
	}
}

func checkNotDropped(t *testing.T, what string, g impl.Graph, task int, need int) {
	t.Helper()
	if got, ok := impl.DropNeed(g, task, need); !isEmptyGraph(got) || ok {
		t.Errorf("%s: DropNeed of %v, %d, %d: %v, %v", what, g, task, need, got, ok)
	}
}

func checkWays(t *testing.T, cases []wayCase) {
	t.Helper()
	for _, c := range cases {
		if !impl.GoodGraph(c.g) {
			t.Fatalf("%s: the case is not good: %v", c.what, c.g)
		}
		if way, is := impl.WouldLoop(c.g, c.task, c.need); !slices.Equal(way, c.way) || is != (c.way != nil) {
			t.Errorf("%s: WouldLoop of %v, %d, %d: %v, %v; want %v", c.what, c.g, c.task, c.need, way, is, c.way)
		}
	}
}

func checkNoWay(t *testing.T, what string, g impl.Graph, task int, need int) {
	t.Helper()
	if way, is := impl.WouldLoop(g, task, need); len(way) != 0 || is {
		t.Errorf("%s: WouldLoop of %v, %d, %d: %v, %v", what, g, task, need, way, is)
	}
}

func checkNoPlace(t *testing.T, what string, g impl.Graph, task int) {
	t.Helper()
	if place, ok := impl.PlaceOf(g, task); place != 0 || ok {
		t.Errorf("%s: PlaceOf of %v, %d: %d, %v", what, g, task, place, ok)
	}
	if users, ok := impl.UsersOf(g, task); len(users) != 0 || ok {
		t.Errorf("%s: UsersOf of %v, %d: %v, %v", what, g, task, users, ok)
	}
}

func TestNewGraph(t *testing.T) {
	for tasks := 1; tasks <= impl.MaxTasks; tasks++ {
		g, ok := impl.NewGraph(tasks)
		if want := graphOf(ordered(tasks), nil); !sameGraph(g, want) || !ok || !impl.GoodGraph(g) {
			t.Errorf("NewGraph of %d: %v, %v", tasks, g, ok)
		}
	}
}

func TestNewGraphRefuses(t *testing.T) {
	for _, tasks := range []int{0, -1, -2, impl.MaxTasks + 1, impl.MaxTasks + 2, 256, 257, 1 << 32, 1<<32 + 1, 1<<63 - 1, -1 << 63} {
		if g, ok := impl.NewGraph(tasks); !isEmptyGraph(g) || ok {
			t.Errorf("NewGraph of %d: %v, %v", tasks, g, ok)
		}
	}
}

func TestMaxTasks(t *testing.T) {
	if impl.MaxTasks != 10 {
		t.Error(impl.MaxTasks)
	}
}

func TestGoodGraph(t *testing.T) {
	all := ordered(impl.MaxTasks)
	everyNeed := impl.Graph{Order: all}
	for task := range impl.MaxTasks {
		everyNeed.Needs = append(everyNeed.Needs, all[:task])
	}
	good := map[string]impl.Graph{
		"one task":                   graphOf([]int{0}, nil),
		"one task, an empty list":    {Needs: [][]int{{}}, Order: []int{0}},
		"two, turned":                graphOf([]int{1, 0}, nil),
		"just behind its need":       graphOf([]int{1, 0}, map[int][]int{0: {1}}),
		"a greater one needed":       graphOf([]int{2, 0, 1}, map[int][]int{0: {2}}),
		"needs stand unlike in both": graphOf([]int{2, 1, 0, 3}, map[int][]int{3: {0, 1, 2}}),
		"both ends":                  graphOf([]int{3, 0, 1, 2}, map[int][]int{2: {3}}),
		"MaxTasks, no need":          graphOf(all, nil),
		"MaxTasks, every need":       everyNeed,
		"MaxTasks, a chain back": graphOf([]int{9, 8, 7, 6, 5, 4, 3, 2, 1, 0},
			map[int][]int{0: {1}, 1: {2}, 2: {3}, 3: {4}, 4: {5}, 5: {6}, 6: {7}, 7: {8}, 8: {9}}),
	}
	for what, g := range good {
		if !impl.GoodGraph(g) {
			t.Errorf("%s: %v is not good", what, g)
		}
	}
	for _, g := range goodGraphs() {
		if !impl.GoodGraph(g) {
			t.Fatalf("%v is not good", g)
		}
	}
}

func TestGoodGraphRefuses(t *testing.T) {
	for what, g := range badGraphs() {
		if impl.GoodGraph(g) {
			t.Errorf("%s: %v is good", what, g)
		}
	}
}

// Of all short Needs of three tasks, and all Orders of three numbers, just those are good that the chapter says.
func TestGoodGraphOfThree(t *testing.T) {
	var orders, lists [][]int
	for n := range 125 {
		orders = append(orders, []int{n%5 - 1, n/5%5 - 1, n/25 - 1})
	}
	lists = append(lists, nil, []int{-1}, []int{3})
	for a := range 3 {
		lists = append(lists, []int{a})
		for b := range 3 {
			lists = append(lists, []int{a, b})
		}
	}
	for _, order := range orders {
		for n := range len(lists) * len(lists) * len(lists) {
			g := impl.Graph{Needs: [][]int{lists[n%len(lists)], lists[n/len(lists)%len(lists)], lists[n/len(lists)/len(lists)]}, Order: order}
			if got, want := impl.GoodGraph(g), isGoodOfThree(g); got != want {
				t.Fatalf("%v is good: %v; want %v", g, got, want)
			}
		}
	}
}

func isGoodOfThree(g impl.Graph) bool {
	sorted := slices.Clone(g.Order)
	slices.Sort(sorted)
	if !slices.Equal(sorted, ordered(3)) {
		return false
	}
	for task, needs := range g.Needs {
		if len(needs) == 2 && needs[0] >= needs[1] {
			return false
		}
		for _, need := range needs {
			if place := slices.Index(g.Order, need); place < 0 || place >= slices.Index(g.Order, task) {
				return false
			}
		}
	}
	return true
}

func TestAddNeed(t *testing.T) {
	checkAdded(t, []needCase{
		{"need stands ahead", graphOf([]int{0, 1, 2}, nil), 2, 0, []int{0, 1, 2}, nil},
		{"need stands just ahead", graphOf([]int{0, 1, 2}, nil), 1, 0, []int{0, 1, 2}, nil},
		{"need stands ahead, between other needs", graphOf([]int{2, 1, 0, 3}, map[int][]int{3: {0, 2}}), 3, 1, []int{2, 1, 0, 3}, nil},
		{"need stands just behind", graphOf([]int{0, 1, 2}, nil), 0, 1, []int{1, 0, 2}, []int{0, 1}},
		{"need stands just behind, in the end", graphOf([]int{0, 1, 2}, nil), 1, 2, []int{0, 2, 1}, []int{1, 2}},
		{"need at the far end", graphOf([]int{0, 1, 2}, nil), 0, 2, []int{2, 1, 0}, []int{0, 2}},
		{"need at the far end of MaxTasks", graphOf(ordered(10), nil), 0, 9, []int{9, 1, 2, 3, 4, 5, 6, 7, 8, 0}, []int{0, 9}},
		{"of two", graphOf([]int{0, 1}, nil), 0, 1, []int{1, 0}, []int{0, 1}},
	})
}

// What need leads to and what leads to task lie mixed, with others between them.
func TestAddNeedMixed(t *testing.T) {
	mixed := map[int][]int{4: {1}, 6: {4}, 2: {0}, 5: {2}}
	checkAdded(t, []needCase{
		{"mixed, one stays between", graphOf(ordered(8), mixed), 0, 6, []int{1, 4, 6, 3, 0, 2, 5, 7}, []int{0, 1, 2, 4, 5, 6}},
		{"what leads to task, one over another", graphOf(ordered(6), map[int][]int{1: {0}, 2: {0}, 3: {1, 2}}), 0, 5,
			[]int{5, 0, 1, 2, 4, 3}, []int{0, 1, 2, 3, 5}},
		{"what need leads to, one over another", graphOf(ordered(6), map[int][]int{3: {2}, 4: {2}, 5: {3, 4}}), 0, 5,
			[]int{2, 1, 3, 4, 5, 0}, []int{0, 2, 3, 4, 5}},
		{"only what is in the stretch", graphOf(ordered(8), map[int][]int{2: {0}, 3: {1, 2}, 4: {2}, 5: {0, 4}, 7: {2, 5}}), 3, 5,
			[]int{0, 1, 2, 4, 5, 3, 6, 7}, []int{3, 4, 5}},
		{"a user behind the stretch stays", graphOf(ordered(6), map[int][]int{2: {1}, 5: {1, 2}}), 1, 3,
			[]int{0, 3, 1, 2, 4, 5}, []int{1, 2, 3}},
		{"an Order that is no rising one", graphOf([]int{5, 3, 1, 0, 2, 4}, map[int][]int{1: {3}, 2: {0}, 4: {2}}), 3, 2,
			[]int{5, 0, 2, 3, 1, 4}, []int{0, 1, 2, 3}},
		{"others that hang together stay", graphOf(ordered(5), map[int][]int{2: {1}, 3: {2}}), 0, 4,
			[]int{4, 1, 2, 3, 0}, []int{0, 4}},
	})
}

func TestAddNeedKeepsNeedsRising(t *testing.T) {
	for need := range 9 {
		g := graphOf(ordered(10), map[int][]int{9: slices.DeleteFunc(ordered(9), func(n int) bool { return n == need })})
		got, moved, ok := impl.AddNeed(g, 9, need)
		if !ok || len(moved) != 0 || !slices.Equal(got.Needs[9], ordered(9)) {
			t.Errorf("%d: %v, %v, %v", need, got, moved, ok)
		}
	}
}

func TestAddNeedRefuses(t *testing.T) {
	g := graphOf([]int{0, 1, 2, 3}, map[int][]int{1: {0}, 2: {0, 1}, 3: {2}})
	checkNotAdded(t, "a need that it has", g, 1, 0, nil)
	checkNotAdded(t, "a need that it has, the last one", g, 2, 1, nil)
	checkNotAdded(t, "itself", g, 1, 1, []int{1})
	checkNotAdded(t, "the only one, itself", graphOf([]int{0}, nil), 0, 0, []int{0})
	checkNotAdded(t, "round by two", g, 0, 1, []int{1, 0})
	checkNotAdded(t, "round by the short way", g, 0, 3, []int{3, 2, 0})
	for _, task := range noTasks(4) {
		checkNotAdded(t, "no such task", g, task, 0, nil)
		checkNotAdded(t, "no such need", g, 0, task, nil)
		checkNotAdded(t, "neither", g, task, task, nil)
	}
	for what, bad := range badGraphs() {
		for _, pair := range [][2]int{{0, 1}, {1, 0}, {0, 0}, {2, 1}, {0, 2}} {
			checkNotAdded(t, what, bad, pair[0], pair[1], nil)
		}
	}
}

func TestDropNeed(t *testing.T) {
	g := graphOf([]int{2, 0, 3, 1}, map[int][]int{0: {2}, 1: {0, 2, 3}, 3: {0}})
	for _, pair := range [][2]int{{0, 2}, {1, 0}, {1, 2}, {1, 3}, {3, 0}} {
		want := cloneGraph(g)
		place := slices.Index(want.Needs[pair[0]], pair[1])
		want.Needs[pair[0]] = slices.Delete(want.Needs[pair[0]], place, place+1)
		got, ok := impl.DropNeed(g, pair[0], pair[1])
		if !sameGraph(got, want) || !ok || !impl.GoodGraph(got) {
			t.Errorf("DropNeed of %v, %v: %v, %v; want %v", g, pair, got, ok, want)
		}
	}
}

func TestDropNeedRefuses(t *testing.T) {
	g := graphOf([]int{2, 0, 3, 1}, map[int][]int{0: {2}, 1: {0, 2}, 3: {0}})
	checkNotDropped(t, "not needed", g, 1, 3)
	checkNotDropped(t, "needed the other way round", g, 2, 0)
	checkNotDropped(t, "needed by another one only", g, 3, 2)
	checkNotDropped(t, "itself", g, 1, 1)
	checkNotDropped(t, "the only one", graphOf([]int{0}, nil), 0, 0)
	for _, task := range noTasks(4) {
		checkNotDropped(t, "no such task", g, task, 0)
		checkNotDropped(t, "no such need", g, 1, task)
		checkNotDropped(t, "neither", g, task, task)
	}
	for what, bad := range badGraphs() {
		for _, pair := range [][2]int{{0, 1}, {1, 0}, {1, 1}, {2, 1}, {2, 0}, {2, -1}, {0, 0}, {2, 3}} {
			checkNotDropped(t, what, bad, pair[0], pair[1])
		}
	}
}

// For each need of each graph: it alone is gone, and the Order is as it was.
func TestDropNeedAll(t *testing.T) {
	for _, g := range goodGraphs() {
		for task := range g.Needs {
			for need := range g.Needs {
				if !slices.Contains(g.Needs[task], need) {
					checkNotDropped(t, "not needed", g, task, need)
					continue
				}
				want := cloneGraph(g)
				want.Needs[task] = slices.DeleteFunc(want.Needs[task], func(n int) bool { return n == need })
				if got, ok := impl.DropNeed(g, task, need); !sameGraph(got, want) || !ok || !impl.GoodGraph(got) {
					t.Fatalf("DropNeed of %v, %d, %d: %v, %v", g, task, need, got, ok)
				}
			}
		}
	}
}

func TestPlaceOf(t *testing.T) {
	g := graphOf([]int{2, 0, 3, 1}, map[int][]int{0: {2}, 1: {0, 2, 3}})
	for place, task := range []int{2, 0, 3, 1} {
		if got, ok := impl.PlaceOf(g, task); got != place || !ok {
			t.Errorf("PlaceOf %d: %d, %v; want %d", task, got, ok, place)
		}
	}
	for _, g := range goodGraphs() {
		for place, task := range g.Order {
			if got, ok := impl.PlaceOf(g, task); got != place || !ok {
				t.Fatalf("PlaceOf of %v, %d: %d, %v", g, task, got, ok)
			}
		}
	}
}

func TestUsersOf(t *testing.T) {
	g := graphOf([]int{3, 4, 0, 2, 1}, map[int][]int{0: {3}, 1: {0, 2, 3}, 2: {3}, 4: {3}})
	for task, want := range [][]int{{1}, nil, {1}, {0, 1, 2, 4}, nil} {
		if got, ok := impl.UsersOf(g, task); !slices.Equal(got, want) || !ok {
			t.Errorf("UsersOf %d: %v, %v; want %v", task, got, ok, want)
		}
	}
	if got, ok := impl.UsersOf(graphOf([]int{0}, nil), 0); len(got) != 0 || !ok {
		t.Error("UsersOf the only one", got, ok)
	}
}

func TestUsersOfAll(t *testing.T) {
	for _, g := range goodGraphs() {
		users := make([][]int, len(g.Needs))
		for task, needs := range g.Needs {
			for _, need := range needs {
				users[need] = append(users[need], task)
			}
		}
		for task, want := range users {
			if got, ok := impl.UsersOf(g, task); !slices.Equal(got, want) || !ok {
				t.Fatalf("UsersOf of %v, %d: %v, %v; want %v", g, task, got, ok, want)
			}
		}
	}
}

func TestPlaceOfAndUsersOfRefuse(t *testing.T) {
	for _, task := range noTasks(3) {
		checkNoPlace(t, "no such task", graphOf([]int{2, 0, 1}, map[int][]int{1: {0}}), task)
	}
	for what, bad := range badGraphs() {
		for task := -1; task <= impl.MaxTasks+1; task++ {
			checkNoPlace(t, what, bad, task)
		}
	}
}

func TestWouldLoop(t *testing.T) {
	several := map[int][]int{1: {0}, 2: {0}, 3: {0}, 7: {1, 2, 3}, 8: {2, 7}}
	checkWays(t, []wayCase{
		{"itself", graphOf(ordered(3), nil), 1, 1, []int{1}},
		{"the only one", graphOf([]int{0}, nil), 0, 0, []int{0}},
		{"itself, though it needs others", graphOf(ordered(3), map[int][]int{2: {0, 1}}), 2, 2, []int{2}},
		{"itself, though others need it", graphOf(ordered(3), map[int][]int{1: {0}, 2: {0}}), 0, 0, []int{0}},
		{"no way", graphOf(ordered(3), nil), 0, 2, nil},
		{"a way the other way round only", graphOf(ordered(3), map[int][]int{1: {0}, 2: {1}}), 2, 0, nil},
		{"both need the same", graphOf(ordered(3), map[int][]int{1: {0}, 2: {0}}), 1, 2, nil},
		{"one need", graphOf(ordered(3), map[int][]int{2: {0}}), 0, 2, []int{2, 0}},
		{"one way of two needs", graphOf(ordered(3), map[int][]int{1: {0}, 2: {1}}), 0, 2, []int{2, 1, 0}},
		{"one way of all", graphOf([]int{3, 1, 0, 2}, map[int][]int{1: {3}, 0: {1}, 2: {0}}), 3, 2, []int{2, 0, 1, 3}},
		{"the short one of two", graphOf(ordered(3), map[int][]int{1: {0}, 2: {0, 1}}), 0, 2, []int{2, 0}},
		{"a short one by a greater one", graphOf(ordered(5), map[int][]int{1: {0}, 2: {1}, 3: {0}, 4: {2, 3}}), 0, 4, []int{4, 3, 0}},
		{"several as short, by the least", graphOf(ordered(9), several), 0, 7, []int{7, 1, 0}},
		{"several as short, the greater one shorter", graphOf(ordered(9), several), 0, 8, []int{8, 2, 0}},
	})
}

// Of ways that are as short the first step decides, seen from need, not from task.
func TestWouldLoopLeastFromNeedOn(t *testing.T) {
	crossed := map[int][]int{1: {0}, 2: {0}, 3: {2}, 4: {1}, 5: {3, 4}}
	checkWays(t, []wayCase{
		{"the first step is less, the second one greater", graphOf(ordered(6), crossed), 0, 5, []int{5, 3, 2, 0}},
		{"the second step decides", graphOf(ordered(6), map[int][]int{1: {0}, 2: {0}, 3: {1, 2}, 4: {2}, 5: {3, 4}}), 0, 5, []int{5, 3, 1, 0}},
		{"the least one is led to by none as short", graphOf([]int{0, 5, 1, 4, 2, 3}, map[int][]int{5: {0}, 1: {5}, 4: {0}, 2: {4}, 3: {1, 2}}), 0, 3, []int{3, 1, 5, 0}},
		{"the Order does not decide", graphOf([]int{9, 2, 1, 0, 3, 4, 5, 6, 7, 8}, map[int][]int{2: {9}, 1: {9}, 0: {1, 2}}), 9, 0, []int{0, 1, 9}},
	})
}

func TestWouldLoopAll(t *testing.T) {
	for _, g := range goodGraphs() {
		for task := range g.Needs {
			for need := range g.Needs {
				want := leastWay(g, need, task)
				if way, is := impl.WouldLoop(g, task, need); !slices.Equal(way, want) || is != (want != nil) {
					t.Fatalf("WouldLoop of %v, %d, %d: %v, %v; want %v", g, task, need, way, is, want)
				}
			}
		}
	}
}

func TestWouldLoopRefuses(t *testing.T) {
	g := graphOf([]int{0, 1, 2}, map[int][]int{1: {0}, 2: {0, 1}})
	for _, task := range noTasks(3) {
		checkNoWay(t, "no such task", g, task, 2)
		checkNoWay(t, "no such need", g, 0, task)
		checkNoWay(t, "neither", g, task, task)
	}
	for what, bad := range badGraphs() {
		for _, pair := range [][2]int{{0, 1}, {1, 0}, {0, 0}, {1, 2}, {2, 0}, {1, 1}, {-1, 2}} {
			checkNoWay(t, what, bad, pair[0], pair[1])
		}
	}
}

// checkNeedsBehind wants that task needs need, and that else each needs what it did.
func checkNeedsBehind(t *testing.T, before impl.Graph, after impl.Graph, task int, need int) {
	t.Helper()
	for user := range before.Needs {
		for other := range before.Needs {
			want := slices.Contains(before.Needs[user], other) || user == task && other == need
			if slices.Contains(after.Needs[user], other) != want {
				t.Fatalf("%v, %d, %d: %d needs %d: %v in %v", before, task, need, user, other, !want, after)
			}
		}
	}
}

// checkPlacesBehind wants that outside of the stretch nothing moves, and within it only what
// hangs together with the two.
func checkPlacesBehind(t *testing.T, before impl.Graph, after impl.Graph, task int, need int) []int {
	t.Helper()
	first, last := slices.Index(before.Order, task), slices.Index(before.Order, need)
	var moved []int
	for here := range before.Needs {
		was, is := slices.Index(before.Order, here), slices.Index(after.Order, here)
		if was == is {
			continue
		}
		moved = append(moved, here)
		if was < first || was > last || !leadsBy(before, need, here) && !leadsBy(before, here, task) {
			t.Fatalf("%v, %d, %d: %d moves from %d to %d", before, task, need, here, was, is)
		}
	}
	return moved
}

// checkPromise5 says how many tasks moved; -1 where the need would close a round.
func checkPromise5(t *testing.T, g impl.Graph, task int, need int) int {
	t.Helper()
	way, loops := impl.WouldLoop(g, task, need)
	if loops {
		checkNotAdded(t, "round", g, task, need, way)
		return -1
	}
	got, moved, ok := impl.AddNeed(g, task, need)
	if !ok || !impl.GoodGraph(got) {
		t.Fatalf("AddNeed of %v, %d, %d: %v, %v, %v", g, task, need, got, moved, ok)
	}
	checkNeedsBehind(t, g, got, task, need)
	if want := checkPlacesBehind(t, g, got, task, need); !slices.Equal(moved, want) {
		t.Fatalf("AddNeed of %v, %d, %d: %v, moved %v; want %v", g, task, need, got, moved, want)
	}
	if want := orderByHand(g, task, need); !slices.Equal(got.Order, want) {
		t.Fatalf("AddNeed of %v, %d, %d: %v; want the Order %v", g, task, need, got, want)
	}
	return len(moved)
}

func TestPromise5(t *testing.T) {
	met := map[int]int{}
	for _, g := range goodGraphs() {
		for task := range g.Needs {
			for need := range g.Needs {
				if slices.Contains(g.Needs[task], need) {
					checkNotAdded(t, "needed", g, task, need, nil)
					continue
				}
				met[checkPromise5(t, g, task, need)]++
			}
		}
	}
	for _, moved := range []int{-1, 0, 2, 3, 4, 5, 6, 7, 8} {
		if met[moved] < 10 {
			t.Errorf("too few moved %d: %v", moved, met)
		}
	}
	if met[1] != 0 {
		t.Error("one cannot move alone", met)
	}
}

// Needs that come one by one, and are dropped at times: each graph is what the next one is made of.
func TestPromise5OneByOne(t *testing.T) {
	state := uint64(2463534242)
	for tasks := 1; tasks <= impl.MaxTasks; tasks++ {
		g, _ := impl.NewGraph(tasks)
		for range 400 {
			state = nextDrawn(state)
			task, need := int(state>>20)%tasks, int(state>>40)%tasks
			if !slices.Contains(g.Needs[task], need) {
				if checkPromise5(t, g, task, need) >= 0 {
					g, _, _ = impl.AddNeed(g, task, need)
				}
			} else if bits.OnesCount64(state)%2 == 0 {
				g, _ = impl.DropNeed(g, task, need)
			}
			if !impl.GoodGraph(g) {
				t.Fatalf("of %d tasks: %v", tasks, g)
			}
		}
	}
}

// Of those that move, each of the two kinds keeps its order, and what need leads to comes first.
func TestPromise5KindsKeepTheirOrder(t *testing.T) {
	for _, g := range goodGraphs() {
		for task := range g.Needs {
			for need := range g.Needs {
				got, moved, ok := impl.AddNeed(g, task, need)
				if !ok || len(moved) == 0 {
					continue
				}
				isMoved := func(here int) bool { return slices.Contains(moved, here) }
				isFormer := func(here int) bool { return isMoved(here) && leadsBy(g, need, here) }
				isLatter := func(here int) bool { return isMoved(here) && leadsBy(g, here, task) }
				want := append(tasksWhere(g.Order, isFormer), tasksWhere(g.Order, isLatter)...)
				if now := tasksWhere(got.Order, isMoved); !slices.Equal(now, want) {
					t.Fatalf("AddNeed of %v, %d, %d: %v; want %v", g, task, need, now, want)
				}
			}
		}
	}
}

func tasksWhere(order []int, is func(int) bool) []int {
	return slices.DeleteFunc(slices.Clone(order), func(task int) bool { return !is(task) })
}

// A need that is dropped and added again moves nothing: the Order is right for it still.
func TestPromise5DroppedAndAddedAgain(t *testing.T) {
	for _, g := range goodGraphs() {
		for task, needs := range g.Needs {
			for _, need := range needs {
				dropped, _ := impl.DropNeed(g, task, need)
				if got, moved, ok := impl.AddNeed(dropped, task, need); !sameGraph(got, g) || len(moved) != 0 || !ok {
					t.Fatalf("%v, %d, %d: %v, %v, %v", g, task, need, got, moved, ok)
				}
			}
		}
	}
}

// roomyGraph gives the graph with something behind the length of each list, and these lists
// whole: what reads behind a length meets no task, what writes there is seen.
func roomyGraph(g impl.Graph) (impl.Graph, impl.Graph) {
	var given, whole impl.Graph
	for _, needs := range append(cloneGraph(g).Needs, []int{0}, []int{-1}) {
		long := append(slices.Clone(needs), 77, -1, 0)
		whole.Needs = append(whole.Needs, long)
		given.Needs = append(given.Needs, long[:len(needs)])
	}
	whole.Order = append(slices.Clone(g.Order), 77, -1, 0)
	given.Order = whole.Order[:len(g.Order)]
	given.Needs = given.Needs[:len(g.Needs)]
	return given, whole
}

// behindNeeds are the lists that lie behind the length of the graph's Needs.
func behindNeeds(g impl.Graph) [][]int {
	return g.Needs[len(g.Needs):cap(g.Needs)]
}

func overwriteTasks(l []int) {
	l = l[:cap(l)]
	for i := range l {
		l[i] = 55
	}
}

// overwriteGraph overwrites the lists one by one, and looks at the ones that are left.
func overwriteGraph(t *testing.T, what string, g impl.Graph) {
	t.Helper()
	want := cloneGraph(g)
	overwriteTasks(g.Order)
	for task, needs := range g.Needs {
		for later := task; later < len(g.Needs); later++ {
			if !slices.Equal(g.Needs[later], want.Needs[later]) {
				t.Fatalf("%s: two lists of an answer share memory: %v; want %v", what, g, want)
			}
		}
		overwriteTasks(needs)
	}
	all := g.Needs[:cap(g.Needs)]
	for i := range all {
		all[i] = []int{66}
	}
}

// graphSteps are the three functions that answer a graph, each with the list that it may answer beside it.
func graphSteps(task int, need int) map[string]func(impl.Graph) (impl.Graph, []int) {
	return map[string]func(impl.Graph) (impl.Graph, []int){
		"NewGraph": func(g impl.Graph) (impl.Graph, []int) {
			got, _ := impl.NewGraph(len(g.Needs))
			return got, nil
		},
		"AddNeed": func(g impl.Graph) (impl.Graph, []int) {
			got, l, _ := impl.AddNeed(g, task, need)
			return got, l
		},
		"DropNeed": func(g impl.Graph) (impl.Graph, []int) {
			got, _ := impl.DropNeed(g, task, need)
			return got, nil
		},
	}
}

func checkGraphMemory(t *testing.T, what string, g impl.Graph, step func(impl.Graph) (impl.Graph, []int)) {
	t.Helper()
	given, whole := roomyGraph(g)
	before, behind := cloneGraph(whole), fmt.Sprint(behindNeeds(given))
	got, l := step(given)
	want, wantList := step(cloneGraph(g))
	if !sameGraph(got, want) || !slices.Equal(l, wantList) {
		t.Fatalf("%s of %v reads behind a list: %v, %v; want %v, %v", what, g, got, l, want, wantList)
	}
	overwriteTasks(l)
	if !sameGraph(got, want) {
		t.Fatalf("%s of %v: the list shares memory with the graph", what, g)
	}
	overwriteGraph(t, what, got)
	if !sameGraph(whole, before) || !sameGraph(given, g) || fmt.Sprint(behindNeeds(given)) != behind {
		t.Fatalf("%s of %v wrote into it, or answers its memory: %v", what, before, whole)
	}
}

func TestPromise19GraphStays(t *testing.T) {
	for _, g := range append(smallGraphs(3), drawnGraphs(60)...) {
		for task := -1; task <= len(g.Needs); task++ {
			for need := -1; need <= len(g.Needs); need++ {
				for what, step := range graphSteps(task, need) {
					checkGraphMemory(t, fmt.Sprint(what, ", ", task, ", ", need), g, step)
				}
			}
		}
	}
}

// listsOf are the functions that answer a list alone.
func listsOf(task int, need int) map[string]func(impl.Graph) []int {
	return map[string]func(impl.Graph) []int{
		"WouldLoop": func(g impl.Graph) []int { l, _ := impl.WouldLoop(g, task, need); return l },
		"UsersOf":   func(g impl.Graph) []int { l, _ := impl.UsersOf(g, task); return l },
	}
}

func TestPromise19GraphIsOnlyRead(t *testing.T) {
	for _, g := range append(smallGraphs(3), drawnGraphs(60)...) {
		given, whole := roomyGraph(g)
		before, behind := cloneGraph(whole), fmt.Sprint(behindNeeds(given))
		if !impl.GoodGraph(given) {
			t.Fatalf("what lies behind the lists of %v is read", g)
		}
		for task := range g.Needs {
			place, _ := impl.PlaceOf(given, task)
			if g.Order[place] != task {
				t.Fatalf("PlaceOf of %v, %d: %d", g, task, place)
			}
			for need := range g.Needs {
				for what, list := range listsOf(task, need) {
					got, want := list(given), list(cloneGraph(g))
					if !slices.Equal(got, want) {
						t.Fatalf("%s of %v, %d, %d: %v; want %v", what, g, task, need, got, want)
					}
					overwriteTasks(got)
				}
			}
		}
		if !sameGraph(whole, before) || !sameGraph(given, g) || fmt.Sprint(behindNeeds(given)) != behind {
			t.Fatalf("%v was written into: %v", before, whole)
		}
	}
}

// A graph that is not good is not written into either.
func TestPromise19BadGraphStays(t *testing.T) {
	for what, g := range badGraphs() {
		if len(g.Order) > impl.MaxTasks+1 {
			continue
		}
		given, whole := roomyGraph(g)
		before, behind := cloneGraph(whole), fmt.Sprint(behindNeeds(given))
		impl.GoodGraph(given)
		for task := -1; task <= 3; task++ {
			impl.PlaceOf(given, task)
			for need := -1; need <= 3; need++ {
				for _, step := range graphSteps(task, need) {
					step(given)
				}
				for _, list := range listsOf(task, need) {
					list(given)
				}
			}
		}
		if !sameGraph(whole, before) || !sameGraph(given, g) || fmt.Sprint(behindNeeds(given)) != behind {
			t.Errorf("%s: written into: %v; want %v", what, whole, before)
		}
	}
}

// One piece of memory may be given as several lists; the answer has one for each.
func TestPromise19OneListOfTasksTwice(t *testing.T) {
	all := ordered(4)
	g := impl.Graph{Needs: [][]int{all[:0], all[:1], all[:1], all[:2]}, Order: all}
	want := cloneGraph(g)
	for pair, step := range map[string]func(impl.Graph) (impl.Graph, []int){
		"add 2, 1":  graphSteps(2, 1)["AddNeed"],
		"add 1, 2":  graphSteps(1, 2)["AddNeed"],
		"drop 1, 0": graphSteps(1, 0)["DropNeed"],
		"drop 3, 1": graphSteps(3, 1)["DropNeed"],
	} {
		got, l := step(g)
		if !impl.GoodGraph(got) {
			t.Fatalf("%s: %v", pair, got)
		}
		overwriteTasks(l)
		overwriteGraph(t, pair, got)
		if !sameGraph(g, want) {
			t.Fatalf("%s: written into: %v; want %v", pair, g, want)
		}
	}
}

// What is answered by one call is not what the next one answers.
func TestPromise19GraphsApart(t *testing.T) {
	g := graphOf([]int{0, 1, 2, 3}, map[int][]int{1: {0}, 2: {0, 1}})
	for _, pair := range [][2]int{{0, 3}, {0, 2}, {2, 1}, {3, 0}} {
		for what, step := range graphSteps(pair[0], pair[1]) {
			one, l := step(g)
			two, m := step(g)
			want, wantList := cloneGraph(two), slices.Clone(m)
			overwriteTasks(l)
			overwriteGraph(t, what, one)
			if !sameGraph(two, want) || !slices.Equal(m, wantList) {
				t.Errorf("two answers of %s share memory", what)
			}
		}
		for what, list := range listsOf(pair[0], pair[1]) {
			one, two := list(g), list(g)
			want := slices.Clone(two)
			overwriteTasks(one)
			if !slices.Equal(two, want) {
				t.Errorf("two answers of %s share memory", what)
			}
		}
	}
}
