package tests

import (
	"fmt"
	"slices"
	"strings"
	"testing"
	"unsafe"

	"loop.example/g00636/impl"
)

type builtCase struct {
	what   string
	p      impl.Plan
	bodies []string
	want   []impl.Result
}

type madeCase struct {
	what string
	p    impl.Plan
	done []impl.Result
	task int
	want impl.Result
}

type blockedCase struct {
	what string
	p    impl.Plan
	l    []impl.Result
	task int
	want int
}

// buildArgs is all that some function of the chapter takes.
type buildArgs struct {
	p      impl.Plan
	bodies []string
	l      []impl.Result
	task   int
}

// buildAnswer is all that some function of the chapter answers.
type buildAnswer struct {
	results []impl.Result
	made    impl.Result
	tasks   []int
	texts   []string
	n       int
	ok      bool
}

func buildFuncs() map[string]func(buildArgs) buildAnswer {
	return map[string]func(buildArgs) buildAnswer{
		"GoodPlan":    func(a buildArgs) buildAnswer { return buildAnswer{ok: impl.GoodPlan(a.p)} },
		"GoodSources": func(a buildArgs) buildAnswer { return buildAnswer{ok: impl.GoodSources(a.p, a.bodies)} },
		"BuildAll": func(a buildArgs) buildAnswer {
			l, ok := impl.BuildAll(a.p, a.bodies)
			return buildAnswer{results: l, ok: ok}
		},
		"MakeOne": func(a buildArgs) buildAnswer {
			made, ok := impl.MakeOne(a.p, a.l, a.task)
			return buildAnswer{made: made, ok: ok}
		},
		"FailedIn": func(a buildArgs) buildAnswer {
			tasks, ok := impl.FailedIn(a.l)
			return buildAnswer{tasks: tasks, ok: ok}
		},
		"BlockedBy": func(a buildArgs) buildAnswer {
			n, ok := impl.BlockedBy(a.p, a.l, a.task)
			return buildAnswer{n: n, ok: ok}
		},
		"InputsOf": func(a buildArgs) buildAnswer {
			texts, ok := impl.InputsOf(a.p, a.l, a.task)
			return buildAnswer{texts: texts, ok: ok}
		},
	}
}

// planFuncs are the functions that take a plan.
func planFuncs() map[string]func(buildArgs) buildAnswer {
	funcs := buildFuncs()
	delete(funcs, "FailedIn")
	return funcs
}

// taskFuncs are the functions that take a plan, results of it and a task.
func taskFuncs() map[string]func(buildArgs) buildAnswer {
	all := buildFuncs()
	return map[string]func(buildArgs) buildAnswer{"MakeOne": all["MakeOne"], "BlockedBy": all["BlockedBy"], "InputsOf": all["InputsOf"]}
}

func sameBuildAnswer(a buildAnswer, b buildAnswer) bool {
	return slices.Equal(a.results, b.results) && a.made == b.made && slices.Equal(a.tasks, b.tasks) &&
		slices.Equal(a.texts, b.texts) && a.n == b.n && a.ok == b.ok
}

func checkZeroBuild(t *testing.T, what string, funcs map[string]func(buildArgs) buildAnswer, a buildArgs) {
	t.Helper()
	for name, f := range funcs {
		if got := f(a); !sameBuildAnswer(got, buildAnswer{}) {
			t.Errorf("%s: %s of %d: %v", what, name, a.task, got)
		}
	}
}

func okay(body string) impl.Result { return impl.Result{Body: body, State: impl.StOk} }
func failed() impl.Result          { return impl.Result{State: impl.StFailed} }
func blocked() impl.Result         { return impl.Result{State: impl.StBlocked} }

func results(l ...impl.Result) []impl.Result { return l }

// planOf gives a plan in which just these are sources, and all that has no recipe has an empty one.
func planOf(g impl.Graph, sources []int, recipes map[int][]impl.Op) impl.Plan {
	p := impl.Plan{Graph: g, Source: make([]bool, len(g.Needs)), Recipes: make([][]impl.Op, len(g.Needs))}
	for _, task := range sources {
		p.Source[task] = true
	}
	for task, r := range recipes {
		p.Recipes[task] = r
	}
	return p
}

func clonePlan(p impl.Plan) impl.Plan {
	c := impl.Plan{Graph: cloneGraph(p.Graph), Source: slices.Clone(p.Source)}
	for _, r := range p.Recipes {
		c.Recipes = append(c.Recipes, slices.Clone(r))
	}
	return c
}

func samePlan(a impl.Plan, b impl.Plan) bool {
	return sameGraph(a.Graph, b.Graph) && slices.Equal(a.Source, b.Source) && slices.EqualFunc(a.Recipes, b.Recipes, slices.Equal)
}

// layered has two sources, two tasks over these, one over both of them, and one over nothing.
func layered() impl.Plan {
	return planOf(
		graphOf([]int{5, 1, 0, 3, 2, 4}, map[int][]int{2: {0}, 3: {0, 1}, 4: {2, 3}}),
		[]int{0, 1},
		map[int][]impl.Op{
			2: recipe(cat(0), bare(impl.OpUpper)),
			3: recipe(cat(1), textOp("-"), cat(0)),
			4: recipe(cat(0), textOp("+"), cat(1)),
			5: recipe(textOp("z")),
		})
}

// broken has MaxTasks tasks, of which 1 and 7 fail.
func broken() impl.Plan {
	return planOf(
		graphOf([]int{7, 0, 4, 1, 9, 8, 2, 3, 6, 5}, map[int][]int{1: {0}, 2: {1}, 3: {2}, 4: {0}, 5: {1, 3, 4}, 6: {3, 4}, 8: {4, 7}, 9: {0, 4}}),
		[]int{0},
		map[int][]impl.Op{
			1: recipe(cat(0), bare(impl.OpFail)),
			3: recipe(bare(impl.OpFail)),
			4: recipe(cat(0), bare(impl.OpCount)),
			5: recipe(cat(2)),
			7: recipe(bare(impl.OpFail), textOp("a")),
			9: recipe(cat(0), cat(1)),
		})
}

func brokenResults() []impl.Result {
	return results(okay("abc"), failed(), blocked(), blocked(), okay("3"), blocked(), blocked(), failed(), blocked(), okay("abc3"))
}

func bodyOfBroken() []string {
	return append([]string{"abc"}, make([]string, 9)...)
}

func oneSource() impl.Plan { return planOf(alone(), []int{0}, nil) }

// oneTask has a task that is no source and needs none.
func oneTask(r ...impl.Op) impl.Plan { return planOf(alone(), nil, map[int][]impl.Op{0: r}) }

// over is a task over a source.
func over(r ...impl.Op) impl.Plan {
	return planOf(graphOf([]int{0, 1}, map[int][]int{1: {0}}), []int{0}, map[int][]impl.Op{1: r})
}

// atAll gives the plan with no source and a recipe at all tasks.
func atAll(g impl.Graph, r ...impl.Op) impl.Plan {
	p := planOf(g, nil, nil)
	for task := range p.Recipes {
		p.Recipes[task] = r
	}
	return p
}

// drawer draws the same numbers each time.
type drawer struct{ state uint64 }

func newDrawer() *drawer { return &drawer{state: 88172645463325252} }

func (d *drawer) below(n int) int {
	d.state = nextDrawn(d.state)
	return int(d.state>>33) % n
}

func (d *drawer) recipeFor(ins int) []impl.Op {
	ops := goodOpsFor(ins)
	var r []impl.Op
	for range d.below(5) {
		if ins > 0 && d.below(2) == 0 {
			r = append(r, cat(d.below(ins)))
		} else {
			r = append(r, ops[d.below(len(ops))])
		}
	}
	return r
}

// planOver gives a good plan over the graph; about half of what needs nothing is a source.
func (d *drawer) planOver(g impl.Graph) impl.Plan {
	p := planOf(g, nil, nil)
	for task, needs := range g.Needs {
		if len(needs) == 0 && d.below(2) == 0 {
			p.Source[task] = true
		} else {
			p.Recipes[task] = d.recipeFor(len(needs))
		}
	}
	return p
}

func (d *drawer) bodiesFor(p impl.Plan) []string {
	texts := []string{"", "a", "zB9 ", "\xff\x00", textOfBytes(15), textOfBytes(impl.MaxOut)}
	bodies := make([]string, len(p.Source))
	for task, isSource := range p.Source {
		if isSource {
			bodies[task] = texts[d.below(len(texts))]
		}
	}
	return bodies
}

// resultsFor need not be what a build comes to.
func (d *drawer) resultsFor(p impl.Plan) []impl.Result {
	texts := []string{"", "b", "yC8", textOfBytes(impl.MaxOut)}
	l := make([]impl.Result, len(p.Source))
	for task := range l {
		switch d.below(6) {
		case 0:
			l[task] = failed()
		case 1:
			l[task] = blocked()
		default:
			l[task] = okay(texts[d.below(len(texts))])
		}
	}
	return l
}

// eachPlan goes over plans of all small graphs and of greater ones that are drawn.
func eachPlan(check func(d *drawer, p impl.Plan)) {
	d := newDrawer()
	for range 3 {
		for _, g := range goodGraphs() {
			check(d, d.planOver(g))
		}
	}
}

// builtByHand says, apart from the program and from the Order, what becomes of a task.
func builtByHand(p impl.Plan, bodies []string, task int) impl.Result {
	if p.Source[task] {
		return okay(bodies[task])
	}
	var ins []string
	isBlocked := false
	for _, need := range p.Graph.Needs[task] {
		under := builtByHand(p, bodies, need)
		isBlocked = isBlocked || under.State != impl.StOk
		ins = append(ins, under.Body)
	}
	return madeOn(p.Recipes[task], ins, isBlocked)
}

func madeOn(r []impl.Op, ins []string, isBlocked bool) impl.Result {
	text, did := runByHand(r, ins)
	switch {
	case isBlocked:
		return blocked()
	case !did:
		return failed()
	}
	return okay(text)
}

// madeByHand says what is made of a task where these are the results ahead of it.
func madeByHand(p impl.Plan, done []impl.Result, task int) impl.Result {
	_, isBlocked := blockedByHand(p, done, task)
	return madeOn(p.Recipes[task], inputsByHand(p, done, task), isBlocked)
}

func inputsByHand(p impl.Plan, l []impl.Result, task int) []string {
	var ins []string
	for need := range l {
		if slices.Contains(p.Graph.Needs[task], need) {
			ins = append(ins, l[need].Body)
		}
	}
	return ins
}

func blockedByHand(p impl.Plan, l []impl.Result, task int) (int, bool) {
	by := slices.IndexFunc(p.Graph.Needs[task], func(need int) bool { return l[need].State != impl.StOk })
	if by < 0 {
		return 0, false
	}
	return p.Graph.Needs[task][by], true
}

// badPlans are refused by each function that takes a plan.
func badPlans() map[string]impl.Plan {
	plans := map[string]impl.Plan{
		"nothing":                            {},
		"no task, empty lists":               {Graph: impl.Graph{Needs: [][]int{}, Order: []int{}}, Source: []bool{}, Recipes: [][]impl.Op{}},
		"no Source":                          {Graph: alone(), Recipes: [][]impl.Op{nil}},
		"no Recipes":                         {Graph: alone(), Source: []bool{true}},
		"no Source and no Recipes":           {Graph: alone()},
		"a source, no graph":                 {Source: []bool{true}, Recipes: [][]impl.Op{nil}},
		"a source needs another":             planOf(graphOf([]int{0, 1}, map[int][]int{1: {0}}), []int{0, 1}, nil),
		"a source needs a task":              planOf(graphOf([]int{1, 0}, map[int][]int{0: {1}}), []int{0}, map[int][]impl.Op{1: recipe(textOp("a"))}),
		"the last one, a source, needs all":  planOf(everyNeed(), []int{0, 9}, nil),
		"a source with a text":               planOf(alone(), []int{0}, map[int][]impl.Op{0: recipe(textOp("a"))}),
		"a source with an empty text":        planOf(alone(), []int{0}, map[int][]impl.Op{0: recipe(textOp(""))}),
		"a source that fails":                planOf(graphOf(ordered(3), nil), []int{0, 2}, map[int][]impl.Op{2: recipe(bare(impl.OpFail))}),
		"a source with a recipe of no kind":  planOf(alone(), []int{0}, map[int][]impl.Op{0: recipe(bare(0))}),
		"a source needs, and has a recipe":   planOf(graphOf([]int{0, 1}, map[int][]int{1: {0}}), []int{1}, map[int][]impl.Op{1: recipe(cat(0))}),
		"reads one, needs none":              oneTask(cat(0)),
		"reads the second, needs one":        over(cat(1)),
		"reads the third, needs two":         planOf(graphOf([]int{2, 1, 0}, map[int][]int{0: {1, 2}}), []int{1, 2}, map[int][]impl.Op{0: recipe(cat(0), cat(1), cat(2))}),
		"reads by the number of the task":    planOf(graphOf([]int{0, 1, 2}, map[int][]int{1: {0}, 2: {1}}), []int{0}, map[int][]impl.Op{2: recipe(cat(1))}),
		"reads the tenth, needs nine":        planOf(everyNeed(), []int{0}, map[int][]impl.Op{9: recipe(cat(9))}),
		"MaxTasks and one more":              planOf(graphOf(ordered(11), nil), []int{0}, nil),
		"good lists under a round of needs":  planOf(graphOf([]int{0, 1}, map[int][]int{0: {1}, 1: {0}}), nil, nil),
		"the last recipe of several is bad":  planOf(graphOf(ordered(4), nil), []int{0, 1}, map[int][]impl.Op{3: recipe(cat(0))}),
		"the first recipe of several is bad": planOf(graphOf([]int{3, 2, 1, 0}, nil), []int{1, 2}, map[int][]impl.Op{0: recipe(bare(8))}),
	}
	for what, g := range badGraphs() {
		plans[what] = planOf(g, nil, nil)
		plans[what+", by the Order"] = impl.Plan{Graph: g, Source: make([]bool, len(g.Order)), Recipes: make([][]impl.Op, len(g.Order))}
	}
	for what, p := range map[string]impl.Plan{"layered": layered(), "broken": broken(), "one source": oneSource(), "one task": oneTask()} {
		for name, unlike := range unlikePlans(p) {
			plans[what+", "+name] = unlike
		}
	}
	return plans
}

// unlikePlans are plans in which one list is too short or too long.
func unlikePlans(p impl.Plan) map[string]impl.Plan {
	last := len(p.Source) - 1
	with := func(change func(*impl.Plan)) impl.Plan {
		c := clonePlan(p)
		change(&c)
		return c
	}
	return map[string]impl.Plan{
		"a Source mark too few":  with(func(c *impl.Plan) { c.Source = c.Source[:last] }),
		"a Source mark too many": with(func(c *impl.Plan) { c.Source = append(c.Source, false) }),
		"a source too many":      with(func(c *impl.Plan) { c.Source = append(c.Source, true) }),
		"a recipe too few":       with(func(c *impl.Plan) { c.Recipes = c.Recipes[:last] }),
		"a recipe too many":      with(func(c *impl.Plan) { c.Recipes = append(c.Recipes, nil) }),
		"both too few":           with(func(c *impl.Plan) { c.Source, c.Recipes = c.Source[:last], c.Recipes[:last] }),
		"both too many":          with(func(c *impl.Plan) { c.Source, c.Recipes = append(c.Source, false), append(c.Recipes, nil) }),
		"no Source":              with(func(c *impl.Plan) { c.Source = nil }),
		"no Recipes":             with(func(c *impl.Plan) { c.Recipes = nil }),
		"very many marks":        with(func(c *impl.Plan) { c.Source = make([]bool, 100000) }),
		"very many recipes":      with(func(c *impl.Plan) { c.Recipes = make([][]impl.Op, 100000) }),
	}
}

// badBodyLists are refused of layered.
func badBodyLists() map[string][]string {
	long := textOfBytes(impl.MaxOut + 1)
	return map[string][]string{
		"none":                         nil,
		"one":                          {"a"},
		"of the sources alone":         {"a", "b"},
		"one too few":                  {"a", "b", "", "", ""},
		"one too many":                 {"a", "b", "", "", "", "", ""},
		"MaxTasks":                     make([]string, impl.MaxTasks),
		"very many":                    make([]string, 100000),
		"one byte too long":            {long, "b", "", "", "", ""},
		"one byte too long, the other": {"a", long, "", "", "", ""},
		"very long":                    {"a", textOfBytes(100000), "", "", "", ""},
		"too long by bytes":            {strings.Repeat("é", impl.MaxOut/2+1), "b", "", "", "", ""},
		"not empty, a task":            {"a", "b", "c", "", "", ""},
		"not empty, the task over all": {"a", "b", "", "", "AB", ""},
		"not empty, it needs nothing":  {"a", "b", "", "", "", "z"},
		"not empty, a byte 0":          {"a", "b", "", "\x00", "", ""},
		"too long, a task":             {"a", "b", "", "", "", long},
	}
}

// badResults are no results, wherever they stand.
func badResults() map[string]impl.Result {
	return map[string]impl.Result{
		"one byte too long":          okay(textOfBytes(impl.MaxOut + 1)),
		"very long":                  okay(textOfBytes(100000)),
		"too long by bytes":          okay(strings.Repeat("é", impl.MaxOut/2+1)),
		"failed, with a Body":        {Body: "a", State: impl.StFailed},
		"blocked, with a Body":       {Body: "\x00", State: impl.StBlocked},
		"failed, with a long Body":   {Body: textOfBytes(impl.MaxOut + 1), State: impl.StFailed},
		"State below StOk":           {State: -1},
		"State above StBlocked":      {State: impl.StBlocked + 1},
		"below StOk, with a Body":    {Body: "a", State: -1},
		"above, with a Body":         {Body: "a", State: 3},
		"a great State":              {State: 1 << 62},
		"the least State":            {State: -1 << 63},
		"the greatest State":         {State: 1<<63 - 1},
		"StFailed in the low bits":   {State: 256 + impl.StFailed},
		"StOk in the low bits":       {State: 1 << 32},
		"StBlocked in the low bits":  {State: 1<<32 + impl.StBlocked},
		"StOk in the low bits, Body": {Body: "a", State: 256},
	}
}

// badResultLists are refused of that many tasks.
func badResultLists(tasks int) map[string][]impl.Result {
	lists := map[string][]impl.Result{
		"none":             nil,
		"one too few":      make([]impl.Result, tasks-1),
		"one too many":     make([]impl.Result, tasks+1),
		"one too many, ok": append(make([]impl.Result, tasks), okay("a")),
		"MaxTasks and one": make([]impl.Result, impl.MaxTasks+1),
		"very many":        make([]impl.Result, 100000),
	}
	for what, bad := range badResults() {
		for _, place := range []int{0, tasks / 2, tasks - 1} {
			l := make([]impl.Result, tasks)
			for task := range l {
				l[task] = blocked()
			}
			l[place] = bad
			lists[fmt.Sprint(what, ", at ", place)] = l
		}
	}
	return lists
}

func checkGoodPlan(t *testing.T, what string, p impl.Plan) {
	t.Helper()
	if !impl.GoodPlan(p) {
		t.Fatalf("%s: the case is not good: %v", what, p)
	}
}

func checkMade(t *testing.T, cases []madeCase) {
	t.Helper()
	for _, c := range cases {
		checkGoodPlan(t, c.what, c.p)
		if got, ok := impl.MakeOne(c.p, c.done, c.task); got != c.want || !ok {
			t.Errorf("%s: MakeOne of %d: %v, %v; want %v", c.what, c.task, got, ok, c.want)
		}
	}
}

func checkInputs(t *testing.T, what string, p impl.Plan, l []impl.Result, task int, want []string) {
	t.Helper()
	if got, ok := impl.InputsOf(p, l, task); !slices.Equal(got, want) || !ok {
		t.Errorf("%s: InputsOf %d: %v, %v; want %v", what, task, got, ok, want)
	}
}

func checkFailed(t *testing.T, what string, l []impl.Result, want []int) {
	t.Helper()
	if got, ok := impl.FailedIn(l); !slices.Equal(got, want) || !ok {
		t.Errorf("%s: FailedIn %v: %v, %v; want %v", what, l, got, ok, want)
	}
}

func checkNotBlocked(t *testing.T, what string, p impl.Plan, l []impl.Result, task int) {
	t.Helper()
	if got, ok := impl.BlockedBy(p, l, task); got != 0 || ok {
		t.Errorf("%s: BlockedBy of %v, %d: %d, %v", what, l, task, got, ok)
	}
}

func TestStates(t *testing.T) {
	if impl.StOk != 0 || impl.StFailed != 1 || impl.StBlocked != 2 {
		t.Error(impl.StOk, impl.StFailed, impl.StBlocked)
	}
}

func TestGoodPlan(t *testing.T) {
	most := timesOp(bare(impl.OpUpper), impl.MaxOps)
	good := map[string]impl.Plan{
		"layered":                        layered(),
		"broken":                         broken(),
		"one source":                     oneSource(),
		"one source, an empty recipe":    planOf(alone(), []int{0}, map[int][]impl.Op{0: {}}),
		"one task, an empty recipe":      oneTask(),
		"one task, a text":               oneTask(textOp("a")),
		"one task, MaxOps":               oneTask(most...),
		"over a source":                  over(cat(0)),
		"over a source, empty":           over(),
		"over a source, not read":        over(textOp("a")),
		"MaxTasks sources":               planOf(graphOf(ordered(10), nil), ordered(10), nil),
		"MaxTasks, no source":            planOf(graphOf(ordered(10), nil), nil, nil),
		"MaxTasks, a chain":              planOf(longChain(), []int{9}, nil),
		"MaxTasks, the ninth need":       planOf(everyNeed(), []int{0}, map[int][]impl.Op{9: recipe(cat(8))}),
		"needs, but no source":           atAll(longChain(), textOp("a")),
		"the Order does not rise":        planOf(chained(), []int{3}, map[int][]impl.Op{2: recipe(cat(0))}),
		"recipes for unlike many":        planOf(graphOf([]int{2, 1, 0}, map[int][]int{0: {1, 2}}), []int{1, 2}, map[int][]impl.Op{0: recipe(cat(0), cat(1))}),
		"all fail":                       atAll(everyNeed(), bare(impl.OpFail)),
		"a source that none needs":       planOf(graphOf(ordered(3), nil), []int{1}, nil),
		"the last one alone is a source": planOf(graphOf(ordered(10), nil), []int{9}, map[int][]impl.Op{8: most}),
	}
	for what, p := range good {
		if !impl.GoodPlan(p) {
			t.Errorf("%s: %v is not good", what, p)
		}
	}
	for what, p := range badPlans() {
		if impl.GoodPlan(p) {
			t.Errorf("%s: %v is good", what, p)
		}
	}
	eachPlan(func(_ *drawer, p impl.Plan) {
		if !impl.GoodPlan(p) {
			t.Fatalf("%v is not good", p)
		}
	})
}

// A task's recipe is good in a plan just where it is good for as many inputs as the task needs.
func TestGoodPlanRecipes(t *testing.T) {
	for ins := range impl.MaxTasks {
		for _, op := range goodOpsFor(ins) {
			if p := planOf(everyNeed(), nil, map[int][]impl.Op{ins: recipe(op)}); !impl.GoodPlan(p) {
				t.Errorf("%v for %d inputs is not good", op, ins)
			}
		}
		for what, r := range badRecipesFor(ins) {
			if p := planOf(everyNeed(), nil, map[int][]impl.Op{ins: r}); impl.GoodPlan(p) {
				t.Errorf("for %d inputs %s is good", ins, what)
			}
		}
	}
}

// Of all marks over a graph just those are good that mark nothing that needs.
func TestGoodPlanMarks(t *testing.T) {
	for _, g := range smallGraphs(4) {
		for set := range uint64(1) << len(g.Needs) {
			sources := risingOf(len(g.Needs), set)
			want := !slices.ContainsFunc(sources, func(task int) bool { return len(g.Needs[task]) > 0 })
			if got := impl.GoodPlan(planOf(g, sources, nil)); got != want {
				t.Fatalf("%v, sources %v: %v; want %v", g, sources, got, want)
			}
		}
	}
}

func TestGoodSources(t *testing.T) {
	most := textOfBytes(impl.MaxOut)
	for what, bodies := range map[string][]string{
		"ordinary":    {"a", "b", "", "", "", ""},
		"all empty":   make([]string, 6),
		"the first":   {"a", "", "", "", "", ""},
		"MaxOut":      {most, most, "", "", "", ""},
		"other bytes": {"\xff\x00", "\n", "", "", "", ""},
	} {
		if !impl.GoodSources(layered(), bodies) {
			t.Errorf("%s: %v is not good", what, bodies)
		}
	}
	for what, bodies := range badBodyLists() {
		if impl.GoodSources(layered(), bodies) {
			t.Errorf("%s: %v is good", what, bodies)
		}
	}
	for _, c := range []struct {
		p    impl.Plan
		l    []string
		want bool
	}{
		{oneSource(), []string{"a"}, true},
		{oneSource(), []string{""}, true},
		{oneSource(), []string{most}, true},
		{oneSource(), []string{most + "x"}, false},
		{oneSource(), nil, false},
		{oneSource(), []string{"a", ""}, false},
		{oneTask(), []string{""}, true},
		{oneTask(), []string{"a"}, false},
		{oneTask(), nil, false},
		{planOf(graphOf(ordered(10), nil), ordered(10), nil), inputs(10), true},
		{planOf(graphOf(ordered(10), nil), ordered(9), nil), inputs(10), false},
		{planOf(graphOf(ordered(10), nil), ordered(10), nil), inputs(11), false},
		{broken(), bodyOfBroken(), true},
	} {
		if got := impl.GoodSources(c.p, c.l); got != c.want {
			t.Errorf("GoodSources of %v, %v: %v; want %v", c.p, c.l, got, c.want)
		}
	}
}

func TestBuildAll(t *testing.T) {
	most := textOfBytes(impl.MaxOut)
	for _, c := range []builtCase{
		{"layers, the Order does not rise", layered(), []string{"ab", "cd", "", "", "", ""},
			results(okay("ab"), okay("cd"), okay("AB"), okay("cd-ab"), okay("AB+cd-ab"), okay("z"))},
		{"layers of empty bodies", layered(), make([]string, 6),
			results(okay(""), okay(""), okay(""), okay("-"), okay("+-"), okay("z"))},
		{"what fails, and what that blocks", broken(), bodyOfBroken(), brokenResults()},
		{"one source", oneSource(), []string{"a"}, results(okay("a"))},
		{"one source, empty", oneSource(), []string{""}, results(okay(""))},
		{"one source, MaxOut", oneSource(), []string{most}, results(okay(most))},
		{"one task, empty", oneTask(), []string{""}, results(okay(""))},
		{"one task, a text", oneTask(textOp("a"), bare(impl.OpUpper)), []string{""}, results(okay("A"))},
		{"one task, it fails", oneTask(textOp("a"), bare(impl.OpFail)), []string{""}, results(failed())},
		{"an empty recipe over a source", over(), []string{"a", ""}, results(okay("a"), okay(""))},
		{"MaxOut bytes, as they are", over(cat(0)), []string{most, ""}, results(okay(most), okay(most))},
		{"one byte more", over(cat(0), textOp("y")), []string{most, ""}, results(okay(most), failed())},
		{"too long on the way, then dropped", over(cat(0), textOp("y"), dropOp(1)), []string{most, ""}, results(okay(most), failed())},
		{"too long on the way, then counted", over(cat(0), cat(0), bare(impl.OpCount)), []string{most, ""}, results(okay(most), failed())},
		{"MaxTasks, all fail that can", atAll(everyNeed(), bare(impl.OpFail)), make([]string, 10),
			append(results(failed()), slices.Repeat(results(blocked()), 9)...)},
		{"MaxTasks, apart, all fail", atAll(graphOf(ordered(10), nil), bare(impl.OpFail)), make([]string, 10), slices.Repeat(results(failed()), 10)},
		{"MaxTasks, all sources", planOf(graphOf([]int{9, 1, 2, 3, 4, 5, 6, 7, 8, 0}, nil), ordered(10), nil), inputs(10),
			results(okay("i0"), okay("i1"), okay("i2"), okay("i3"), okay("i4"), okay("i5"), okay("i6"), okay("i7"), okay("i8"), okay("i9"))},
	} {
		checkGoodPlan(t, c.what, c.p)
		if got, ok := impl.BuildAll(c.p, c.bodies); !slices.Equal(got, c.want) || !ok {
			t.Errorf("%s: BuildAll: %v, %v; want %v", c.what, got, ok, c.want)
		}
	}
}

// Each task of a chain doubles what is under it, until that is too long.
func TestBuildAllGrows(t *testing.T) {
	p := planOf(longChain(), []int{9}, nil)
	for task := range 9 {
		p.Recipes[task] = recipe(cat(0), cat(0))
	}
	for length, want := range map[int][]int{5: {5, 10, 20, 40, -1}, 6: {6, 12, 24, -1}, 20: {20, 40, -1}, 21: {21, -1}, 0: {0, 0, 0, 0, 0, 0, 0, 0, 0, 0}} {
		bodies := make([]string, 10)
		bodies[9] = textOfBytes(length)
		l, ok := impl.BuildAll(p, bodies)
		for up := range 10 {
			here := blocked()
			if up < len(want) && want[up] >= 0 {
				here = okay(textOfBytes(want[up]))
			} else if up < len(want) {
				here = failed()
			}
			if !ok || l[9-up] != here {
				t.Errorf("%d bytes: %v, %v; want %v at %d", length, l, ok, here, 9-up)
			}
		}
	}
}

func TestBuildAllRefuses(t *testing.T) {
	funcs := map[string]func(buildArgs) buildAnswer{"BuildAll": buildFuncs()["BuildAll"], "GoodSources": buildFuncs()["GoodSources"]}
	for what, bodies := range badBodyLists() {
		checkZeroBuild(t, what, funcs, buildArgs{p: layered(), bodies: bodies})
	}
	for what, p := range badPlans() {
		for _, tasks := range []int{0, 1, 6, len(p.Graph.Needs), len(p.Source), len(p.Recipes)} {
			checkZeroBuild(t, what, funcs, buildArgs{p: p, bodies: make([]string, tasks)})
		}
	}
	checkZeroBuild(t, "no bodies of one source", funcs, buildArgs{p: oneSource()})
	checkZeroBuild(t, "a body of one task", funcs, buildArgs{p: oneTask(), bodies: []string{"a"}})
	checkZeroBuild(t, "a body of a blocked one", funcs, buildArgs{p: broken(), bodies: append([]string{"a", "", "b"}, make([]string, 7)...)})
}

func TestMakeOne(t *testing.T) {
	most := textOfBytes(impl.MaxOut)
	done := results(okay("ab"), okay("cd"), okay("EF"), okay("gh"), okay("unlike"), okay("unlike"))
	checkMade(t, []madeCase{
		{"of what it needs alone", layered(), done, 2, okay("AB")},
		{"of two", layered(), done, 3, okay("cd-ab")},
		{"of what is told, whether or not that is built so", layered(), done, 4, okay("EF+gh")},
		{"of nothing", layered(), done, 5, okay("z")},
		{"its own result does not count", layered(), results(okay("ab"), okay(""), blocked(), failed(), failed(), failed()), 2, okay("AB")},
		{"its own result does not count, nothing needed", layered(), slices.Repeat(results(blocked()), 6), 5, okay("z")},
		{"the one it needs failed", layered(), results(failed(), okay(""), okay("a"), okay("a"), okay("a"), okay("a")), 2, blocked()},
		{"the one it needs is blocked", layered(), results(blocked(), okay(""), okay("a"), okay("a"), okay("a"), okay("a")), 2, blocked()},
		{"the first of two failed", layered(), results(okay(""), okay(""), failed(), okay("a"), okay("a"), okay("a")), 4, blocked()},
		{"the second of two is blocked", layered(), results(okay(""), okay(""), okay("a"), blocked(), okay("a"), okay("a")), 4, blocked()},
		{"what its needs need does not count", layered(), results(failed(), blocked(), okay("a"), okay("b"), okay(""), okay("")), 4, okay("a+b")},
		{"fails", over(bare(impl.OpFail)), results(okay("a"), okay("")), 1, failed()},
		{"fails behind a text", over(cat(0), bare(impl.OpFail)), results(okay("a"), okay("b")), 1, failed()},
		{"would fail, but is blocked", over(bare(impl.OpFail)), results(failed(), okay("")), 1, blocked()},
		{"reads none, but is blocked", over(textOp("a")), results(failed(), okay("")), 1, blocked()},
		{"an empty recipe, but is blocked", over(), results(blocked(), okay("")), 1, blocked()},
		{"an empty recipe", over(), results(okay("a"), okay("b")), 1, okay("")},
		{"MaxOut", over(cat(0)), results(okay(most), okay("")), 1, okay(most)},
		{"one more", over(textOp("y"), cat(0)), results(okay(most), okay("")), 1, failed()},
		{"too long on the way", over(textOp("y"), cat(0), dropOp(40)), results(okay(most), okay("")), 1, failed()},
		{"one task", oneTask(textOp("ab"), dropOp(1)), results(okay("")), 0, okay("b")},
		{"one task that failed", oneTask(textOp("a")), results(failed()), 0, okay("a")},
		{"one task fails", oneTask(bare(impl.OpFail)), results(okay("a")), 0, failed()},
		{"the Order does not rise", planOf(chained(), []int{3}, map[int][]impl.Op{1: recipe(cat(0), textOp("!"))}), results(failed(), blocked(), failed(), okay("a")), 1, okay("a!")},
		{"MaxTasks, the last need", planOf(everyNeed(), []int{0}, map[int][]impl.Op{9: recipe(cat(8), cat(0))}),
			results(okay("i0"), okay(""), okay(""), okay(""), okay(""), okay(""), okay(""), okay(""), okay("i8"), okay("")), 9, okay("i8i0")},
	})
}

func TestMakeOneOfSources(t *testing.T) {
	for _, l := range [][]impl.Result{brokenResults(), slices.Repeat(results(blocked()), 10), slices.Repeat(results(okay("a")), 10)} {
		if made, ok := impl.MakeOne(broken(), l, 0); made != (impl.Result{}) || ok {
			t.Errorf("MakeOne of a source: %v, %v", made, ok)
		}
	}
	if made, ok := impl.MakeOne(oneSource(), results(okay("a")), 0); made != (impl.Result{}) || ok {
		t.Errorf("MakeOne of the only source: %v, %v", made, ok)
	}
}

func TestFailedIn(t *testing.T) {
	most := okay(textOfBytes(impl.MaxOut))
	checkFailed(t, "none", nil, nil)
	checkFailed(t, "none, an empty list", results(), nil)
	checkFailed(t, "one, ok", results(okay("a")), nil)
	checkFailed(t, "one, failed", results(failed()), []int{0})
	checkFailed(t, "one, blocked", results(blocked()), nil)
	checkFailed(t, "several", brokenResults(), []int{1, 7})
	checkFailed(t, "both ends", results(failed(), okay(""), blocked(), failed()), []int{0, 3})
	checkFailed(t, "MaxOut", results(most, failed(), most), []int{1})
	checkFailed(t, "MaxTasks, all failed", slices.Repeat(results(failed()), impl.MaxTasks), ordered(impl.MaxTasks))
	checkFailed(t, "MaxTasks, none failed", slices.Repeat(results(okay("a"), blocked()), impl.MaxTasks/2), nil)
	for tasks := range impl.MaxTasks + 1 {
		checkFailed(t, "all failed", slices.Repeat(results(failed()), tasks), ordered(tasks))
	}
}

// Of all lists of up to four States just the numbers of those that failed are told.
func TestFailedInAll(t *testing.T) {
	for tasks := range 5 {
		for _, l := range statesOf(tasks) {
			var want []int
			for task := range l {
				if l[task] == failed() {
					want = append(want, task)
				}
			}
			checkFailed(t, "states", l, want)
		}
	}
}

// statesOf are all results of that many tasks, each of which that is well has a Body of its own.
func statesOf(tasks int) [][]impl.Result {
	all := [][]impl.Result{nil}
	for task := range tasks {
		var longer [][]impl.Result
		for _, l := range all {
			for _, r := range results(okay(fmt.Sprint("b", task)), failed(), blocked()) {
				longer = append(longer, append(slices.Clone(l), r))
			}
		}
		all = longer
	}
	return all
}

func TestFailedInRefuses(t *testing.T) {
	for _, tasks := range []int{impl.MaxTasks + 1, impl.MaxTasks + 2, 256, 100000} {
		for _, r := range results(okay(""), okay("a"), failed(), blocked()) {
			if got, ok := impl.FailedIn(slices.Repeat(results(r), tasks)); len(got) != 0 || ok {
				t.Errorf("FailedIn of %d: %v, %v", tasks, got, ok)
			}
		}
	}
	for what, bad := range badResults() {
		for place := range impl.MaxTasks {
			l := slices.Repeat(results(failed()), impl.MaxTasks)
			l[place] = bad
			for _, some := range [][]impl.Result{l, l[:place+1], l[place:]} {
				if got, ok := impl.FailedIn(some); len(got) != 0 || ok {
					t.Errorf("%s: FailedIn of %d, at %d: %v, %v", what, len(some), place, got, ok)
				}
			}
		}
	}
}

func TestBlockedBy(t *testing.T) {
	two := planOf(graphOf([]int{3, 2, 1, 0}, map[int][]int{0: {1, 2, 3}}), nil, nil)
	for _, c := range []blockedCase{
		{"by a failed one", broken(), brokenResults(), 2, 1},
		{"by a blocked one", broken(), brokenResults(), 3, 2},
		{"by several, the first one failed", broken(), brokenResults(), 5, 1},
		{"by the first, which is blocked", broken(), brokenResults(), 6, 3},
		{"by the second, as the first is well", broken(), brokenResults(), 8, 7},
		{"by 0", over(), results(failed(), blocked()), 1, 0},
		{"by 0, blocked", over(), results(blocked(), blocked()), 1, 0},
		{"a blocked one ahead of a failed one", two, results(blocked(), blocked(), failed(), failed()), 0, 1},
		{"a failed one ahead of a blocked one", two, results(blocked(), failed(), blocked(), okay("")), 0, 1},
		{"the first is well", two, results(blocked(), okay("a"), blocked(), failed()), 0, 2},
		{"the last alone", two, results(blocked(), okay("a"), okay("a"), failed()), 0, 3},
		{"MaxTasks, by the last need", planOf(everyNeed(), []int{0}, nil),
			append(append(slices.Repeat(results(okay("a")), 8), failed()), blocked()), 9, 8},
		{"by a source that is told to have failed", layered(), results(failed(), okay(""), blocked(), blocked(), blocked(), okay("")), 3, 0},
	} {
		checkGoodPlan(t, c.what, c.p)
		if got, ok := impl.BlockedBy(c.p, c.l, c.task); got != c.want || !ok {
			t.Errorf("%s: BlockedBy of %v, %d: %d, %v; want %d", c.what, c.l, c.task, got, ok, c.want)
		}
	}
}

func TestBlockedByNone(t *testing.T) {
	for _, task := range []int{0, 1, 4, 7, 9} {
		checkNotBlocked(t, "not blocked", broken(), brokenResults(), task)
	}
	checkNotBlocked(t, "blocked, all needs are well", over(), results(okay("a"), blocked()), 1)
	checkNotBlocked(t, "blocked, all three are well", layered(), results(okay("a"), okay("a"), okay("a"), okay("a"), blocked(), failed()), 4)
	checkNotBlocked(t, "blocked, and what its needs need failed", layered(), results(failed(), blocked(), okay("a"), okay("a"), blocked(), okay("")), 4)
	checkNotBlocked(t, "blocked, it needs nothing", oneTask(), results(blocked()), 0)
	checkNotBlocked(t, "blocked, a source", oneSource(), results(blocked()), 0)
	checkNotBlocked(t, "failed, its need failed", over(), results(failed(), failed()), 1)
	checkNotBlocked(t, "well, its need failed", over(), results(failed(), okay("a")), 1)
	checkNotBlocked(t, "well and empty, its need is blocked", over(), results(blocked(), okay("")), 1)
	checkNotBlocked(t, "the one that needs it is blocked", over(), results(blocked(), blocked()), 0)
}

func TestInputsOf(t *testing.T) {
	l := results(okay("ab"), okay("cd"), okay("EF"), failed(), okay("x"), blocked())
	checkInputs(t, "one", layered(), l, 2, []string{"ab"})
	checkInputs(t, "two", layered(), l, 3, []string{"ab", "cd"})
	checkInputs(t, "one of them failed", layered(), l, 4, []string{"EF", ""})
	checkInputs(t, "none", layered(), l, 5, nil)
	checkInputs(t, "a source", layered(), l, 0, nil)
	checkInputs(t, "the only source", oneSource(), results(okay("a")), 0, nil)
	checkInputs(t, "the only task", oneTask(), results(okay("a")), 0, nil)
	checkInputs(t, "MaxOut", over(), results(okay(textOfBytes(impl.MaxOut)), okay("b")), 1, []string{textOfBytes(impl.MaxOut)})
	checkInputs(t, "blocked", broken(), brokenResults(), 5, []string{"", "", "3"})
	checkInputs(t, "the only one it needs failed", broken(), brokenResults(), 2, []string{""})
	checkInputs(t, "rising, though the Order is not", planOf(graphOf([]int{3, 2, 1, 0}, map[int][]int{0: {1, 2, 3}}), nil, nil),
		results(okay("a"), okay("b"), okay("c"), okay("d")), 0, []string{"b", "c", "d"})
	checkInputs(t, "alike", planOf(graphOf(ordered(3), map[int][]int{2: {0, 1}}), nil, nil), slices.Repeat(results(okay("a")), 3), 2, []string{"a", "a"})
	checkInputs(t, "MaxTasks", planOf(everyNeed(), nil, nil), slices.Repeat(results(okay("a")), 10), 9, slices.Repeat([]string{"a"}, 9))
}

func TestPromise7Built(t *testing.T) {
	met := map[int]int{}
	eachPlan(func(d *drawer, p impl.Plan) {
		bodies := d.bodiesFor(p)
		l, ok := impl.BuildAll(p, bodies)
		if !impl.GoodSources(p, bodies) || len(l) != len(bodies) || !ok {
			t.Fatalf("BuildAll of %v, %v: %v, %v", p, bodies, l, ok)
		}
		for task, r := range l {
			if want := builtByHand(p, bodies, task); r != want {
				t.Fatalf("BuildAll of %v, %v: %v of %d; want %v", p, bodies, r, task, want)
			}
			met[r.State]++
			checkPromise7(t, p, bodies, l, task)
		}
	})
	if met[impl.StOk] < 1000 || met[impl.StFailed] < 1000 || met[impl.StBlocked] < 1000 || len(met) != 3 {
		t.Error("too few of a kind", met)
	}
}

// checkPromise7 holds what a build tells of a task against what the other functions tell of that build.
func checkPromise7(t *testing.T, p impl.Plan, bodies []string, l []impl.Result, task int) {
	t.Helper()
	if p.Source[task] {
		if l[task] != okay(bodies[task]) {
			t.Fatalf("%v: the source %d is %v", p, task, l[task])
		}
		return
	}
	if made, ok := impl.MakeOne(p, l, task); made != l[task] || !ok {
		t.Fatalf("MakeOne of %v, %v, %d: %v, %v", p, l, task, made, ok)
	}
	first := slices.IndexFunc(p.Graph.Needs[task], func(need int) bool { return l[need].State != impl.StOk })
	by, isBlocked := impl.BlockedBy(p, l, task)
	if isBlocked != (first >= 0) || isBlocked != (l[task].State == impl.StBlocked) || isBlocked && by != p.Graph.Needs[task][first] {
		t.Fatalf("BlockedBy of %v, %v, %d: %d, %v", p, l, task, by, isBlocked)
	}
	if isBlocked {
		return
	}
	ins, ok := impl.InputsOf(p, l, task)
	text, did, ran := impl.RunRecipe(p.Recipes[task], ins)
	if !ok || !ran || did && l[task] != okay(text) || !did && l[task] != failed() {
		t.Fatalf("%v, %v: %d is %v; its recipe makes %v, %v of %v", p, bodies, task, l[task], text, did, ins)
	}
}

// Who asks on and on what blocks a task comes to one that failed.
func TestPromise7Failed(t *testing.T) {
	eachPlan(func(d *drawer, p impl.Plan) {
		l, _ := impl.BuildAll(p, d.bodiesFor(p))
		told, ok := impl.FailedIn(l)
		want := tasksWhere(ordered(len(l)), func(task int) bool { return l[task].State == impl.StFailed })
		if !slices.Equal(told, want) || !ok {
			t.Fatalf("FailedIn %v: %v, %v; want %v", l, told, ok, want)
		}
		for task := range l {
			cause := task
			for range l {
				if by, isBlocked := impl.BlockedBy(p, l, cause); isBlocked {
					cause = by
				}
			}
			if l[task].State == impl.StBlocked && !slices.Contains(told, cause) {
				t.Fatalf("%v, %v: %d is blocked by %d in the end", p, l, task, cause)
			}
		}
	})
}

// The Order in which a plan is built is not seen in what it comes to.
func TestPromise7AnyOrder(t *testing.T) {
	d := newDrawer()
	for _, g := range smallGraphs(4) {
		p := d.planOver(g)
		bodies := d.bodiesFor(p)
		want, _ := impl.BuildAll(p, bodies)
		for _, order := range ordersOf(len(g.Needs)) {
			other := clonePlan(p)
			other.Graph.Order = order
			if got, ok := impl.BuildAll(other, bodies); ok && !slices.Equal(got, want) || ok != impl.GoodGraph(other.Graph) {
				t.Fatalf("BuildAll of %v, %v: %v, %v; want %v", other, bodies, got, ok, want)
			}
		}
	}
}

// checkTold holds what is told of any results, built so or not, against the reckoning by hand.
func checkTold(t *testing.T, p impl.Plan, l []impl.Result) {
	t.Helper()
	for task := range l {
		if got, ok := impl.InputsOf(p, l, task); !slices.Equal(got, inputsByHand(p, l, task)) || !ok {
			t.Fatalf("InputsOf %v, %v, %d: %v, %v", p, l, task, got, ok)
		}
		made, ok := impl.MakeOne(p, l, task)
		if ok == p.Source[task] || ok && made != madeByHand(p, l, task) || !ok && made != (impl.Result{}) {
			t.Fatalf("MakeOne of %v, %v, %d: %v, %v", p, l, task, made, ok)
		}
		want, isBlocked := blockedByHand(p, l, task)
		if l[task].State != impl.StBlocked {
			want, isBlocked = 0, false
		}
		if got, ok := impl.BlockedBy(p, l, task); got != want || ok != isBlocked {
			t.Fatalf("BlockedBy of %v, %v, %d: %d, %v; want %d, %v", p, l, task, got, ok, want, isBlocked)
		}
	}
}

func TestPromise7OfAnyResults(t *testing.T) {
	d := newDrawer()
	for _, g := range smallGraphs(3) {
		for range 3 {
			p := d.planOver(g)
			for _, l := range statesOf(len(g.Needs)) {
				checkTold(t, p, l)
			}
		}
	}
	eachPlan(func(d *drawer, p impl.Plan) { checkTold(t, p, d.resultsFor(p)) })
}

func TestBuildRefusesBadPlans(t *testing.T) {
	for what, p := range badPlans() {
		for _, tasks := range []int{0, 1, 6, impl.MaxTasks, len(p.Graph.Needs), len(p.Source), len(p.Recipes)} {
			for _, r := range results(okay(""), blocked()) {
				l := slices.Repeat(results(r), tasks)
				for _, task := range []int{-1, 0, 1, tasks - 1, tasks} {
					checkZeroBuild(t, what, planFuncs(), buildArgs{p: p, bodies: make([]string, tasks), l: l, task: task})
				}
			}
		}
	}
}

func TestBuildRefusesBadResults(t *testing.T) {
	for _, p := range []impl.Plan{layered(), broken(), over(), oneTask(), planOf(everyNeed(), nil, nil)} {
		for what, l := range badResultLists(len(p.Source)) {
			for task := range p.Source {
				checkZeroBuild(t, what, taskFuncs(), buildArgs{p: p, l: l, task: task})
			}
		}
	}
}

func TestBuildRefusesNoTasks(t *testing.T) {
	for _, p := range []impl.Plan{layered(), broken(), over(), oneTask(), oneSource()} {
		for _, r := range results(okay("a"), failed(), blocked()) {
			for _, no := range noTasks(len(p.Source)) {
				checkZeroBuild(t, "no task", taskFuncs(), buildArgs{p: p, l: slices.Repeat(results(r), len(p.Source)), task: no})
			}
		}
	}
}

// roomyPlan gives the plan with something behind the length of each list, and a text of all that lies in these.
func roomyPlan(p impl.Plan) (impl.Plan, func() string) {
	g, wholeGraph := roomyGraph(p.Graph)
	source := append(slices.Clone(p.Source), true, false, true)
	var recipes, wholeRecipes [][]impl.Op
	for _, r := range append(clonePlan(p).Recipes, recipe(bare(99)), recipe(cat(99))) {
		long := append(slices.Clone(r), bare(99), cat(99), bare(impl.OpFail))
		wholeRecipes = append(wholeRecipes, long)
		recipes = append(recipes, long[:len(r)])
	}
	given := impl.Plan{Graph: g, Source: source[:len(p.Source)], Recipes: recipes[:len(p.Recipes)]}
	return given, func() string {
		return fmt.Sprintf("%v %v %v %v %v", wholeGraph, behindNeeds(g), source, wholeRecipes, recipes)
	}
}

func roomyTexts(l []string) ([]string, []string) {
	whole := append(slices.Clone(l), "behind", textOfBytes(impl.MaxOut+1))
	return whole[:len(l)], whole
}

func roomyResults(l []impl.Result) ([]impl.Result, []impl.Result) {
	whole := append(slices.Clone(l), okay("behind"), failed(), impl.Result{State: -1})
	return whole[:len(l)], whole
}

func overwriteAnswer(a buildAnswer) {
	overwriteTasks(a.tasks)
	overwriteNames(a.texts)
	all := a.results[:cap(a.results)]
	for i := range all {
		all[i] = impl.Result{Body: "#", State: 44}
	}
}

// checkBuildMemory wants that nothing behind a length is read, nothing that was given is
// written into, and that what is answered is no part of it.
func checkBuildMemory(t *testing.T, name string, a buildArgs, f func(buildArgs) buildAnswer) {
	t.Helper()
	p, planText := roomyPlan(a.p)
	bodies, wholeBodies := roomyTexts(a.bodies)
	l, wholeResults := roomyResults(a.l)
	before, bodiesBefore, resultsBefore := planText(), slices.Clone(wholeBodies), slices.Clone(wholeResults)
	got := f(buildArgs{p: p, bodies: bodies, l: l, task: a.task})
	if want := f(a); !sameBuildAnswer(got, want) {
		t.Fatalf("%s of %v reads behind a list: %v; want %v", name, a, got, want)
	}
	overwriteAnswer(got)
	if planText() != before || !samePlan(p, a.p) {
		t.Fatalf("%s of %v wrote into the plan, or answers its memory: %s", name, a, planText())
	}
	if !slices.Equal(wholeBodies, bodiesBefore) || !slices.Equal(wholeResults, resultsBefore) {
		t.Fatalf("%s of %v wrote into a list, or answers its memory: %v, %v", name, a, wholeBodies, wholeResults)
	}
}

func TestPromise19BuildStays(t *testing.T) {
	d := newDrawer()
	for _, g := range append(smallGraphs(3), drawnGraphs(60)...) {
		p := d.planOver(g)
		bodies := d.bodiesFor(p)
		built, _ := impl.BuildAll(p, bodies)
		for _, l := range [][]impl.Result{built, d.resultsFor(p), slices.Repeat(results(blocked()), len(built)), built[1:], nil} {
			for task := -1; task <= len(built); task++ {
				for name, f := range buildFuncs() {
					checkBuildMemory(t, name, buildArgs{p: p, bodies: bodies, l: l, task: task}, f)
				}
			}
		}
	}
}

func TestPromise19BuildBadStays(t *testing.T) {
	for what, p := range badPlans() {
		if max(len(p.Graph.Order), len(p.Source), len(p.Recipes)) > impl.MaxTasks+1 {
			continue
		}
		tasks := len(p.Graph.Needs)
		for name, f := range buildFuncs() {
			a := buildArgs{p: p, bodies: make([]string, tasks), l: slices.Repeat(results(blocked()), tasks)}
			checkBuildMemory(t, what+": "+name, a, f)
		}
	}
	for what, bodies := range badBodyLists() {
		for name, f := range buildFuncs() {
			checkBuildMemory(t, what+": "+name, buildArgs{p: layered(), bodies: bodies, l: slices.Repeat(results(okay("a")), 6), task: 4}, f)
		}
	}
	for what, l := range badResultLists(6) {
		for name, f := range buildFuncs() {
			checkBuildMemory(t, what+": "+name, buildArgs{p: layered(), bodies: make([]string, 6), l: l, task: 4}, f)
		}
	}
}

// What is answered by one call is not what the next one answers.
func TestPromise19BuildApart(t *testing.T) {
	for name, f := range buildFuncs() {
		for task := range impl.MaxTasks {
			args := buildArgs{p: broken(), bodies: bodyOfBroken(), l: brokenResults(), task: task}
			one, two := f(args), f(args)
			want := buildAnswer{results: slices.Clone(two.results), made: two.made, tasks: slices.Clone(two.tasks), texts: slices.Clone(two.texts), n: two.n, ok: two.ok}
			overwriteAnswer(one)
			if three := f(args); !sameBuildAnswer(two, want) || !sameBuildAnswer(three, want) {
				t.Errorf("two answers of %s share memory", name)
			}
		}
	}
}

// One recipe, and one list of needs, may be given for several tasks.
func TestPromise19BuildOneListTwice(t *testing.T) {
	all, r := ordered(5), recipe(cat(0), textOp("!"), cat(0))
	g := impl.Graph{Needs: [][]int{all[:0], all[:1], all[:1], all[1:3], all[:0]}, Order: all}
	p := impl.Plan{Graph: g, Source: []bool{true, false, false, false, true}, Recipes: [][]impl.Op{r[:0], r, r, r, r[:0]}}
	want := clonePlan(p)
	got, ok := impl.BuildAll(p, []string{"a", "", "", "", "b"})
	if !slices.Equal(got, results(okay("a"), okay("a!a"), okay("a!a"), okay("a!a!a!a"), okay("b"))) || !ok {
		t.Errorf("BuildAll: %v, %v", got, ok)
	}
	for name, f := range buildFuncs() {
		overwriteAnswer(f(buildArgs{p: p, bodies: make([]string, 5), l: slices.Clone(got), task: 3}))
		if !samePlan(p, want) {
			t.Fatalf("%s: written into: %v; want %v", name, p, want)
		}
	}
}

func TestPromise19NewTextsOfBuilds(t *testing.T) {
	for _, text := range []string{"a", "AB", "0", textOfBytes(impl.MaxOut)} {
		keepsApart(t, "BuildAll, a source", text, func(m string) (string, bool) {
			l, ok := impl.BuildAll(over(cat(0)), []string{m, ""})
			return l[0].Body, ok
		})
		keepsApart(t, "BuildAll, over a source", text, func(m string) (string, bool) {
			l, ok := impl.BuildAll(over(cat(0)), []string{m, ""})
			return l[1].Body, ok
		})
		keepsApart(t, "MakeOne", text, func(m string) (string, bool) {
			made, ok := impl.MakeOne(over(cat(0)), results(okay(m), okay("")), 1)
			return made.Body, ok
		})
		keepsApart(t, "InputsOf", text, func(m string) (string, bool) {
			ins, ok := impl.InputsOf(over(cat(0)), results(okay(m), okay("")), 1)
			return ins[0], ok
		})
	}
	keepsApart(t, "BuildAll, a text of a recipe", "abc", func(m string) (string, bool) {
		l, ok := impl.BuildAll(oneTask(textOp(m)), []string{""})
		return l[0].Body, ok
	})
	keepsApart(t, "MakeOne, a text of a recipe", "abc", func(m string) (string, bool) {
		made, ok := impl.MakeOne(oneTask(textOp(m)), results(okay("")), 0)
		return made.Body, ok
	})
}

// What only tells numbers and truths must not write into the texts that it reads either.
func TestPromise19BuildTextsAreOnlyRead(t *testing.T) {
	const text = "cabzz"
	memory := []byte(text)
	m := unsafe.String(unsafe.SliceData(memory), len(memory))
	p := over(textOp(m), bare(impl.OpSort))
	for _, f := range buildFuncs() {
		f(buildArgs{p: p, bodies: []string{m, ""}, l: results(okay(m), okay(m)), task: 1})
	}
	if string(memory) != text {
		t.Errorf("written into: %q", memory)
	}
}

// The same again, however often: nothing is kept from call to call, not by what was given up either.
func TestBuildKeepsNothing(t *testing.T) {
	var first []string
	for range 2 {
		var told []string
		d := newDrawer()
		for _, g := range append(smallGraphs(3), drawnGraphs(40)...) {
			p := d.planOver(g)
			a := buildArgs{p: p, bodies: d.bodiesFor(p), l: d.resultsFor(p), task: len(g.Needs) - 1}
			for _, name := range []string{"BuildAll", "MakeOne", "FailedIn", "BlockedBy", "InputsOf"} {
				told = append(told, fmt.Sprintf("%v", buildFuncs()[name](a)))
			}
		}
		if first != nil && !slices.Equal(told, first) {
			t.Fatal("the second time it is told otherwise")
		}
		first = told
	}
}
