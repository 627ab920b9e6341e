package tests

import (
	"fmt"
	"slices"
	"testing"
	"unsafe"

	"loop.example/g00636/impl"
)

// againCase says of results l of a plan what they come to at the bodies, and in how many runs.
// Where a function takes changed tasks these are changed.
type againCase struct {
	what    string
	p       impl.Plan
	l       []impl.Result
	bodies  []string
	changed []int
	want    []impl.Result
	n       int
}

type staleCase struct {
	what   string
	p      impl.Plan
	l      []impl.Result
	bodies []string
	want   []int
}

// againArgs is all that some function of the chapter takes.
type againArgs struct {
	p       impl.Plan
	a       []string
	b       []string
	l       []impl.Result
	changed []int
}

// againAnswer is all that some function of the chapter answers.
type againAnswer struct {
	results []impl.Result
	tasks   []int
	n       int
	is      bool
	ok      bool
}

func againFuncs() map[string]func(againArgs) againAnswer {
	return map[string]func(againArgs) againAnswer{
		"ChangedIn": func(a againArgs) againAnswer {
			l, ok := impl.ChangedIn(a.p, a.a, a.b)
			return againAnswer{tasks: l, ok: ok}
		},
		"AgainAll": func(a againArgs) againAnswer {
			l, n, ok := impl.AgainAll(a.p, a.l, a.b, a.changed)
			return againAnswer{results: l, n: n, ok: ok}
		},
		"AgainCut": func(a againArgs) againAnswer {
			l, n, ok := impl.AgainCut(a.p, a.l, a.b)
			return againAnswer{results: l, n: n, ok: ok}
		},
		"StaleIn": func(a againArgs) againAnswer {
			l, ok := impl.StaleIn(a.p, a.l, a.b)
			return againAnswer{tasks: l, ok: ok}
		},
		"IsBuilt": func(a againArgs) againAnswer {
			is, ok := impl.IsBuilt(a.p, a.l, a.b)
			return againAnswer{is: is, ok: ok}
		},
		"FixFirst": func(a againArgs) againAnswer {
			l, n, ok := impl.FixFirst(a.p, a.l, a.b)
			return againAnswer{results: l, n: n, ok: ok}
		},
	}
}

// resultFuncs are the functions that take results.
func resultFuncs() map[string]func(againArgs) againAnswer {
	funcs := againFuncs()
	delete(funcs, "ChangedIn")
	return funcs
}

func sameAgainAnswer(a againAnswer, b againAnswer) bool {
	return slices.Equal(a.results, b.results) && slices.Equal(a.tasks, b.tasks) && a.n == b.n && a.is == b.is && a.ok == b.ok
}

func checkZeroAgain(t *testing.T, what string, funcs map[string]func(againArgs) againAnswer, a againArgs) {
	t.Helper()
	for name, f := range funcs {
		if got := f(a); !sameAgainAnswer(got, againAnswer{}) {
			t.Errorf("%s: %s: %v", what, name, got)
		}
	}
}

// sorted is 3 over 2 and the source 0, 2 over 1, 1 over 0: 1 comes out the same however the bytes of 0 are mixed.
func sorted() impl.Plan {
	return planOf(
		graphOf([]int{0, 1, 2, 3}, map[int][]int{1: {0}, 2: {1}, 3: {0, 2}}),
		[]int{0},
		map[int][]impl.Op{
			1: recipe(cat(0), bare(impl.OpSort)),
			2: recipe(cat(0), bare(impl.OpUpper)),
			3: recipe(cat(0), textOp("/"), cat(1)),
		})
}

// shortened is 2 over 1 over the source 0: 1 fails of MaxOut bytes, and is empty of less.
func shortened() impl.Plan {
	return planOf(
		graphOf([]int{0, 1, 2}, map[int][]int{1: {0}, 2: {1}}),
		[]int{0},
		map[int][]impl.Op{1: recipe(cat(0), textOp("y"), dropOp(impl.MaxOut)), 2: recipe(textOp("k"), cat(0))})
}

// copying is MaxTasks tasks, each over the next greater one, which it copies; 9 is the source.
func copying() impl.Plan {
	p := planOf(longChain(), []int{9}, nil)
	for task := range 9 {
		p.Recipes[task] = recipe(cat(0))
	}
	return p
}

func tenSources() impl.Plan {
	return planOf(graphOf([]int{9, 1, 2, 3, 4, 5, 6, 7, 8, 0}, nil), ordered(10), nil)
}

// bodiesOf gives a body for each task of the plan: of the sources, rising, these.
func bodiesOf(p impl.Plan, bodies ...string) []string {
	all := make([]string, len(p.Source))
	for task, isSource := range p.Source {
		if isSource && len(bodies) > 0 {
			all[task], bodies = bodies[0], bodies[1:]
		}
	}
	return all
}

// builtAt are the plan's results of BuildAll at these bodies of its sources.
func builtAt(p impl.Plan, bodies ...string) []impl.Result {
	l, _ := impl.BuildAll(p, bodiesOf(p, bodies...))
	return l
}

// with gives the results with another one for that task.
func with(l []impl.Result, task int, r impl.Result) []impl.Result {
	changed := slices.Clone(l)
	changed[task] = r
	return changed
}

// reckoning says, apart from the program and from the Order, what each task comes to where
// just those are made of which isMade tells so.
type reckoning struct {
	p      impl.Plan
	old    []impl.Result
	bodies []string
	isMade func(r *reckoning, task int) bool
	came   map[int]impl.Result
	runs   int
}

func (r *reckoning) of(task int) impl.Result {
	if came, known := r.came[task]; known {
		return came
	}
	came := r.old[task]
	if r.isMade(r, task) {
		came = r.made(task)
	}
	r.came[task] = came
	return came
}

func (r *reckoning) made(task int) impl.Result {
	if r.p.Source[task] {
		return okay(r.bodies[task])
	}
	r.runs++
	var ins []string
	isBlocked := false
	for _, need := range r.p.Graph.Needs[task] {
		isBlocked = isBlocked || r.of(need).State != impl.StOk
		ins = append(ins, r.of(need).Body)
	}
	return madeOn(r.p.Recipes[task], ins, isBlocked)
}

// all reckons from the greatest number on, whatever the Order is.
func (r *reckoning) all() ([]impl.Result, int) {
	r.came, r.runs = map[int]impl.Result{}, 0
	l := make([]impl.Result, len(r.old))
	for task := range slices.Backward(l) {
		l[task] = r.of(task)
	}
	return l, r.runs
}

func againAllByHand(p impl.Plan, old []impl.Result, bodies []string, changed []int) ([]impl.Result, int) {
	touched := touchedByHand(p.Graph, changed)
	r := reckoning{p: p, old: old, bodies: bodies}
	r.isMade = func(_ *reckoning, task int) bool { return slices.Contains(touched, task) }
	return r.all()
}

func againCutByHand(p impl.Plan, old []impl.Result, bodies []string) ([]impl.Result, int) {
	r := reckoning{p: p, old: old, bodies: bodies}
	r.isMade = func(r *reckoning, task int) bool {
		isMade := p.Source[task]
		for _, need := range p.Graph.Needs[task] {
			isMade = isMade || r.of(need) != old[need]
		}
		return isMade
	}
	return r.all()
}

func freshByHand(p impl.Plan, l []impl.Result, bodies []string, task int) impl.Result {
	if p.Source[task] {
		return okay(bodies[task])
	}
	return madeByHand(p, l, task)
}

func staleByHand(p impl.Plan, l []impl.Result, bodies []string) []int {
	return tasksWhere(ordered(len(l)), func(task int) bool { return l[task] != freshByHand(p, l, bodies, task) })
}

// fixByHand asks again for all that is stale behind each that it makes.
func fixByHand(p impl.Plan, l []impl.Result, bodies []string) ([]impl.Result, int) {
	l = slices.Clone(l)
	for n := 0; ; n++ {
		stale := staleByHand(p, l, bodies)
		if len(stale) == 0 {
			return l, n
		}
		first := slices.MinFunc(stale, func(a int, b int) int {
			return slices.Index(p.Graph.Order, a) - slices.Index(p.Graph.Order, b)
		})
		l[first] = freshByHand(p, l, bodies, first)
	}
}

// otherBodies are bodies that are the same, that differ at one source alone, at all, and drawn ones.
func (d *drawer) otherBodies(p impl.Plan, bodies []string) [][]string {
	all := slices.Clone(bodies)
	others := [][]string{slices.Clone(bodies), d.bodiesFor(p)}
	for task, isSource := range p.Source {
		if isSource {
			one := slices.Clone(bodies)
			one[task], all[task] = unlikeBody(bodies[task]), unlikeBody(bodies[task])
			others = append(others, one)
		}
	}
	return append(others, all)
}

func unlikeBody(body string) string {
	if body == "" {
		return "n"
	}
	return body[1:]
}

// nearlyBuilt is what is built at these bodies but for a few tasks.
func (d *drawer) nearlyBuilt(p impl.Plan, bodies []string) []impl.Result {
	l, _ := impl.BuildAll(p, bodies)
	others := d.resultsFor(p)
	for range 1 + d.below(2) {
		task := d.below(len(l))
		l[task] = others[task]
	}
	return l
}

func goodAgainCase(t *testing.T, what string, p impl.Plan, bodies []string, l []impl.Result) {
	t.Helper()
	if !impl.GoodSources(p, bodies) || len(l) != len(p.Source) {
		t.Fatalf("%s: the case is not good: %v, %v, %v", what, p, bodies, l)
	}
}

func checkAgain(t *testing.T, name string, cases []againCase) {
	t.Helper()
	f := againFuncs()[name]
	for _, c := range cases {
		goodAgainCase(t, c.what, c.p, c.bodies, c.l)
		got := f(againArgs{p: c.p, b: c.bodies, l: c.l, changed: c.changed})
		if want := (againAnswer{results: c.want, n: c.n, ok: true}); !sameAgainAnswer(got, want) {
			t.Errorf("%s: %s of %v, %v, %v: %v; want %v", c.what, name, c.l, c.bodies, c.changed, got, want)
		}
	}
}

func TestChangedIn(t *testing.T) {
	most := textOfBytes(impl.MaxOut)
	ten, others := inputs(10), inputs(10)
	others[0], others[4], others[9] = "", most, "I9"
	for _, c := range []struct {
		what string
		p    impl.Plan
		a    []string
		b    []string
		want []int
	}{
		{"the same", layered(), bodiesOf(layered(), "ab", "cd"), bodiesOf(layered(), "ab", "cd"), nil},
		{"the first one", layered(), bodiesOf(layered(), "ab", "cd"), bodiesOf(layered(), "ef", "cd"), []int{0}},
		{"the second one", layered(), bodiesOf(layered(), "ab", "cd"), bodiesOf(layered(), "ab", "cD"), []int{1}},
		{"all, though the Order has them the other way", layered(), bodiesOf(layered(), "ab", "cd"), bodiesOf(layered(), "cd", "ab"), []int{0, 1}},
		{"from nothing", layered(), bodiesOf(layered()), bodiesOf(layered(), "", "a"), []int{1}},
		{"to nothing", layered(), bodiesOf(layered(), "a"), bodiesOf(layered()), []int{0}},
		{"the last byte of MaxOut", oneSource(), []string{most}, []string{most[1:] + "y"}, []int{0}},
		{"one byte less than MaxOut", oneSource(), []string{most}, []string{most[1:]}, []int{0}},
		{"MaxOut, the same", oneSource(), []string{most}, []string{textOfBytes(impl.MaxOut)}, nil},
		{"other bytes that are no rune", oneSource(), []string{"\xff"}, []string{"\xfe"}, []int{0}},
		{"one task", oneTask(), []string{""}, []string{""}, nil},
		{"tasks alone", atAll(everyNeed(), textOp("a")), make([]string, 10), make([]string, 10), nil},
		{"MaxTasks sources, the same", tenSources(), ten, inputs(10), nil},
		{"MaxTasks sources, some", tenSources(), ten, others, []int{0, 4, 9}},
		{"MaxTasks sources, all", tenSources(), ten, make([]string, 10), ordered(10)},
		{"the last one of MaxTasks", copying(), bodiesOf(copying(), "a"), bodiesOf(copying(), "b"), []int{9}},
	} {
		goodAgainCase(t, c.what, c.p, c.a, make([]impl.Result, len(c.b)))
		if got, ok := impl.ChangedIn(c.p, c.a, c.b); !slices.Equal(got, c.want) || !ok {
			t.Errorf("%s: ChangedIn of %v, %v: %v, %v; want %v", c.what, c.a, c.b, got, ok, c.want)
		}
		if got, ok := impl.ChangedIn(c.p, c.b, c.a); !slices.Equal(got, c.want) || !ok {
			t.Errorf("%s: ChangedIn of %v, %v: %v, %v; want %v", c.what, c.b, c.a, got, ok, c.want)
		}
	}
}

func TestChangedInAll(t *testing.T) {
	eachPlan(func(d *drawer, p impl.Plan) {
		a, b := d.bodiesFor(p), d.bodiesFor(p)
		want := tasksWhere(ordered(len(a)), func(task int) bool { return p.Source[task] && a[task] != b[task] })
		if got, ok := impl.ChangedIn(p, a, b); !slices.Equal(got, want) || !ok {
			t.Fatalf("ChangedIn of %v, %v, %v: %v, %v; want %v", p, a, b, got, ok, want)
		}
	})
}

func TestAgainAll(t *testing.T) {
	p, old := layered(), builtAt(layered(), "ab", "cd")
	same := bodiesOf(p, "ab", "cd")
	checkAgain(t, "AgainAll", []againCase{
		{"one source", p, old, bodiesOf(p, "ab", "xy"), []int{1}, builtAt(p, "ab", "xy"), 2},
		{"the other one", p, old, bodiesOf(p, "ef", "cd"), []int{0}, builtAt(p, "ef", "cd"), 3},
		{"both", p, old, bodiesOf(p, "ef", "xy"), []int{0, 1}, builtAt(p, "ef", "xy"), 3},
		{"nothing changed", p, old, same, nil, old, 0},
		{"nothing changed, an empty list", p, old, same, []int{}, old, 0},
		{"told to have changed, but has not", p, old, same, []int{0}, old, 3},
		{"not told, so the source stays", p, old, bodiesOf(p, "ef", "xy"), nil, old, 0},
		{"one of two not told", p, old, bodiesOf(p, "ef", "xy"), []int{1}, builtAt(p, "ab", "xy"), 2},
		{"a task", p, old, same, []int{2}, old, 2},
		{"a task that none needs", p, old, same, []int{4}, old, 1},
		{"a task that needs none", p, old, same, []int{5}, old, 1},
		{"a source and a task", p, old, bodiesOf(p, "ab", "xy"), []int{1, 2}, builtAt(p, "ab", "xy"), 3},
		{"a task over a source that is not told", p, old, bodiesOf(p, "ef", "xy"), []int{3}, old, 2},
		{"all", p, old, bodiesOf(p, "ef", "xy"), ordered(6), builtAt(p, "ef", "xy"), 4},
		{"of each result, all of them", p, slices.Repeat(results(failed()), 6), same, ordered(6), old, 4},
	})
}

func TestAgainAllOfWrongResults(t *testing.T) {
	p, old := layered(), builtAt(layered(), "ab", "cd")
	same := bodiesOf(p, "ab", "cd")
	checkAgain(t, "AgainAll", []againCase{
		{"another text that is not touched", p, with(old, 5, okay("wrong")), same, []int{0}, with(old, 5, okay("wrong")), 3},
		{"another text that is touched", p, with(old, 4, okay("wrong")), same, []int{1}, old, 2},
		{"another text under what is touched", p, with(old, 2, okay("wrong")), same, []int{1}, with(with(old, 2, okay("wrong")), 4, okay("wrong+cd-ab")), 2},
		{"failed under what is touched", p, with(old, 2, failed()), same, []int{3}, with(with(old, 2, failed()), 4, blocked()), 2},
		{"blocked, and is not", p, with(old, 3, blocked()), same, []int{4}, with(with(old, 3, blocked()), 4, blocked()), 1},
		{"blocked, and is not, touched", p, with(old, 3, blocked()), same, []int{3}, old, 2},
		{"a source failed that is not told", p, with(old, 0, failed()), same, []int{1},
			results(failed(), okay("cd"), okay("AB"), blocked(), blocked(), okay("z")), 2},
		{"a source failed that is told", p, with(old, 0, failed()), same, []int{0}, old, 3},
		{"a source with another body that is not told", p, with(old, 0, okay("q")), same, []int{1},
			results(okay("q"), okay("cd"), okay("AB"), okay("cd-q"), okay("AB+cd-q"), okay("z")), 2},
		{"a source is blocked, nothing told", p, with(old, 1, blocked()), same, nil, with(old, 1, blocked()), 0},
	})
}

func TestAgainAllEdges(t *testing.T) {
	most := textOfBytes(impl.MaxOut)
	fail := brokenResults()
	checkAgain(t, "AgainAll", []againCase{
		{"one source, changed", oneSource(), results(okay("a")), []string{"b"}, []int{0}, results(okay("b")), 0},
		{"one source, not changed", oneSource(), results(okay("a")), []string{"b"}, nil, results(okay("a")), 0},
		{"one task", oneTask(textOp("a")), results(failed()), []string{""}, []int{0}, results(okay("a")), 1},
		{"one task, not changed", oneTask(textOp("a")), results(failed()), []string{""}, nil, results(failed()), 0},
		{"one task fails", oneTask(bare(impl.OpFail)), results(okay("a")), []string{""}, []int{0}, results(failed()), 1},
		{"it comes out as before, and what needs it is made", sorted(), builtAt(sorted(), "ab"), bodiesOf(sorted(), "ba"), []int{0}, builtAt(sorted(), "ba"), 3},
		{"MaxOut, as it is", over(cat(0)), builtAt(over(cat(0)), "a"), []string{most, ""}, []int{0}, results(okay(most), okay(most)), 1},
		{"MaxOut, too long behind", over(cat(0), textOp("y")), results(okay("a"), okay("ay")), []string{most, ""}, []int{0}, results(okay(most), failed()), 1},
		{"what fails, and what that blocks", broken(), fail, bodiesOf(broken(), "abc"), []int{1}, fail, 5},
		{"MaxTasks sources", tenSources(), builtAt(tenSources()), inputs(10), []int{0, 9},
			with(with(builtAt(tenSources()), 0, okay("i0")), 9, okay("i9")), 0},
		{"MaxTasks, tasks alone", atAll(everyNeed(), textOp("a")), make([]impl.Result, 10), make([]string, 10), []int{0}, slices.Repeat(results(okay("a")), 10), 10},
		{"MaxTasks, the last task alone", atAll(everyNeed(), textOp("a")), make([]impl.Result, 10), make([]string, 10), []int{9}, with(make([]impl.Result, 10), 9, okay("a")), 1},
		{"MaxTasks, a chain back", copying(), builtAt(copying(), "a"), bodiesOf(copying(), "b"), []int{9}, slices.Repeat(results(okay("b")), 10), 9},
		{"MaxTasks, a chain, within it", copying(), slices.Repeat(results(failed()), 10), bodiesOf(copying(), "b"), []int{4},
			append(slices.Repeat(results(blocked()), 5), slices.Repeat(results(failed()), 5)...), 5},
	})
}

func TestAgainCut(t *testing.T) {
	p, old := layered(), builtAt(layered(), "ab", "cd")
	most := textOfBytes(impl.MaxOut)
	checkAgain(t, "AgainCut", []againCase{
		{"the same", p, old, bodiesOf(p, "ab", "cd"), nil, old, 0},
		{"one source", p, old, bodiesOf(p, "ab", "xy"), nil, builtAt(p, "ab", "xy"), 2},
		{"the other one", p, old, bodiesOf(p, "ef", "cd"), nil, builtAt(p, "ef", "cd"), 3},
		{"both", p, old, bodiesOf(p, "ef", "xy"), nil, builtAt(p, "ef", "xy"), 3},
		{"it comes out as before, and what needs it stays", sorted(), builtAt(sorted(), "ab"), bodiesOf(sorted(), "ba"), nil, results(okay("ba"), okay("ab"), okay("AB"), okay("ba/AB")), 2},
		{"it comes out otherwise", sorted(), builtAt(sorted(), "ab"), bodiesOf(sorted(), "abc"), nil, builtAt(sorted(), "abc"), 3},
		{"one of two ways comes out as before", p, builtAt(p, "AB", "cd"), bodiesOf(p, "ab", "cd"), nil, old, 3},
		{"failed as before, so what is blocked stays", shortened(), builtAt(shortened(), most), bodiesOf(shortened(), most[1:]+"y"), nil, results(okay(most[1:]+"y"), failed(), blocked()), 1},
		{"failed, now empty", shortened(), builtAt(shortened(), most), bodiesOf(shortened(), "a"), nil, results(okay("a"), okay(""), okay("k")), 2},
		{"empty, now failed", shortened(), builtAt(shortened(), "a"), bodiesOf(shortened(), most), nil, results(okay(most), failed(), blocked()), 2},
		{"empty as before", shortened(), builtAt(shortened(), "a"), bodiesOf(shortened(), "b"), nil, results(okay("b"), okay(""), okay("k")), 1},
		{"one source alone", oneSource(), results(okay("a")), []string{"b"}, nil, results(okay("b")), 0},
		{"one task", oneTask(textOp("a")), results(okay("a")), []string{""}, nil, results(okay("a")), 0},
		{"MaxTasks sources", tenSources(), builtAt(tenSources()), inputs(10), nil, builtAt(tenSources(), inputs(10)...), 0},
		{"MaxTasks, tasks alone", atAll(everyNeed(), textOp("a")), slices.Repeat(results(okay("a")), 10), make([]string, 10), nil, slices.Repeat(results(okay("a")), 10), 0},
		{"MaxTasks, a chain back", copying(), builtAt(copying(), "a"), bodiesOf(copying(), "b"), nil, slices.Repeat(results(okay("b")), 10), 9},
		{"MaxTasks, what failed and what that blocked stays", broken(), brokenResults(), bodiesOf(broken(), "abcd"), nil,
			results(okay("abcd"), failed(), blocked(), blocked(), okay("4"), blocked(), blocked(), failed(), blocked(), okay("abcd4")), 6},
	})
}

func TestAgainCutOfWrongResults(t *testing.T) {
	p, old := layered(), builtAt(layered(), "ab", "cd")
	same := bodiesOf(p, "ab", "cd")
	checkAgain(t, "AgainCut", []againCase{
		{"another text stays, as nothing under it changed", p, with(old, 2, okay("wrong")), same, nil, with(old, 2, okay("wrong")), 0},
		{"another text stays under what is made", p, with(old, 2, okay("wrong")), bodiesOf(p, "ab", "xy"), nil,
			results(okay("ab"), okay("xy"), okay("wrong"), okay("xy-ab"), okay("wrong+xy-ab"), okay("z")), 2},
		{"another text goes, as a source under it changed", p, with(old, 2, okay("wrong")), bodiesOf(p, "ef", "cd"), nil, builtAt(p, "ef", "cd"), 3},
		{"blocked, and is not, stays", p, with(old, 4, blocked()), same, nil, with(old, 4, blocked()), 0},
		{"a source failed, and what needs it comes out as before", p, with(old, 0, failed()), same, nil, old, 2},
		{"a source failed, and what needs it is blocked", p, results(failed(), okay("cd"), blocked(), blocked(), blocked(), okay("z")), same, nil, old, 3},
		{"a source is blocked", p, with(old, 1, blocked()), same, nil, old, 1},
		{"a source with another body", p, with(old, 1, okay("q")), same, nil, old, 1},
		{"a source with another body, and what needs it is of that", p, builtAt(p, "ab", "q"), same, nil, old, 2},
		{"a source with another body, which it has now", p, with(old, 1, okay("q")), bodiesOf(p, "ab", "q"), nil, with(old, 1, okay("q")), 0},
		{"an empty source failed", sorted(), with(builtAt(sorted(), ""), 0, failed()), bodiesOf(sorted(), ""), nil, builtAt(sorted(), ""), 2},
		{"it was wrong, and comes out right, so what needs it is made", sorted(), with(builtAt(sorted(), "ab"), 1, okay("wrong")), bodiesOf(sorted(), "ba"), nil, builtAt(sorted(), "ba"), 3},
		{"wrong over what came out as before", sorted(), with(builtAt(sorted(), "ab"), 2, okay("wrong")), bodiesOf(sorted(), "ba"), nil,
			results(okay("ba"), okay("ab"), okay("wrong"), okay("ba/wrong")), 2},
		{"one source failed", oneSource(), results(failed()), []string{""}, nil, results(okay("")), 0},
		{"one task failed", oneTask(textOp("a")), results(failed()), []string{""}, nil, results(failed()), 0},
		{"one task needs none and is blocked", oneTask(), results(blocked()), []string{""}, nil, results(blocked()), 0},
		{"MaxTasks, all failed but the source", copying(), with(slices.Repeat(results(failed()), 10), 9, okay("a")), bodiesOf(copying(), "a"), nil,
			with(slices.Repeat(results(failed()), 10), 9, okay("a")), 0},
	})
}

func staleCases() []staleCase {
	p, old := layered(), builtAt(layered(), "ab", "cd")
	same := bodiesOf(p, "ab", "cd")
	return []staleCase{
		{"built", p, old, same, nil},
		{"a source, but not yet what needs it", p, old, bodiesOf(p, "ef", "cd"), []int{0}},
		{"both sources", p, old, bodiesOf(p, "ef", "xy"), []int{0, 1}},
		{"a source failed, and what needs it is not blocked", p, with(old, 0, failed()), same, []int{0, 2, 3}},
		{"a source with another body", p, with(old, 1, okay("q")), same, []int{1, 3}},
		{"blocked, and is not", p, with(old, 4, blocked()), same, []int{4}},
		{"failed, and does not", p, with(old, 5, failed()), same, []int{5}},
		{"another text, and what needs it", p, with(old, 2, okay("wrong")), same, []int{2, 4}},
		{"another text, and what needs it is made of that", p, with(with(old, 2, okay("wrong")), 4, okay("wrong+cd-ab")), same, []int{2}},
		{"failed, and what needs it is blocked", p, with(with(old, 2, failed()), 4, blocked()), same, []int{2}},
		{"failed, and what needs it failed, too", p, with(with(old, 2, failed()), 4, failed()), same, []int{2, 4}},
		{"a source, and what needs it is of the new body already", p, with(old, 0, okay("ef")), same, []int{0, 2, 3}},
		{"a source, and what needs it is of the old body still", p, builtAt(p, "ef", "cd"), same, []int{0}},
		{"all", p, slices.Repeat(results(failed()), 6), same, ordered(6)},
		{"the first and the last in the Order", p, with(with(old, 5, okay("")), 4, okay("")), same, []int{4, 5}},
		{"what fails, and what that blocks", broken(), brokenResults(), bodiesOf(broken(), "abc"), nil},
		{"what fails is told well and empty", broken(), with(brokenResults(), 7, okay("")), bodiesOf(broken(), "abc"), []int{7, 8}},
		{"what is blocked is told to have failed", broken(), with(brokenResults(), 2, failed()), bodiesOf(broken(), "abc"), []int{2}},
		{"one source", oneSource(), results(okay("a")), []string{"a"}, nil},
		{"one source, another body", oneSource(), results(okay("a")), []string{""}, []int{0}},
		{"one source, empty, failed", oneSource(), results(failed()), []string{""}, []int{0}},
		{"one task", oneTask(textOp("a")), results(okay("a")), []string{""}, nil},
		{"one task, blocked", oneTask(), results(blocked()), []string{""}, []int{0}},
		{"one task, it fails", oneTask(bare(impl.OpFail)), results(okay("")), []string{""}, []int{0}},
		{"one task, it failed", oneTask(bare(impl.OpFail)), results(failed()), []string{""}, nil},
		{"MaxTasks sources, all", tenSources(), make([]impl.Result, 10), inputs(10), ordered(10)},
		{"MaxTasks sources, some", tenSources(), with(with(builtAt(tenSources(), inputs(10)...), 9, failed()), 0, okay("")), inputs(10), []int{0, 9}},
		{"MaxTasks, a chain back, a source", copying(), builtAt(copying(), "a"), bodiesOf(copying(), "b"), []int{9}},
		{"MaxTasks, a chain back, within it", copying(), with(builtAt(copying(), "a"), 4, okay("b")), bodiesOf(copying(), "a"), []int{3, 4}},
		{"MaxTasks, tasks alone", atAll(everyNeed(), textOp("a")), slices.Repeat(results(okay("b")), 10), make([]string, 10), ordered(10)},
		{"MaxOut", over(cat(0)), builtAt(over(cat(0)), textOfBytes(impl.MaxOut)), []string{textOfBytes(impl.MaxOut), ""}, nil},
	}
}

func TestStaleInAndIsBuilt(t *testing.T) {
	for _, c := range staleCases() {
		goodAgainCase(t, c.what, c.p, c.bodies, c.l)
		if got, ok := impl.StaleIn(c.p, c.l, c.bodies); !slices.Equal(got, c.want) || !ok {
			t.Errorf("%s: StaleIn of %v, %v: %v, %v; want %v", c.what, c.l, c.bodies, got, ok, c.want)
		}
		if got, ok := impl.IsBuilt(c.p, c.l, c.bodies); got != (len(c.want) == 0) || !ok {
			t.Errorf("%s: IsBuilt of %v, %v: %v, %v; stale are %v", c.what, c.l, c.bodies, got, ok, c.want)
		}
	}
}

func TestFixFirst(t *testing.T) {
	p, old := layered(), builtAt(layered(), "ab", "cd")
	same := bodiesOf(p, "ab", "cd")
	checkAgain(t, "FixFirst", []againCase{
		{"built", p, old, same, nil, old, 0},
		{"a source, and what is stale by that", p, old, bodiesOf(p, "ef", "cd"), nil, builtAt(p, "ef", "cd"), 4},
		{"the other source", p, old, bodiesOf(p, "ab", "xy"), nil, builtAt(p, "ab", "xy"), 3},
		{"both", p, old, bodiesOf(p, "ef", "xy"), nil, builtAt(p, "ef", "xy"), 5},
		{"a source failed", p, with(old, 0, failed()), same, nil, old, 1},
		{"a source failed, and what needs it is blocked", p, results(failed(), okay("cd"), blocked(), blocked(), blocked(), okay("z")), same, nil, old, 4},
		{"another text, and what needs it is right", p, with(old, 2, okay("wrong")), same, nil, old, 1},
		{"another text, and what needs it is made of that", p, with(with(old, 2, okay("wrong")), 4, okay("wrong+cd-ab")), same, nil, old, 2},
		{"blocked, and is not", p, with(old, 4, blocked()), same, nil, old, 1},
		{"the first in the Order alone", p, with(old, 5, okay("")), same, nil, old, 1},
		{"all", p, slices.Repeat(results(failed()), 6), same, nil, old, 6},
		{"it comes out as before, so what needs it does not get stale", sorted(), builtAt(sorted(), "ab"), bodiesOf(sorted(), "ba"), nil, builtAt(sorted(), "ba"), 2},
		{"what fails, and what that blocks", broken(), make([]impl.Result, 10), bodiesOf(broken(), "abc"), nil, brokenResults(), 10},
		{"what fails is told well and empty", broken(), with(brokenResults(), 7, okay("")), bodiesOf(broken(), "abc"), nil, brokenResults(), 1},
		{"failed, now empty", shortened(), builtAt(shortened(), textOfBytes(impl.MaxOut)), bodiesOf(shortened(), "a"), nil, builtAt(shortened(), "a"), 3},
		{"one source", oneSource(), results(okay("a")), []string{"b"}, nil, results(okay("b")), 1},
		{"one source, built", oneSource(), results(okay("a")), []string{"a"}, nil, results(okay("a")), 0},
		{"one task", oneTask(textOp("a")), results(blocked()), []string{""}, nil, results(okay("a")), 1},
		{"one task, it failed", oneTask(bare(impl.OpFail)), results(failed()), []string{""}, nil, results(failed()), 0},
		{"MaxTasks sources", tenSources(), make([]impl.Result, 10), inputs(10), nil, builtAt(tenSources(), inputs(10)...), 10},
		{"MaxTasks, tasks alone", atAll(everyNeed(), textOp("a")), slices.Repeat(results(okay("b")), 10), make([]string, 10), nil, slices.Repeat(results(okay("a")), 10), 10},
		{"MaxTasks, a chain back: each once, however far from built", copying(), slices.Repeat(results(okay("b"), okay("c")), 5), bodiesOf(copying(), "a"), nil, slices.Repeat(results(okay("a")), 10), 10},
		{"MaxTasks, a chain back, all but the source right", copying(), with(builtAt(copying(), "a"), 9, okay("b")), bodiesOf(copying(), "a"), nil, slices.Repeat(results(okay("a")), 10), 1},
	})
}

// The first in the Order is not the one of the least number: 0 needs 1, and would be made twice.
func TestFixFirstByTheOrder(t *testing.T) {
	p := planOf(graphOf([]int{1, 0}, map[int][]int{0: {1}}), nil, map[int][]impl.Op{0: recipe(cat(0)), 1: recipe(textOp("a"))})
	checkAgain(t, "FixFirst", []againCase{
		{"both", p, results(okay("c"), okay("b")), make([]string, 2), nil, slices.Repeat(results(okay("a")), 2), 2},
		{"the one that needs the other is right", p, results(okay("a"), okay("b")), make([]string, 2), nil, slices.Repeat(results(okay("a")), 2), 1},
		{"the one that needs the other is of what that was", p, results(okay("b"), okay("b")), make([]string, 2), nil, slices.Repeat(results(okay("a")), 2), 2},
	})
}

// checkPromise8 holds what is made anew, from what was built at the one bodies to the other ones,
// against what is built at these.
func checkPromise8(t *testing.T, p impl.Plan, from []string, to []string) (int, int) {
	t.Helper()
	old, _ := impl.BuildAll(p, from)
	want, ok := impl.BuildAll(p, to)
	changed, told := impl.ChangedIn(p, from, to)
	touched, _ := impl.TouchedBy(p.Graph, changed)
	if !ok || !told {
		t.Fatalf("the case is not good: %v, %v, %v", p, from, to)
	}
	most := len(tasksWhere(touched, func(task int) bool { return !p.Source[task] }))
	all, runs, ok := impl.AgainAll(p, old, to, changed)
	if !slices.Equal(all, want) || runs > most || !ok {
		t.Fatalf("AgainAll of %v, %v, %v, %v: %v, %d, %v; want %v, at most %d", p, old, to, changed, all, runs, ok, want, most)
	}
	cut, fewer, ok := impl.AgainCut(p, old, to)
	if !slices.Equal(cut, want) || fewer > most || !ok {
		t.Fatalf("AgainCut of %v, %v, %v: %v, %d, %v; want %v, at most %d", p, old, to, cut, fewer, ok, want, most)
	}
	checkFixed(t, p, old, to, want)
	return runs, fewer
}

func checkFixed(t *testing.T, p impl.Plan, l []impl.Result, bodies []string, want []impl.Result) {
	t.Helper()
	fixed, made, ok := impl.FixFirst(p, l, bodies)
	if !slices.Equal(fixed, want) || !ok {
		t.Fatalf("FixFirst of %v, %v, %v: %v, %d, %v; want %v", p, l, bodies, fixed, made, ok, want)
	}
	if is, ok := impl.IsBuilt(p, fixed, bodies); !is || !ok {
		t.Fatalf("IsBuilt of %v, %v, %v, which are fixed: %v, %v", p, fixed, bodies, is, ok)
	}
	if _, again, ok := impl.FixFirst(p, fixed, bodies); again != 0 || !ok {
		t.Fatalf("FixFirst of %v, %v, %v, which are fixed: %d, %v", p, fixed, bodies, again, ok)
	}
}

func TestPromise8Again(t *testing.T) {
	pairs, lessByCut, same := 0, 0, 0
	eachPlan(func(d *drawer, p impl.Plan) {
		from := d.bodiesFor(p)
		for _, to := range d.otherBodies(p, from) {
			runs, fewer := checkPromise8(t, p, from, to)
			pairs++
			if fewer < runs {
				lessByCut++
			}
			if runs == 0 {
				same++
			}
		}
	})
	if lessByCut < 1000 || same < 1000 || pairs-same < 1000 {
		t.Error("too few of a kind", pairs, lessByCut, same)
	}
}

// checkBuilt wants IsBuilt just where nothing is stale, and what is built then.
func checkBuilt(t *testing.T, p impl.Plan, l []impl.Result, bodies []string) bool {
	t.Helper()
	stale, told := impl.StaleIn(p, l, bodies)
	is, ok := impl.IsBuilt(p, l, bodies)
	if is != (len(stale) == 0) || !told || !ok {
		t.Fatalf("IsBuilt of %v, %v, %v: %v, %v; stale are %v, %v", p, l, bodies, is, ok, stale, told)
	}
	want, _ := impl.BuildAll(p, bodies)
	if is != slices.Equal(l, want) {
		t.Fatalf("IsBuilt of %v, %v, %v: %v; built is %v", p, l, bodies, is, want)
	}
	checkFixed(t, p, l, bodies, want)
	return is
}

func TestPromise8OfAnyResults(t *testing.T) {
	built, notBuilt := 0, 0
	count := func(is bool) {
		if is {
			built++
		} else {
			notBuilt++
		}
	}
	eachPlan(func(d *drawer, p impl.Plan) {
		bodies := d.bodiesFor(p)
		l, _ := impl.BuildAll(p, bodies)
		for _, some := range [][]impl.Result{l, d.nearlyBuilt(p, bodies), d.resultsFor(p)} {
			count(checkBuilt(t, p, some, bodies))
		}
	})
	d := newDrawer()
	for _, g := range smallGraphs(3) {
		p := d.planOver(g)
		for _, l := range statesOf(len(g.Needs)) {
			count(checkBuilt(t, p, l, d.bodiesFor(p)))
		}
	}
	if built < 1000 || notBuilt < 1000 {
		t.Error("too few of a kind", built, notBuilt)
	}
}

// checkByHand holds all that is told of any results, built so or not, against the reckoning by hand.
func checkByHand(t *testing.T, p impl.Plan, l []impl.Result, bodies []string, changed []int) {
	t.Helper()
	args := againArgs{p: p, a: bodies, b: bodies, l: l, changed: changed}
	want := map[string]againAnswer{}
	results, n := againAllByHand(p, l, bodies, changed)
	want["AgainAll"] = againAnswer{results: results, n: n, ok: true}
	results, n = againCutByHand(p, l, bodies)
	want["AgainCut"] = againAnswer{results: results, n: n, ok: true}
	stale := staleByHand(p, l, bodies)
	want["StaleIn"] = againAnswer{tasks: stale, ok: true}
	want["IsBuilt"] = againAnswer{is: len(stale) == 0, ok: true}
	results, n = fixByHand(p, l, bodies)
	want["FixFirst"] = againAnswer{results: results, n: n, ok: true}
	for name, f := range resultFuncs() {
		if got := f(args); !sameAgainAnswer(got, want[name]) {
			t.Fatalf("%s of %v, %v, %v, %v: %v; want %v", name, p, l, bodies, changed, got, want[name])
		}
	}
}

func TestPromise8ByHand(t *testing.T) {
	eachPlan(func(d *drawer, p impl.Plan) {
		from, to := d.bodiesFor(p), d.bodiesFor(p)
		old, _ := impl.BuildAll(p, from)
		changed := risingOf(len(old), uint64(d.below(1<<len(old))))
		checkByHand(t, p, old, to, changed)
		checkByHand(t, p, d.nearlyBuilt(p, from), from, changed)
		checkByHand(t, p, d.nearlyBuilt(p, from), to, changed)
		checkByHand(t, p, d.resultsFor(p), to, changed)
	})
}

func TestPromise8ByHandSmall(t *testing.T) {
	d := newDrawer()
	for _, g := range smallGraphs(3) {
		p := d.planOver(g)
		bodies := d.bodiesFor(p)
		for _, l := range statesOf(len(g.Needs)) {
			for _, changed := range risingLists(g) {
				checkByHand(t, p, l, bodies, changed)
			}
		}
	}
}

// One change behind the other, each from what the one ahead of it left.
func TestPromise8OneByOne(t *testing.T) {
	d := newDrawer()
	for _, g := range drawnGraphs(300) {
		p := d.planOver(g)
		bodies := d.bodiesFor(p)
		all, _ := impl.BuildAll(p, bodies)
		cut := slices.Clone(all)
		for range 6 {
			next := d.bodiesFor(p)
			changed, _ := impl.ChangedIn(p, bodies, next)
			all, _, _ = impl.AgainAll(p, all, next, changed)
			cut, _, _ = impl.AgainCut(p, cut, next)
			bodies = next
			if want, _ := impl.BuildAll(p, bodies); !slices.Equal(all, want) || !slices.Equal(cut, want) {
				t.Fatalf("%v, %v: %v, %v; want %v", p, bodies, all, cut, want)
			}
		}
	}
}

// The Order is not seen in what is made, nor in how often, as long as it is one.
func TestPromise8AnyOrder(t *testing.T) {
	d := newDrawer()
	for _, g := range smallGraphs(3) {
		p := d.planOver(g)
		args := againArgs{p: p, a: d.bodiesFor(p), b: d.bodiesFor(p), l: d.resultsFor(p), changed: risingOf(len(g.Needs), uint64(d.below(8)))}
		for _, order := range ordersOf(len(g.Needs)) {
			other := args
			other.p = clonePlan(p)
			other.p.Graph.Order = order
			for name, f := range againFuncs() {
				want := againAnswer{}
				if impl.GoodGraph(other.p.Graph) {
					want = f(args)
				}
				if got := f(other); !sameAgainAnswer(got, want) {
					t.Fatalf("%s of %v: %v; want %v", name, other, got, want)
				}
			}
		}
	}
}

func TestAgainRefusesBadPlans(t *testing.T) {
	for what, p := range badPlans() {
		for _, tasks := range []int{0, 1, 6, impl.MaxTasks, len(p.Graph.Needs), len(p.Source), len(p.Recipes)} {
			bodies := make([]string, tasks)
			for _, changed := range [][]int{nil, {0}, ordered(tasks)} {
				for _, r := range results(okay(""), blocked()) {
					checkZeroAgain(t, what, againFuncs(), againArgs{p: p, a: bodies, b: bodies, l: slices.Repeat(results(r), tasks), changed: changed})
				}
			}
		}
	}
}

func TestAgainRefusesBadBodies(t *testing.T) {
	good := bodiesOf(layered(), "ab", "cd")
	only := map[string]func(againArgs) againAnswer{"ChangedIn": againFuncs()["ChangedIn"]}
	for what, bad := range badBodyLists() {
		for _, l := range [][]impl.Result{builtAt(layered(), "ab", "cd"), make([]impl.Result, 6), make([]impl.Result, len(bad))} {
			for _, changed := range [][]int{nil, {0, 1}} {
				checkZeroAgain(t, what, againFuncs(), againArgs{p: layered(), a: good, b: bad, l: l, changed: changed})
			}
		}
		checkZeroAgain(t, what+", the first bodies", only, againArgs{p: layered(), a: bad, b: good})
		checkZeroAgain(t, what+", both bodies", only, againArgs{p: layered(), a: bad, b: bad})
	}
	for what, p := range map[string]impl.Plan{"one source": oneSource(), "one task": oneTask(), "broken": broken(), "ten": tenSources(), "over": over()} {
		bodies := bodiesOf(layered(), "ab", "cd")
		checkZeroAgain(t, "bodies of another plan than "+what, againFuncs(), againArgs{p: p, a: bodies, b: bodies, l: make([]impl.Result, len(p.Source))})
	}
	checkZeroAgain(t, "a body of a task", againFuncs(), againArgs{p: oneTask(), a: []string{"a"}, b: []string{"a"}, l: results(okay("a")), changed: []int{0}})
	checkZeroAgain(t, "no bodies", againFuncs(), againArgs{p: oneSource(), l: results(okay("a"))})
}

func TestAgainRefusesBadResults(t *testing.T) {
	for name, p := range map[string]impl.Plan{"layered": layered(), "broken": broken(), "over": over(), "one task": oneTask(), "one source": oneSource(), "ten": tenSources()} {
		for what, l := range badResultLists(len(p.Source)) {
			for _, changed := range [][]int{nil, {0}, ordered(len(p.Source))} {
				checkZeroAgain(t, name+", "+what, resultFuncs(), againArgs{p: p, b: make([]string, len(p.Source)), l: l, changed: changed})
			}
		}
	}
	checkZeroAgain(t, "results of another plan", resultFuncs(), againArgs{p: layered(), b: bodiesOf(layered()), l: brokenResults()})
}

func TestAgainAllRefusesBadChanges(t *testing.T) {
	funcs := map[string]func(againArgs) againAnswer{"AgainAll": againFuncs()["AgainAll"]}
	for name, p := range map[string]impl.Plan{"layered": layered(), "broken": broken(), "sorted": sorted(), "ten": tenSources(), "copying": copying()} {
		for what, changed := range badTaskLists(len(p.Source)) {
			for _, l := range [][]impl.Result{builtAt(p), slices.Repeat(results(blocked()), len(p.Source))} {
				checkZeroAgain(t, name+", "+what, funcs, againArgs{p: p, b: bodiesOf(p), l: l, changed: changed})
			}
		}
	}
	for _, p := range []impl.Plan{oneSource(), oneTask(textOp("a"))} {
		for _, changed := range [][]int{{1}, {-1}, {0, 0}, {0, 1}, {-1, 0}, {1 << 62}, {-1 << 63}} {
			checkZeroAgain(t, fmt.Sprint("the only one, ", changed), funcs, againArgs{p: p, b: []string{""}, l: results(okay("")), changed: changed})
		}
	}
}

func overwriteAgain(a againAnswer) {
	overwriteTasks(a.tasks)
	overwriteAnswer(buildAnswer{results: a.results})
}

// checkAgainMemory wants that nothing behind a length is read, nothing that was given is
// written into, and that what is answered is no part of it.
func checkAgainMemory(t *testing.T, name string, a againArgs, f func(againArgs) againAnswer) {
	t.Helper()
	p, planText := roomyPlan(a.p)
	first, wholeFirst := roomyTexts(a.a)
	second, wholeSecond := roomyTexts(a.b)
	l, wholeResults := roomyResults(a.l)
	changed, wholeChanged := roomyTasks(a.changed)
	textOfAll := func() string {
		return fmt.Sprintf("%s %q %q %v %v", planText(), wholeFirst, wholeSecond, wholeResults, wholeChanged)
	}
	before := textOfAll()
	got := f(againArgs{p: p, a: first, b: second, l: l, changed: changed})
	if want := f(a); !sameAgainAnswer(got, want) {
		t.Fatalf("%s of %v reads behind a list: %v; want %v", name, a, got, want)
	}
	overwriteAgain(got)
	if after := textOfAll(); after != before || !samePlan(p, a.p) {
		t.Fatalf("%s of %v wrote into what was given, or answers its memory: %s; was %s", name, a, after, before)
	}
}

func TestPromise19AgainStays(t *testing.T) {
	d := newDrawer()
	for _, g := range append(smallGraphs(3), drawnGraphs(60)...) {
		p := d.planOver(g)
		from, to := d.bodiesFor(p), d.bodiesFor(p)
		built, _ := impl.BuildAll(p, from)
		for _, l := range [][]impl.Result{built, d.resultsFor(p), slices.Repeat(results(blocked()), len(built)), built[1:], nil} {
			for _, changed := range [][]int{nil, {0}, {len(built) - 1}, ordered(len(built)), {0, 0}, {-1}} {
				for name, f := range againFuncs() {
					checkAgainMemory(t, name, againArgs{p: p, a: from, b: to, l: l, changed: changed}, f)
				}
			}
		}
	}
}

func TestPromise19AgainBadStays(t *testing.T) {
	for name, f := range againFuncs() {
		for what, p := range badPlans() {
			if max(len(p.Graph.Order), len(p.Source), len(p.Recipes)) <= impl.MaxTasks+1 {
				bodies := make([]string, len(p.Graph.Needs))
				a := againArgs{p: p, a: bodies, b: bodies, l: slices.Repeat(results(blocked()), len(bodies)), changed: []int{0}}
				checkAgainMemory(t, what+": "+name, a, f)
			}
		}
		good := againArgs{p: layered(), a: bodiesOf(layered(), "ab"), b: bodiesOf(layered(), "cd"), l: builtAt(layered(), "ab"), changed: []int{0}}
		for what, bodies := range badBodyLists() {
			a := good
			a.b = bodies
			checkAgainMemory(t, what+": "+name, a, f)
		}
		for what, l := range badResultLists(6) {
			a := good
			a.l = l
			checkAgainMemory(t, what+": "+name, a, f)
		}
		for what, changed := range badTaskLists(6) {
			a := good
			a.changed = changed
			checkAgainMemory(t, what+": "+name, a, f)
		}
	}
}

// What is answered by one call is not what the next one answers.
func TestPromise19AgainApart(t *testing.T) {
	for _, p := range []impl.Plan{layered(), broken(), sorted(), copying(), tenSources(), oneTask(textOp("a")), oneSource()} {
		for name, f := range againFuncs() {
			args := againArgs{p: p, a: bodiesOf(p, "ab", "cd"), b: bodiesOf(p, "ef"), l: builtAt(p, "ab", "cd"), changed: []int{0}}
			one, two := f(args), f(args)
			want := againAnswer{results: slices.Clone(two.results), tasks: slices.Clone(two.tasks), n: two.n, is: two.is, ok: two.ok}
			overwriteAgain(one)
			if three := f(args); !sameAgainAnswer(two, want) || !sameAgainAnswer(three, want) {
				t.Errorf("two answers of %s share memory", name)
			}
		}
	}
}

// One list may be given as both bodies, and the graph's own lists as what changed.
func TestPromise19AgainOneListTwice(t *testing.T) {
	all, r := ordered(5), recipe(cat(0), textOp("!"), cat(0))
	g := impl.Graph{Needs: [][]int{all[:0], all[:1], all[:1], all[1:3], all[:0]}, Order: all}
	p := impl.Plan{Graph: g, Source: []bool{true, false, false, false, true}, Recipes: [][]impl.Op{r[:0], r, r, r, r[:0]}}
	bodies := []string{"a", "", "", "", "b"}
	want, l := clonePlan(p), builtAt(p, "x", "y")
	for name, f := range againFuncs() {
		for _, changed := range append(g.Needs, g.Order) {
			apart := f(againArgs{p: clonePlan(p), a: slices.Clone(bodies), b: slices.Clone(bodies), l: slices.Clone(l), changed: slices.Clone(changed)})
			got := f(againArgs{p: p, a: bodies, b: bodies, l: l, changed: changed})
			if !sameAgainAnswer(got, apart) || !got.ok {
				t.Errorf("%s, %v changed: %v; want %v", name, changed, got, apart)
			}
			overwriteAgain(got)
			if !samePlan(p, want) || !slices.Equal(bodies, []string{"a", "", "", "", "b"}) || !slices.Equal(l, builtAt(p, "x", "y")) {
				t.Fatalf("%s: written into: %v, %v, %v", name, p, bodies, l)
			}
		}
	}
}

// makers are the functions that answer results.
func makers() map[string]func(againArgs) againAnswer {
	all := againFuncs()
	return map[string]func(againArgs) againAnswer{"AgainAll": all["AgainAll"], "AgainCut": all["AgainCut"], "FixFirst": all["FixFirst"]}
}

func TestPromise19NewTextsOfAgain(t *testing.T) {
	for name, f := range makers() {
		for _, text := range []string{"a", "AB", "0", textOfBytes(impl.MaxOut)} {
			for task, old := range results(okay("old"), okay("older")) {
				keepsApart(t, name+", of a new body", text, func(m string) (string, bool) {
					got := f(againArgs{p: over(cat(0)), b: []string{m, ""}, l: results(okay("old"), old), changed: []int{0}})
					return got.results[task].Body, got.ok
				})
			}
			keepsApart(t, name+", what stays of a task", text, func(m string) (string, bool) {
				got := f(againArgs{p: over(textOp("a")), b: []string{"b", ""}, l: results(okay("b"), okay(m))})
				return got.results[1].Body, got.ok
			})
			keepsApart(t, name+", what stays of a source", text, func(m string) (string, bool) {
				got := f(againArgs{p: over(cat(0)), b: []string{text, ""}, l: results(okay(m), okay(text))})
				return got.results[0].Body, got.ok
			})
			keepsApart(t, name+", what stays is right", text, func(m string) (string, bool) {
				got := f(againArgs{p: over(cat(0)), b: []string{text, ""}, l: results(okay(text), okay(m))})
				return got.results[1].Body, got.ok
			})
		}
		keepsApart(t, name+", a text of a recipe", "abc", func(m string) (string, bool) {
			got := f(againArgs{p: over(textOp(m)), b: []string{"b", ""}, l: results(okay("a"), failed()), changed: []int{0}})
			return got.results[1].Body, got.ok
		})
	}
}

// What only tells numbers and truths must not write into the texts that it reads either.
func TestPromise19AgainTextsAreOnlyRead(t *testing.T) {
	const text = "cabzz"
	memory := []byte(text)
	m := unsafe.String(unsafe.SliceData(memory), len(memory))
	p := over(textOp(m), bare(impl.OpSort))
	for name, f := range againFuncs() {
		if got := f(againArgs{p: p, a: []string{"a", ""}, b: []string{m, ""}, l: results(okay(m), okay(m)), changed: []int{0}}); !got.ok {
			t.Errorf("%s: %v", name, got)
		}
	}
	if string(memory) != text {
		t.Errorf("written into: %q", memory)
	}
}

// The same again, however often: nothing is kept from call to call.
func TestAgainKeepsNothing(t *testing.T) {
	var first []string
	for range 2 {
		var told []string
		d := newDrawer()
		for _, g := range append(smallGraphs(3), drawnGraphs(40)...) {
			p := d.planOver(g)
			a := againArgs{p: p, a: d.bodiesFor(p), b: d.bodiesFor(p), l: d.resultsFor(p), changed: []int{0}}
			for _, name := range []string{"ChangedIn", "AgainAll", "AgainCut", "StaleIn", "IsBuilt", "FixFirst"} {
				told = append(told, fmt.Sprintf("%v", againFuncs()[name](a)))
			}
		}
		if first != nil && !slices.Equal(told, first) {
			t.Fatal("the second time it is told otherwise")
		}
		first = told
	}
}
