package tests

import (
	"fmt"
	"slices"
	"strings"
	"testing"
	"unsafe"

	"loop.example/g00636/impl"
)

type foundCase struct {
	what string
	p    impl.Plan
	l    []impl.Trace
	task int
	ins  []string
	want impl.Result
}

type notedCase struct {
	what string
	p    impl.Plan
	l    []impl.Trace
	t    impl.Trace
	want []impl.Trace
}

type tracedCase struct {
	what   string
	p      impl.Plan
	l      []impl.Trace
	bodies []string
	want   []impl.Result
	traces []impl.Trace
	n      int
}

// traceArgs is all that some function of the chapter takes.
type traceArgs struct {
	p      impl.Plan
	l      []impl.Trace
	task   int
	ins    []string
	t      impl.Trace
	bodies []string
}

// traceAnswer is all that some function of the chapter answers.
type traceAnswer struct {
	results []impl.Result
	traces  []impl.Trace
	out     impl.Result
	n       int
	is      bool
	ok      bool
}

func traceFuncs() map[string]func(traceArgs) traceAnswer {
	return map[string]func(traceArgs) traceAnswer{
		"GoodTraces": func(a traceArgs) traceAnswer { return traceAnswer{ok: impl.GoodTraces(a.p, a.l)} },
		"FindTrace": func(a traceArgs) traceAnswer {
			out, ok := impl.FindTrace(a.p, a.l, a.task, a.ins)
			return traceAnswer{out: out, ok: ok}
		},
		"NoteTrace": func(a traceArgs) traceAnswer {
			l, ok := impl.NoteTrace(a.p, a.l, a.t)
			return traceAnswer{traces: l, ok: ok}
		},
		"BuildTraced": func(a traceArgs) traceAnswer {
			l, traces, n, ok := impl.BuildTraced(a.p, a.l, a.bodies)
			return traceAnswer{results: l, traces: traces, n: n, ok: ok}
		},
		"TrueTraces": func(a traceArgs) traceAnswer {
			is, ok := impl.TrueTraces(a.p, a.l)
			return traceAnswer{is: is, ok: ok}
		},
		"TracesFor": func(a traceArgs) traceAnswer {
			n, ok := impl.TracesFor(a.p, a.l, a.task)
			return traceAnswer{n: n, ok: ok}
		},
	}
}

// onlyTrace is one of the functions alone.
func onlyTrace(name string) map[string]func(traceArgs) traceAnswer {
	return map[string]func(traceArgs) traceAnswer{name: traceFuncs()[name]}
}

func sameTrace(a impl.Trace, b impl.Trace) bool {
	return a.Task == b.Task && slices.Equal(a.Ins, b.Ins) && a.Out == b.Out
}

func sameTraces(a []impl.Trace, b []impl.Trace) bool {
	return slices.EqualFunc(a, b, sameTrace)
}

func sameTraceAnswer(a traceAnswer, b traceAnswer) bool {
	return slices.Equal(a.results, b.results) && sameTraces(a.traces, b.traces) && a.out == b.out &&
		a.n == b.n && a.is == b.is && a.ok == b.ok
}

func checkZeroTrace(t *testing.T, what string, funcs map[string]func(traceArgs) traceAnswer, a traceArgs) {
	t.Helper()
	for name, f := range funcs {
		if got := f(a); !sameTraceAnswer(got, traceAnswer{}) {
			t.Errorf("%s: %s: %v", what, name, got)
		}
	}
}

func trace(task int, out impl.Result, ins ...string) impl.Trace {
	return impl.Trace{Task: task, Ins: ins, Out: out}
}

func traces(l ...impl.Trace) []impl.Trace { return l }

func cloneTrace(t impl.Trace) impl.Trace {
	return impl.Trace{Task: t.Task, Ins: slices.Clone(t.Ins), Out: t.Out}
}

func cloneTraces(l []impl.Trace) []impl.Trace {
	var c []impl.Trace
	for _, t := range l {
		c = append(c, cloneTrace(t))
	}
	return c
}

// without gives the traces but for the one at that place.
func without(l []impl.Trace, place int) []impl.Trace {
	return slices.Delete(cloneTraces(l), place, place+1)
}

// withTrace gives the traces with another one at that place.
func withTrace(l []impl.Trace, place int, t impl.Trace) []impl.Trace {
	changed := cloneTraces(l)
	changed[place] = t
	return changed
}

// shouting is one task over a source, which it tells in great letters.
func shouting() impl.Plan { return over(cat(0), bare(impl.OpUpper)) }

// manyTraces are that many true ones of shouting, from i0 on.
func manyTraces(n int) []impl.Trace {
	var l []impl.Trace
	for i := range n {
		l = append(l, trace(1, okay(fmt.Sprint("I", i)), fmt.Sprint("i", i)))
	}
	return l
}

// tracesOfLayered are what a build of layered at ab and cd notes.
func tracesOfLayered() []impl.Trace {
	return traces(
		trace(5, okay("z")),
		trace(3, okay("cd-ab"), "ab", "cd"),
		trace(2, okay("AB"), "ab"),
		trace(4, okay("AB+cd-ab"), "AB", "cd-ab"))
}

// tracesOfBroken are what a build of broken at abc notes.
func tracesOfBroken() []impl.Trace {
	return traces(
		trace(7, failed()),
		trace(4, okay("3"), "abc"),
		trace(1, failed(), "abc"),
		trace(9, okay("abc3"), "abc", "3"))
}

// twins are two tasks with the same recipe over the same source, and one over both of them.
func twins() impl.Plan {
	r := recipe(cat(0), textOp("!"))
	return planOf(
		graphOf([]int{0, 1, 2, 3}, map[int][]int{1: {0}, 2: {0}, 3: {1, 2}}),
		[]int{0},
		map[int][]impl.Op{1: r, 2: r, 3: recipe(cat(1), cat(0))})
}

// overNine is a task over nine sources.
func overNine() impl.Plan {
	return planOf(graphOf(ordered(10), map[int][]int{9: ordered(9)}), ordered(9), map[int][]impl.Op{9: recipe(cat(8), cat(0))})
}

func isTraceOf(t impl.Trace, task int, ins []string) bool {
	return t.Task == task && slices.Equal(t.Ins, ins)
}

func findByHand(l []impl.Trace, task int, ins []string) (impl.Result, bool) {
	for _, t := range l {
		if isTraceOf(t, task, ins) {
			return t.Out, true
		}
	}
	return impl.Result{}, false
}

func noteByHand(l []impl.Trace, t impl.Trace) []impl.Trace {
	noted, isNew := slices.Clone(l), true
	for place, other := range noted {
		if isTraceOf(other, t.Task, t.Ins) {
			noted[place], isNew = t, false
		}
	}
	if isNew {
		noted = append(noted, t)
	}
	if len(noted) == impl.MaxTraces+1 {
		noted = noted[1:]
	}
	return noted
}

// traceByHand is the trace of a task at these results, where there is one.
func traceByHand(p impl.Plan, l []impl.Result, task int) (impl.Trace, bool) {
	if p.Source[task] || l[task].State == impl.StBlocked {
		return impl.Trace{}, false
	}
	return trace(task, l[task], inputsByHand(p, l, task)...), true
}

// buildTracedByHand goes along the Order, as a trace that is noted may push out another one.
func buildTracedByHand(p impl.Plan, l []impl.Trace, bodies []string) traceAnswer {
	a := traceAnswer{results: make([]impl.Result, len(bodies)), traces: cloneTraces(l), ok: true}
	for _, task := range p.Graph.Order {
		a.results[task] = freshByHand(p, a.results, bodies, task)
		made, isTraced := traceByHand(p, a.results, task)
		if !isTraced {
			continue
		}
		if out, found := findByHand(a.traces, task, made.Ins); found {
			a.results[task] = out
			continue
		}
		a.traces = noteByHand(a.traces, made)
		a.n++
	}
	return a
}

// tracedByHand says, apart from the Order, what becomes of a task where none of the traces goes.
func tracedByHand(p impl.Plan, l []impl.Trace, bodies []string, task int) impl.Result {
	if p.Source[task] {
		return okay(bodies[task])
	}
	var ins []string
	isBlocked := false
	for _, need := range p.Graph.Needs[task] {
		under := tracedByHand(p, l, bodies, need)
		isBlocked = isBlocked || under.State != impl.StOk
		ins = append(ins, under.Body)
	}
	if out, found := findByHand(l, task, ins); found && !isBlocked {
		return out
	}
	return madeOn(p.Recipes[task], ins, isBlocked)
}

func trueByHand(p impl.Plan, l []impl.Trace) bool {
	for _, t := range l {
		if t.Out != madeOn(p.Recipes[t.Task], t.Ins, false) {
			return false
		}
	}
	return true
}

// tasksOf are those that are no sources.
func tasksOf(p impl.Plan) []int {
	return tasksWhere(ordered(len(p.Source)), func(task int) bool { return !p.Source[task] })
}

func (d *drawer) text() string {
	texts := []string{"", "a", "b", "ab", "\xff\x00", textOfBytes(15), textOfBytes(impl.MaxOut)}
	return texts[d.below(len(texts))]
}

// trueTraceOf gives a true trace of the task, of drawn Ins.
func (d *drawer) trueTraceOf(p impl.Plan, task int) impl.Trace {
	var ins []string
	for range p.Graph.Needs[task] {
		ins = append(ins, d.text())
	}
	return trace(task, madeOn(p.Recipes[task], ins, false), ins...)
}

// builtTraces are those that builds at drawn bodies would note, some of them left out, in a drawn order.
func (d *drawer) builtTraces(p impl.Plan, bodies []string) []impl.Trace {
	var l []impl.Trace
	for _, at := range d.otherBodies(p, bodies) {
		built, _ := impl.BuildAll(p, at)
		for range 1 + d.below(len(built)) {
			if t, isTraced := traceByHand(p, built, d.below(len(built))); isTraced {
				l = noteByHand(l, t)
			}
		}
	}
	return l
}

// trueTraces are some that a build here finds and some that none does, from none up to that many more.
func (d *drawer) trueTraces(p impl.Plan, bodies []string, more int) []impl.Trace {
	l := d.builtTraces(p, bodies)
	if tasks := tasksOf(p); len(tasks) > 0 {
		for range d.below(more + 1) {
			l = noteByHand(l, d.trueTraceOf(p, tasks[d.below(len(tasks))]))
		}
	}
	return l
}

// anyTraces are such ones of which some are false.
func (d *drawer) anyTraces(p impl.Plan, bodies []string, more int) []impl.Trace {
	l := d.trueTraces(p, bodies, more)
	for place := range l {
		switch d.below(6) {
		case 0:
			l[place].Out = failed()
		case 1:
			l[place].Out = okay(d.text())
		}
	}
	return l
}

func goodTraceCase(t *testing.T, what string, p impl.Plan, l []impl.Trace) {
	t.Helper()
	checkGoodPlan(t, what, p)
	if !impl.GoodTraces(p, l) {
		t.Fatalf("%s: the traces are not good: %v", what, l)
	}
}

func TestMaxTraces(t *testing.T) {
	if impl.MaxTraces != 40 {
		t.Error(impl.MaxTraces)
	}
}

func TestGoodTraces(t *testing.T) {
	most := textOfBytes(impl.MaxOut)
	for _, c := range []struct {
		what string
		p    impl.Plan
		l    []impl.Trace
	}{
		{"none", layered(), nil},
		{"none, an empty list", layered(), traces()},
		{"none of one source", oneSource(), nil},
		{"of layered", layered(), tracesOfLayered()},
		{"of broken", broken(), tracesOfBroken()},
		{"one less than MaxTraces", shouting(), manyTraces(impl.MaxTraces - 1)},
		{"exactly MaxTraces", shouting(), manyTraces(impl.MaxTraces)},
		{"of a task that needs none", oneTask(textOp("a")), traces(trace(0, okay("a")))},
		{"the same, an empty list of Ins", oneTask(textOp("a")), traces(impl.Trace{Ins: []string{}, Out: okay("a")})},
		{"the first task and the last one", atAll(everyNeed(), textOp("a")), traces(trace(0, okay("a")), trace(9, okay("a"), inputs(9)...))},
		{"an Ins of MaxOut bytes", shouting(), traces(trace(1, okay(""), most))},
		{"both Ins of MaxOut bytes", layered(), traces(trace(3, failed(), most, most))},
		{"nine Ins of MaxOut bytes", overNine(), traces(trace(9, failed(), slices.Repeat([]string{most}, 9)...))},
		{"an Out of MaxOut bytes", shouting(), traces(trace(1, okay(most), ""))},
		{"an empty Out", shouting(), traces(trace(1, okay(""), "a"))},
		{"a failed one", shouting(), traces(trace(1, failed(), "a"))},
		{"a failed one that has no Ins", layered(), traces(trace(5, failed()))},
		{"a false one", shouting(), traces(trace(1, okay("b"), "a"))},
		{"two unlike Ins", shouting(), traces(trace(1, okay("A"), "a"), trace(1, okay("A"), "b"))},
		{"Ins that end elsewhere", layered(), traces(trace(3, okay(""), "ab", "c"), trace(3, okay(""), "a", "bc"), trace(3, okay(""), "abc", ""), trace(3, okay(""), "", "abc"))},
		{"Ins alike but for their order", layered(), traces(trace(3, okay("b-a"), "a", "b"), trace(3, okay("a-b"), "b", "a"))},
		{"Ins alike but for the first of nine", overNine(), traces(trace(9, okay(""), inputs(9)...), trace(9, okay(""), append([]string{""}, inputs(9)[1:]...)...))},
		{"Ins alike but for the last of nine", overNine(), traces(trace(9, okay(""), inputs(9)...), trace(9, okay(""), append(inputs(8), "")...))},
		{"Ins alike but for a byte 0", shouting(), traces(trace(1, okay(""), ""), trace(1, okay(""), "\x00"), trace(1, okay(""), "\x00\x00"))},
		{"Ins alike but for great letters", shouting(), traces(trace(1, okay("A"), "a"), trace(1, okay("A"), "A"))},
		{"Ins that are no runes", shouting(), traces(trace(1, okay("\xff"), "\xff"), trace(1, okay("\xfe"), "\xfe"))},
		{"tasks with the same recipe, the same Ins", twins(), traces(trace(1, okay("a!"), "a"), trace(2, okay("a!"), "a"))},
		{"two tasks that have no Ins", atAll(graphOf(ordered(2), nil), textOp("a")), traces(trace(1, okay("a")), trace(0, okay("a")))},
	} {
		checkGoodPlan(t, c.what, c.p)
		if !impl.GoodTraces(c.p, c.l) {
			t.Errorf("%s: not good: %v", c.what, c.l)
		}
	}
}

// badTracesOfLayered are no traces of layered, wherever they stand.
func badTracesOfLayered() map[string]impl.Trace {
	long := textOfBytes(impl.MaxOut + 1)
	bad := map[string]impl.Trace{
		"of the first source":          trace(0, okay("")),
		"of the other source":          trace(1, okay("ab")),
		"of a source, with an Ins":     trace(1, okay("ab"), "ab"),
		"of a source, failed":          trace(0, failed()),
		"of the task ahead of all":     trace(-1, okay("")),
		"of the task behind all":       trace(6, okay("")),
		"of MaxTasks":                  trace(impl.MaxTasks, okay("")),
		"of a great task":              trace(1<<62, okay("")),
		"of the least task":            trace(-1<<63, okay("")),
		"of the greatest task":         trace(1<<63-1, okay("")),
		"of a task in the low bits":    trace(1<<32+5, okay("")),
		"no Ins":                       trace(2, okay("")),
		"one Ins too few":              trace(3, okay(""), "a"),
		"one Ins too many":             trace(2, okay(""), "a", ""),
		"a third Ins":                  trace(4, okay(""), "a", "b", "c"),
		"an Ins where none is":         trace(5, okay("z"), ""),
		"ten Ins":                      trace(4, okay(""), inputs(10)...),
		"eleven Ins":                   trace(4, okay(""), append(inputs(10), "")...),
		"very many Ins":                trace(4, okay(""), make([]string, 100000)...),
		"an Ins too long":              trace(2, okay(""), long),
		"the first Ins too long":       trace(3, okay(""), long, ""),
		"the last Ins too long":        trace(3, okay(""), "", long),
		"a very long Ins":              trace(3, failed(), textOfBytes(100000), ""),
		"an Ins too long by bytes":     trace(2, okay(""), strings.Repeat("é", impl.MaxOut/2+1)),
		"blocked":                      trace(2, blocked(), "a"),
		"blocked, no Ins":              trace(5, blocked()),
		"of no task, no Out that is":   trace(-1, impl.Result{State: 3}),
		"of a source, all else is bad": trace(0, blocked(), long),
	}
	for what, out := range badResults() {
		bad[what] = trace(2, out, "a")
		bad[what+", no Ins"] = trace(5, out)
	}
	return bad
}

// badTraceLists are refused of layered.
func badTraceLists() map[string][]impl.Trace {
	good := tracesOfLayered()
	lists := map[string][]impl.Trace{
		"twice the same":                    traces(good[2], good[2]),
		"twice, another Out":                traces(good[2], trace(2, okay("q"), "ab")),
		"twice, of which one failed":        traces(trace(2, failed(), "ab"), good[2]),
		"twice no Ins":                      traces(good[0], trace(5, failed())),
		"twice no Ins, nil and empty":       traces(good[0], impl.Trace{Task: 5, Ins: []string{}, Out: okay("z")}),
		"twice, others between":             append(cloneTraces(good), trace(5, okay("y"))),
		"twice two Ins":                     traces(good[1], good[2], trace(3, okay("cd-ab"), "ab", "cd")),
		"thrice":                            traces(good[3], good[3], good[3]),
		"very many":                         make([]impl.Trace, 100000),
		"very many of a task":               slices.Repeat(good[2:3], 100000),
		"MaxTraces and one, all are unlike": moreOfLayered(impl.MaxTraces + 1),
		"MaxTraces, the first one and last": withTrace(moreOfLayered(impl.MaxTraces), impl.MaxTraces-1, trace(2, okay(""), "i0")),
		"MaxTraces, the last two":           withTrace(moreOfLayered(impl.MaxTraces), impl.MaxTraces-1, trace(2, okay(""), "i38")),
	}
	for place, some := range good {
		lists[fmt.Sprint("twice that at ", place)] = append(cloneTraces(good), some)
	}
	for what, bad := range badTracesOfLayered() {
		lists[what+", alone"] = traces(bad)
		for place := range good {
			lists[fmt.Sprint(what, ", at ", place)] = withTrace(good, place, bad)
		}
		lists[what+", the last of MaxTraces"] = withTrace(moreOfLayered(impl.MaxTraces), impl.MaxTraces-1, bad)
	}
	return lists
}

// moreOfLayered are that many unlike traces of one task of layered.
func moreOfLayered(n int) []impl.Trace {
	l := manyTraces(n)
	for place := range l {
		l[place].Task = 2
	}
	return l
}

func TestGoodTracesRefuses(t *testing.T) {
	if good := moreOfLayered(impl.MaxTraces); !impl.GoodTraces(layered(), good) {
		t.Fatal("the case is not good", good)
	}
	for what, l := range badTraceLists() {
		if impl.GoodTraces(layered(), l) {
			t.Errorf("%s: good", what)
		}
	}
	for what, p := range map[string]impl.Plan{"one source": oneSource(), "one task": oneTask(), "shouting": shouting(), "ten": tenSources(), "copying": copying()} {
		if impl.GoodTraces(p, tracesOfLayered()) {
			t.Errorf("traces of another plan than %s are good", what)
		}
	}
	if impl.GoodTraces(shouting(), manyTraces(impl.MaxTraces+1)) {
		t.Error("one more than MaxTraces is good")
	}
}

func TestFindTrace(t *testing.T) {
	most := textOfBytes(impl.MaxOut)
	many := manyTraces(impl.MaxTraces)
	swapped := traces(trace(3, okay("1"), "a", "b"), trace(3, okay("2"), "b", "a"), trace(3, okay("3"), "a", "a"))
	for _, c := range []foundCase{
		{"no Ins", layered(), tracesOfLayered(), 5, nil, okay("z")},
		{"no Ins, an empty list", layered(), tracesOfLayered(), 5, []string{}, okay("z")},
		{"no Ins in the trace, an empty list", layered(), traces(impl.Trace{Task: 5, Ins: []string{}, Out: okay("y")}), 5, nil, okay("y")},
		{"two Ins", layered(), tracesOfLayered(), 3, []string{"ab", "cd"}, okay("cd-ab")},
		{"one Ins", layered(), tracesOfLayered(), 2, []string{"ab"}, okay("AB")},
		{"the last one", layered(), tracesOfLayered(), 4, []string{"AB", "cd-ab"}, okay("AB+cd-ab")},
		{"a failed one", broken(), tracesOfBroken(), 1, []string{"abc"}, failed()},
		{"a failed one, no Ins", broken(), tracesOfBroken(), 7, nil, failed()},
		{"a false one", shouting(), traces(trace(1, okay("no"), "a")), 1, []string{"a"}, okay("no")},
		{"a failed one that is false", shouting(), traces(trace(1, failed(), "a")), 1, []string{"a"}, failed()},
		{"an empty Out", shouting(), traces(trace(1, okay(""), "a")), 1, []string{"a"}, okay("")},
		{"an empty Ins", shouting(), traces(trace(1, okay("A"), "a"), trace(1, okay("E"), "")), 1, []string{""}, okay("E")},
		{"the first of MaxTraces", shouting(), many, 1, []string{"i0"}, okay("I0")},
		{"the last of MaxTraces", shouting(), many, 1, []string{"i39"}, okay("I39")},
		{"in one order", layered(), swapped, 3, []string{"a", "b"}, okay("1")},
		{"in the other order", layered(), swapped, 3, []string{"b", "a"}, okay("2")},
		{"twice the same text", layered(), swapped, 3, []string{"a", "a"}, okay("3")},
		{"the one of two tasks", twins(), traces(trace(1, okay("1"), "a"), trace(2, okay("2"), "a")), 1, []string{"a"}, okay("1")},
		{"the other of two tasks", twins(), traces(trace(1, okay("1"), "a"), trace(2, okay("2"), "a")), 2, []string{"a"}, okay("2")},
		{"an Ins of MaxOut bytes", shouting(), traces(trace(1, okay(most), most)), 1, []string{most}, okay(most)},
		{"nine Ins", overNine(), traces(trace(9, okay("a"), inputs(9)...), trace(9, okay("b"), append(inputs(8), "")...)), 9, append(inputs(8), ""), okay("b")},
	} {
		goodTraceCase(t, c.what, c.p, c.l)
		if got, ok := impl.FindTrace(c.p, c.l, c.task, c.ins); got != c.want || !ok {
			t.Errorf("%s: FindTrace of %d, %q: %v, %v; want %v", c.what, c.task, c.ins, got, ok, c.want)
		}
	}
}

func TestFindTraceNone(t *testing.T) {
	most, long := textOfBytes(impl.MaxOut), textOfBytes(impl.MaxOut+1)
	for _, c := range []foundCase{
		{what: "no traces", p: layered(), task: 5},
		{what: "none of that task", p: layered(), l: tracesOfLayered()[1:], task: 5},
		{what: "the task itself has none, its twin has", p: twins(), l: traces(trace(1, okay("a!"), "a")), task: 2, ins: []string{"a"}},
		{what: "its other twin has", p: twins(), l: traces(trace(2, okay("a!"), "a")), task: 1, ins: []string{"a"}},
		{what: "other Ins", p: layered(), l: tracesOfLayered(), task: 2, ins: []string{"cd"}},
		{what: "an Ins that goes on", p: layered(), l: tracesOfLayered(), task: 2, ins: []string{"abc"}},
		{what: "an Ins that ends ahead", p: layered(), l: tracesOfLayered(), task: 2, ins: []string{"a"}},
		{what: "an Ins that goes on with a byte 0", p: layered(), l: tracesOfLayered(), task: 2, ins: []string{"ab\x00"}},
		{what: "an empty Ins", p: layered(), l: tracesOfLayered(), task: 2, ins: []string{""}},
		{what: "great letters", p: layered(), l: tracesOfLayered(), task: 2, ins: []string{"AB"}},
		{what: "the other order", p: layered(), l: tracesOfLayered(), task: 3, ins: []string{"cd", "ab"}},
		{what: "the first one is alike", p: layered(), l: tracesOfLayered(), task: 3, ins: []string{"ab", "ab"}},
		{what: "the second one is alike", p: layered(), l: tracesOfLayered(), task: 3, ins: []string{"cd", "cd"}},
		{what: "they end elsewhere", p: layered(), l: tracesOfLayered(), task: 3, ins: []string{"abc", "d"}},
		{what: "all in one", p: layered(), l: tracesOfLayered(), task: 3, ins: []string{"abcd", ""}},
		{what: "MaxOut bytes, one unlike", p: shouting(), l: traces(trace(1, okay(""), most)), task: 1, ins: []string{most[1:] + "-"}},
		{what: "the first source", p: layered(), l: tracesOfLayered(), task: 0},
		{what: "a source, its body", p: layered(), l: tracesOfLayered(), task: 0, ins: []string{"ab"}},
		{what: "one source alone", p: oneSource(), task: 0},
		{what: "ahead of all tasks", p: layered(), l: tracesOfLayered(), task: -1},
		{what: "behind all tasks", p: layered(), l: tracesOfLayered(), task: 6},
		{what: "the least task", p: layered(), l: tracesOfLayered(), task: -1 << 63},
		{what: "the greatest task", p: layered(), l: tracesOfLayered(), task: 1<<63 - 1},
		{what: "too few", p: layered(), l: tracesOfLayered(), task: 3, ins: []string{"ab"}},
		{what: "none, it needs one", p: layered(), l: tracesOfLayered(), task: 2},
		{what: "too many", p: layered(), l: tracesOfLayered(), task: 2, ins: []string{"ab", ""}},
		{what: "one, it needs none", p: layered(), l: tracesOfLayered(), task: 5, ins: []string{""}},
		{what: "very many", p: layered(), l: tracesOfLayered(), task: 5, ins: make([]string, 100000)},
		{what: "one too long", p: layered(), l: tracesOfLayered(), task: 2, ins: []string{long}},
		{what: "the second one too long", p: layered(), l: tracesOfLayered(), task: 3, ins: []string{"ab", long}},
	} {
		goodTraceCase(t, c.what, c.p, c.l)
		checkZeroTrace(t, c.what, onlyTrace("FindTrace"), traceArgs{p: c.p, l: c.l, task: c.task, ins: c.ins})
	}
}

func TestNoteTrace(t *testing.T) {
	l, most := tracesOfLayered(), textOfBytes(impl.MaxOut)
	full := manyTraces(impl.MaxTraces)
	next := trace(1, okay("N"), "n")
	for _, c := range []notedCase{
		{"the first one", layered(), nil, l[2], l[2:3]},
		{"the first one, no Ins", layered(), traces(), l[0], l[:1]},
		{"another task", layered(), l[:2], l[2], l[:3]},
		{"a lesser task goes behind, too", layered(), l[3:], l[2], traces(l[3], l[2])},
		{"other Ins", layered(), l, trace(2, okay("CD"), "cd"), append(cloneTraces(l), trace(2, okay("CD"), "cd"))},
		{"the Ins the other way", layered(), l, trace(3, okay("ab-cd"), "cd", "ab"), append(cloneTraces(l), trace(3, okay("ab-cd"), "cd", "ab"))},
		{"one that is there", layered(), l, l[1], l},
		{"another Out, the first one", layered(), l, trace(5, okay("y")), withTrace(l, 0, trace(5, okay("y")))},
		{"another Out, in between", layered(), l, trace(2, okay("q"), "ab"), withTrace(l, 2, trace(2, okay("q"), "ab"))},
		{"another Out, the last one", layered(), l, trace(4, okay(most), "AB", "cd-ab"), withTrace(l, 3, trace(4, okay(most), "AB", "cd-ab"))},
		{"it failed by now", layered(), l, trace(3, failed(), "ab", "cd"), withTrace(l, 1, trace(3, failed(), "ab", "cd"))},
		{"it fails no more", broken(), tracesOfBroken(), trace(1, okay("a"), "abc"), withTrace(tracesOfBroken(), 2, trace(1, okay("a"), "abc"))},
		{"a false one", shouting(), nil, trace(1, okay("no"), "yes"), traces(trace(1, okay("no"), "yes"))},
		{"an Ins of MaxOut bytes", shouting(), nil, trace(1, okay(most), most), traces(trace(1, okay(most), most))},
		{"a twin", twins(), traces(trace(1, okay("a!"), "a")), trace(2, okay("b!"), "a"), traces(trace(1, okay("a!"), "a"), trace(2, okay("b!"), "a"))},
		{"up to MaxTraces", shouting(), full[:39], full[39], full},
		{"one more than MaxTraces", shouting(), full, next, append(cloneTraces(full[1:]), next)},
		{"MaxTraces, the first one is there", shouting(), full, trace(1, okay("q"), "i0"), withTrace(full, 0, trace(1, okay("q"), "i0"))},
		{"MaxTraces, the last one is there", shouting(), full, trace(1, okay("q"), "i39"), withTrace(full, 39, trace(1, okay("q"), "i39"))},
		{"MaxTraces, another task", layered(), moreOfLayered(40), l[0], append(moreOfLayered(40)[1:], l[0])},
	} {
		goodTraceCase(t, c.what, c.p, c.l)
		if got, ok := impl.NoteTrace(c.p, c.l, c.t); !sameTraces(got, c.want) || !ok {
			t.Errorf("%s: NoteTrace of %v in %v: %v, %v; want %v", c.what, c.t, c.l, got, ok, c.want)
		}
	}
}

func TestNoteTraceRefuses(t *testing.T) {
	for what, bad := range badTracesOfLayered() {
		for _, l := range [][]impl.Trace{nil, tracesOfLayered(), moreOfLayered(impl.MaxTraces)} {
			checkZeroTrace(t, what, onlyTrace("NoteTrace"), traceArgs{p: layered(), l: l, t: bad})
		}
	}
	for _, p := range []impl.Plan{oneSource(), tenSources()} {
		checkZeroTrace(t, "sources alone", onlyTrace("NoteTrace"), traceArgs{p: p, t: trace(0, okay(""))})
	}
	if _, ok := impl.NoteTrace(layered(), moreOfLayered(impl.MaxTraces), trace(5, okay("z"))); !ok {
		t.Error("the case is not good")
	}
}

// However many are noted, the last MaxTraces of them are there.
func TestNoteTraceOneByOne(t *testing.T) {
	many := manyTraces(2*impl.MaxTraces + 5)
	var l []impl.Trace
	for i, noted := range many {
		l, _ = impl.NoteTrace(shouting(), l, noted)
		if want := many[max(0, i+1-impl.MaxTraces) : i+1]; !sameTraces(l, want) {
			t.Fatalf("%d noted: %v; want %v", i+1, l, want)
		}
	}
}

func TestTracesFor(t *testing.T) {
	some := traces(trace(2, okay(""), "a"), trace(3, okay(""), "a", "b"), trace(2, failed(), "b"), trace(2, okay("x"), ""), trace(3, okay(""), "b", "a"))
	for _, c := range []struct {
		what string
		p    impl.Plan
		l    []impl.Trace
		want []int
	}{
		{"no traces", layered(), nil, []int{0, 0, 0, 0, 0, 0}},
		{"one for each task", layered(), tracesOfLayered(), []int{0, 0, 1, 1, 1, 1}},
		{"some", layered(), some, []int{0, 0, 3, 2, 0, 0}},
		{"MaxTraces", shouting(), manyTraces(impl.MaxTraces), []int{0, impl.MaxTraces}},
		{"failed ones", broken(), tracesOfBroken(), []int{0, 1, 0, 0, 1, 0, 0, 1, 0, 1}},
		{"twins", twins(), traces(trace(1, okay("a!"), "a"), trace(1, okay("b!"), "b"), trace(2, okay("a!"), "a")), []int{0, 2, 1, 0}},
		{"one source", oneSource(), nil, []int{0}},
		{"one task", oneTask(textOp("a")), traces(trace(0, okay("a"))), []int{1}},
		{"the last of MaxTasks", overNine(), traces(trace(9, okay(""), inputs(9)...)), []int{0, 0, 0, 0, 0, 0, 0, 0, 0, 1}},
	} {
		goodTraceCase(t, c.what, c.p, c.l)
		for task, want := range c.want {
			if got, ok := impl.TracesFor(c.p, c.l, task); got != want || !ok {
				t.Errorf("%s: TracesFor %d of %v: %v, %v; want %v", c.what, task, c.l, got, ok, want)
			}
		}
		for _, task := range []int{-1, len(c.want), len(c.want) + 1, impl.MaxTasks, 1 << 32, 1 << 62, 1<<63 - 1, -1 << 63} {
			checkZeroTrace(t, fmt.Sprint(c.what, ", of the task ", task), onlyTrace("TracesFor"), traceArgs{p: c.p, l: c.l, task: task})
		}
	}
}

func TestTrueTraces(t *testing.T) {
	most := textOfBytes(impl.MaxOut)
	growing, counting := over(cat(0), textOp("y")), over(cat(0), bare(impl.OpCount))
	for _, c := range []struct {
		what string
		p    impl.Plan
		l    []impl.Trace
		want bool
	}{
		{"none", layered(), nil, true},
		{"none, an empty list", layered(), traces(), true},
		{"none of a source", oneSource(), nil, true},
		{"of layered", layered(), tracesOfLayered(), true},
		{"of broken", broken(), tracesOfBroken(), true},
		{"MaxTraces", shouting(), manyTraces(impl.MaxTraces), true},
		{"the first of MaxTraces is false", shouting(), withTrace(manyTraces(impl.MaxTraces), 0, trace(1, okay("I1"), "i0")), false},
		{"the last of MaxTraces is false", shouting(), withTrace(manyTraces(impl.MaxTraces), 39, trace(1, okay("i39"), "i39")), false},
		{"one in between is false", layered(), withTrace(tracesOfLayered(), 2, trace(2, okay("ab"), "ab")), false},
		{"Ins that nothing comes to", layered(), traces(trace(4, okay("1+2"), "1", "2")), true},
		{"Ins that nothing comes to, false", layered(), traces(trace(4, okay("2+1"), "1", "2")), false},
		{"both the one way and the other", layered(), traces(trace(3, okay("b-a"), "a", "b"), trace(3, okay("a-b"), "b", "a")), true},
		{"what its twin makes, too", twins(), traces(trace(1, okay("a!"), "a"), trace(2, okay("a!"), "a")), true},
		{"an empty text", oneTask(), traces(trace(0, okay(""))), true},
		{"an empty text, told to have failed", oneTask(), traces(trace(0, failed())), false},
		{"it fails", oneTask(bare(impl.OpFail)), traces(trace(0, failed())), true},
		{"it fails, told to be empty", oneTask(bare(impl.OpFail)), traces(trace(0, okay(""))), false},
		{"it fails, told a text", oneTask(textOp("a"), bare(impl.OpFail)), traces(trace(0, okay("a"))), false},
		{"it does not fail, told so", shouting(), traces(trace(1, failed(), "a")), false},
		{"it fails as it is too long", growing, traces(trace(1, failed(), most)), true},
		{"it is just as long as it may be", growing, traces(trace(1, okay(most[1:]+"y"), most[1:])), true},
		{"just as long, told to have failed", growing, traces(trace(1, failed(), most[1:])), false},
		{"too long, told the text it took", growing, traces(trace(1, okay(most), most)), false},
		{"as many bytes", counting, traces(trace(1, okay("2"), "é"), trace(1, okay("0"), ""), trace(1, okay("40"), most)), true},
		{"as many runes", counting, traces(trace(1, okay("1"), "é")), false},
		{"the first one and the last of nine", overNine(), traces(trace(9, okay("i8i0"), inputs(9)...)), true},
	} {
		goodTraceCase(t, c.what, c.p, c.l)
		if got, ok := impl.TrueTraces(c.p, c.l); got != c.want || !ok {
			t.Errorf("%s: TrueTraces of %v: %v, %v; want %v", c.what, c.l, got, ok, c.want)
		}
	}
}

func checkTraced(t *testing.T, cases []tracedCase) {
	t.Helper()
	for _, c := range cases {
		goodTraceCase(t, c.what, c.p, c.l)
		goodAgainCase(t, c.what, c.p, c.bodies, c.want)
		got := traceFuncs()["BuildTraced"](traceArgs{p: c.p, l: c.l, bodies: c.bodies})
		if want := (traceAnswer{results: c.want, traces: c.traces, n: c.n, ok: true}); !sameTraceAnswer(got, want) {
			t.Errorf("%s: BuildTraced of %v at %q: %v; want %v", c.what, c.l, c.bodies, got, want)
		}
	}
}

func TestBuildTraced(t *testing.T) {
	p, at, all := layered(), bodiesOf(layered(), "ab", "cd"), tracesOfLayered()
	built := builtAt(layered(), "ab", "cd")
	other := trace(2, okay("EF"), "ef")
	checkTraced(t, []tracedCase{
		{"no traces", p, nil, at, built, all, 4},
		{"no traces, an empty list", p, traces(), at, built, all, 4},
		{"all are there", p, all, at, built, all, 0},
		{"all are there in another order", p, traces(all[3], all[1], all[0], all[2]), at, built, traces(all[3], all[1], all[0], all[2]), 0},
		{"the first one is not", p, all[1:], at, built, append(cloneTraces(all[1:]), all[0]), 1},
		{"the last one is not", p, all[:3], at, built, all, 1},
		{"one over the sources is not, what needs it is", p, without(all, 2), at, built, append(without(all, 2), all[2]), 1},
		{"one alone is", p, all[2:3], at, built, traces(all[2], all[0], all[1], all[3]), 3},
		{"another one is", p, traces(other), at, built, append(traces(other), all...), 4},
		{"other bodies", p, all, bodiesOf(p, "ef", "cd"), builtAt(p, "ef", "cd"),
			append(cloneTraces(all), trace(3, okay("cd-ef"), "ef", "cd"), other, trace(4, okay("EF+cd-ef"), "EF", "cd-ef")), 3},
		{"one other body", p, all, bodiesOf(p, "ab", "xy"), builtAt(p, "ab", "xy"),
			append(cloneTraces(all), trace(3, okay("xy-ab"), "ab", "xy"), trace(4, okay("AB+xy-ab"), "AB", "xy-ab")), 2},
		{"the bodies the other way", p, all, bodiesOf(p, "cd", "ab"), builtAt(p, "cd", "ab"),
			append(cloneTraces(all), trace(3, okay("ab-cd"), "cd", "ab"), trace(2, okay("CD"), "cd"), trace(4, okay("CD+ab-cd"), "CD", "ab-cd")), 3},
		{"empty bodies", p, nil, bodiesOf(p), builtAt(p),
			traces(all[0], trace(3, okay("-"), "", ""), trace(2, okay(""), ""), trace(4, okay("+-"), "", "-")), 4},
		{"one comes out the same", sorted(), traces(trace(1, okay("ab"), "ab"), trace(2, okay("AB"), "ab")), bodiesOf(sorted(), "ba"), builtAt(sorted(), "ba"),
			traces(trace(1, okay("ab"), "ab"), trace(2, okay("AB"), "ab"), trace(1, okay("ab"), "ba"), trace(3, okay("ba/AB"), "ba", "AB")), 2},
		{"twins", twins(), nil, bodiesOf(twins(), "a"), builtAt(twins(), "a"),
			traces(trace(1, okay("a!"), "a"), trace(2, okay("a!"), "a"), trace(3, okay("a!a!"), "a!", "a!")), 3},
		{"the trace of a twin", twins(), traces(trace(2, okay("a!"), "a")), bodiesOf(twins(), "a"), builtAt(twins(), "a"),
			traces(trace(2, okay("a!"), "a"), trace(1, okay("a!"), "a"), trace(3, okay("a!a!"), "a!", "a!")), 2},
		{"one source", oneSource(), nil, []string{"a"}, results(okay("a")), nil, 0},
		{"MaxTasks sources", tenSources(), nil, inputs(10), builtAt(tenSources(), inputs(10)...), nil, 0},
		{"one task", oneTask(textOp("a")), nil, []string{""}, results(okay("a")), traces(trace(0, okay("a"))), 1},
		{"one task that is there", oneTask(textOp("a")), traces(trace(0, okay("a"))), []string{""}, results(okay("a")), traces(trace(0, okay("a"))), 0},
		{"nine Ins", overNine(), nil, append(inputs(9), ""), with(builtAt(overNine(), inputs(9)...), 9, okay("i8i0")), traces(trace(9, okay("i8i0"), inputs(9)...)), 1},
	})
}

func TestBuildTracedFails(t *testing.T) {
	most := textOfBytes(impl.MaxOut)
	p, all := broken(), tracesOfBroken()
	withBlocked := append(cloneTraces(all), trace(2, okay("two"), ""), trace(8, okay("eight"), "3", ""), trace(3, okay("three"), ""))
	checkTraced(t, []tracedCase{
		{"what fails is traced, what is blocked is not", p, nil, bodyOfBroken(), brokenResults(), all, 4},
		{"what failed is there", p, all, bodyOfBroken(), brokenResults(), all, 0},
		{"all but what failed is there", p, traces(all[1], all[3]), bodyOfBroken(), brokenResults(), traces(all[1], all[3], all[0], all[2]), 2},
		{"traces of what is blocked", p, withBlocked, bodyOfBroken(), brokenResults(), withBlocked, 0},
		{"one task fails", oneTask(bare(impl.OpFail)), nil, []string{""}, results(failed()), traces(trace(0, failed())), 1},
		{"one task that failed", oneTask(bare(impl.OpFail)), traces(trace(0, failed())), []string{""}, results(failed()), traces(trace(0, failed())), 0},
		{"too long", shortened(), nil, bodiesOf(shortened(), most), results(okay(most), failed(), blocked()), traces(trace(1, failed(), most)), 1},
		{"long enough", shortened(), traces(trace(1, failed(), most)), bodiesOf(shortened(), most[1:]), results(okay(most[1:]), okay(""), okay("k")),
			traces(trace(1, failed(), most), trace(1, okay(""), most[1:]), trace(2, okay("k"), "")), 2},
		{"a trace of the blocked one at an empty text", shortened(), traces(trace(2, okay("k"), "")), bodiesOf(shortened(), most), results(okay(most), failed(), blocked()),
			traces(trace(2, okay("k"), ""), trace(1, failed(), most)), 1},
	})
}

// A false trace is taken as it tells, and so is what is made of it.
func TestBuildTracedFalse(t *testing.T) {
	p, at, all := layered(), bodiesOf(layered(), "ab", "cd"), tracesOfLayered()
	built := builtAt(layered(), "ab", "cd")
	told := func(place int, out impl.Result) []impl.Trace {
		return withTrace(all, place, impl.Trace{Task: all[place].Task, Ins: all[place].Ins, Out: out})
	}
	hides := traces(trace(1, okay("q"), "abc"))
	checkTraced(t, []tracedCase{
		{"one that none needs", p, told(0, okay("no")), at, with(built, 5, okay("no")), told(0, okay("no")), 0},
		{"the one over all", p, told(3, okay("no")), at, with(built, 4, okay("no")), told(3, okay("no")), 0},
		{"one that another one needs", p, told(2, okay("no")), at, with(with(built, 2, okay("no")), 4, okay("no+cd-ab")),
			append(told(2, okay("no")), trace(4, okay("no+cd-ab"), "no", "cd-ab")), 1},
		{"told to have failed", p, told(1, failed()), at, with(with(built, 3, failed()), 4, blocked()), told(1, failed()), 0},
		{"told to have failed, none needs it", p, told(3, failed()), at, with(built, 4, failed()), told(3, failed()), 0},
		{"told not to have failed", broken(), hides, bodyOfBroken(),
			results(okay("abc"), okay("q"), okay(""), failed(), okay("3"), blocked(), blocked(), failed(), blocked(), okay("abc3")),
			traces(hides[0], trace(7, failed()), trace(4, okay("3"), "abc"), trace(9, okay("abc3"), "abc", "3"), trace(2, okay(""), "q"), trace(3, failed(), "")), 5},
		{"false, but of other Ins", shouting(), traces(trace(1, okay("no"), "b")), bodiesOf(shouting(), "a"), results(okay("a"), okay("A")),
			traces(trace(1, okay("no"), "b"), trace(1, okay("A"), "a")), 1},
	})
}

// fullOf gives MaxTraces traces of layered: these, and ahead of them others that are not asked for.
func fullOf(l ...impl.Trace) []impl.Trace {
	return append(moreOfLayered(impl.MaxTraces-len(l)), l...)
}

func TestBuildTracedFull(t *testing.T) {
	p, at, all := layered(), bodiesOf(layered(), "ab", "cd"), tracesOfLayered()
	built := builtAt(layered(), "ab", "cd")
	full, most := manyTraces(impl.MaxTraces), moreOfLayered(impl.MaxTraces)
	goes := append(traces(all[3]), moreOfLayered(impl.MaxTraces-1)...)
	stays := append(traces(all[0]), moreOfLayered(impl.MaxTraces-1)...)
	checkTraced(t, []tracedCase{
		{"all are there, the last ones", p, fullOf(all...), at, built, fullOf(all...), 0},
		{"all are there, the first ones", p, append(cloneTraces(all), moreOfLayered(36)...), at, built, append(cloneTraces(all), moreOfLayered(36)...), 0},
		{"one more", shouting(), full, bodiesOf(shouting(), "n"), builtAt(shouting(), "n"), append(cloneTraces(full[1:]), trace(1, okay("N"), "n")), 1},
		{"up to MaxTraces", shouting(), full[1:], bodiesOf(shouting(), "n"), builtAt(shouting(), "n"), append(cloneTraces(full[1:]), trace(1, okay("N"), "n")), 1},
		{"the first one is there", shouting(), full, bodiesOf(shouting(), "i0"), builtAt(shouting(), "i0"), full, 0},
		{"four more", p, most, at, built, append(cloneTraces(most[4:]), all...), 4},
		{"up to MaxTraces, four more", p, most[:36], at, built, append(cloneTraces(most[:36]), all...), 4},
		{"one was there until another one was noted", p, goes, at, built, append(cloneTraces(most[3:39]), all...), 4},
		{"one was there, and goes", p, stays, at, built, append(cloneTraces(most[2:39]), all[1:]...), 3},
	})
}

// What is noted follows the Order, not the numbers.
func TestBuildTracedByTheOrder(t *testing.T) {
	p, all := layered(), tracesOfLayered()
	p.Graph.Order = []int{0, 2, 1, 3, 4, 5}
	checkTraced(t, []tracedCase{
		{"another Order", p, nil, bodiesOf(p, "ab", "cd"), builtAt(p, "ab", "cd"), traces(all[2], all[1], all[3], all[0]), 4},
	})
}

// checkPromise9 holds a build with true traces against one without, and gives how many were made.
func checkPromise9(t *testing.T, p impl.Plan, l []impl.Trace, bodies []string) int {
	t.Helper()
	if is, ok := impl.TrueTraces(p, l); !is || !ok {
		t.Fatalf("the traces are not true: %v of %v: %v, %v", l, p, is, ok)
	}
	want, _ := impl.BuildAll(p, bodies)
	built, after, n, ok := impl.BuildTraced(p, l, bodies)
	if !slices.Equal(built, want) || !ok {
		t.Fatalf("BuildTraced of %v, %v, %q: %v, %v; want %v", p, l, bodies, built, ok, want)
	}
	if is, ok := impl.TrueTraces(p, after); !is || !ok || !impl.GoodTraces(p, after) {
		t.Fatalf("BuildTraced of %v, %v, %q: the traces are not good and true: %v", p, l, bodies, after)
	}
	again, same, more, ok := impl.BuildTraced(p, after, bodies)
	if !slices.Equal(again, want) || !ok {
		t.Fatalf("BuildTraced of %v, %v, %q once more: %v, %v; want %v", p, after, bodies, again, ok, want)
	}
	if nothingGoes := len(l)+n <= impl.MaxTraces; nothingGoes && (more != 0 || !sameTraces(same, after)) {
		t.Fatalf("BuildTraced of %v, %v, %q once more: made %d, %v", p, after, bodies, more, same)
	}
	return n
}

func TestPromise9Built(t *testing.T) {
	found, made := 0, 0
	eachPlan(func(d *drawer, p impl.Plan) {
		bodies := d.bodiesFor(p)
		none := checkPromise9(t, p, nil, bodies)
		some := checkPromise9(t, p, d.builtTraces(p, bodies), bodies)
		full := checkPromise9(t, p, d.trueTraces(p, bodies, 60), bodies)
		if some > none || full > none {
			t.Fatalf("%v, %q: %d are made, and with traces %d, %d", p, bodies, none, some, full)
		}
		found, made = found+none-some, made+some
	})
	if found < 1000 || made < 1000 {
		t.Error("too few of a kind", found, made)
	}
}

// One build behind the other, each with what the one ahead of it noted; in time the lists are full.
func TestPromise9OneByOne(t *testing.T) {
	d, wereFull := newDrawer(), 0
	for _, g := range drawnGraphs(200) {
		p := d.planOver(g)
		var l []impl.Trace
		for range 25 {
			bodies := d.bodiesFor(p)
			checkPromise9(t, p, l, bodies)
			want := buildTracedByHand(p, l, bodies)
			_, l, _, _ = impl.BuildTraced(p, l, bodies)
			if !sameTraces(l, want.traces) {
				t.Fatalf("%v, %q: %v; want %v", p, bodies, l, want.traces)
			}
		}
		if len(l) == impl.MaxTraces {
			wereFull++
		}
	}
	if wereFull < 10 {
		t.Error("too few full ones", wereFull)
	}
}

// A trace that goes may be one that was found: then it is made once more, and no result is another one.
func TestPromise9FoundOneGoes(t *testing.T) {
	p, at := layered(), bodiesOf(layered(), "ab", "cd")
	l := append(tracesOfLayered()[:1], moreOfLayered(impl.MaxTraces-1)...)
	_, after, _, _ := impl.BuildTraced(p, l, at)
	if n, ok := impl.TracesFor(p, after, 5); n != 0 || !ok {
		t.Fatal("it is still there", after)
	}
	checkPromise9(t, p, l, at)
	if n := checkPromise9(t, p, after, at); n != 1 {
		t.Error("made", n)
	}
}

// checkNoted wants the one that was noted to be found, and no other one of its task to be another one.
func checkNoted(t *testing.T, p impl.Plan, l []impl.Trace, noted impl.Trace) {
	t.Helper()
	after, ok := impl.NoteTrace(p, l, noted)
	if want := noteByHand(l, noted); !ok || !sameTraces(after, want) || !impl.GoodTraces(p, after) {
		t.Fatalf("NoteTrace of %v in %v: %v, %v; want %v", noted, l, after, ok, want)
	}
	if out, ok := impl.FindTrace(p, after, noted.Task, noted.Ins); out != noted.Out || !ok {
		t.Fatalf("NoteTrace of %v in %v: found %v, %v", noted, l, out, ok)
	}
	went := len(l) == impl.MaxTraces && len(after) == impl.MaxTraces && !sameTrace(l[0], after[0])
	for place, other := range l {
		if isTraceOf(other, noted.Task, noted.Ins) || went && place == 0 {
			continue
		}
		if out, ok := impl.FindTrace(p, after, other.Task, other.Ins); out != other.Out || !ok {
			t.Fatalf("NoteTrace of %v in %v: of %v found %v, %v", noted, l, other, out, ok)
		}
	}
}

func TestPromise9Noted(t *testing.T) {
	counts := map[bool]int{}
	eachPlan(func(d *drawer, p impl.Plan) {
		tasks := tasksOf(p)
		if len(tasks) == 0 {
			return
		}
		l := d.anyTraces(p, d.bodiesFor(p), 60)
		for range 2 {
			noted := d.trueTraceOf(p, tasks[d.below(len(tasks))])
			if len(l) > 0 && d.below(3) == 0 {
				noted = cloneTrace(l[d.below(len(l))])
			}
			if d.below(2) == 0 {
				noted.Out = failed()
			}
			_, isThere := findByHand(l, noted.Task, noted.Ins)
			counts[isThere]++
			checkNoted(t, p, l, noted)
			l, _ = impl.NoteTrace(p, l, noted)
		}
	})
	if counts[true] < 1000 || counts[false] < 1000 {
		t.Error("too few of a kind", counts)
	}
}

// checkTracesByHand holds all that is told of any traces, true or not, against the reckoning by hand.
func checkTracesByHand(t *testing.T, p impl.Plan, l []impl.Trace, bodies []string) {
	t.Helper()
	want := buildTracedByHand(p, l, bodies)
	if got := traceFuncs()["BuildTraced"](traceArgs{p: p, l: l, bodies: bodies}); !sameTraceAnswer(got, want) {
		t.Fatalf("BuildTraced of %v, %v, %q: %v; want %v", p, l, bodies, got, want)
	}
	if is, ok := impl.TrueTraces(p, l); is != trueByHand(p, l) || !ok {
		t.Fatalf("TrueTraces of %v, %v: %v, %v", p, l, is, ok)
	}
	for task := range bodies {
		of := slices.DeleteFunc(cloneTraces(l), func(t impl.Trace) bool { return t.Task != task })
		if n, ok := impl.TracesFor(p, l, task); n != len(of) || !ok {
			t.Fatalf("TracesFor %d of %v, %v: %v, %v", task, p, l, n, ok)
		}
		if became := tracedByHand(p, l, bodies, task); len(l)+len(bodies) <= impl.MaxTraces && want.results[task] != became {
			t.Fatalf("BuildTraced of %v, %v, %q: %d is %v; want %v", p, l, bodies, task, want.results[task], became)
		}
	}
	for _, some := range l {
		if out, ok := impl.FindTrace(p, l, some.Task, some.Ins); out != some.Out || !ok {
			t.Fatalf("FindTrace of %v in %v, %v: %v, %v", some, p, l, out, ok)
		}
	}
}

func TestPromise9ByHand(t *testing.T) {
	eachPlan(func(d *drawer, p impl.Plan) {
		bodies := d.bodiesFor(p)
		checkTracesByHand(t, p, nil, bodies)
		checkTracesByHand(t, p, d.anyTraces(p, bodies, 0), bodies)
		checkTracesByHand(t, p, d.anyTraces(p, bodies, 20), bodies)
		checkTracesByHand(t, p, d.anyTraces(p, bodies, 80), bodies)
	})
}

// Of each list of what a build notes: some of it is found, the others are made.
func TestPromise9ByHandSmall(t *testing.T) {
	d := newDrawer()
	for _, g := range smallGraphs(4) {
		p := d.planOver(g)
		bodies := d.bodiesFor(p)
		_, all, n, ok := impl.BuildTraced(p, nil, bodies)
		if len(all) != n || !ok {
			t.Fatalf("%v, %q: made %d, traced %v", p, bodies, n, all)
		}
		for some := range 1 << len(all) {
			l := slices.DeleteFunc(cloneTraces(all), func(t impl.Trace) bool {
				return some>>slices.IndexFunc(all, func(other impl.Trace) bool { return sameTrace(t, other) })&1 == 0
			})
			checkTracesByHand(t, p, l, bodies)
			if made := checkPromise9(t, p, l, bodies); made != n-len(l) {
				t.Fatalf("%v, %v, %q: made %d of %d", p, l, bodies, made, n)
			}
		}
	}
}

// As long as none goes, the Order is not seen in what is built, nor in how much is made.
func TestPromise9AnyOrder(t *testing.T) {
	d := newDrawer()
	for _, g := range smallGraphs(3) {
		p := d.planOver(g)
		bodies := d.bodiesFor(p)
		l := d.anyTraces(p, bodies, 5)
		want, _, n, _ := impl.BuildTraced(p, l, bodies)
		for _, order := range ordersOf(len(g.Needs)) {
			other := clonePlan(p)
			other.Graph.Order = order
			isGood := impl.GoodGraph(other.Graph)
			got, after, made, ok := impl.BuildTraced(other, l, bodies)
			if ok != isGood || isGood && (!slices.Equal(got, want) || made != n || len(after) != len(l)+n) {
				t.Fatalf("BuildTraced of %v, %v, %q: %v, %v, %v; want %v, %v", other, l, bodies, got, made, ok, want, n)
			}
		}
	}
}

func TestTraceRefusesBadPlans(t *testing.T) {
	for what, p := range badPlans() {
		for _, tasks := range []int{0, 1, 6, impl.MaxTasks, len(p.Graph.Needs), len(p.Source), len(p.Recipes)} {
			bodies := make([]string, tasks)
			for _, l := range [][]impl.Trace{nil, traces(trace(0, okay("a"))), tracesOfLayered(), manyTraces(1)} {
				for _, noted := range traces(trace(0, okay("")), trace(1, okay(""), "a"), trace(tasks-1, failed(), "a")) {
					checkZeroTrace(t, what, traceFuncs(), traceArgs{p: p, l: l, task: noted.Task, ins: noted.Ins, t: noted, bodies: bodies})
				}
			}
		}
	}
}

func TestTraceRefusesBadBodies(t *testing.T) {
	for what, bad := range badBodyLists() {
		for _, l := range [][]impl.Trace{nil, tracesOfLayered(), moreOfLayered(impl.MaxTraces)} {
			checkZeroTrace(t, what, onlyTrace("BuildTraced"), traceArgs{p: layered(), l: l, bodies: bad})
		}
	}
	for what, p := range map[string]impl.Plan{"one source": oneSource(), "one task": oneTask(), "broken": broken(), "ten": tenSources(), "over": over()} {
		checkZeroTrace(t, "bodies of another plan than "+what, onlyTrace("BuildTraced"), traceArgs{p: p, bodies: bodiesOf(layered(), "ab", "cd")})
	}
	checkZeroTrace(t, "a body of a task that is there", onlyTrace("BuildTraced"), traceArgs{p: oneTask(textOp("a")), l: traces(trace(0, okay("a"))), bodies: []string{"a"}})
	checkZeroTrace(t, "no bodies", onlyTrace("BuildTraced"), traceArgs{p: oneSource()})
}

func TestTraceRefusesBadTraces(t *testing.T) {
	for what, l := range badTraceLists() {
		for _, good := range tracesOfLayered() {
			checkZeroTrace(t, what, traceFuncs(), traceArgs{p: layered(), l: l, task: good.Task, ins: good.Ins, t: good, bodies: bodiesOf(layered(), "ab", "cd")})
		}
	}
	for what, p := range map[string]impl.Plan{"one source": oneSource(), "ten": tenSources(), "one task": oneTask(textOp("z"))} {
		a := traceArgs{p: p, l: tracesOfLayered(), t: trace(0, okay("z")), bodies: bodiesOf(p)}
		checkZeroTrace(t, "traces of another plan than "+what, traceFuncs(), a)
	}
	a := traceArgs{p: shouting(), l: manyTraces(impl.MaxTraces + 1), task: 1, ins: []string{"i0"}, t: trace(1, okay("I0"), "i0"), bodies: []string{"i0", ""}}
	checkZeroTrace(t, "one more than MaxTraces", traceFuncs(), a)
}

// roomyTraces gives the traces with more behind the list, and behind each list of Ins.
func roomyTraces(l []impl.Trace) ([]impl.Trace, func() string) {
	var whole []impl.Trace
	var wholeIns [][]string
	for _, t := range append(cloneTraces(l), trace(-1, blocked(), "behind"), trace(2, okay("behind"))) {
		ins, all := roomyTexts(t.Ins)
		whole, wholeIns = append(whole, impl.Trace{Task: t.Task, Ins: ins, Out: t.Out}), append(wholeIns, all)
	}
	return whole[:len(l)], func() string { return fmt.Sprintf("%v %v", whole, wholeIns) }
}

// overwriteTraced overwrites the lists one by one, and looks at the ones that are left.
func overwriteTraced(t *testing.T, what string, a traceAnswer) {
	t.Helper()
	want := cloneTraces(a.traces)
	overwriteAnswer(buildAnswer{results: a.results})
	for place, some := range a.traces {
		for later := place; later < len(a.traces); later++ {
			if !sameTrace(a.traces[later], want[later]) {
				t.Fatalf("%s: two lists of an answer share memory: %v; want %v", what, a.traces, want)
			}
		}
		overwriteNames(some.Ins)
	}
	all := a.traces[:cap(a.traces)]
	for place := range all {
		all[place] = trace(99, okay("#"), "#")
	}
}

// checkTraceMemory wants that nothing behind a length is read, nothing that was given is
// written into, and that what is answered is no part of it.
func checkTraceMemory(t *testing.T, name string, a traceArgs, f func(traceArgs) traceAnswer) {
	t.Helper()
	p, planText := roomyPlan(a.p)
	l, tracesText := roomyTraces(a.l)
	one, oneText := roomyTraces(traces(a.t))
	ins, wholeIns := roomyTexts(a.ins)
	bodies, wholeBodies := roomyTexts(a.bodies)
	textOfAll := func() string {
		return fmt.Sprintf("%s %s %s %q %q", planText(), tracesText(), oneText(), wholeIns, wholeBodies)
	}
	before := textOfAll()
	got := f(traceArgs{p: p, l: l, task: a.task, ins: ins, t: one[0], bodies: bodies})
	if want := f(a); !sameTraceAnswer(got, want) {
		t.Fatalf("%s of %v reads behind a list: %v; want %v", name, a, got, want)
	}
	overwriteTraced(t, name, got)
	if after := textOfAll(); after != before || !samePlan(p, a.p) {
		t.Fatalf("%s of %v wrote into what was given, or answers its memory: %s; was %s", name, a, after, before)
	}
}

func TestPromise19TraceStays(t *testing.T) {
	d := newDrawer()
	for _, g := range append(smallGraphs(3), drawnGraphs(60)...) {
		p := d.planOver(g)
		bodies := d.bodiesFor(p)
		_, after, _, _ := impl.BuildTraced(p, nil, bodies)
		for _, l := range [][]impl.Trace{nil, after, d.anyTraces(p, bodies, 3), d.anyTraces(p, bodies, 80)} {
			asked := append(traces(trace(0, okay("")), trace(-1, failed()), d.trueTraceOf(p, len(bodies)-1)), l...)
			for _, noted := range asked[:min(len(asked), 8)] {
				for name, f := range traceFuncs() {
					checkTraceMemory(t, name, traceArgs{p: p, l: l, task: noted.Task, ins: noted.Ins, t: noted, bodies: bodies}, f)
				}
			}
		}
	}
}

func TestPromise19TraceBadStays(t *testing.T) {
	for name, f := range traceFuncs() {
		for what, p := range badPlans() {
			if max(len(p.Graph.Order), len(p.Source), len(p.Recipes)) <= impl.MaxTasks+1 {
				bodies := make([]string, len(p.Graph.Needs))
				checkTraceMemory(t, what+": "+name, traceArgs{p: p, l: traces(trace(0, okay("a"))), t: trace(0, failed()), bodies: bodies}, f)
			}
		}
		good := tracesOfLayered()
		a := traceArgs{p: layered(), l: good, task: good[1].Task, ins: good[1].Ins, t: good[1], bodies: bodiesOf(layered(), "ab", "cd")}
		for what, l := range badTraceLists() {
			if len(l) <= impl.MaxTraces+1 {
				bad := a
				bad.l = l
				checkTraceMemory(t, what+": "+name, bad, f)
			}
		}
		for what, noted := range badTracesOfLayered() {
			bad := a
			bad.t, bad.task, bad.ins = noted, noted.Task, noted.Ins
			checkTraceMemory(t, what+": "+name, bad, f)
		}
		for what, bodies := range badBodyLists() {
			bad := a
			bad.bodies = bodies
			checkTraceMemory(t, what+": "+name, bad, f)
		}
	}
}

// What is answered by one call is not what the next one answers.
func TestPromise19TraceApart(t *testing.T) {
	for _, p := range []impl.Plan{layered(), broken(), twins(), overNine(), sorted(), copying(), oneTask(textOp("a")), oneSource()} {
		bodies := bodiesOf(p, "ab", "cd")
		_, l, _, _ := impl.BuildTraced(p, nil, bodiesOf(p, "ab", "ef"))
		for _, noted := range append(cloneTraces(l), trace(1, okay("A"), "a"), trace(2, okay(""), "b")) {
			for name, f := range traceFuncs() {
				args := traceArgs{p: p, l: l, task: noted.Task, ins: noted.Ins, t: noted, bodies: bodies}
				one, two := f(args), f(args)
				want := traceAnswer{results: slices.Clone(two.results), traces: cloneTraces(two.traces), out: two.out, n: two.n, is: two.is, ok: two.ok}
				overwriteTraced(t, name, one)
				if three := f(args); !sameTraceAnswer(two, want) || !sameTraceAnswer(three, want) {
					t.Errorf("two answers of %s share memory", name)
				}
			}
		}
	}
}

// One list may be given as the Ins of many traces, as bodies, and as what is asked for.
func TestPromise19TraceOneListTwice(t *testing.T) {
	p := planOf(graphOf(ordered(4), map[int][]int{2: {0, 1}, 3: {0, 1}}), []int{0, 1}, map[int][]impl.Op{2: recipe(cat(0)), 3: recipe(cat(1))})
	texts := []string{"ab", "cd", "", ""}
	l := traces(trace(3, okay("no"), texts[:2]...), trace(2, okay("ab"), texts[:2]...), trace(2, okay("cd"), texts[1:3]...))
	want := cloneTraces(l)
	goodTraceCase(t, "one list", p, l)
	for name, f := range traceFuncs() {
		for _, noted := range append(slices.Clone(l), trace(2, okay("q"), texts[2:]...)) {
			apart := f(traceArgs{p: p, l: cloneTraces(l), task: 2, ins: slices.Clone(texts[:2]), t: cloneTrace(noted), bodies: slices.Clone(texts)})
			got := f(traceArgs{p: p, l: l, task: 2, ins: texts[:2], t: noted, bodies: texts})
			if !sameTraceAnswer(got, apart) || !got.ok {
				t.Errorf("%s, %v noted: %v; want %v", name, noted, got, apart)
			}
			overwriteTraced(t, name, got)
			if !sameTraces(l, want) || !slices.Equal(texts, []string{"ab", "cd", "", ""}) {
				t.Fatalf("%s: written into: %v, %v", name, l, texts)
			}
		}
	}
}

func TestPromise19NewTextsOfTraces(t *testing.T) {
	found := func(l []impl.Trace) (string, bool) {
		out, ok := impl.FindTrace(shouting(), l, 1, []string{"a"})
		return out.Body, ok
	}
	for _, text := range []string{"a", "AB", "0", textOfBytes(impl.MaxOut)} {
		keepsApart(t, "FindTrace", text, func(m string) (string, bool) { return found(traces(trace(1, okay(m), "a"))) })
		for name, pick := range map[string]func(impl.Trace) string{
			"an Ins": func(some impl.Trace) string { return some.Ins[0] },
			"an Out": func(some impl.Trace) string { return some.Out.Body },
		} {
			keepsApart(t, "NoteTrace, that is there: "+name, text, func(m string) (string, bool) {
				l, ok := impl.NoteTrace(shouting(), traces(trace(1, okay(m), m)), trace(1, okay(""), "another one"))
				return pick(l[0]), ok
			})
			keepsApart(t, "NoteTrace, that is noted: "+name, text, func(m string) (string, bool) {
				l, ok := impl.NoteTrace(shouting(), nil, trace(1, okay(m), m))
				return pick(l[0]), ok
			})
			keepsApart(t, "NoteTrace, in its place: "+name, text, func(m string) (string, bool) {
				l, ok := impl.NoteTrace(shouting(), traces(trace(1, failed(), text)), trace(1, okay(m), m))
				return pick(l[0]), ok
			})
			keepsApart(t, "BuildTraced, that is there: "+name, text, func(m string) (string, bool) {
				_, l, _, ok := impl.BuildTraced(shouting(), traces(trace(1, okay(m), m)), []string{"b", ""})
				return pick(l[0]), ok
			})
			keepsApart(t, "BuildTraced, that is made: "+name, text, func(m string) (string, bool) {
				_, l, _, ok := impl.BuildTraced(over(cat(0)), nil, []string{m, ""})
				return pick(l[0]), ok
			})
		}
		for task := range 2 {
			keepsApart(t, "BuildTraced, made", text, func(m string) (string, bool) {
				l, _, _, ok := impl.BuildTraced(over(cat(0)), nil, []string{m, ""})
				return l[task].Body, ok
			})
			keepsApart(t, "BuildTraced, found", text, func(m string) (string, bool) {
				l, _, _, ok := impl.BuildTraced(over(cat(0)), traces(trace(1, okay(m), m)), []string{m, ""})
				return l[task].Body, ok
			})
		}
	}
}

// No two texts of one answer lie in the same memory either.
func TestPromise19TracedTextsApart(t *testing.T) {
	p := over(cat(0))
	for _, l := range [][]impl.Trace{nil, traces(trace(1, okay("abc"), "abc"))} {
		built, after, _, ok := impl.BuildTraced(p, l, []string{"abc", ""})
		texts := []string{built[0].Body, built[1].Body, after[0].Ins[0], after[0].Out.Body}
		seen := map[*byte]bool{}
		for _, text := range texts {
			seen[unsafe.StringData(text)] = true
		}
		if len(seen) != len(texts) || !ok {
			t.Errorf("BuildTraced with %v: texts share memory: %v, %v", l, built, after)
		}
	}
}

// What only tells numbers and truths must not write into the texts that it reads either.
func TestPromise19TraceTextsAreOnlyRead(t *testing.T) {
	const text = "cabzz"
	memory := []byte(text)
	m := unsafe.String(unsafe.SliceData(memory), len(memory))
	p := over(cat(0), textOp(m), bare(impl.OpSort))
	for name, f := range traceFuncs() {
		a := traceArgs{p: p, l: traces(trace(1, okay(m), m)), task: 1, ins: []string{m}, t: trace(1, okay(m), m), bodies: []string{m, ""}}
		if got := f(a); !got.ok {
			t.Errorf("%s: %v", name, got)
		}
	}
	if string(memory) != text {
		t.Errorf("written into: %q", memory)
	}
}

// The same again, however often: nothing is kept from call to call.
func TestTraceKeepsNothing(t *testing.T) {
	var first []string
	for range 2 {
		var told []string
		d := newDrawer()
		for _, g := range append(smallGraphs(3), drawnGraphs(40)...) {
			p := d.planOver(g)
			bodies, noted := d.bodiesFor(p), d.trueTraceOf(p, len(g.Needs)-1)
			a := traceArgs{p: p, l: d.anyTraces(p, bodies, 50), task: noted.Task, ins: noted.Ins, t: noted, bodies: bodies}
			for _, name := range []string{"GoodTraces", "FindTrace", "NoteTrace", "BuildTraced", "TrueTraces", "TracesFor"} {
				told = append(told, fmt.Sprintf("%v", traceFuncs()[name](a)))
			}
		}
		if first != nil && !slices.Equal(told, first) {
			t.Fatal("the second time it is told otherwise")
		}
		first = told
	}
}
