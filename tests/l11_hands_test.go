package tests

import (
	"fmt"
	"maps"
	"slices"
	"testing"

	"loop.example/g00636/impl"
)

const (
	mostHands = 4
	latestTo  = 10000
)

type assignCase struct {
	what  string
	g     impl.Graph
	times []int
	hands int
	order []int
	want  []impl.Slot
}

type fairCase struct {
	what  string
	hands int
	l     []impl.Slot
	want  bool
}

type leastCase struct {
	what  string
	g     impl.Graph
	times []int
	want  [mostHands]int
}

// handArgs is all that some function of the chapter takes.
type handArgs struct {
	g     impl.Graph
	times []int
	hands int
	order []int
	slots []impl.Slot
	at    int
}

// handAnswer is all that some function of the chapter answers.
type handAnswer struct {
	slots []impl.Slot
	l     []int
	n     int
	is    bool
	ok    bool
}

type handFunc func(handArgs) handAnswer

func assignOf(a handArgs) handAnswer {
	slots, ok := impl.Assign(a.g, a.times, a.hands, a.order)
	return handAnswer{slots: slots, ok: ok}
}

func isFairOf(a handArgs) handAnswer {
	is, ok := impl.IsFair(a.g, a.times, a.hands, a.slots)
	return handAnswer{is: is, ok: ok}
}

func leastEndOf(a handArgs) handAnswer {
	n, ok := impl.LeastEnd(a.g, a.times, a.hands)
	return handAnswer{n: n, ok: ok}
}

func byTailsOf(a handArgs) handAnswer {
	l, ok := impl.ByTails(a.g, a.times)
	return handAnswer{l: l, ok: ok}
}

func endOf(a handArgs) handAnswer {
	n, ok := impl.EndOf(a.slots)
	return handAnswer{n: n, ok: ok}
}

func busyAt(a handArgs) handAnswer {
	n, ok := impl.BusyAt(a.slots, a.at)
	return handAnswer{n: n, ok: ok}
}

func handFuncs() map[string]handFunc {
	return map[string]handFunc{
		"Assign": assignOf, "IsFair": isFairOf, "LeastEnd": leastEndOf,
		"ByTails": byTailsOf, "EndOf": endOf, "BusyAt": busyAt,
	}
}

// graphHandFuncs are those that take a graph and times.
func graphHandFuncs() map[string]handFunc {
	funcs := handFuncs()
	delete(funcs, "EndOf")
	delete(funcs, "BusyAt")
	return funcs
}

// countedFuncs are those that take how many hands there are.
func countedFuncs() map[string]handFunc {
	funcs := graphHandFuncs()
	delete(funcs, "ByTails")
	return funcs
}

// slotFuncs are those that take slots.
func slotFuncs() map[string]handFunc {
	return map[string]handFunc{"IsFair": isFairOf, "EndOf": endOf, "BusyAt": busyAt}
}

func sameHandAnswer(a handAnswer, b handAnswer) bool {
	return slices.Equal(a.slots, b.slots) && slices.Equal(a.l, b.l) && a.n == b.n && a.is == b.is && a.ok == b.ok
}

func checkZeroHands(t *testing.T, what string, funcs map[string]handFunc, a handArgs) {
	t.Helper()
	for name, f := range funcs {
		if got := f(a); !sameHandAnswer(got, handAnswer{}) {
			t.Errorf("%s: %s: %v", what, name, got)
		}
	}
}

func slotOf(task int, hand int, from int, to int) impl.Slot {
	return impl.Slot{Task: task, Hand: hand, From: from, To: to}
}

func slotsOf(l ...impl.Slot) []impl.Slot { return l }

// withSlot gives the slots with another one in that place.
func withSlot(l []impl.Slot, place int, s impl.Slot) []impl.Slot {
	changed := slices.Clone(l)
	changed[place] = s
	return changed
}

// graham is nine tasks that are done later by more hands, and later where each takes less.
func graham() impl.Graph {
	return graphOf(ordered(9), map[int][]int{4: {3}, 5: {3}, 6: {3}, 7: {3}, 8: {0}})
}

// sixAndOne is six short ones and one that is as long as half of them, last of all: three hands
// are nearly twice as late as they must be.
func sixAndOne() impl.Graph {
	return graphOf(ordered(7), nil)
}

// toldSlots is what Assign tells of that forked graph with two hands.
func toldSlots() []impl.Slot {
	return slotsOf(slotOf(0, 0, 0, 1), slotOf(1, 0, 1, 3), slotOf(2, 1, 1, 4), slotOf(3, 0, 4, 8))
}

func (d *drawer) orderFor(tasks int) []int {
	order := ordered(tasks)
	for i := range order {
		j := i + d.below(tasks-i)
		order[i], order[j] = order[j], order[i]
	}
	return order
}

// slotsFor are good slots that need not be what anyone could do.
func (d *drawer) slotsFor(count int, latest int) []impl.Slot {
	var l []impl.Slot
	for range count {
		from := d.below(latest)
		l = append(l, slotOf(d.below(impl.MaxTasks), d.below(mostHands), from, from+1+d.below(latest-from)))
	}
	return l
}

// assigning is work that is done tick by tick, told apart from the program.
type assigning struct {
	g     impl.Graph
	left  []int
	begun []bool
	at    []int
}

const idle = -1

func (a *assigning) mayBegin(task int) bool {
	for _, need := range a.g.Needs[task] {
		if a.left[need] > 0 {
			return false
		}
	}
	return !a.begun[task]
}

// tick tells whether some task was over with it.
func (a *assigning) tick() bool {
	isOver := false
	for hand, task := range a.at {
		if task == idle {
			continue
		}
		a.left[task]--
		if a.left[task] == 0 {
			a.at[hand] = idle
			isOver = true
		}
	}
	return isOver
}

func assignByHand(g impl.Graph, times []int, hands int, order []int) []impl.Slot {
	a := assigning{g: g, left: slices.Clone(times), begun: make([]bool, len(times)), at: alike(hands, idle)}
	var l []impl.Slot
	for now, isNews := 0, true; len(l) < len(order); now++ {
		for isNews {
			hand, place := slices.Index(a.at, idle), slices.IndexFunc(order, a.mayBegin)
			if hand < 0 || place < 0 {
				break
			}
			task := order[place]
			a.at[hand], a.begun[task] = task, true
			l = append(l, slotOf(task, hand, now, now+times[task]))
		}
		isNews = a.tick()
	}
	return l
}

// cell is one hand at one time.
type cell struct {
	hand int
	at   int
}

// fairByHand says, apart from the program, what the chapter calls fair: cell by cell.
func fairByHand(g impl.Graph, times []int, hands int, l []impl.Slot) bool {
	taken := map[cell]bool{}
	slots := map[int][]impl.Slot{}
	for _, s := range l {
		slots[s.Task] = append(slots[s.Task], s)
		for at := s.From; at < s.To; at++ {
			c := cell{s.Hand, at}
			if taken[c] || s.Hand >= hands {
				return false
			}
			taken[c] = true
		}
	}
	if !slices.Equal(slices.Sorted(maps.Keys(slots)), ordered(len(times))) {
		return false
	}
	for task, of := range slots {
		if len(of) != 1 || of[0].From+times[task] != of[0].To {
			return false
		}
		for _, need := range g.Needs[task] {
			if slots[need][0].To > of[0].From {
				return false
			}
		}
	}
	return true
}

// leastByHand counts up to what all hands together do in it, and to the longest way of all ways.
func leastByHand(g impl.Graph, times []int, hands int) int {
	least, total := longByHand(g, times).end, timeOver(ordered(len(times)), times)
	for least*hands < total {
		least++
	}
	return least
}

// byTailsByHand takes each time the first of those left whose way is longest.
func byTailsByHand(g impl.Graph, times []int) []int {
	tails := longByHand(g, times).tails
	var l []int
	for range tails {
		best := -1
		for task := range tails {
			if !slices.Contains(l, task) && (best < 0 || tails[task] > tails[best]) {
				best = task
			}
		}
		l = append(l, best)
	}
	return l
}

func checkAssign(t *testing.T, c assignCase) {
	t.Helper()
	checkGoodCase(t, c.what, c.g)
	if got, ok := impl.Assign(c.g, c.times, c.hands, c.order); !slices.Equal(got, c.want) || !ok {
		t.Errorf("%s: Assign of %v, %v, %d, %v: %v, %v; want %v", c.what, c.g, c.times, c.hands, c.order, got, ok, c.want)
	}
}

func checkEndOf(t *testing.T, what string, l []impl.Slot, want int) {
	t.Helper()
	if got, ok := impl.EndOf(l); got != want || !ok {
		t.Errorf("%s: EndOf of %v: %d, %v; want %d", what, l, got, ok, want)
	}
}

func checkBusy(t *testing.T, what string, l []impl.Slot, at int, want int) {
	t.Helper()
	if got, ok := impl.BusyAt(l, at); got != want || !ok {
		t.Errorf("%s: BusyAt of %v, %d: %d, %v; want %d", what, l, at, got, ok, want)
	}
}

func checkIsFair(t *testing.T, what string, a handArgs, want bool) {
	t.Helper()
	if got, ok := impl.IsFair(a.g, a.times, a.hands, a.slots); got != want || !ok {
		t.Errorf("%s: IsFair of %v, %v, %d, %v: %v, %v; want %v", what, a.g, a.times, a.hands, a.slots, got, ok, want)
	}
}

func checkByTails(t *testing.T, what string, g impl.Graph, times []int, want []int) {
	t.Helper()
	checkGoodCase(t, what, g)
	if got, ok := impl.ByTails(g, times); !slices.Equal(got, want) || !ok {
		t.Errorf("%s: ByTails of %v, %v: %v, %v; want %v", what, g, times, got, ok, want)
	}
}

func checkLeast(t *testing.T, c leastCase) {
	t.Helper()
	checkGoodCase(t, c.what, c.g)
	for place, want := range c.want {
		if got, ok := impl.LeastEnd(c.g, c.times, place+1); got != want || !ok {
			t.Errorf("%s: LeastEnd of %v, %v, %d: %d, %v; want %d", c.what, c.g, c.times, place+1, got, ok, want)
		}
	}
}

func TestAssign(t *testing.T) {
	two := graphOf(ordered(3), map[int][]int{1: {0}, 2: {0}})
	for _, c := range []assignCase{
		{"one hand", two, []int{1, 2, 3}, 1, []int{0, 1, 2}, slotsOf(slotOf(0, 0, 0, 1), slotOf(1, 0, 1, 3), slotOf(2, 0, 3, 6))},
		{"one hand, another order", two, []int{1, 2, 3}, 1, []int{2, 1, 0}, slotsOf(slotOf(0, 0, 0, 1), slotOf(2, 0, 1, 4), slotOf(1, 0, 4, 6))},
		{"two hands", two, []int{1, 2, 3}, 2, []int{0, 1, 2}, slotsOf(slotOf(0, 0, 0, 1), slotOf(1, 0, 1, 3), slotOf(2, 1, 1, 4))},
		{"two hands, another order", two, []int{1, 2, 3}, 2, []int{2, 1, 0}, slotsOf(slotOf(0, 0, 0, 1), slotOf(2, 0, 1, 4), slotOf(1, 1, 1, 3))},
		{"forked", forked(), []int{1, 2, 3, 4}, 2, ordered(4), toldSlots()},
		{"forked, one hand", forked(), []int{1, 2, 3, 4}, 1, []int{3, 2, 1, 0}, slotsOf(slotOf(0, 0, 0, 1), slotOf(2, 0, 1, 4), slotOf(1, 0, 4, 6), slotOf(3, 0, 6, 10))},
		{"forked, all but one wait", forked(), []int{1, 2, 3, 4}, 2, []int{3, 2, 1, 0}, slotsOf(slotOf(0, 0, 0, 1), slotOf(2, 0, 1, 4), slotOf(1, 1, 1, 3), slotOf(3, 0, 4, 8))},
		{"chained, many hands", chained(), []int{10, 20, 30, 40}, 4, ordered(4), slotsOf(slotOf(3, 0, 0, 40), slotOf(1, 0, 40, 60), slotOf(0, 0, 60, 70), slotOf(2, 0, 70, 100))},
		{"crossed, two hands", crossed(), []int{5, 4, 2, 1, 6, 3, 9}, 2, ordered(7), slotsOf(slotOf(1, 0, 0, 4), slotOf(2, 1, 0, 2), slotOf(4, 1, 2, 8), slotOf(3, 0, 4, 5), slotOf(6, 0, 5, 14), slotOf(5, 1, 8, 11), slotOf(0, 1, 11, 16))},
		{"crossed, three hands", crossed(), []int{5, 4, 2, 1, 6, 3, 9}, 3, []int{6, 5, 4, 3, 2, 1, 0}, slotsOf(slotOf(6, 0, 0, 9), slotOf(2, 1, 0, 2), slotOf(1, 2, 0, 4), slotOf(4, 1, 2, 8), slotOf(3, 2, 4, 5), slotOf(5, 1, 8, 11), slotOf(0, 0, 11, 16))},
		{"Graham's, three hands", graham(), []int{3, 2, 2, 2, 4, 4, 4, 4, 9}, 3, ordered(9), slotsOf(slotOf(0, 0, 0, 3), slotOf(1, 1, 0, 2), slotOf(2, 2, 0, 2), slotOf(3, 1, 2, 4), slotOf(8, 0, 3, 12), slotOf(4, 1, 4, 8), slotOf(5, 2, 4, 8), slotOf(6, 1, 8, 12), slotOf(7, 2, 8, 12))},
		{"Graham's, four hands are later", graham(), []int{3, 2, 2, 2, 4, 4, 4, 4, 9}, 4, ordered(9), slotsOf(slotOf(0, 0, 0, 3), slotOf(1, 1, 0, 2), slotOf(2, 2, 0, 2), slotOf(3, 3, 0, 2), slotOf(4, 1, 2, 6), slotOf(5, 2, 2, 6), slotOf(6, 3, 2, 6), slotOf(7, 0, 3, 7), slotOf(8, 1, 6, 15))},
		{"Graham's, less time is later", graham(), []int{2, 1, 1, 1, 3, 3, 3, 3, 8}, 3, ordered(9), slotsOf(slotOf(0, 0, 0, 2), slotOf(1, 1, 0, 1), slotOf(2, 2, 0, 1), slotOf(3, 1, 1, 2), slotOf(4, 0, 2, 5), slotOf(5, 1, 2, 5), slotOf(6, 2, 2, 5), slotOf(7, 0, 5, 8), slotOf(8, 1, 5, 13))},
	} {
		checkAssign(t, c)
	}
}

// What is ready is begun by its place in the order, and by the hand of the least number.
func TestAssignReadyAtOnce(t *testing.T) {
	apart := graphOf([]int{4, 3, 2, 1, 0}, nil)
	for _, c := range []assignCase{
		{"the first of the order by the first hand", apart, alike(5, 2), 2, []int{3, 0, 4, 2, 1}, slotsOf(slotOf(3, 0, 0, 2), slotOf(0, 1, 0, 2), slotOf(4, 0, 2, 4), slotOf(2, 1, 2, 4), slotOf(1, 0, 4, 6))},
		{"a later hand is free first", apart, []int{5, 2, 1, 3, 4}, 3, ordered(5), slotsOf(slotOf(0, 0, 0, 5), slotOf(1, 1, 0, 2), slotOf(2, 2, 0, 1), slotOf(3, 2, 1, 4), slotOf(4, 1, 2, 6))},
		{"the first hand is free later, but at one time", apart, []int{3, 2, 1, 2, 1}, 3, ordered(5), slotsOf(slotOf(0, 0, 0, 3), slotOf(1, 1, 0, 2), slotOf(2, 2, 0, 1), slotOf(3, 2, 1, 3), slotOf(4, 1, 2, 3))},
		{"two are over at once, one is ready", graphOf(ordered(3), map[int][]int{2: {0, 1}}), []int{4, 4, 1}, 2, ordered(3), slotsOf(slotOf(0, 0, 0, 4), slotOf(1, 1, 0, 4), slotOf(2, 0, 4, 5))},
		{"one is over, two are ready, two hands free", graphOf(ordered(3), map[int][]int{1: {0}, 2: {0}}), []int{7, 1, 1}, 4, []int{2, 1, 0}, slotsOf(slotOf(0, 0, 0, 7), slotOf(2, 0, 7, 8), slotOf(1, 1, 7, 8))},
		{"the first hand is free and nothing is ready for it", graphOf(ordered(3), map[int][]int{2: {1}}), []int{1, 3, 2}, 2, ordered(3), slotsOf(slotOf(0, 0, 0, 1), slotOf(1, 1, 0, 3), slotOf(2, 0, 3, 5))},
		{"one of the two needs is not over", graphOf(ordered(3), map[int][]int{2: {0, 1}}), []int{1, 3, 2}, 3, []int{2, 0, 1}, slotsOf(slotOf(0, 0, 0, 1), slotOf(1, 1, 0, 3), slotOf(2, 0, 3, 5))},
		{"nobody waits for what is first in the order", graphOf(ordered(3), map[int][]int{2: {0}}), []int{1, 9, 9}, 1, []int{1, 2, 0}, slotsOf(slotOf(1, 0, 0, 9), slotOf(0, 0, 9, 10), slotOf(2, 0, 10, 19))},
		{"the first of the order as soon as it may", graphOf(ordered(3), map[int][]int{2: {0}}), []int{1, 9, 9}, 1, []int{2, 0, 1}, slotsOf(slotOf(0, 0, 0, 1), slotOf(2, 0, 1, 10), slotOf(1, 0, 10, 19))},
		{"the order goes against the needs", graphOf(ordered(4), map[int][]int{1: {0}, 3: {2}}), []int{2, 1, 1, 1}, 2, []int{3, 1, 2, 0}, slotsOf(slotOf(2, 0, 0, 1), slotOf(0, 1, 0, 2), slotOf(3, 0, 1, 2), slotOf(1, 0, 2, 3))},
	} {
		checkAssign(t, c)
	}
}

// A task that is over at the very time at which another one may begin is done then.
func TestAssignOverAsAnotherBegins(t *testing.T) {
	g := graphOf(ordered(4), map[int][]int{2: {0}, 3: {1}})
	for _, c := range []assignCase{
		{"its own hand is free", g, []int{2, 3, 1, 1}, 2, ordered(4), slotsOf(slotOf(0, 0, 0, 2), slotOf(1, 1, 0, 3), slotOf(2, 0, 2, 3), slotOf(3, 0, 3, 4))},
		{"both are over at once", g, []int{3, 3, 1, 1}, 2, []int{0, 1, 3, 2}, slotsOf(slotOf(0, 0, 0, 3), slotOf(1, 1, 0, 3), slotOf(3, 0, 3, 4), slotOf(2, 1, 3, 4))},
		{"the one over last makes two ready", graphOf(ordered(4), map[int][]int{2: {0, 1}, 3: {1}}), []int{2, 5, 1, 1}, 2, []int{3, 2, 1, 0}, slotsOf(slotOf(1, 0, 0, 5), slotOf(0, 1, 0, 2), slotOf(3, 0, 5, 6), slotOf(2, 1, 5, 6))},
		{"the greatest times", g, alike(4, 100), 2, ordered(4), slotsOf(slotOf(0, 0, 0, 100), slotOf(1, 1, 0, 100), slotOf(2, 0, 100, 200), slotOf(3, 1, 100, 200))},
		{"the least times", g, alike(4, 1), 2, ordered(4), slotsOf(slotOf(0, 0, 0, 1), slotOf(1, 1, 0, 1), slotOf(2, 0, 1, 2), slotOf(3, 1, 1, 2))},
	} {
		checkAssign(t, c)
	}
}

func TestAssignAlone(t *testing.T) {
	for hands := 1; hands <= mostHands; hands++ {
		for _, time := range []int{1, 2, 99, 100} {
			checkAssign(t, assignCase{"alone", alone(), []int{time}, hands, []int{0}, slotsOf(slotOf(0, 0, 0, time))})
		}
	}
}

// Of a chain one after the other is done by the first hand, whatever the order.
func TestAssignChain(t *testing.T) {
	d := newDrawer()
	times := []int{10, 9, 8, 7, 6, 5, 4, 3, 2, 1}
	var want []impl.Slot
	now := 0
	for task := impl.MaxTasks - 1; task >= 0; task-- {
		want = append(want, slotOf(task, 0, now, now+times[task]))
		now += times[task]
	}
	for hands := 1; hands <= mostHands; hands++ {
		for _, order := range [][]int{ordered(10), backward(ordered(10)), d.orderFor(10), d.orderFor(10)} {
			checkAssign(t, assignCase{"a chain", longChain(), times, hands, order, want})
			checkAssign(t, assignCase{"every need", everyNeed(), backward(times), hands, order, turned(want)})
		}
	}
}

// turned gives the slots of the task of the other end each.
func turned(l []impl.Slot) []impl.Slot {
	l = slices.Clone(l)
	for i := range l {
		l[i].Task = impl.MaxTasks - 1 - l[i].Task
	}
	return l
}

// Of alike ones without needs each hand takes one in its turn.
func TestAssignWithoutNeeds(t *testing.T) {
	d := newDrawer()
	for tasks := 1; tasks <= impl.MaxTasks; tasks++ {
		for hands := 1; hands <= mostHands; hands++ {
			for _, order := range [][]int{ordered(tasks), backward(ordered(tasks)), d.orderFor(tasks)} {
				var want []impl.Slot
				for place, task := range order {
					from := place / hands * 100
					want = append(want, slotOf(task, place%hands, from, from+100))
				}
				checkAssign(t, assignCase{"no needs", graphOf(backward(ordered(tasks)), nil), alike(tasks, 100), hands, order, want})
			}
		}
	}
}

// badOrders are refused of a graph of that many tasks, at least three.
func badOrders(tasks int) map[string][]int {
	last := tasks - 1
	with := func(place int, task int) []int {
		order := ordered(tasks)
		order[place] = task
		return order
	}
	return map[string][]int{
		"none":                        nil,
		"none, an empty list":         {},
		"the first one alone":         {0},
		"lacks the first one":         ordered(tasks)[1:],
		"lacks the last one":          ordered(last),
		"lacks one within":            slices.Delete(ordered(tasks), 1, 2),
		"has the first one twice":     append(ordered(tasks), 0),
		"has the last one twice":      append(ordered(tasks), last),
		"one twice, another lacks":    with(0, 1),
		"the last twice, one lacks":   with(1, last),
		"the first twice, last lacks": with(last, 0),
		"all alike":                   alike(tasks, 1),
		"all of 0":                    alike(tasks, 0),
		"one more":                    ordered(tasks + 1),
		"one that is not there":       with(last, tasks),
		"the first is not there":      with(0, tasks),
		"MaxTasks":                    with(1, impl.MaxTasks),
		"far above":                   with(1, impl.MaxTasks+1),
		"-1":                          with(0, -1),
		"-1 in the end":               with(last, -1),
		"-1 more":                     append(ordered(tasks), -1),
		"a great one":                 with(1, 1<<62),
		"one that wraps around":       with(1, 1<<32+1),
		"the greatest int":            with(0, 1<<63-1),
		"the least int":               with(last, -1<<63),
		"counted from 1":              ordered(tasks + 1)[1:],
		"twice all":                   append(ordered(tasks), ordered(tasks)...),
		"very many":                   ordered(100000),
		"very many alike":             make([]int, 100000),
	}
}

func TestAssignRefusesBadOrders(t *testing.T) {
	for _, g := range []impl.Graph{crossed(), chained(), forked(), everyNeed(), longChain(), graphOf(ordered(3), nil), graphOf(ordered(10), nil)} {
		for what, order := range badOrders(len(g.Needs)) {
			for hands := 1; hands <= mostHands; hands++ {
				checkZeroHands(t, what, map[string]handFunc{"Assign": assignOf}, handArgs{g: g, times: alike(len(g.Needs), 5), hands: hands, order: order})
			}
		}
	}
	for _, order := range [][]int{nil, {}, {1}, {-1}, {0, 0}, {0, 1}, {1 << 62}, {-1 << 63}} {
		checkZeroHands(t, "the only one", map[string]handFunc{"Assign": assignOf}, handArgs{g: alone(), times: []int{5}, hands: 1, order: order})
	}
}

// Of all lists of four numbers just those are taken that have each task once.
func TestAssignTakesJustOrders(t *testing.T) {
	for n := range 6 * 6 * 6 * 6 {
		order := []int{n%6 - 1, n/6%6 - 1, n/36%6 - 1, n/216 - 1}
		sorted := slices.Sorted(slices.Values(order))
		got, ok := impl.Assign(forked(), []int{1, 2, 3, 4}, 2, order)
		if want := slices.Equal(sorted, ordered(4)); ok != want || want != (len(got) == 4) {
			t.Errorf("Assign of %v: %v, %v; want %v", order, got, ok, want)
		}
	}
}

func badHandCounts() []int {
	return []int{0, 5, -1, -2, 6, 10, 256, 257, 1 << 32, 1<<32 + 1, 1 << 62, 1<<63 - 1, -1 << 63}
}

func TestHandsRefusesBadHands(t *testing.T) {
	for _, hands := range badHandCounts() {
		checkZeroHands(t, fmt.Sprint(hands, " hands"), countedFuncs(), handArgs{g: forked(), times: []int{1, 2, 3, 4}, hands: hands, order: ordered(4), slots: toldSlots()})
		checkZeroHands(t, fmt.Sprint(hands, " hands, one task"), countedFuncs(), handArgs{g: alone(), times: []int{1}, hands: hands, order: []int{0}, slots: slotsOf(slotOf(0, 0, 0, 1))})
	}
	for hands := 1; hands <= mostHands; hands++ {
		for name, f := range countedFuncs() {
			if got := f(handArgs{g: alone(), times: []int{1}, hands: hands, order: []int{0}, slots: slotsOf(slotOf(0, 0, 0, 1))}); !got.ok {
				t.Errorf("%s refuses %d hands", name, hands)
			}
		}
	}
}

func TestHandsRefusesBadTimes(t *testing.T) {
	for _, g := range []impl.Graph{crossed(), chained(), forked(), everyNeed(), longChain(), graphOf(ordered(3), nil), graphOf(ordered(10), nil)} {
		tasks := len(g.Needs)
		for what, times := range badTimeLists(tasks) {
			for hands := 1; hands <= mostHands; hands++ {
				slots, _ := impl.Assign(g, alike(tasks, 50), hands, ordered(tasks))
				checkZeroHands(t, what, graphHandFuncs(), handArgs{g: g, times: times, hands: hands, order: ordered(tasks), slots: slots})
			}
		}
	}
	for _, times := range [][]int{nil, {}, {0}, {101}, {-1}, {1, 1}, {1 << 62}, {-1 << 63}} {
		checkZeroHands(t, "the only one", graphHandFuncs(), handArgs{g: alone(), times: times, hands: 1, order: []int{0}, slots: slotsOf(slotOf(0, 0, 0, 1))})
	}
}

func TestHandsRefusesBadGraphs(t *testing.T) {
	for what, g := range badGraphs() {
		for _, tasks := range []int{len(g.Needs), len(g.Order), 3, 0, 1} {
			order := ordered(tasks)
			slots := slotsOf(slotOf(0, 0, 0, 1), slotOf(1, 0, 1, 2), slotOf(2, 0, 2, 3))
			checkZeroHands(t, what, graphHandFuncs(), handArgs{g: g, times: alike(tasks, 1), hands: 2, order: order, slots: slots})
			checkZeroHands(t, what+", its own Order", graphHandFuncs(), handArgs{g: g, times: alike(tasks, 1), hands: 1, order: g.Order})
		}
	}
}

// Of all times from -1 on just those in 1..100 are taken, at each place.
func TestHandsTakesJustTimes(t *testing.T) {
	for time := -1; time <= mostTime+2; time++ {
		for task := range 4 {
			times := []int{3, 100, 1, 40}
			times[task] = time
			for name, f := range graphHandFuncs() {
				got := f(handArgs{g: forked(), times: times, hands: 2, order: ordered(4), slots: toldSlots()})
				if want := 1 <= time && time <= mostTime; got.ok != want || !want && !sameHandAnswer(got, handAnswer{}) {
					t.Errorf("%s of %v: %v; want %v", name, times, got, want)
				}
			}
		}
	}
}

// tenSlots are MaxTasks slots, one of each task, of all hands.
func tenSlots() []impl.Slot {
	var l []impl.Slot
	for task := range impl.MaxTasks {
		l = append(l, slotOf(task, task%mostHands, 10*task, 10*task+15))
	}
	return l
}

func TestEndOf(t *testing.T) {
	checkEndOf(t, "none", nil, 0)
	checkEndOf(t, "none, an empty list", []impl.Slot{}, 0)
	checkEndOf(t, "the zero slot, longer", slotsOf(slotOf(0, 0, 0, 1)), 1)
	checkEndOf(t, "one", slotsOf(slotOf(3, 2, 4, 9)), 9)
	checkEndOf(t, "told", toldSlots(), 8)
	checkEndOf(t, "the first one ends last", slotsOf(slotOf(0, 0, 0, 9), slotOf(1, 1, 5, 6)), 9)
	checkEndOf(t, "one within ends last", slotsOf(slotOf(0, 0, 0, 9), slotOf(1, 1, 5, 16), slotOf(2, 0, 9, 12)), 16)
	checkEndOf(t, "the last one ends last", slotsOf(slotOf(0, 0, 0, 9), slotOf(1, 1, 5, 16), slotOf(2, 0, 9, 17)), 17)
	checkEndOf(t, "the one begun last does not end last", slotsOf(slotOf(0, 0, 0, 100), slotOf(1, 1, 90, 95)), 100)
	checkEndOf(t, "all end alike", slotsOf(slotOf(0, 0, 3, 4), slotOf(1, 1, 2, 4), slotOf(2, 2, 0, 4)), 4)
	checkEndOf(t, "exactly 10000", slotsOf(slotOf(0, 0, 0, 10000)), 10000)
	checkEndOf(t, "the latest slot", slotsOf(slotOf(9, 3, 9999, 10000)), 10000)
	checkEndOf(t, "one task twice, one hand twice", slotsOf(slotOf(4, 1, 2, 7), slotOf(4, 1, 2, 8)), 8)
	checkEndOf(t, "MaxTasks", tenSlots(), 105)
	checkEndOf(t, "MaxTasks, all alike", slices.Repeat(slotsOf(slotOf(9, 3, 6, 7)), impl.MaxTasks), 7)
}

func TestBusyAt(t *testing.T) {
	l := slotsOf(slotOf(0, 0, 2, 5), slotOf(1, 1, 5, 8), slotOf(2, 2, 3, 6), slotOf(3, 3, 3, 10000))
	for at, want := range map[int]int{0: 0, 1: 0, 2: 1, 3: 3, 4: 3, 5: 3, 6: 2, 7: 2, 8: 1, 9: 1, 5000: 1, 9999: 1, 10000: 0} {
		checkBusy(t, "four", l, at, want)
	}
	for _, at := range []int{0, 1, 5000, 9999, 10000} {
		checkBusy(t, "none", nil, at, 0)
		checkBusy(t, "none, an empty list", []impl.Slot{}, at, 0)
	}
	checkBusy(t, "from 0 on", slotsOf(slotOf(0, 0, 0, 1)), 0, 1)
	checkBusy(t, "from 0 on, behind it", slotsOf(slotOf(0, 0, 0, 1)), 1, 0)
	checkBusy(t, "all the time", slotsOf(slotOf(0, 0, 0, 10000)), 0, 1)
	checkBusy(t, "all the time, but in the end", slotsOf(slotOf(0, 0, 0, 10000)), 10000, 0)
	checkBusy(t, "the latest slot, ahead of it", slotsOf(slotOf(9, 3, 9999, 10000)), 9998, 0)
	checkBusy(t, "the latest slot", slotsOf(slotOf(9, 3, 9999, 10000)), 9999, 1)
	checkBusy(t, "one ends where another one begins", slotsOf(slotOf(0, 0, 1, 4), slotOf(1, 0, 4, 7)), 4, 1)
	checkBusy(t, "one hand and one task twice", slotsOf(slotOf(4, 1, 2, 7), slotOf(4, 1, 2, 8)), 2, 2)
	checkBusy(t, "MaxTasks at once", slices.Repeat(slotsOf(slotOf(9, 3, 6, 7)), impl.MaxTasks), 6, impl.MaxTasks)
	for at, want := range map[int]int{0: 1, 9: 1, 10: 2, 14: 2, 15: 1, 19: 1, 20: 2, 94: 2, 95: 1, 104: 1, 105: 0} {
		checkBusy(t, "MaxTasks", tenSlots(), at, want)
	}
}

func TestBusyAtRefusesBadTimes(t *testing.T) {
	for _, at := range []int{-1, -2, 10001, 10002, 20000, 1 << 32, 1 << 62, 1<<63 - 1, -1 << 63} {
		for _, l := range [][]impl.Slot{nil, toldSlots(), tenSlots(), slotsOf(slotOf(0, 0, 0, 10000))} {
			checkZeroHands(t, fmt.Sprint("at ", at), map[string]handFunc{"BusyAt": busyAt}, handArgs{slots: l, at: at})
		}
	}
}

// Each time of each slot, counted up one by one.
func TestBusyAtAndEndOfByHand(t *testing.T) {
	d := newDrawer()
	for n := range 400 {
		l := d.slotsFor(n%(impl.MaxTasks+1), []int{3, 12, 40, latestTo}[n%4])
		busy, end := make([]int, latestTo+1), 0
		for _, s := range l {
			for at := s.From; at < s.To; at++ {
				busy[at]++
				end = max(end, at+1)
			}
		}
		checkEndOf(t, "drawn", l, end)
		for at := range busy {
			if at < 60 || n%40 == 3 || at == latestTo {
				checkBusy(t, "drawn", l, at, busy[at])
			}
		}
	}
}

// badSlots are refused wherever they stand.
func badSlots() map[string]impl.Slot {
	return map[string]impl.Slot{
		"the zero slot":                {},
		"Task -1":                      slotOf(-1, 0, 0, 1),
		"Task MaxTasks":                slotOf(impl.MaxTasks, 0, 0, 1),
		"Task above MaxTasks":          slotOf(impl.MaxTasks+1, 0, 0, 1),
		"a great Task":                 slotOf(1<<62, 0, 0, 1),
		"the least Task":               slotOf(-1<<63, 0, 0, 1),
		"Hand -1":                      slotOf(0, -1, 0, 1),
		"Hand 4":                       slotOf(0, mostHands, 0, 1),
		"Hand 5":                       slotOf(0, mostHands+1, 0, 1),
		"a great Hand":                 slotOf(0, 1<<62, 0, 1),
		"the least Hand":               slotOf(0, -1<<63, 0, 1),
		"From -1":                      slotOf(0, 0, -1, 1),
		"From -1 to 0":                 slotOf(0, 0, -1, 0),
		"the least From":               slotOf(0, 0, -1<<63, 1),
		"From below 0 to below 0":      slotOf(0, 0, -5, -2),
		"To at From":                   slotOf(0, 0, 3, 3),
		"To below From":                slotOf(0, 0, 3, 2),
		"To of 0":                      slotOf(0, 0, 3, 0),
		"To below 0":                   slotOf(0, 0, 0, -1),
		"the least To":                 slotOf(0, 0, 0, -1<<63),
		"To of 10001":                  slotOf(0, 0, 0, latestTo+1),
		"To of 10001, short":           slotOf(0, 0, latestTo, latestTo+1),
		"To and From of 10000":         slotOf(0, 0, latestTo, latestTo),
		"a great To":                   slotOf(0, 0, 0, 1<<62),
		"the greatest To":              slotOf(0, 0, 0, 1<<63-1),
		"the whole range of int":       slotOf(0, 0, -1<<63, 1<<63-1),
		"the greatest From":            slotOf(0, 0, 1<<63-1, 1),
		"all below 0":                  slotOf(-1, -1, -2, -1),
		"a good one but for its To":    slotOf(3, 3, 5, 5),
		"a good one but for its Hand":  slotOf(3, 4, 5, 6),
		"a good one but for its Task":  slotOf(10, 3, 5, 6),
		"a good one but for its From":  slotOf(3, 3, -1, 6),
		"a good one but for its end":   slotOf(9, 3, 9999, 10001),
		"a slot counted from the back": slotOf(0, 0, 9, 4),
	}
}

func goodSlots() map[string]impl.Slot {
	return map[string]impl.Slot{
		"the first task and hand":        slotOf(0, 0, 0, 1),
		"the last task":                  slotOf(impl.MaxTasks-1, 0, 0, 1),
		"Hand 3":                         slotOf(0, mostHands-1, 0, 1),
		"all the time":                   slotOf(0, 0, 0, latestTo),
		"To of exactly 10000":            slotOf(0, 0, latestTo-1, latestTo),
		"longer than a task takes":       slotOf(0, 0, 5, 500),
		"all as great as can be":         slotOf(impl.MaxTasks-1, mostHands-1, latestTo-1, latestTo),
		"all as great as can be but one": slotOf(impl.MaxTasks-1, mostHands-1, 0, latestTo),
	}
}

func TestSlotsRefusesBadSlots(t *testing.T) {
	for what, bad := range badSlots() {
		for _, l := range [][]impl.Slot{slotsOf(bad), slotsOf(bad, bad), withSlot(tenSlots(), 0, bad), withSlot(tenSlots(), 9, bad), append(toldSlots(), bad), append(slotsOf(bad), toldSlots()...)} {
			checkZeroHands(t, what, slotFuncs(), handArgs{g: forked(), times: []int{1, 2, 3, 4}, hands: 4, slots: l, at: 5})
		}
		for place := range toldSlots() {
			checkZeroHands(t, what, slotFuncs(), handArgs{g: forked(), times: []int{1, 2, 3, 4}, hands: 4, slots: withSlot(toldSlots(), place, bad)})
		}
	}
	for what, good := range goodSlots() {
		for name, f := range slotFuncs() {
			for _, l := range [][]impl.Slot{slotsOf(good), withSlot(tenSlots(), 0, good), withSlot(tenSlots(), 9, good)} {
				if got := f(handArgs{g: forked(), times: []int{1, 2, 3, 4}, hands: 1, slots: l}); !got.ok {
					t.Errorf("%s: %s refuses %v", what, name, l)
				}
			}
		}
	}
}

func TestSlotsRefusesTooMany(t *testing.T) {
	g, times := graphOf(ordered(10), nil), alike(10, 15)
	for _, l := range [][]impl.Slot{append(tenSlots(), slotOf(0, 0, 0, 1)), append(tenSlots(), slotOf(9, 3, 900, 915)), slices.Repeat(slotsOf(slotOf(0, 0, 0, 1)), impl.MaxTasks+1), slices.Repeat(tenSlots(), 10000)} {
		checkZeroHands(t, fmt.Sprint(len(l), " slots"), slotFuncs(), handArgs{g: g, times: times, hands: 4, slots: l, at: 0})
	}
	checkIsFair(t, "exactly MaxTasks", handArgs{g: g, times: times, hands: 4, slots: tenSlots()}, true)
	for name, f := range slotFuncs() {
		for count := range impl.MaxTasks + 1 {
			if got := f(handArgs{g: g, times: times, hands: 4, slots: tenSlots()[:count]}); !got.ok {
				t.Errorf("%s refuses %d slots", name, count)
			}
		}
	}
}

func TestIsFair(t *testing.T) {
	told := toldSlots()
	for _, c := range []fairCase{
		{"as told", 2, told, true},
		{"more hands than are used", 4, told, true},
		{"one hand less than are used", 1, told, false},
		{"another order of slots", 2, slotsOf(told[3], told[1], told[2], told[0]), true},
		{"hands the other way", 2, slotsOf(slotOf(0, 1, 0, 1), slotOf(1, 1, 1, 3), slotOf(2, 0, 1, 4), slotOf(3, 0, 4, 8)), true},
		{"later than must be", 2, withSlot(told, 3, slotOf(3, 0, 40, 44)), true},
		{"as late as can be", 2, withSlot(told, 3, slotOf(3, 0, 9996, 10000)), true},
		{"by one hand", 1, slotsOf(slotOf(0, 0, 0, 1), slotOf(2, 0, 1, 4), slotOf(1, 0, 4, 6), slotOf(3, 0, 6, 10)), true},
		{"each by a hand of its own", 4, slotsOf(slotOf(0, 0, 0, 1), slotOf(1, 1, 1, 3), slotOf(2, 2, 1, 4), slotOf(3, 3, 4, 8)), true},
		{"each by a hand of its own, the last one not there", 3, slotsOf(slotOf(0, 0, 0, 1), slotOf(1, 1, 1, 3), slotOf(2, 2, 1, 4), slotOf(3, 3, 4, 8)), false},
		{"the first one by a hand that is not there", 3, withSlot(told, 0, slotOf(0, 3, 0, 1)), false},
		{"a hand that is just not there", 2, withSlot(told, 0, slotOf(0, 2, 0, 1)), false},
		{"none", 2, nil, false},
		{"none, an empty list", 2, []impl.Slot{}, false},
		{"the first one has none", 2, told[1:], false},
		{"the last one has none", 2, told[:3], false},
		{"one within has none", 2, slotsOf(told[0], told[2], told[3]), false},
		{"one has two", 2, append(toldSlots(), slotOf(3, 0, 8, 12)), false},
		{"one has two at once", 4, append(toldSlots(), slotOf(3, 3, 4, 8)), false},
		{"one has two, another one none", 2, withSlot(told, 1, slotOf(2, 0, 1, 4)), false},
		{"one has two, the last one none", 2, withSlot(told, 3, slotOf(2, 0, 4, 7)), false},
		{"one has two halves", 2, append(withSlot(told, 3, slotOf(3, 0, 4, 6)), slotOf(3, 0, 6, 8)), false},
		{"one has two halves, another one none", 2, slotsOf(told[0], slotOf(2, 1, 1, 2), slotOf(2, 1, 2, 4), told[3]), false},
		{"one more that the graph does not have", 2, append(toldSlots(), slotOf(4, 1, 4, 5)), false},
		{"one more that the graph does not have, far off", 2, append(toldSlots(), slotOf(9, 1, 400, 500)), false},
		{"one that the graph does not have for another", 2, withSlot(told, 3, slotOf(4, 0, 4, 8)), false},
		{"one that the graph does not have for the first one", 2, withSlot(told, 0, slotOf(9, 0, 0, 1)), false},
		{"one is too short", 2, withSlot(told, 3, slotOf(3, 0, 4, 7)), false},
		{"one is too long", 2, withSlot(told, 3, slotOf(3, 0, 4, 9)), false},
		{"the first one is too long", 4, withSlot(told, 0, slotOf(0, 3, 0, 2)), false},
		{"one within is too short", 2, withSlot(told, 1, slotOf(1, 0, 1, 2)), false},
		{"two are as long as the other one", 2, slotsOf(told[0], slotOf(1, 0, 1, 4), slotOf(2, 1, 1, 3), told[3]), false},
		{"ahead of its need by one", 2, withSlot(told, 3, slotOf(3, 0, 3, 7)), false},
		{"ahead of its last need alone", 3, withSlot(told, 3, slotOf(3, 2, 3, 7)), false},
		{"ahead of its first need alone", 3, slotsOf(told[0], slotOf(1, 0, 4, 6), told[2], slotOf(3, 2, 5, 9)), false},
		{"just behind its first need", 3, slotsOf(told[0], slotOf(1, 0, 4, 6), told[2], slotOf(3, 2, 6, 10)), true},
		{"at once with its need", 3, slotsOf(slotOf(0, 0, 0, 1), slotOf(1, 1, 0, 2), slotOf(2, 2, 1, 4), slotOf(3, 0, 4, 8)), false},
		{"all the way ahead of its need", 2, slotsOf(slotOf(0, 0, 20, 21), told[1], told[2], told[3]), false},
		{"over ahead of its needs", 2, slotsOf(slotOf(0, 0, 5, 6), slotOf(1, 0, 6, 8), slotOf(2, 1, 6, 9), slotOf(3, 0, 0, 4)), false},
		{"one hand has two at once, by one", 2, slotsOf(told[0], told[1], slotOf(2, 0, 2, 5), slotOf(3, 0, 5, 9)), false},
		{"one hand has two that touch", 2, slotsOf(told[0], told[1], slotOf(2, 0, 3, 6), slotOf(3, 0, 6, 10)), true},
		{"one hand has two that touch, told the other way", 2, slotsOf(slotOf(3, 0, 6, 10), slotOf(2, 0, 3, 6), told[1], told[0]), true},
		{"one hand has one within another one", 2, slotsOf(told[0], slotOf(1, 0, 2, 4), slotOf(2, 0, 2, 5), slotOf(3, 0, 5, 9)), false},
		{"one hand has two that begin at once", 2, withSlot(told, 2, slotOf(2, 0, 1, 4)), false},
		{"two hands have two that begin at once", 2, told, true},
		{"the other hand has two at once", 2, slotsOf(told[0], slotOf(1, 1, 1, 3), told[2], told[3]), false},
		{"a late hand has two at once", 4, slotsOf(told[0], slotOf(1, 3, 1, 3), slotOf(2, 3, 2, 5), slotOf(3, 0, 5, 9)), false},
	} {
		checkIsFair(t, c.what, handArgs{g: forked(), times: []int{1, 2, 3, 4}, hands: c.hands, slots: c.l}, c.want)
	}
}

func TestIsFairEdges(t *testing.T) {
	for hands := 1; hands <= mostHands; hands++ {
		for hand := range mostHands {
			for _, time := range []int{1, 100} {
				for _, from := range []int{0, 1, 5000, latestTo - time} {
					what := fmt.Sprint("alone, hand ", hand, " of ", hands, " from ", from)
					a := handArgs{g: alone(), times: []int{time}, hands: hands, slots: slotsOf(slotOf(0, hand, from, from+time))}
					checkIsFair(t, what, a, hand < hands)
					a.slots = slotsOf(slotOf(1, hand, from, from+time))
					checkIsFair(t, what+", another task", a, false)
				}
			}
		}
	}
	chain, _ := impl.Assign(longChain(), alike(10, 100), 4, ordered(10))
	checkIsFair(t, "a chain", handArgs{g: longChain(), times: alike(10, 100), hands: 1, slots: chain}, true)
	checkIsFair(t, "a chain the other way", handArgs{g: longChain(), times: alike(10, 100), hands: 1, slots: turned(chain)}, false)
	checkIsFair(t, "a chain, no needs", handArgs{g: graphOf(ordered(10), nil), times: alike(10, 100), hands: 1, slots: turned(chain)}, true)
	checkIsFair(t, "one of a chain twice", handArgs{g: longChain(), times: alike(10, 100), hands: 1, slots: withSlot(chain, 9, slotOf(1, 0, 900, 1000))}, false)
	checkIsFair(t, "nine of ten", handArgs{g: longChain(), times: alike(10, 100), hands: 1, slots: chain[:9]}, false)
}

// Of up to two slots of few numbers each just those are fair that the chapter says.
func TestIsFairOfTwo(t *testing.T) {
	var few []impl.Slot
	for n := range 3 * 3 * 4 * 4 {
		if from, to := n/9%4, n/36; from < to {
			few = append(few, slotOf(n%3, n/3%3, from, to))
		}
	}
	lists := [][]impl.Slot{nil}
	for _, a := range few {
		lists = append(lists, slotsOf(a))
		for _, b := range few {
			lists = append(lists, slotsOf(a, b))
		}
	}
	fair := 0
	for _, g := range smallGraphs(2) {
		for _, times := range timesOver(len(g.Needs), 2) {
			for hands := 1; hands <= 3; hands++ {
				for _, l := range lists {
					want := fairByHand(g, times, hands, l)
					checkIsFair(t, "of two", handArgs{g: g, times: times, hands: hands, slots: l}, want)
					if want {
						fair++
					}
				}
			}
		}
	}
	if fair < 500 {
		t.Error("too few were fair", fair)
	}
}

// spoilt are the slots with one field of one of them other by little.
func spoilt(l []impl.Slot) [][]impl.Slot {
	all := [][]impl.Slot{l, l[1:], l[:len(l)-1]}
	for place, s := range l {
		for _, by := range []int{-1, 1} {
			all = append(all,
				withSlot(l, place, slotOf(s.Task+by, s.Hand, s.From, s.To)),
				withSlot(l, place, slotOf(s.Task, s.Hand+by, s.From, s.To)),
				withSlot(l, place, slotOf(s.Task, s.Hand, s.From+by, s.To)),
				withSlot(l, place, slotOf(s.Task, s.Hand, s.From, s.To+by)),
				withSlot(l, place, slotOf(s.Task, s.Hand, s.From+by, s.To+by)))
		}
	}
	return all
}

func areGoodByHand(l []impl.Slot) bool {
	return !slices.ContainsFunc(l, func(s impl.Slot) bool {
		return s.Task < 0 || s.Task > 9 || s.Hand < 0 || s.Hand > 3 || s.From < 0 || s.To <= s.From || s.To > 10000
	})
}

func TestIsFairByHand(t *testing.T) {
	d := newDrawer()
	fair, unfair := 0, 0
	for _, g := range append(smallGraphs(3), drawnGraphs(250)...) {
		tasks := len(g.Needs)
		times, hands := d.timesFor(tasks, 4), 1+d.below(mostHands)
		l, _ := impl.Assign(g, times, hands, d.orderFor(tasks))
		for _, changed := range spoilt(l) {
			a := handArgs{g: g, times: times, hands: hands, slots: changed}
			if !areGoodByHand(changed) {
				checkZeroHands(t, "not good", map[string]handFunc{"IsFair": isFairOf}, a)
				continue
			}
			want := fairByHand(g, times, hands, changed)
			checkIsFair(t, "spoilt", a, want)
			if want {
				fair++
			} else {
				unfair++
			}
		}
	}
	if fair < 500 || unfair < 500 {
		t.Error("too few of one kind", fair, unfair)
	}
}

func TestLeastEnd(t *testing.T) {
	for _, c := range []leastCase{
		{"forked", forked(), []int{1, 2, 3, 4}, [mostHands]int{10, 8, 8, 8}},
		{"the longest way is shorter", graphOf(ordered(4), map[int][]int{1: {0}}), []int{2, 2, 5, 5}, [mostHands]int{14, 7, 5, 5}},
		{"crossed", crossed(), []int{5, 4, 2, 1, 6, 3, 9}, [mostHands]int{30, 16, 16, 16}},
		{"three alike", graphOf(ordered(3), nil), alike(3, 3), [mostHands]int{9, 5, 3, 3}},
		{"five alike", graphOf(ordered(5), nil), alike(5, 2), [mostHands]int{10, 5, 4, 3}},
		{"ten of 1", graphOf(ordered(10), nil), alike(10, 1), [mostHands]int{10, 5, 4, 3}},
		{"nine of 1: one more than divides by four", graphOf(ordered(9), nil), alike(9, 1), [mostHands]int{9, 5, 3, 3}},
		{"eight of 1: divides by four", graphOf(ordered(8), nil), alike(8, 1), [mostHands]int{8, 4, 3, 2}},
		{"seven of 1: one less than divides by four", graphOf(ordered(7), nil), alike(7, 1), [mostHands]int{7, 4, 3, 2}},
		{"six of 1: divides by three", graphOf(ordered(6), nil), alike(6, 1), [mostHands]int{6, 3, 2, 2}},
		{"five of 1", graphOf(ordered(5), nil), alike(5, 1), [mostHands]int{5, 3, 2, 2}},
		{"fewer tasks than hands", graphOf(ordered(2), nil), []int{1, 1}, [mostHands]int{2, 1, 1, 1}},
		{"alone", alone(), []int{1}, [mostHands]int{1, 1, 1, 1}},
		{"alone, 100", alone(), []int{100}, [mostHands]int{100, 100, 100, 100}},
		{"MaxTasks of 100", graphOf(ordered(10), nil), alike(10, 100), [mostHands]int{1000, 500, 334, 250}},
		{"MaxTasks of 100, a chain", longChain(), alike(10, 100), [mostHands]int{1000, 1000, 1000, 1000}},
		{"MaxTasks of 1, a chain", longChain(), alike(10, 1), [mostHands]int{10, 10, 10, 10}},
		{"Graham's", graham(), []int{3, 2, 2, 2, 4, 4, 4, 4, 9}, [mostHands]int{34, 17, 12, 12}},
		{"six and one", sixAndOne(), []int{33, 33, 33, 33, 33, 33, 99}, [mostHands]int{297, 149, 99, 99}},
		{"both as great", graphOf(ordered(3), map[int][]int{1: {0}}), []int{2, 3, 5}, [mostHands]int{10, 5, 5, 5}},
		{"both as great, up", graphOf(ordered(3), map[int][]int{1: {0}}), []int{2, 3, 4}, [mostHands]int{9, 5, 5, 5}},
		{"up, by one more than the longest way", graphOf(ordered(4), nil), []int{3, 3, 3, 1}, [mostHands]int{10, 5, 4, 3}},
	} {
		checkLeast(t, c)
	}
}

func TestByTails(t *testing.T) {
	levels := map[int][]int{2: {0, 1}, 3: {0, 1}, 4: {2, 3}, 5: {2, 3}}
	for _, c := range []struct {
		what  string
		g     impl.Graph
		times []int
		want  []int
	}{
		{"given", graphOf(ordered(3), map[int][]int{1: {0}, 2: {0}}), []int{1, 2, 3}, []int{0, 2, 1}},
		{"forked", forked(), []int{1, 2, 3, 4}, []int{0, 2, 1, 3}},
		{"forked, both as great", forked(), []int{1, 3, 3, 4}, []int{0, 1, 2, 3}},
		{"crossed", crossed(), []int{5, 4, 2, 1, 6, 3, 9}, []int{2, 4, 1, 3, 6, 5, 0}},
		{"chained", chained(), []int{10, 20, 30, 40}, []int{3, 1, 0, 2}},
		{"alone", alone(), []int{100}, []int{0}},
		{"no needs, all as great", graphOf([]int{2, 0, 1}, nil), []int{4, 4, 4}, []int{0, 1, 2}},
		{"no needs, rising", graphOf([]int{2, 0, 1}, nil), []int{4, 5, 6}, []int{2, 1, 0}},
		{"no needs, falling", graphOf([]int{2, 0, 1}, nil), []int{6, 5, 4}, []int{0, 1, 2}},
		{"no needs, two as great", graphOf([]int{3, 2, 1, 0}, nil), []int{1, 4, 3, 4}, []int{1, 3, 2, 0}},
		{"no needs, two pairs", graphOf([]int{3, 2, 1, 0}, nil), []int{9, 7, 7, 9}, []int{0, 3, 1, 2}},
		{"as great by unlike ways", graphOf([]int{1, 3, 0, 2}, map[int][]int{0: {1}, 2: {0}}), []int{2, 2, 2, 6}, []int{1, 3, 0, 2}},
		{"each level has two", graphOf([]int{1, 0, 3, 2, 5, 4}, levels), alike(6, 7), []int{0, 1, 2, 3, 4, 5}},
		{"each level has two, the later one longer", graphOf([]int{1, 0, 3, 2, 5, 4}, levels), []int{6, 7, 6, 7, 6, 7}, []int{1, 0, 3, 2, 5, 4}},
		{"what is needed is behind what is long", graphOf(ordered(3), map[int][]int{1: {0}}), []int{1, 1, 100}, []int{2, 0, 1}},
		{"MaxTasks, a chain", longChain(), alike(10, 100), backward(ordered(10))},
		{"MaxTasks, every need", everyNeed(), alike(10, 1), ordered(10)},
		{"MaxTasks, no needs", graphOf(backward(ordered(10)), nil), alike(10, 100), ordered(10)},
		{"MaxTasks, no needs, rising", graphOf(ordered(10), nil), []int{1, 2, 3, 4, 5, 6, 7, 8, 9, 10}, backward(ordered(10))},
		{"MaxTasks, one over nine", graphOf(ordered(10), map[int][]int{9: ordered(9)}), alike(10, 2), ordered(10)},
	} {
		checkByTails(t, c.what, c.g, c.times, c.want)
	}
}

// eachAssigned goes over graphs and times with each count of hands, by the order of the longest
// ways and by one that is drawn.
func eachAssigned(check func(g impl.Graph, times []int, hands int, order []int)) {
	d := newDrawer()
	eachTimed(func(g impl.Graph, times []int) {
		byTails, _ := impl.ByTails(g, times)
		for hands := 1; hands <= mostHands; hands++ {
			check(g, times, hands, d.orderFor(len(times)))
		}
		check(g, times, 1+d.below(mostHands), byTails)
	})
}

func TestPromise11AssignByHand(t *testing.T) {
	eachAssigned(func(g impl.Graph, times []int, hands int, order []int) {
		checkAssign(t, assignCase{"by hand", g, times, hands, order, assignByHand(g, times, hands, order)})
		if t.Failed() {
			t.FailNow()
		}
	})
}

func TestPromise11AssignByHandSmall(t *testing.T) {
	for _, g := range smallGraphs(3) {
		for _, times := range timesOver(len(g.Needs), 3) {
			for _, order := range ordersOf(len(g.Needs)) {
				for hands := 1; hands <= 3; hands++ {
					checkAssign(t, assignCase{"small", g, times, hands, order, assignByHand(g, times, hands, order)})
				}
			}
		}
	}
}

func TestPromise11LeastEndAndByTailsByHand(t *testing.T) {
	eachTimed(func(g impl.Graph, times []int) {
		c := leastCase{what: "by hand", g: g, times: times}
		for place := range c.want {
			c.want[place] = leastByHand(g, times, place+1)
		}
		checkLeast(t, c)
		checkByTails(t, "by hand", g, times, byTailsByHand(g, times))
		if t.Failed() {
			t.FailNow()
		}
	})
}

// checkNobodyWaits wants no more to be busy than there are hands, and no task that may begin to
// wait while some hand is free.
func checkNobodyWaits(t *testing.T, g impl.Graph, hands int, l []impl.Slot, at int) {
	t.Helper()
	busy, ok := impl.BusyAt(l, at)
	if !ok || busy > hands {
		t.Fatalf("BusyAt of %v, %d: %d, %v; there are %d hands", l, at, busy, ok, hands)
	}
	ends := map[int]int{}
	for _, s := range l {
		ends[s.Task] = s.To
	}
	for _, s := range l {
		isReady := !slices.ContainsFunc(g.Needs[s.Task], func(need int) bool { return ends[need] > at })
		if s.From > at && isReady && busy < hands {
			t.Fatalf("%v, %d hands: %v: %d waits at %d", g, hands, l, s.Task, at)
		}
	}
}

// checkPromise11 tells whether all was done later than it must be.
func checkPromise11(t *testing.T, g impl.Graph, times []int, hands int, order []int) bool {
	t.Helper()
	l, ok := impl.Assign(g, times, hands, order)
	if !ok || len(l) != len(times) {
		t.Fatalf("Assign of %v, %v, %d, %v: %v, %v", g, times, hands, order, l, ok)
	}
	if fair, ok := impl.IsFair(g, times, hands, l); !fair || !ok {
		t.Fatalf("Assign of %v, %v, %d, %v: %v is not fair", g, times, hands, order, l)
	}
	end, _ := impl.EndOf(l)
	least, ok := impl.LeastEnd(g, times, hands)
	if !ok || end < least || end >= 2*least {
		t.Fatalf("Assign of %v, %v, %d, %v: %v ends at %d; the least is %d", g, times, hands, order, l, end, least)
	}
	for i, s := range l {
		if i > 0 && l[i-1].From > s.From {
			t.Fatalf("Assign of %v, %v, %d, %v: %v: not as they begin", g, times, hands, order, l)
		}
		for _, at := range []int{max(0, s.From-1), s.From, s.To - 1, s.To} {
			checkNobodyWaits(t, g, hands, l, at)
		}
	}
	return end > least
}

func TestPromise11Assign(t *testing.T) {
	late, all := 0, 0
	eachAssigned(func(g impl.Graph, times []int, hands int, order []int) {
		all++
		if checkPromise11(t, g, times, hands, order) {
			late++
		}
	})
	if late < 1000 || all-late < 1000 {
		t.Error("too few of one kind", late, all)
	}
}

// Whatever the order: all that there are.
func TestPromise11AllOrders(t *testing.T) {
	d := newDrawer()
	graphs := []impl.Graph{crossed(), sixAndOne(), forked(), chained(), graphOf(ordered(6), map[int][]int{3: {0}, 4: {0, 1}, 5: {2}})}
	for _, g := range append(graphs, drawnGraphs(4)[:2]...) {
		tasks := len(g.Needs)
		for _, times := range [][]int{d.timesFor(tasks, mostTime), append(alike(tasks-1, 33), 99)} {
			for _, order := range ordersOf(tasks) {
				checkPromise11(t, g, times, 1+d.below(mostHands), order)
			}
		}
	}
}

// At every single time, not just where some slot begins or ends.
func TestPromise11AtAnyTime(t *testing.T) {
	d := newDrawer()
	for _, g := range append(smallGraphs(3), drawnGraphs(100)...) {
		tasks := len(g.Needs)
		for hands := 1; hands <= mostHands; hands++ {
			l, _ := impl.Assign(g, d.timesFor(tasks, 9), hands, d.orderFor(tasks))
			end, _ := impl.EndOf(l)
			for at := range end + 2 {
				checkNobodyWaits(t, g, hands, l, at)
			}
		}
	}
}

// It can be nearly twice as late: so the bound is not a lesser one.
func TestPromise11NearlyTwice(t *testing.T) {
	for _, c := range []struct {
		times []int
		hands int
		order []int
		end   int
		least int
	}{
		{[]int{33, 33, 33, 33, 33, 33, 99}, 3, ordered(7), 165, 99},
		{[]int{33, 33, 33, 33, 33, 33, 99}, 3, backward(ordered(7)), 99, 99},
		{[]int{1, 1, 1, 1, 1, 1, 3}, 3, ordered(7), 5, 3},
		{[]int{50, 50, 100}, 2, ordered(3), 150, 100},
		{[]int{50, 50, 100}, 2, []int{2, 0, 1}, 100, 100},
	} {
		g := graphOf(ordered(len(c.times)), nil)
		l, _ := impl.Assign(g, c.times, c.hands, c.order)
		checkEndOf(t, "nearly twice", l, c.end)
		if least, ok := impl.LeastEnd(g, c.times, c.hands); least != c.least || !ok {
			t.Errorf("LeastEnd of %v, %d: %d, %v; want %d", c.times, c.hands, least, ok, c.least)
		}
		checkPromise11(t, g, c.times, c.hands, c.order)
	}
}

// The Order in which a graph is kept is not seen in who does what.
func TestPromise11AnyOrderOfTheGraph(t *testing.T) {
	d := newDrawer()
	for _, g := range smallGraphs(4) {
		tasks := len(g.Needs)
		a := handArgs{g: g, times: d.timesFor(tasks, 3), hands: 1 + d.below(3), order: d.orderFor(tasks)}
		a.slots, _ = impl.Assign(g, a.times, a.hands, a.order)
		for name, f := range graphHandFuncs() {
			want := f(a)
			for _, order := range ordersOf(tasks) {
				other := a
				other.g = impl.Graph{Needs: g.Needs, Order: order}
				if got := f(other); got.ok && !sameHandAnswer(got, want) || got.ok != impl.GoodGraph(other.g) {
					t.Fatalf("%s of %v: %v; want %v", name, other, got, want)
				}
			}
		}
	}
}

// roomySlots gives the slots with something behind their length, and that whole.
func roomySlots(l []impl.Slot) ([]impl.Slot, []impl.Slot) {
	whole := append(slices.Clone(l), slotOf(9, 3, 1, latestTo), slotOf(-1, -1, -1, -1))
	return whole[:len(l)], whole
}

// overwriteSlots overwrites what lies behind their length, too.
func overwriteSlots(l []impl.Slot) {
	l = l[:cap(l)]
	for i := range l {
		l[i] = slotOf(55, 55, 55, 55)
	}
}

// hasBehind tells whether something but noughts lies behind a list's length.
func hasBehind[T comparable](l []T) bool {
	var zero T
	return slices.ContainsFunc(l[len(l):cap(l)], func(of T) bool { return of != zero })
}

// checkHandMemory wants that nothing behind a length is read or handed out, nothing that was
// given is written into, and that what is answered is no part of it.
func checkHandMemory(t *testing.T, name string, a handArgs, f handFunc) {
	t.Helper()
	given := a
	var wholeGraph impl.Graph
	var wholeTimes, wholeOrder []int
	var wholeSlots []impl.Slot
	given.g, wholeGraph = roomyGraph(a.g)
	given.times, wholeTimes = roomyTasks(a.times)
	given.order, wholeOrder = roomyTasks(a.order)
	given.slots, wholeSlots = roomySlots(a.slots)
	before, behind := cloneGraph(wholeGraph), fmt.Sprint(behindNeeds(given.g))
	lists := fmt.Sprint(wholeTimes, wholeOrder, wholeSlots)
	got := f(given)
	if want := f(a); !sameHandAnswer(got, want) {
		t.Fatalf("%s of %v reads behind a list: %v; want %v", name, a, got, want)
	}
	if hasBehind(got.l) || hasBehind(got.slots) {
		t.Fatalf("%s of %v hands out what lies behind a list: %v", name, a, got)
	}
	overwriteTasks(got.l)
	overwriteSlots(got.slots)
	if !sameGraph(wholeGraph, before) || !sameGraph(given.g, a.g) || fmt.Sprint(behindNeeds(given.g)) != behind {
		t.Fatalf("%s of %v wrote into the graph, or answers its memory: %v", name, a, wholeGraph)
	}
	if now := fmt.Sprint(wholeTimes, wholeOrder, wholeSlots); now != lists {
		t.Fatalf("%s of %v wrote into a list, or answers its memory: %s; was %s", name, a, now, lists)
	}
}

func TestPromise19HandsStays(t *testing.T) {
	d := newDrawer()
	for _, g := range append(smallGraphs(3), drawnGraphs(150)...) {
		tasks := len(g.Needs)
		for _, times := range [][]int{alike(tasks, 1), alike(tasks, mostTime), d.timesFor(tasks, 3), d.timesFor(tasks, mostTime)} {
			a := handArgs{g: g, times: times, hands: 1 + d.below(mostHands), order: d.orderFor(tasks), at: d.below(30)}
			a.slots, _ = impl.Assign(g, times, a.hands, a.order)
			for name, f := range handFuncs() {
				checkHandMemory(t, name, a, f)
			}
			a.slots, a.order = d.slotsFor(d.below(impl.MaxTasks+1), 30), backward(ordered(tasks))
			for name, f := range handFuncs() {
				checkHandMemory(t, name, a, f)
			}
		}
	}
}

func TestPromise19HandsBadStays(t *testing.T) {
	for what, g := range badGraphs() {
		if len(g.Order) > impl.MaxTasks+1 {
			continue
		}
		for name, f := range handFuncs() {
			for _, times := range [][]int{nil, alike(len(g.Needs), 5), {0, 101, -1}} {
				checkHandMemory(t, what+": "+name, handArgs{g: g, times: times, hands: 2, order: g.Order, slots: toldSlots(), at: 3}, f)
			}
		}
	}
	for name, f := range handFuncs() {
		good := handArgs{g: crossed(), times: alike(7, 5), hands: 2, order: backward(ordered(7)), slots: tenSlots()[:7]}
		for what, times := range badTimeLists(7) {
			bad := good
			bad.times = times
			checkHandMemory(t, what+": "+name, bad, f)
		}
		for what, order := range badOrders(7) {
			bad := good
			bad.order = order
			checkHandMemory(t, what+": "+name, bad, f)
		}
		for what, s := range badSlots() {
			bad := good
			bad.slots = append(slotsOf(s), good.slots...)
			checkHandMemory(t, what+": "+name, bad, f)
		}
		for _, n := range append(badHandCounts(), latestTo, latestTo+1) {
			bad := good
			bad.hands, bad.at = n, n
			checkHandMemory(t, fmt.Sprint(n, ": ", name), bad, f)
		}
	}
}

// The times, the order and the graph's lists may lie in one piece of memory.
func TestPromise19HandsOneListTwice(t *testing.T) {
	all := []int{1, 2, 3, 4, 0}
	g := impl.Graph{Needs: [][]int{nil, nil, {1}, all[:2], nil}, Order: all}
	checkGoodCase(t, "one piece of memory", g)
	a := handArgs{g: g, times: []int{5, 4, 3, 2, 1}, hands: 2, order: all}
	a.slots, _ = impl.Assign(cloneGraph(g), a.times, a.hands, slices.Clone(all))
	want := cloneGraph(g)
	for name, f := range handFuncs() {
		apart := a
		apart.g, apart.order = cloneGraph(g), slices.Clone(all)
		got := f(a)
		if !sameHandAnswer(got, f(apart)) || !got.ok {
			t.Errorf("%s of %v: %v; want %v", name, a, got, f(apart))
		}
		overwriteTasks(got.l)
		overwriteSlots(got.slots)
		if !sameGraph(g, want) || !slices.Equal(all, []int{1, 2, 3, 4, 0}) {
			t.Fatalf("%s: written into: %v, %v; want %v", name, g, all, want)
		}
	}
}

// What is answered by one call is not what the next one answers.
func TestPromise19HandsApart(t *testing.T) {
	for _, g := range []impl.Graph{alone(), crossed(), everyNeed(), longChain(), graphOf(ordered(7), nil)} {
		tasks := len(g.Needs)
		for hands := 1; hands <= mostHands; hands++ {
			a := handArgs{g: g, times: alike(tasks, 5), hands: hands, order: backward(ordered(tasks))}
			for name, f := range graphHandFuncs() {
				one, two := f(a), f(a)
				want := handAnswer{slots: slices.Clone(two.slots), l: slices.Clone(two.l), n: two.n, is: two.is, ok: true}
				overwriteTasks(one.l)
				overwriteSlots(one.slots)
				if !sameHandAnswer(two, want) || !sameHandAnswer(f(a), want) {
					t.Errorf("two answers of %s share memory", name)
				}
			}
		}
	}
}

// The same again, however often: nothing is kept from call to call.
func TestHandsKeepsNothing(t *testing.T) {
	graphs := append(smallGraphs(3), drawnGraphs(60)...)
	first := make([]map[string]handAnswer, len(graphs))
	for round := range 2 {
		for n, g := range graphs {
			tasks := len(g.Needs)
			a := handArgs{g: g, times: alike(tasks, 1+n%mostTime), hands: 1 + n%mostHands, order: ordered(tasks), at: n}
			a.slots, _ = impl.Assign(g, a.times, a.hands, a.order)
			answers := map[string]handAnswer{}
			for name, f := range handFuncs() {
				answers[name] = f(a)
			}
			for name, was := range first[n] {
				if !sameHandAnswer(answers[name], was) {
					t.Fatalf("round %d: %s of %v: %v; was %v", round, name, a, answers[name], was)
				}
			}
			first[n] = answers
		}
	}
}
