package tests

import (
	"fmt"
	"slices"
	"sort"
	"strings"
	"testing"
	"unsafe"

	"loop.example/g00636/impl"
)

const (
	mostInputs   = 10
	mostOpText   = 10
	mostDigested = 100
)

type runCase struct {
	what string
	r    []impl.Op
	ins  []string
	text string
	did  bool
}

type opCase struct {
	op   impl.Op
	ins  []string
	acc  string
	text string
	did  bool
}

func cat(n int) impl.Op             { return impl.Op{Kind: impl.OpCat, N: n} }
func textOp(text string) impl.Op    { return impl.Op{Kind: impl.OpText, Text: text} }
func dropOp(n int) impl.Op          { return impl.Op{Kind: impl.OpDrop, N: n} }
func bare(kind int) impl.Op         { return impl.Op{Kind: kind} }
func recipe(l ...impl.Op) []impl.Op { return l }

func timesOp(op impl.Op, n int) []impl.Op {
	return slices.Repeat([]impl.Op{op}, n)
}

// inputs gives that many short texts, no two alike.
func inputs(n int) []string {
	var ins []string
	for i := range n {
		ins = append(ins, fmt.Sprintf("i%d", i))
	}
	return ins
}

// goodOpsFor are ops of each kind, at the edges of what each of them may hold.
func goodOpsFor(ins int) []impl.Op {
	ops := []impl.Op{
		textOp(""), textOp("a"), textOp("zB9 \x00"), textOp("\xff\x80"), textOp(textOfBytes(mostOpText)),
		bare(impl.OpUpper), bare(impl.OpSort), bare(impl.OpCount), bare(impl.OpFail),
		dropOp(0), dropOp(1), dropOp(impl.MaxOut - 1), dropOp(impl.MaxOut),
	}
	for n := range ins {
		ops = append(ops, cat(n))
	}
	return ops
}

// badOpsFor are refused in any recipe for that many inputs.
func badOpsFor(ins int) []impl.Op {
	ops := []impl.Op{
		{}, bare(-1), bare(8), bare(9), bare(-3), bare(1 << 62), bare(256 + impl.OpUpper), bare(256), {N: 1}, {Text: "a"}, {Kind: 8, N: 1, Text: "a"},
		cat(-1), cat(ins), cat(ins + 1), cat(mostInputs), cat(256), cat(1 << 62), cat(-1 << 63),
		textOp(textOfBytes(mostOpText + 1)), textOp(textOfBytes(256)), textOp(textOfBytes(100000)), textOp(strings.Repeat("é", mostOpText/2+1)),
		dropOp(-1), dropOp(impl.MaxOut + 1), dropOp(256), dropOp(1 << 62), dropOp(-1 << 63),
		{Kind: impl.OpText, N: 1, Text: "a"}, {Kind: impl.OpText, N: -1}, {Kind: impl.OpDrop, N: 1, Text: "a"},
		{Kind: impl.OpCat, Text: "a"}, {Kind: impl.OpCat, Text: "\x00"}, {Kind: impl.OpDrop, Text: "a"},
	}
	for _, kind := range []int{impl.OpUpper, impl.OpSort, impl.OpCount, impl.OpFail} {
		ops = append(ops, impl.Op{Kind: kind, N: 1}, impl.Op{Kind: kind, N: -1}, impl.Op{Kind: kind, Text: "a"}, impl.Op{Kind: kind, N: 1, Text: "a"})
	}
	return ops
}

// badRecipesFor are refused for that many inputs.
func badRecipesFor(ins int) map[string][]impl.Op {
	recipes := map[string][]impl.Op{
		"one more than MaxOps": timesOp(bare(impl.OpUpper), impl.MaxOps+1),
		"many":                 timesOp(bare(impl.OpUpper), 5000),
		"many zero ops":        make([]impl.Op, 5000),
	}
	for _, bad := range badOpsFor(ins) {
		name := fmt.Sprintf("kind %d, %d, %d bytes", bad.Kind, bad.N, len(bad.Text))
		recipes[name] = recipe(bad)
		recipes[name+" first"] = recipe(bad, textOp("a"))
		recipes[name+" last"] = append(timesOp(bare(impl.OpUpper), impl.MaxOps-1), bad)
		recipes[name+" behind a fail"] = recipe(bare(impl.OpFail), bad)
	}
	return recipes
}

// badInputLists are refused, whatever of them is read.
func badInputLists() map[string][]string {
	return map[string][]string{
		"eleven":                  inputs(mostInputs + 1),
		"many":                    inputs(3000),
		"one byte too long":       {textOfBytes(impl.MaxOut + 1)},
		"too long, the last one":  {"a", "b", textOfBytes(impl.MaxOut + 1)},
		"too long, the first one": {textOfBytes(impl.MaxOut + 1), "b", "c"},
		"very long":               {"a", textOfBytes(100000)},
		"too long by bytes":       {strings.Repeat("é", impl.MaxOut/2+1)},
	}
}

// stepByHand says what one op makes of a text, apart from the program.
func stepByHand(op impl.Op, ins []string, acc string) (string, bool) {
	out := ""
	switch op.Kind {
	case impl.OpCat:
		out = strings.Join([]string{acc, ins[op.N]}, "")
	case impl.OpText:
		out = strings.Join([]string{acc, op.Text}, "")
	case impl.OpUpper:
		for i := range len(acc) {
			if place := strings.IndexByte("abcdefghijklmnopqrstuvwxyz", acc[i]); place >= 0 {
				out += "ABCDEFGHIJKLMNOPQRSTUVWXYZ"[place : place+1]
			} else {
				out += acc[i : i+1]
			}
		}
	case impl.OpSort:
		var one []string
		for i := range len(acc) {
			one = append(one, acc[i:i+1])
		}
		sort.Strings(one)
		out = strings.Join(one, "")
	case impl.OpDrop:
		for i := op.N; i < len(acc); i++ {
			out += acc[i : i+1]
		}
	case impl.OpCount:
		out = fmt.Sprintf("%d", len(acc))
	case impl.OpFail:
		return "", false
	}
	if len(out) > impl.MaxOut {
		return "", false
	}
	return out, true
}

func runByHand(r []impl.Op, ins []string) (string, bool) {
	acc := ""
	for _, op := range r {
		next, did := stepByHand(op, ins, acc)
		if !did {
			return "", false
		}
		acc = next
	}
	return acc, true
}

func readByHand(r []impl.Op) []int {
	var reads []int
	for n := range mostInputs {
		if slices.Contains(r, cat(n)) {
			reads = append(reads, n)
		}
	}
	return reads
}

func checkRuns(t *testing.T, cases []runCase) {
	t.Helper()
	for _, c := range cases {
		if text, did, ok := impl.RunRecipe(c.r, c.ins); text != c.text || did != c.did || !ok {
			t.Errorf("%s: %q, %v, %v; want %q, %v", c.what, text, did, ok, c.text, c.did)
		}
	}
}

func checkSteps(t *testing.T, cases []opCase) {
	t.Helper()
	for _, c := range cases {
		if text, did, ok := impl.StepRecipe(c.op, c.ins, c.acc); text != c.text || did != c.did || !ok {
			t.Errorf("%v of %q on %q: %q, %v, %v; want %q, %v", c.op, c.ins, c.acc, text, did, ok, c.text, c.did)
		}
	}
}

func checkNotRun(t *testing.T, what string, r []impl.Op, ins []string) {
	t.Helper()
	if text, did, ok := impl.RunRecipe(r, ins); text != "" || did || ok {
		t.Errorf("RunRecipe, %s: %q, %v, %v", what, text, did, ok)
	}
}

func checkNoStep(t *testing.T, what string, op impl.Op, ins []string, acc string) {
	t.Helper()
	if text, did, ok := impl.StepRecipe(op, ins, acc); text != "" || did || ok {
		t.Errorf("StepRecipe, %s: %q, %v, %v", what, text, did, ok)
	}
}

func checkSame(t *testing.T, r []impl.Op, a []string, b []string, want bool) {
	t.Helper()
	if same, ok := impl.SameFor(r, a, b); same != want || !ok {
		t.Errorf("SameFor %v of %q and %q: %v, %v; want %v", r, a, b, same, ok, want)
	}
	if same, ok := impl.SameFor(r, b, a); same != want || !ok {
		t.Errorf("SameFor %v of %q and %q: %v, %v; want %v", r, b, a, same, ok, want)
	}
}

func checkNotCompared(t *testing.T, what string, r []impl.Op, a []string, b []string) {
	t.Helper()
	if same, ok := impl.SameFor(r, a, b); same || ok {
		t.Errorf("SameFor, %s: %v, %v", what, same, ok)
	}
	if same, ok := impl.SameFor(r, b, a); same || ok {
		t.Errorf("SameFor, %s, the other way: %v, %v", what, same, ok)
	}
}

func TestRecipeConstants(t *testing.T) {
	if impl.MaxOps != 8 || impl.MaxOut != 40 {
		t.Error(impl.MaxOps, impl.MaxOut)
	}
	kinds := []int{impl.OpCat, impl.OpText, impl.OpUpper, impl.OpSort, impl.OpDrop, impl.OpCount, impl.OpFail}
	if !slices.Equal(kinds, []int{1, 2, 3, 4, 5, 6, 7}) {
		t.Error(kinds)
	}
}

func TestGoodRecipe(t *testing.T) {
	for ins := range mostInputs + 1 {
		for _, r := range [][]impl.Op{nil, {}, timesOp(bare(impl.OpUpper), impl.MaxOps), timesOp(textOp(textOfBytes(mostOpText)), impl.MaxOps)} {
			if !impl.GoodRecipe(r, ins) {
				t.Errorf("%d ops for %d inputs are refused", len(r), ins)
			}
		}
		for _, op := range goodOpsFor(ins) {
			if !impl.GoodRecipe(recipe(op), ins) || !impl.GoodRecipe(append(timesOp(bare(impl.OpFail), impl.MaxOps-1), op), ins) {
				t.Errorf("%v is refused for %d inputs", op, ins)
			}
		}
		for what, r := range badRecipesFor(ins) {
			if impl.GoodRecipe(r, ins) {
				t.Errorf("for %d inputs %s is good", ins, what)
			}
		}
	}
}

func TestGoodRecipeInputs(t *testing.T) {
	for _, ins := range []int{-1, mostInputs + 1, -2, 256, 1 << 62, -1 << 63} {
		for _, r := range [][]impl.Op{nil, recipe(cat(0)), recipe(textOp("a"))} {
			if impl.GoodRecipe(r, ins) {
				t.Errorf("%v is good for %d inputs", r, ins)
			}
		}
	}
	for ins := range mostInputs + 1 {
		for n := range mostInputs + 2 {
			if got := impl.GoodRecipe(recipe(cat(n)), ins); got != (n < ins) {
				t.Errorf("reading %d of %d inputs: %v", n, ins, got)
			}
		}
	}
}

func TestRunRecipe(t *testing.T) {
	checkRuns(t, []runCase{
		{"no ops", nil, nil, "", true},
		{"no ops, inputs", []impl.Op{}, []string{"a", "b"}, "", true},
		{"one input", recipe(cat(0)), []string{"ab"}, "ab", true},
		{"two, the other way round", recipe(cat(1), cat(0)), []string{"ab", "cd"}, "cdab", true},
		{"one input twice", recipe(cat(0), cat(0)), []string{"ab"}, "abab", true},
		{"an empty input", recipe(cat(0)), []string{""}, "", true},
		{"the last one of ten", recipe(cat(9), textOp("!")), inputs(mostInputs), "i9!", true},
		{"a text between", recipe(cat(0), textOp(", "), cat(1)), []string{"a", "b"}, "a, b", true},
		{"only what is ahead becomes upper", recipe(cat(0), bare(impl.OpUpper), cat(0)), []string{"ab"}, "ABab", true},
		{"sorted, then more", recipe(cat(0), bare(impl.OpSort), textOp("a")), []string{"cab"}, "abca", true},
		{"upper, then sorted", recipe(cat(0), bare(impl.OpUpper), bare(impl.OpSort)), []string{"cBa"}, "ABC", true},
		{"sorted, then upper", recipe(cat(0), bare(impl.OpSort), bare(impl.OpUpper)), []string{"cBa"}, "BAC", true},
		{"counted", recipe(cat(0), textOp("xyz"), bare(impl.OpCount)), []string{"ab"}, "5", true},
		{"counted twice", recipe(textOp("0123456789"), bare(impl.OpCount), bare(impl.OpCount)), nil, "2", true},
		{"dropped", recipe(cat(0), dropOp(2), textOp("z")), []string{"abcd"}, "cdz", true},
		{"dropped whole, then more", recipe(cat(0), dropOp(9), textOp("z")), []string{"abcd"}, "z", true},
		{"most ops", timesOp(textOp("abcde"), impl.MaxOps), nil, strings.Repeat("abcde", 8), true},
	})
}

func TestRunRecipeFails(t *testing.T) {
	checkRuns(t, []runCase{
		{"fail alone", recipe(bare(impl.OpFail)), nil, "", false},
		{"fail first", recipe(bare(impl.OpFail), textOp("a")), nil, "", false},
		{"fail in the middle", recipe(textOp("a"), bare(impl.OpFail), textOp("b")), nil, "", false},
		{"fail last", recipe(textOp("a"), cat(0), bare(impl.OpFail)), []string{"b"}, "", false},
		{"fail, then all is dropped", recipe(textOp("a"), bare(impl.OpFail), dropOp(impl.MaxOut)), nil, "", false},
		{"fail, then it is counted", recipe(bare(impl.OpFail), bare(impl.OpCount)), nil, "", false},
		{"fail twice", recipe(bare(impl.OpFail), bare(impl.OpFail)), nil, "", false},
		{"fail as the last of most ops", append(timesOp(textOp("a"), impl.MaxOps-1), bare(impl.OpFail)), nil, "", false},
	})
}

func TestRunRecipeAtTheLimit(t *testing.T) {
	most, half := textOfBytes(impl.MaxOut), textOfBytes(impl.MaxOut/2)
	checkRuns(t, []runCase{
		{"MaxOut from an input", recipe(cat(0)), []string{most}, most, true},
		{"MaxOut from two halves", recipe(cat(0), cat(0)), []string{half}, most, true},
		{"MaxOut, then nothing more", recipe(cat(0), textOp(""), cat(1)), []string{most, ""}, most, true},
		{"MaxOut by texts", timesOp(textOp("xxxxxxxxxx"), 4), nil, most, true},
		{"MaxOut, upper", recipe(cat(0), bare(impl.OpUpper)), []string{most}, strings.Repeat("X", impl.MaxOut), true},
		{"MaxOut, sorted", recipe(cat(0), bare(impl.OpSort)), []string{most}, most, true},
		{"MaxOut, dropped and filled", recipe(cat(0), dropOp(1), textOp("x")), []string{most}, most, true},
		{"MaxOut, counted", recipe(cat(0), bare(impl.OpCount)), []string{most}, "40", true},
		{"one more by an input", recipe(cat(0), cat(1)), []string{most, "x"}, "", false},
		{"one more by a text", recipe(cat(0), textOp("x")), []string{most}, "", false},
		{"one more ahead", recipe(textOp("x"), cat(0)), []string{most}, "", false},
		{"twice", recipe(cat(0), cat(0)), []string{most}, "", false},
		{"one more, then dropped", recipe(cat(0), textOp("x"), dropOp(1)), []string{most}, "", false},
		{"one more, then all dropped", recipe(cat(0), cat(0), dropOp(impl.MaxOut)), []string{most}, "", false},
		{"one more, then counted", recipe(cat(0), textOp("x"), bare(impl.OpCount)), []string{most}, "", false},
		{"one more by bytes", recipe(cat(0), textOp("é")), []string{textOfBytes(impl.MaxOut - 1)}, "", false},
		{"one more by most ops", append(timesOp(textOp("xxxxx"), impl.MaxOps-1), textOp("xxxxxx")), nil, "", false},
	})
}

func TestRunRecipeRefused(t *testing.T) {
	for what, ins := range badInputLists() {
		for _, r := range [][]impl.Op{nil, recipe(cat(0)), recipe(textOp("a")), recipe(bare(impl.OpFail))} {
			checkNotRun(t, what, r, ins)
		}
	}
	for n := range mostInputs + 1 {
		for what, r := range badRecipesFor(n) {
			checkNotRun(t, fmt.Sprintf("%d inputs, %s", n, what), r, inputs(n))
		}
	}
	checkNotRun(t, "no inputs", recipe(cat(0)), nil)
	checkNotRun(t, "one behind the last one", recipe(cat(2)), []string{"a", "b"})
}

func TestStepCatAndText(t *testing.T) {
	most, less := textOfBytes(impl.MaxOut), textOfBytes(impl.MaxOut-1)
	checkSteps(t, []opCase{
		{cat(0), []string{"ab"}, "", "ab", true},
		{cat(0), []string{"ab"}, "xy", "xyab", true},
		{cat(1), []string{"ab", "cd", "ef"}, "x", "xcd", true},
		{cat(2), []string{"ab", "cd", "ef"}, "x", "xef", true},
		{cat(9), inputs(mostInputs), "x", "xi9", true},
		{cat(0), []string{""}, "x", "x", true},
		{cat(0), []string{"\xff\x00"}, "\x80", "\x80\xff\x00", true},
		{cat(0), []string{"x"}, less, most, true},
		{cat(0), []string{"xx"}, less, "", false},
		{cat(0), []string{most}, "", most, true},
		{cat(0), []string{most}, "x", "", false},
		{cat(0), []string{most}, most, "", false},
		{cat(0), []string{""}, most, most, true},
		{textOp(""), nil, "", "", true},
		{textOp(""), nil, "a", "a", true},
		{textOp("b"), nil, "a", "ab", true},
		{textOp("\x00\xff"), nil, "a", "a\x00\xff", true},
		{textOp("0123456789"), nil, "a", "a0123456789", true},
		{textOp("x"), nil, less, most, true},
		{textOp("xx"), nil, less, "", false},
		{textOp(""), nil, most, most, true},
		{textOp("x"), nil, most, "", false},
	})
}

func TestStepUpper(t *testing.T) {
	checkSteps(t, []opCase{
		{bare(impl.OpUpper), nil, "", "", true},
		{bare(impl.OpUpper), nil, "abcxyz", "ABCXYZ", true},
		{bare(impl.OpUpper), nil, "ABCXYZ", "ABCXYZ", true},
		{bare(impl.OpUpper), nil, "`a{z@A[Z", "`A{Z@A[Z", true},
		{bare(impl.OpUpper), nil, "0 9\n\x00/.-_", "0 9\n\x00/.-_", true},
		{bare(impl.OpUpper), nil, "éßıſ\xff\x80a", "éßıſ\xff\x80A", true},
		{bare(impl.OpUpper), nil, strings.Repeat("z", impl.MaxOut), strings.Repeat("Z", impl.MaxOut), true},
	})
	for b := range 256 {
		want := byte(b)
		if b >= 97 && b <= 122 {
			want -= 32
		}
		checkSteps(t, []opCase{{bare(impl.OpUpper), nil, string([]byte{byte(b)}), string([]byte{want}), true}})
	}
}

func TestStepSort(t *testing.T) {
	checkSteps(t, []opCase{
		{bare(impl.OpSort), nil, "", "", true},
		{bare(impl.OpSort), nil, "a", "a", true},
		{bare(impl.OpSort), nil, "cba", "abc", true},
		{bare(impl.OpSort), nil, "abab", "aabb", true},
		{bare(impl.OpSort), nil, "aaaa", "aaaa", true},
		{bare(impl.OpSort), nil, "aB0 b\nA", "\n 0ABab", true},
		{bare(impl.OpSort), nil, "\xffa\x80\x7f\x00\xfe", "\x00a\x7f\x80\xfe\xff", true},
		{bare(impl.OpSort), nil, "é€", "\x82\xa9\xac\xc3\xe2", true},
		{bare(impl.OpSort), nil, "\xc3\xa9a\xc3", "a\xa9\xc3\xc3", true},
		{bare(impl.OpSort), nil, strings.Repeat("b", 20) + strings.Repeat("a", 20), strings.Repeat("a", 20) + strings.Repeat("b", 20), true},
	})
}

func TestStepDrop(t *testing.T) {
	most := strings.Repeat("ab", impl.MaxOut/2)
	checkSteps(t, []opCase{
		{dropOp(0), nil, "", "", true},
		{dropOp(0), nil, "abc", "abc", true},
		{dropOp(1), nil, "abc", "bc", true},
		{dropOp(2), nil, "abc", "c", true},
		{dropOp(3), nil, "abc", "", true},
		{dropOp(4), nil, "abc", "", true},
		{dropOp(1), nil, "", "", true},
		{dropOp(impl.MaxOut), nil, "", "", true},
		{dropOp(impl.MaxOut), nil, "abc", "", true},
		{dropOp(0), nil, most, most, true},
		{dropOp(impl.MaxOut - 1), nil, most, "b", true},
		{dropOp(impl.MaxOut), nil, most, "", true},
		{dropOp(1), nil, "é", "\xa9", true},
	})
	checkNoStep(t, "a drop of one more than MaxOut", dropOp(impl.MaxOut+1), nil, most)
	checkNoStep(t, "a drop of -1", dropOp(-1), nil, most)
}

func TestStepCountAndFail(t *testing.T) {
	for n := range impl.MaxOut + 1 {
		checkSteps(t, []opCase{
			{bare(impl.OpCount), nil, textOfBytes(n), fmt.Sprint(n), true},
			{bare(impl.OpFail), nil, textOfBytes(n), "", false},
		})
	}
	checkSteps(t, []opCase{
		{bare(impl.OpCount), nil, "", "0", true},
		{bare(impl.OpCount), nil, "123456789", "9", true},
		{bare(impl.OpCount), nil, "1234567890", "10", true},
		{bare(impl.OpCount), nil, "é€", "5", true},
		{bare(impl.OpFail), inputs(mostInputs), "", "", false},
	})
}

func TestStepRecipeRefused(t *testing.T) {
	for n := range mostInputs + 1 {
		for _, op := range badOpsFor(n) {
			checkNoStep(t, fmt.Sprint(op.Kind, op.N, len(op.Text)), op, inputs(n), "a")
		}
	}
	for what, ins := range badInputLists() {
		for _, op := range goodOpsFor(1) {
			checkNoStep(t, what, op, ins, "a")
		}
	}
	for _, acc := range []string{textOfBytes(impl.MaxOut + 1), textOfBytes(100000), strings.Repeat("é", impl.MaxOut/2+1)} {
		for _, op := range goodOpsFor(1) {
			checkNoStep(t, fmt.Sprintf("a text of %d bytes", len(acc)), op, []string{"a"}, acc)
		}
	}
}

func TestReadsOf(t *testing.T) {
	cases := []struct {
		r    []impl.Op
		want []int
	}{
		{nil, nil},
		{recipe(textOp("a"), bare(impl.OpUpper), dropOp(3)), nil},
		{recipe(cat(0)), []int{0}},
		{recipe(cat(9)), []int{9}},
		{recipe(cat(3), cat(3)), []int{3}},
		{recipe(cat(3), cat(1), cat(3), cat(0), cat(1)), []int{0, 1, 3}},
		{recipe(cat(7), cat(6), cat(5), cat(4), cat(3), cat(2), cat(1), cat(0)), []int{0, 1, 2, 3, 4, 5, 6, 7}},
		{recipe(cat(2), dropOp(5), textOp("a"), cat(1)), []int{1, 2}},
		{recipe(cat(2), dropOp(impl.MaxOut)), []int{2}},
		{recipe(cat(4), bare(impl.OpFail), cat(2)), []int{2, 4}},
	}
	for _, c := range cases {
		if got, ok := impl.ReadsOf(c.r); !slices.Equal(got, c.want) || !ok {
			t.Errorf("%v: %v, %v; want %v", c.r, got, ok, c.want)
		}
	}
	for what, r := range badRecipesFor(mostInputs) {
		if got, ok := impl.ReadsOf(r); len(got) != 0 || ok {
			t.Errorf("%s: %v, %v", what, got, ok)
		}
	}
}

func TestRecipeText(t *testing.T) {
	cases := []struct {
		r    []impl.Op
		want string
	}{
		{nil, ""},
		{recipe(cat(0)), "\x01\x00\x00"},
		{recipe(cat(9)), "\x01\x09\x00"},
		{recipe(textOp("")), "\x02\x00\x00"},
		{recipe(textOp("a")), "\x02\x00\x01a"},
		{recipe(textOp("0123456789")), "\x02\x00\x0a0123456789"},
		{recipe(textOp("\xff\x00")), "\x02\x00\x02\xff\x00"},
		{recipe(bare(impl.OpUpper), bare(impl.OpSort)), "\x03\x00\x00\x04\x00\x00"},
		{recipe(dropOp(impl.MaxOut), bare(impl.OpCount), bare(impl.OpFail)), "\x05\x28\x00\x06\x00\x00\x07\x00\x00"},
		{timesOp(textOp("0123456789"), impl.MaxOps), strings.Repeat("\x02\x00\x0a0123456789", impl.MaxOps)},
	}
	for _, c := range cases {
		if got, ok := impl.RecipeText(c.r); got != c.want || !ok {
			t.Errorf("%v: %q, %v; want %q", c.r, got, ok, c.want)
		}
	}
	for what, r := range badRecipesFor(mostInputs) {
		if got, ok := impl.RecipeText(r); got != "" || ok {
			t.Errorf("%s: %q, %v", what, got, ok)
		}
	}
}

// Texts that look like ops are among them: a text must not be taken for what stands behind it.
func TestRecipeTextsAreUnlike(t *testing.T) {
	ops := append(goodOpsFor(mostInputs), textOp("\x03\x00\x00"), textOp("\x02\x00\x01a"), textOp("\x00"), textOp("\x02"))
	met := map[string][]impl.Op{}
	for _, r := range recipesOver(ops, 3) {
		text, ok := impl.RecipeText(r)
		if !ok {
			t.Fatalf("%v has no text", r)
		}
		if other, was := met[text]; was {
			t.Fatalf("%v and %v are both %q", r, other, text)
		}
		met[text] = r
	}
}

// recipesOver gives all recipes of these ops that are at most so many.
func recipesOver(ops []impl.Op, most int) [][]impl.Op {
	recipes := [][]impl.Op{nil}
	from := 0
	for range most {
		till := len(recipes)
		for _, r := range recipes[from:till] {
			for _, op := range ops {
				recipes = append(recipes, append(slices.Clone(r), op))
			}
		}
		from = till
	}
	return recipes
}

func TestDigestOf(t *testing.T) {
	cases := []struct {
		s    string
		want int
	}{
		{"", 7},
		{"a", 314},
		{"\x00", 217},
		{"\xff", 472},
		{"ab", 9832},
		{"ba", 9862},
		{"abc", 304891},
		{"abcd", 451694},
	}
	for _, c := range cases {
		if got, ok := impl.DigestOf(c.s); got != c.want || !ok {
			t.Errorf("%q: %d, %v; want %d", c.s, got, ok, c.want)
		}
	}
}

func TestDigestOfLength(t *testing.T) {
	for n := range mostDigested + 1 {
		for _, b := range []string{"x", "\xff", "\x00"} {
			s := strings.Repeat(b, n)
			want := uint64(7)
			for i := range n {
				want = (want*31 + uint64(s[i])) % 1000003
			}
			if got, ok := impl.DigestOf(s); got != int(want) || !ok {
				t.Errorf("%d times %q: %d, %v; want %d", n, b, got, ok, want)
			}
		}
	}
	for _, s := range []string{textOfBytes(mostDigested + 1), textOfBytes(100000), strings.Repeat("é", mostDigested/2+1)} {
		if got, ok := impl.DigestOf(s); got != 0 || ok {
			t.Errorf("%d bytes: %d, %v", len(s), got, ok)
		}
	}
}

func TestSameFor(t *testing.T) {
	most := textOfBytes(impl.MaxOut)
	checkSame(t, nil, nil, nil, true)
	checkSame(t, nil, []string{"a"}, []string{"b"}, true)
	checkSame(t, recipe(cat(0)), []string{"a"}, []string{"a"}, true)
	checkSame(t, recipe(cat(0)), []string{"a"}, []string{"b"}, false)
	checkSame(t, recipe(cat(0)), []string{"a"}, []string{""}, false)
	checkSame(t, recipe(cat(0)), []string{"a", "x"}, []string{"a", "y"}, true)
	checkSame(t, recipe(cat(1)), []string{"a", "x"}, []string{"b", "x"}, true)
	checkSame(t, recipe(cat(1)), []string{"a", "x"}, []string{"a", "y"}, false)
	checkSame(t, recipe(cat(1), cat(0)), []string{"a", "x"}, []string{"a", "x"}, true)
	checkSame(t, recipe(cat(1), cat(0)), []string{"a", "x"}, []string{"x", "a"}, false)
	checkSame(t, recipe(cat(0), cat(2)), []string{"a", "b", "c"}, []string{"a", "z", "c"}, true)
	checkSame(t, recipe(cat(0), cat(2)), []string{"a", "b", "c"}, []string{"a", "b", "z"}, false)
	checkSame(t, recipe(cat(0)), []string{most}, []string{most}, true)
	checkSame(t, recipe(cat(0)), []string{most}, []string{most[1:]}, false)
	checkSame(t, recipe(textOp("a")), []string{"a"}, []string{"b"}, true)
	checkSame(t, recipe(bare(impl.OpFail)), []string{"a"}, []string{"b"}, true)
	// What is read counts, also where the outcome is the same.
	checkSame(t, recipe(cat(0), dropOp(impl.MaxOut)), []string{"a"}, []string{"b"}, false)
	checkSame(t, recipe(cat(0), bare(impl.OpFail)), []string{"a"}, []string{"b"}, false)
	checkSame(t, recipe(bare(impl.OpFail), cat(0)), []string{"a"}, []string{"b"}, false)
	checkSame(t, recipe(cat(9)), inputs(mostInputs), inputs(mostInputs), true)
	checkSame(t, recipe(cat(9)), inputs(mostInputs), append(inputs(mostInputs-1), "z"), false)
}

// Lists of unlike length may both be such that the recipe is good for them.
func TestSameForUnlikeLengths(t *testing.T) {
	checkSame(t, nil, nil, inputs(mostInputs), true)
	checkSame(t, recipe(textOp("a")), nil, []string{"a"}, true)
	checkSame(t, recipe(cat(0)), []string{"a"}, []string{"a", "b"}, true)
	checkSame(t, recipe(cat(0)), []string{"a"}, []string{"b", "a"}, false)
	checkSame(t, recipe(cat(0)), inputs(1), inputs(mostInputs), true)
	checkNotCompared(t, "one list is too short", recipe(cat(1)), []string{"a"}, []string{"a", "b"})
	checkNotCompared(t, "one list is empty", recipe(cat(0)), nil, []string{"a"})
	checkNotCompared(t, "one list is too long", nil, nil, inputs(mostInputs+1))
	checkNotCompared(t, "one list is too long, and read", recipe(cat(0)), inputs(mostInputs), inputs(mostInputs+1))
}

func TestSameForRefused(t *testing.T) {
	for what, ins := range badInputLists() {
		for _, r := range [][]impl.Op{nil, recipe(cat(0)), recipe(textOp("a"))} {
			checkNotCompared(t, what, r, ins, []string{"a", "b", "c"})
			checkNotCompared(t, what, r, ins, ins)
			checkNotCompared(t, what, r, ins, nil)
		}
	}
	for _, n := range []int{0, 1, 2, mostInputs} {
		for what, r := range badRecipesFor(n) {
			checkNotCompared(t, what, r, inputs(n), inputs(n))
		}
	}
}

// inputLists are lists of three texts, as said.
func inputLists() [][]string {
	most := strings.Repeat("mz", impl.MaxOut/2)
	return [][]string{
		{"", "", ""}, {"a", "b", "c"}, {"cab", "", "\xffz\x80"}, {"i", most, "x"}, {most, most[1:], most[:39]}, {"12345678901", "b", most[:29]},
	}
}

// promiseRecipes are all short recipes for three inputs, and long ones of these ops in turn.
func promiseRecipes() [][]impl.Op {
	ops := append(goodOpsFor(3), dropOp(30), textOp("0123456789"))
	recipes := recipesOver(ops, 3)
	for seed := range 6000 {
		var r []impl.Op
		state := seed
		for range 4 + seed%5 {
			state = (state*1103515245 + 12345) % (1 << 31)
			op := ops[state/1000%len(ops)]
			if op.Kind != impl.OpFail || seed%7 == 0 {
				r = append(r, op)
			}
		}
		recipes = append(recipes, r)
	}
	return recipes
}

// stepwise runs a recipe by StepRecipe alone, from an empty text on.
func stepwise(t *testing.T, r []impl.Op, ins []string) (string, bool) {
	t.Helper()
	acc := ""
	for _, op := range r {
		next, did, ok := impl.StepRecipe(op, ins, acc)
		if !ok || !did && next != "" || len(next) > impl.MaxOut {
			t.Fatalf("%v of %q on %q: %q, %v, %v", op, ins, acc, next, did, ok)
		}
		if !did {
			return "", false
		}
		acc = next
	}
	return acc, true
}

func TestPromise4OpByOp(t *testing.T) {
	met := map[bool]int{}
	for _, r := range promiseRecipes() {
		for _, ins := range inputLists() {
			text, did, ok := impl.RunRecipe(r, ins)
			stepped, steppedDid := stepwise(t, r, ins)
			if text != stepped || did != steppedDid || !ok {
				t.Fatalf("%v of %q: %q, %v, %v; op by op %q, %v", r, ins, text, did, ok, stepped, steppedDid)
			}
			if want, wantDid := runByHand(r, ins); text != want || did != wantDid {
				t.Fatalf("%v of %q: %q, %v; by hand %q, %v", r, ins, text, did, want, wantDid)
			}
			met[did]++
		}
	}
	if met[true] < 1000 || met[false] < 1000 {
		t.Error("too few were met of one kind", met)
	}
}

// A recipe's beginning comes to what the whole comes to ahead of the ops that follow.
func TestPromise4Beginnings(t *testing.T) {
	ins := []string{"cab", "x", "\xffz\x80"}
	for _, r := range promiseRecipes() {
		acc, did := "", true
		for n, op := range r {
			if did {
				acc, did, _ = impl.StepRecipe(op, ins, acc)
			}
			if text, runDid, ok := impl.RunRecipe(r[:n+1], ins); text != acc || runDid != did || !ok {
				t.Fatalf("%v: %q, %v, %v; want %q, %v", r[:n+1], text, runDid, ok, acc, did)
			}
		}
	}
}

func checkReads(t *testing.T, r []impl.Op) []int {
	t.Helper()
	reads, ok := impl.ReadsOf(r)
	if want := readByHand(r); !slices.Equal(reads, want) || !ok {
		t.Fatalf("%v reads %v, %v; want %v", r, reads, ok, want)
	}
	return reads
}

// checkPromise4 says whether the two lists are the same for the recipe.
func checkPromise4(t *testing.T, r []impl.Op, reads []int, a []string, b []string) bool {
	t.Helper()
	alike := true
	for _, n := range reads {
		alike = alike && a[n] == b[n]
	}
	same, ok := impl.SameFor(r, a, b)
	if same != alike || !ok {
		t.Fatalf("SameFor %v of %q and %q: %v, %v; want %v", r, a, b, same, ok, alike)
	}
	if !same {
		return false
	}
	text, did, _ := impl.RunRecipe(r, a)
	if other, otherDid, ok := impl.RunRecipe(r, b); other != text || otherDid != did || !ok {
		t.Fatalf("%v of %q: %q, %v; of %q: %q, %v, %v", r, a, text, did, b, other, otherDid, ok)
	}
	return true
}

func TestPromise4UnreadDoesNotCount(t *testing.T) {
	lists := inputLists()
	met := map[bool]int{}
	for _, r := range promiseRecipes() {
		reads := checkReads(t, r)
		for i, a := range lists {
			mixed := slices.Clone(lists[(i+1)%len(lists)])
			for _, n := range reads {
				mixed[n] = a[n]
			}
			if !checkPromise4(t, r, reads, a, mixed) {
				t.Fatalf("%v: %q and %q differ only in what is not read", r, a, mixed)
			}
			longer := append(slices.Clone(mixed), "unread")
			if !checkPromise4(t, r, reads, a, longer) {
				t.Fatalf("%v: %q and %q differ only in what is not read", r, a, longer)
			}
			met[checkPromise4(t, r, reads, a, lists[(i+2)%len(lists)])]++
		}
	}
	if met[true] == 0 || met[false] == 0 {
		t.Error("not both were met", met)
	}
}

// All that the functions say of a recipe and two lists, in one text.
func recipeAnswers(r []impl.Op, a []string, b []string) string {
	good := impl.GoodRecipe(r, len(a))
	text, did, ran := impl.RunRecipe(r, a)
	reads, read := impl.ReadsOf(r)
	told, tells := impl.RecipeText(r)
	same, compared := impl.SameFor(r, a, b)
	return fmt.Sprintf("%v %q %v %v %v %v %q %v %v %v", good, text, did, ran, reads, read, told, tells, same, compared)
}

func steppedAnswers(r []impl.Op, ins []string) string {
	var all strings.Builder
	for _, op := range r {
		text, did, ok := impl.StepRecipe(op, ins, "cab")
		fmt.Fprintf(&all, "%q %v %v ", text, did, ok)
	}
	return all.String()
}

func TestPromise19RecipesStay(t *testing.T) {
	for _, r := range recipesOver(append(goodOpsFor(2), bare(9), cat(4)), 2) {
		ops := append(slices.Clone(r), bare(99), cat(99), bare(impl.OpFail))
		a := []string{"ab", "cd", textOfBytes(impl.MaxOut + 1), "behind"}
		b := []string{"ab", "ce", "behind", textOfBytes(impl.MaxOut + 1)}
		opsBefore, aBefore, bBefore := slices.Clone(ops), slices.Clone(a), slices.Clone(b)
		got := recipeAnswers(ops[:len(r)], a[:2], b[:2]) + steppedAnswers(ops[:len(r)], a[:2])
		want := recipeAnswers(slices.Clone(r), []string{"ab", "cd"}, []string{"ab", "ce"}) + steppedAnswers(r, []string{"ab", "cd"})
		if got != want {
			t.Fatalf("%v: what lies behind a list is read: %s; want %s", r, got, want)
		}
		if !slices.Equal(ops, opsBefore) || !slices.Equal(a, aBefore) || !slices.Equal(b, bBefore) {
			t.Fatalf("%v: written into: %v, %q, %q", r, ops, a, b)
		}
	}
}

// One list may be given twice, and a list may be part of another one.
func TestPromise19OneListOfTextsTwice(t *testing.T) {
	l := []string{"ab", "cd", "ef"}
	checkSame(t, recipe(cat(1)), l, l, true)
	checkSame(t, recipe(cat(0)), l, l[:1], true)
	checkSame(t, recipe(cat(0)), l, l[1:], false)
	if !slices.Equal(l, []string{"ab", "cd", "ef"}) {
		t.Error("written into", l)
	}
}

func TestPromise19ReadsApart(t *testing.T) {
	r := recipe(cat(3), cat(1), cat(3))
	one, _ := impl.ReadsOf(r)
	two, _ := impl.ReadsOf(r)
	one = one[:cap(one)]
	for i := range one {
		one[i] = 77
	}
	if !slices.Equal(two, []int{1, 3}) || !slices.Equal(r, recipe(cat(3), cat(1), cat(3))) {
		t.Error("an answer shares memory", two, r)
	}
}

func TestPromise19NewTextsOfRecipes(t *testing.T) {
	ops := []impl.Op{textOp(""), cat(0), bare(impl.OpUpper), bare(impl.OpSort), dropOp(0), dropOp(1), bare(impl.OpCount)}
	for _, acc := range []string{"a", "AB", "abc", "0", "123", textOfBytes(impl.MaxOut)} {
		for _, op := range ops {
			keepsApart(t, fmt.Sprint("StepRecipe, acc, ", op), acc, func(m string) (string, bool) {
				text, did, _ := impl.StepRecipe(op, []string{""}, m)
				return text, did
			})
			keepsApart(t, fmt.Sprint("StepRecipe, input, ", op), acc, func(m string) (string, bool) {
				text, did, _ := impl.StepRecipe(op, []string{m}, "")
				return text, did
			})
			keepsApart(t, fmt.Sprint("RunRecipe, input, ", op), acc, func(m string) (string, bool) {
				text, did, _ := impl.RunRecipe(recipe(cat(0), op), []string{m, ""})
				return text, did
			})
		}
	}
	keepsApart(t, "StepRecipe, text", "abc", func(m string) (string, bool) {
		text, did, _ := impl.StepRecipe(textOp(m), nil, "")
		return text, did
	})
	keepsApart(t, "RunRecipe, text", "abc", func(m string) (string, bool) {
		text, did, _ := impl.RunRecipe(recipe(textOp(m)), nil)
		return text, did
	})
	keepsApart(t, "RecipeText", "abc", func(m string) (string, bool) {
		return impl.RecipeText(recipe(textOp(m)))
	})
}

// What only tells numbers and truths must not write into the texts that it reads either.
func TestPromise19TextsAreOnlyRead(t *testing.T) {
	const text = "cabzz"
	memory := []byte(text)
	m := unsafe.String(unsafe.SliceData(memory), len(memory))
	r := recipe(textOp(m), cat(0))
	impl.GoodRecipe(r, 1)
	impl.ReadsOf(r)
	impl.DigestOf(m)
	impl.SameFor(r, []string{m}, []string{m})
	if string(memory) != text {
		t.Errorf("written into: %q", memory)
	}
}
