package tests

import (
	"path"
	"regexp"
	"slices"
	"strings"
	"testing"

	"loop.example/g00636/impl"
)

type fitCase struct {
	pattern string
	s       string
	want    bool
}

type stepCase struct {
	pattern string
	places  []int
	b       byte
	want    []int
}

const pathBytes = "abcdefghijklmnopqrstuvwxyz0123456789._-/"

const mostFitted = 40

func isWild(b byte) bool {
	return b == '*' || b == '?' || b == '%'
}

// asRegexp says a pattern in the words of another matcher.
func asRegexp(pattern string) string {
	var text strings.Builder
	for i := range len(pattern) {
		switch pattern[i] {
		case '*':
			text.WriteString("[^/]*")
		case '?':
			text.WriteString("[^/]")
		case '%':
			text.WriteString("(?s:.+)")
		default:
			text.WriteString(regexp.QuoteMeta(pattern[i : i+1]))
		}
	}
	return text.String()
}

func wholeRegexp(pattern string) *regexp.Regexp {
	return regexp.MustCompile("^(?:" + asRegexp(pattern) + ")$")
}

// placeRegexp says which texts lead to place p: those of all ahead of it, and those that the
// mark at p has begun to take.
func placeRegexp(pattern string, p int) *regexp.Regexp {
	text := asRegexp(pattern[:p])
	if p < len(pattern) && pattern[p] == '*' {
		text += "[^/]*"
	}
	if p < len(pattern) && pattern[p] == '%' {
		text += ".*"
	}
	return regexp.MustCompile("^(?:" + text + ")$")
}

func placesBehind(t *testing.T, pattern string, s string) []int {
	t.Helper()
	places, ok := impl.StartPlaces(pattern)
	if !ok {
		t.Fatalf("StartPlaces of %q is refused", pattern)
	}
	for i := range len(s) {
		places, ok = impl.StepPlaces(pattern, places, s[i])
		if !ok {
			t.Fatalf("StepPlaces of %q at byte %d of %q is refused", pattern, i, s)
		}
	}
	return places
}

func checkFits(t *testing.T, cases []fitCase) {
	t.Helper()
	for _, c := range cases {
		if got, ok := impl.Fits(c.pattern, c.s); got != c.want || !ok {
			t.Errorf("Fits of %q and %q: %v, %v; want %v, true", c.pattern, c.s, got, ok, c.want)
		}
	}
}

func TestMaxPattern(t *testing.T) {
	if impl.MaxPattern != 20 {
		t.Error(impl.MaxPattern)
	}
}

func TestFitsPlain(t *testing.T) {
	checkFits(t, []fitCase{
		{"a", "a", true},
		{"a", "b", false},
		{"a", "", false},
		{"a", "aa", false},
		{"a/b.c", "a/b.c", true},
		{"a.c", "abc", false},
		{"/", "/", true},
		{"a/b", "a/./b", false},
		{"a", "./a", false},
		{"a", "a/", false},
	})
}

func TestFitsStar(t *testing.T) {
	checkFits(t, []fitCase{
		{"*", "", true},
		{"*", "a", true},
		{"*", "a.b-c_9", true},
		{"*", "/", false},
		{"*", "a/b", false},
		{"*.o", ".o", true},
		{"*.o", "x.o", true},
		{"*.o", "a/x.o", false},
		{"*.o", "x.o.o", true},
		{"*.o", "x.oo", false},
		{"a*", "a", true},
		{"a*b", "ab", true},
		{"a*b", "a/b", false},
		{"a*b", "abab", true},
		{"*/*", "/", true},
		{"*/*", "a/b", true},
		{"*/*", "a/b/c", false},
		{"a/*", "a/", true},
		{"**", "", true},
		{"**", "abc", true},
		{"**", "a/b", false},
		{"***a***", "a", true},
		{"***a***", "bab", true},
		{"***a***", "bb", false},
		{"*a*a*", "aa", true},
		{"*a*a*", "a", false},
	})
}

func TestFitsOne(t *testing.T) {
	checkFits(t, []fitCase{
		{"?", "a", true},
		{"?", ".", true},
		{"?", "", false},
		{"?", "/", false},
		{"?", "ab", false},
		{"a?c", "abc", true},
		{"a?c", "ac", false},
		{"a?c", "a/c", false},
		{"??", "ab", true},
		{"??", "a", false},
		{"?*", "a", true},
		{"?*", "", false},
		{"*?", "abc", true},
		{"*?", "", false},
		{"?/?", "a/b", true},
	})
}

func TestFitsStem(t *testing.T) {
	checkFits(t, []fitCase{
		{"%", "a", true},
		{"%", "/", true},
		{"%", "a/b/c", true},
		{"%", "", false},
		{"%.o", "x.o", true},
		{"%.o", "a/x.o", true},
		{"%.o", ".o", false},
		{"%.o", "/.o", true},
		{"a%b", "ab", false},
		{"a%b", "a/b", true},
		{"a%b", "abb", true},
		{"%%", "a", false},
		{"%%", "ab", true},
		{"%%", "//", true},
		{"%*", "a", true},
		{"%*", "", false},
		{"*%", "a/b", true},
		{"%?", "a", false},
		{"%?", "a/", false},
		{"%?", "/a", true},
		{"?%", "/a", false},
		{"?%", "a/", true},
		{"*%?", "ab", true},
		{"%/*/%", "a/b/c/d", true},
		{"%/*/%", "a//d", true},
		{"%/*/%", "//d", false},
	})
}

func TestFitsLength(t *testing.T) {
	most := textOfBytes(impl.MaxPath)
	pattern := textOfBytes(impl.MaxPattern)
	checkFits(t, []fitCase{
		{pattern, pattern, true},
		{pattern, pattern + "x", false},
		{pattern, most, false},
		{"*", most, true},
		{"%", most, true},
		{"?", most, false},
		{strings.Repeat("*", impl.MaxPattern), "", true},
		{strings.Repeat("*", impl.MaxPattern), most, true},
		{strings.Repeat("%", impl.MaxPattern), most, true},
		{strings.Repeat("%", impl.MaxPattern), textOfBytes(impl.MaxPattern - 1), false},
		{strings.Repeat("?", impl.MaxPattern), textOfBytes(impl.MaxPattern), true},
		{strings.Repeat("?", impl.MaxPattern), textOfBytes(impl.MaxPattern + 1), false},
		{strings.Repeat("*x", impl.MaxPattern/2), most, true},
		{strings.Repeat("*x", impl.MaxPattern/2-1) + "*y", most, false},
	})
	for _, s := range []string{"", "x", most} {
		for _, bad := range []string{"", pattern + "x", strings.Repeat("*", impl.MaxPattern+1)} {
			if got, ok := impl.Fits(bad, s); got || ok {
				t.Errorf("Fits of %q and %q: %v, %v", bad, s, got, ok)
			}
		}
	}
	if got, ok := impl.Fits("*", most+"x"); got || ok {
		t.Error("a path that is too long is taken")
	}
}

// A pattern's byte stands at the front, in the middle and at the end, so that each is looked at.
func TestPatternBytes(t *testing.T) {
	for b := range 256 {
		one := string([]byte{byte(b)})
		want := strings.Contains(pathBytes+"*?%", one)
		for _, pattern := range []string{one, one + "a", "a" + one, "a" + one + "b"} {
			if is, ok := impl.IsPlain(pattern); ok != want || is != (want && !isWild(byte(b))) {
				t.Errorf("IsPlain of %q: %v, %v", pattern, is, ok)
			}
			if got, ok := impl.Fits(pattern, "a/nn/b"); ok != want || got && b != '%' {
				t.Errorf("Fits of %q: %v, %v", pattern, got, ok)
			}
			if places, ok := impl.StartPlaces(pattern); ok != want || len(places) > 0 != want {
				t.Errorf("StartPlaces of %q: %v, %v", pattern, places, ok)
			}
		}
	}
}

func TestFitsAgainstRegexp(t *testing.T) {
	paths := textsOver("ab/", 5)
	for _, pattern := range textsOver("a/*?%", 5)[1:] {
		whole := wholeRegexp(pattern)
		for _, s := range paths {
			if got, ok := impl.Fits(pattern, s); got != whole.MatchString(s) || !ok {
				t.Fatalf("Fits of %q and %q: %v, %v", pattern, s, got, ok)
			}
		}
	}
}

func TestFitsAgainstLibrary(t *testing.T) {
	paths := textsOver("a./", 6)
	for _, pattern := range textsOver("a/*?.", 4)[1:] {
		for _, s := range paths {
			want, err := path.Match(pattern, s)
			if got, ok := impl.Fits(pattern, s); got != want || !ok || err != nil {
				t.Fatalf("Fits of %q and %q: %v, %v; want %v, %v", pattern, s, got, ok, want, err)
			}
		}
	}
}

func TestFitsAll(t *testing.T) {
	cases := []struct {
		pattern string
		l       []string
		want    []string
	}{
		{"a?", []string{"ab", "b", "ac"}, []string{"ab", "ac"}},
		{"*", []string{"b", "a", "", "a/b", "a"}, []string{"b", "a", "", "a"}},
		{"%", []string{"/", "", "c/d", "c/d"}, []string{"/", "c/d", "c/d"}},
		{"a", []string{"b", "c"}, nil},
		{"a", nil, nil},
		{"*", []string{}, nil},
		{"*", []string{""}, []string{""}},
		{"%.o", []string{"z.o", "y.c", "a/b.o", ".o"}, []string{"z.o", "a/b.o"}},
	}
	for _, c := range cases {
		if got, ok := impl.FitsAll(c.pattern, c.l); !slices.Equal(got, c.want) || !ok {
			t.Errorf("FitsAll of %q and %q: %q, %v; want %q, true", c.pattern, c.l, got, ok, c.want)
		}
	}
}

func TestFitsAllLength(t *testing.T) {
	full := make([]string, mostFitted)
	for i := range full {
		full[i] = textOfBytes(i + impl.MaxPath - mostFitted + 1)
	}
	if got, ok := impl.FitsAll("x*", full); !slices.Equal(got, full) || !ok {
		t.Errorf("of %d: %d, %v", mostFitted, len(got), ok)
	}
	if got, ok := impl.FitsAll("y", full); len(got) != 0 || !ok {
		t.Errorf("none fits: %q, %v", got, ok)
	}
	for _, more := range [][]string{append(slices.Clone(full), "x"), make([]string, mostFitted+1), make([]string, 1000)} {
		if got, ok := impl.FitsAll("*", more); len(got) != 0 || ok {
			t.Errorf("of %d: %q, %v", len(more), got, ok)
		}
	}
}

func TestFitsAllRefused(t *testing.T) {
	for _, bad := range noPaths() {
		for _, l := range [][]string{{bad}, {bad, "a"}, {"a", bad}, {"a", bad, "a"}} {
			for _, pattern := range []string{"a", "*", "z"} {
				if got, ok := impl.FitsAll(pattern, l); len(got) != 0 || ok {
					t.Errorf("FitsAll of %q and %q: %q, %v", pattern, l, got, ok)
				}
			}
		}
	}
}

func TestIsPlain(t *testing.T) {
	for _, pattern := range []string{"a", "/", ".", "a/b.c", "..", "a-b_9", textOfBytes(impl.MaxPattern)} {
		if is, ok := impl.IsPlain(pattern); !is || !ok {
			t.Errorf("%q: %v, %v; want it plain", pattern, is, ok)
		}
	}
	nineteen := textOfBytes(impl.MaxPattern - 1)
	for _, wild := range []string{"*", "?", "%"} {
		for _, pattern := range []string{wild, wild + "a", "a" + wild, "a" + wild + "b", nineteen + wild, wild + nineteen, wild + wild} {
			if is, ok := impl.IsPlain(pattern); is || !ok {
				t.Errorf("%q: %v, %v; want it not plain", pattern, is, ok)
			}
		}
	}
	for _, pattern := range []string{"", textOfBytes(impl.MaxPattern + 1), nineteen + "**"} {
		if is, ok := impl.IsPlain(pattern); is || ok {
			t.Errorf("%q: %v, %v; want false, false", pattern, is, ok)
		}
	}
}

func TestStartPlaces(t *testing.T) {
	cases := []struct {
		pattern string
		want    []int
	}{
		{"a", []int{0}},
		{"?", []int{0}},
		{"%", []int{0}},
		{"/", []int{0}},
		{"*", []int{0, 1}},
		{"*a", []int{0, 1}},
		{"a*", []int{0}},
		{"**", []int{0, 1, 2}},
		{"**a*", []int{0, 1, 2}},
		{"*?*", []int{0, 1}},
		{"*%*", []int{0, 1}},
		{"%*", []int{0}},
		{textOfBytes(impl.MaxPattern), []int{0}},
		{strings.Repeat("*", impl.MaxPattern), []int{0, 1, 2, 3, 4, 5, 6, 7, 8, 9, 10, 11, 12, 13, 14, 15, 16, 17, 18, 19, 20}},
	}
	for _, c := range cases {
		if got, ok := impl.StartPlaces(c.pattern); !slices.Equal(got, c.want) || !ok {
			t.Errorf("%q: %v, %v; want %v, true", c.pattern, got, ok, c.want)
		}
	}
}

func TestStepPlaces(t *testing.T) {
	cases := []stepCase{
		{"a", []int{0}, 'a', []int{1}},
		{"a", []int{0}, 'b', nil},
		{"a", []int{1}, 'a', nil},
		{"a", []int{0, 1}, 'a', []int{1}},
		{"a", nil, 'a', nil},
		{"*", []int{}, 'a', nil},
		{"/", []int{0}, '/', []int{1}},
		{"*", []int{0}, 'a', []int{0, 1}},
		{"*", []int{0, 1}, 'a', []int{0, 1}},
		{"*", []int{0, 1}, '/', nil},
		{"*", []int{1}, 'a', nil},
		{"*a", []int{0, 1}, 'a', []int{0, 1, 2}},
		{"*a", []int{0}, 'a', []int{0, 1}},
		{"*a", []int{1}, 'a', []int{2}},
		{"*/", []int{0, 1}, '/', []int{2}},
		{"?", []int{0}, 'a', []int{1}},
		{"?", []int{0}, '/', nil},
		{"?*", []int{0}, 'a', []int{1, 2}},
		{"a**b", []int{0}, 'a', []int{1, 2, 3}},
		{"a**b", []int{1}, 'b', []int{1, 2, 3}},
		{"a**b", []int{2, 3}, 'b', []int{2, 3, 4}},
		{"%", []int{0}, 'a', []int{0, 1}},
		{"%", []int{0}, '/', []int{0, 1}},
		{"%", []int{0, 1}, 'a', []int{0, 1}},
		{"%*", []int{0}, '/', []int{0, 1, 2}},
		{"%*", []int{1}, '/', nil},
		{"%a", []int{0, 1}, 'a', []int{0, 1, 2}},
		{"%%", []int{0}, 'a', []int{0, 1}},
		{"%%", []int{0, 1}, 'a', []int{0, 1, 2}},
		{"a*%?", []int{0, 1, 2, 3, 4}, 'a', []int{1, 2, 3, 4}},
		{"a*%?", []int{0, 1, 2, 3, 4}, '/', []int{2, 3}},
		{textOfBytes(impl.MaxPattern), []int{19, 20}, 'x', []int{20}},
	}
	for _, c := range cases {
		if got, ok := impl.StepPlaces(c.pattern, c.places, c.b); !slices.Equal(got, c.want) || !ok {
			t.Errorf("StepPlaces of %q, %v, %q: %v, %v; want %v, true", c.pattern, c.places, c.b, got, ok, c.want)
		}
	}
}

func TestStepPlacesRefused(t *testing.T) {
	const most, least = int(^uint(0) >> 1), -int(^uint(0)>>1) - 1
	for _, places := range [][]int{
		{-1}, {-1, 0}, {least}, {least, most}, {4}, {0, 4}, {0, 1, 2, 3, 4}, {most}, {0, most},
		{1, 0}, {0, 0}, {2, 2}, {0, 2, 1}, {0, 1, 1}, {3, 2, 1, 0}, {0, -1}, make([]int, 500),
	} {
		for _, pattern := range []string{"a*b", "***", "%?a"} {
			if got, ok := impl.StepPlaces(pattern, places, 'a'); len(got) != 0 || ok {
				t.Errorf("StepPlaces of %q, %v: %v, %v", pattern, places, got, ok)
			}
		}
	}
	for b := range 256 {
		want := strings.IndexByte(pathBytes, byte(b)) >= 0
		if got, ok := impl.StepPlaces("%", []int{0}, byte(b)); ok != want || len(got) > 0 != want {
			t.Errorf("StepPlaces by byte %d: %v, %v; want %v", b, got, ok, want)
		}
	}
	for b := range 256 {
		want := strings.IndexByte(pathBytes, byte(b)) >= 0
		if got, ok := impl.StepPlaces("?*%", nil, byte(b)); ok != want || len(got) > 0 {
			t.Errorf("StepPlaces of no places by byte %d: %v, %v; want %v", b, got, ok, want)
		}
	}
}

func placesOfBits(bits int, pattern string) []int {
	var places []int
	for p := range len(pattern) + 1 {
		if bits>>p&1 == 1 {
			places = append(places, p)
		}
	}
	return places
}

// What several places lead to is what each of them leads to, together.
func TestStepPlacesTogether(t *testing.T) {
	for _, pattern := range textsOver("a/*?%", 4)[1:] {
		for _, b := range []byte("ab/") {
			for bits := range 1 << (len(pattern) + 1) {
				places := placesOfBits(bits, pattern)
				var want []int
				for _, p := range places {
					alone, _ := impl.StepPlaces(pattern, []int{p}, b)
					want = append(want, alone...)
				}
				slices.Sort(want)
				want = slices.Compact(want)
				if got, ok := impl.StepPlaces(pattern, places, b); !slices.Equal(got, want) || !ok {
					t.Fatalf("StepPlaces of %q, %v, %q: %v, %v; want %v", pattern, places, b, got, ok, want)
				}
			}
		}
	}
}

func TestPlacesAgainstRegexp(t *testing.T) {
	paths := textsOver("ab/", 4)
	for _, pattern := range textsOver("a/*?%", 4)[1:] {
		var leads []*regexp.Regexp
		for p := range len(pattern) + 1 {
			leads = append(leads, placeRegexp(pattern, p))
		}
		for _, s := range paths {
			var want []int
			for p, lead := range leads {
				if lead.MatchString(s) {
					want = append(want, p)
				}
			}
			if got := placesBehind(t, pattern, s); !slices.Equal(got, want) {
				t.Fatalf("%q behind %q: %v; want %v", pattern, s, got, want)
			}
		}
	}
}

func checkPromise2(t *testing.T, pattern string, s string) bool {
	t.Helper()
	want := slices.Contains(placesBehind(t, pattern, s), len(pattern))
	got, ok := impl.Fits(pattern, s)
	if got != want || !ok {
		t.Fatalf("Fits of %q and %q: %v, %v; its places say %v", pattern, s, got, ok, want)
	}
	return got
}

func TestPromise2ShortOnes(t *testing.T) {
	paths := textsOver("ab/", 5)
	fit, unfit := 0, 0
	for _, pattern := range textsOver("a/*?%", 4)[1:] {
		for _, s := range paths {
			if checkPromise2(t, pattern, s) {
				fit++
			} else {
				unfit++
			}
		}
	}
	if fit == 0 || unfit == 0 {
		t.Error("one of the two answers was never met", fit, unfit)
	}
}

func TestPromise2LongOnes(t *testing.T) {
	pieces := []string{"*", "?", "%", "x", "*x", "%x", "?*", "*?%", "%%*", "**", "x/", "*/", "%/?"}
	for _, piece := range pieces {
		for _, other := range pieces {
			pattern := (piece + strings.Repeat(other, impl.MaxPattern))[:impl.MaxPattern]
			whole := wholeRegexp(pattern)
			for _, unit := range []string{"x", "xy", "x/", "xx/y", "/", "y"} {
				for _, n := range []int{0, 1, 10, impl.MaxPattern - 1, impl.MaxPattern, impl.MaxPattern + 1, impl.MaxPath - 1, impl.MaxPath} {
					s := strings.Repeat(unit, impl.MaxPath)[:n]
					if checkPromise2(t, pattern, s) != whole.MatchString(s) {
						t.Fatalf("Fits of %q and %q is wrong", pattern, s)
					}
				}
			}
		}
	}
}

func TestStemOf(t *testing.T) {
	most := textOfBytes(impl.MaxPath)
	checkPairs(t, impl.StemOf, []pairCase{
		{"%.o", "x.o", "x"},
		{"%.o", "a/x.o", "a/x"},
		{"%.o", ".o.o", ".o"},
		{"src/%", "src/a", "a"},
		{"src/%", "src//", "/"},
		{"src/%.c", "src/a/b.c", "a/b"},
		{"a%a", "aaa", "a"},
		{"a%a", "aaaa", "aa"},
		{"%", "a", "a"},
		{"%", "/", "/"},
		{"%", most, most},
		{"x%", most, textOfBytes(impl.MaxPath - 1)},
		{textOfBytes(impl.MaxPattern-1) + "%", textOfBytes(impl.MaxPattern), "x"},
	})
	checkRefused(t, impl.StemOf, [][2]string{
		{"a", "a"}, {"a.o", "x.o"}, {"*", "a"}, {"?", "a"},
		{"%%", "ab"}, {"%a%", "bab"}, {"%%", "a"},
		{"%*", "a"}, {"*%", "ab"}, {"%?", "ab"}, {"?%", "ab"}, {"*.%", "a.b"}, {"%*?", "abc"},
		{"%.o", "x.c"}, {"%.o", ".o"}, {"%", ""}, {"a%a", "aa"}, {"a%a", "a"}, {"ab%bc", "abc"}, {"a%", "ba"}, {"%.o", ""},
		{"", "a"}, {"", ""}, {textOfBytes(impl.MaxPattern) + "%", textOfBytes(impl.MaxPattern + 1)},
		{"%", most + "x"},
	})
}

func TestFillStem(t *testing.T) {
	most := textOfBytes(impl.MaxPath)
	checkPairs(t, impl.FillStem, []pairCase{
		{"src/%", "a", "src/a"},
		{"%.o", "a/x", "a/x.o"},
		{"src/%.c", "/", "src//.c"},
		{"a%b", "..", "a..b"},
		{"%", "x", "x"},
		{"%", most, most},
		{"x%", textOfBytes(impl.MaxPath - 1), most},
		{"%x", textOfBytes(impl.MaxPath - 1), most},
		{textOfBytes(impl.MaxPattern-1) + "%", textOfBytes(impl.MaxPath - impl.MaxPattern + 1), most},
	})
	checkRefused(t, impl.FillStem, [][2]string{
		{"%", ""}, {"a%b", ""}, {"src/%", ""},
		{"%", most + "x"}, {"%", textOfBytes(1000)},
		{"x%", most}, {"%x", most}, {"xx%", textOfBytes(impl.MaxPath - 1)},
		{textOfBytes(impl.MaxPattern-1) + "%", textOfBytes(impl.MaxPath - impl.MaxPattern + 2)},
		{"%", "*"}, {"%", "?"}, {"%", "%"}, {"%", "A"}, {"a%", "b c"}, {"%", "a\xff"},
		{"a", "b"}, {"", "b"}, {"%%", "b"}, {"%a%", "b"}, {"*%", "b"}, {"%?", "b"}, {"*", "b"}, {"?", "b"},
		{textOfBytes(impl.MaxPattern) + "%", "x"},
	})
}

func TestStemGoesBack(t *testing.T) {
	stems := textsOver("a./", 4)[1:]
	for _, pattern := range []string{"%", "a%", "%a", "a%a", "/%", "%.a", "../%/a"} {
		for _, stem := range stems {
			filled, ok := impl.FillStem(pattern, stem)
			if !ok {
				t.Fatalf("FillStem of %q and %q is refused", pattern, stem)
			}
			if back, ok := impl.StemOf(pattern, filled); back != stem || !ok {
				t.Fatalf("StemOf of %q and %q: %q, %v; want %q", pattern, filled, back, ok, stem)
			}
			if fits, ok := impl.Fits(pattern, filled); !fits || !ok {
				t.Fatalf("Fits of %q and %q: %v, %v", pattern, filled, fits, ok)
			}
		}
	}
}

func noPatterns() []string {
	return []string{
		"", textOfBytes(impl.MaxPattern + 1), strings.Repeat("*", impl.MaxPattern+1), strings.Repeat("%", 1000),
		"A", "a b", "a\\b", "*A", "%~", "?\n", "\x00", "*\x00", "a:b", "`", "{", "@", "[", ",", "$%", "%&", "*+",
		"\xff", "%\x80", "*\xc3", "\xe2\x82", "\xed\xa0\x80", "%\xf0\x9f\x98", "é", "а%", "１", "*€", "\ufffd",
	}
}

func checkNothingFits(t *testing.T, pattern string, s string) {
	t.Helper()
	if got, ok := impl.Fits(pattern, s); got || ok {
		t.Errorf("Fits of %q and %q: %v, %v", pattern, s, got, ok)
	}
	if got, ok := impl.FitsAll(pattern, []string{s}); len(got) != 0 || ok {
		t.Errorf("FitsAll of %q and %q: %q, %v", pattern, s, got, ok)
	}
	checkRefused(t, impl.StemOf, [][2]string{{pattern, s}})
	checkRefused(t, impl.FillStem, [][2]string{{pattern, s}})
}

func TestPromise19NoPatterns(t *testing.T) {
	for _, bad := range noPatterns() {
		for _, s := range append(noPaths(), "", "a", "/", "a/b", textOfBytes(impl.MaxPath)) {
			checkNothingFits(t, bad, s)
		}
		if is, ok := impl.IsPlain(bad); is || ok {
			t.Errorf("IsPlain of %q: %v, %v", bad, is, ok)
		}
		if got, ok := impl.StartPlaces(bad); len(got) != 0 || ok {
			t.Errorf("StartPlaces of %q: %v, %v", bad, got, ok)
		}
		if got, ok := impl.FitsAll(bad, nil); len(got) != 0 || ok {
			t.Errorf("FitsAll of %q and nothing: %v, %v", bad, got, ok)
		}
		for _, places := range [][]int{nil, {0}, {0, 1}, {-1}, {21}, {1, 1}} {
			if got, ok := impl.StepPlaces(bad, places, 'a'); len(got) != 0 || ok {
				t.Errorf("StepPlaces of %q and %v: %v, %v", bad, places, got, ok)
			}
		}
	}
}

func TestPromise19NoPathsForPatterns(t *testing.T) {
	for _, bad := range noPaths() {
		for _, pattern := range []string{"a", "*", "?", "%", "%.o", "a*?%", textOfBytes(impl.MaxPattern)} {
			checkNothingFits(t, pattern, bad)
		}
	}
}

func TestPromise19PlacesStay(t *testing.T) {
	memory := []int{0, 1, 2, 77, 88}
	for _, pattern := range []string{"*a", "**", "%?", "ab"} {
		for n := range 4 {
			places := memory[:n]
			for _, b := range []byte("a/#") {
				got, _ := impl.StepPlaces(pattern, places, b)
				for i := range got[:cap(got)] {
					got[:cap(got)][i] = -5
				}
				if !slices.Equal(memory, []int{0, 1, 2, 77, 88}) {
					t.Fatalf("StepPlaces of %q, %d places and %q: %v", pattern, n, b, memory)
				}
			}
		}
	}
	one, _ := impl.StartPlaces("**")
	two, _ := impl.StartPlaces("**")
	one[0], one[2] = 9, 9
	if !slices.Equal(two, []int{0, 1, 2}) {
		t.Error("two answers of StartPlaces share memory", two)
	}
}

func TestPromise19ListStays(t *testing.T) {
	memory := []string{"a", "b/c", "", "a", "A", "hidden"}
	before := slices.Clone(memory)
	for _, pattern := range []string{"*", "a", "%", "%%%%", "A"} {
		for n := range len(memory) - 1 {
			got, _ := impl.FitsAll(pattern, memory[:n])
			for i := range got[:cap(got)] {
				got[:cap(got)][i] = "#"
			}
			if !slices.Equal(memory, before) {
				t.Fatalf("FitsAll of %q and %d paths: %q", pattern, n, memory)
			}
		}
	}
}

func TestPromise19NewTexts(t *testing.T) {
	for _, s := range []string{"a", "ab", "a/b", "x.o", "stem"} {
		for _, pattern := range []string{"%", "a%", "%b", "%.o"} {
			keepsApart(t, "StemOf", s, func(m string) (string, bool) { return impl.StemOf(pattern, m) })
			keepsApart(t, "FillStem", s, func(m string) (string, bool) { return impl.FillStem(pattern, m) })
			keepsApart(t, "FillStem", pattern, func(m string) (string, bool) { return impl.FillStem(m, s) })
			keepsApart(t, "StemOf", pattern, func(m string) (string, bool) { return impl.StemOf(m, s) })
		}
		keepsApart(t, "FitsAll", s, func(m string) (string, bool) {
			got, ok := impl.FitsAll("%", []string{m})
			return got[0], ok
		})
	}
}
