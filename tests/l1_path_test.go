package tests

import (
	"path"
	"path/filepath"
	"strings"
	"testing"
	"unsafe"

	"loop.example/g00636/impl"
)

type textCase struct {
	in   string
	want string
}

type pairCase struct {
	a    string
	b    string
	want string
}

// textsOver gives all texts of these letters with at most most bytes, the empty one first.
func textsOver(letters string, most int) []string {
	all := []string{""}
	longest := all
	for range most {
		var longer []string
		for _, text := range longest {
			for _, letter := range letters {
				longer = append(longer, text+string(letter))
			}
		}
		all = append(all, longer...)
		longest = longer
	}
	return all
}

func textOfBytes(n int) string {
	return strings.Repeat("x", n)
}

func checkTexts(t *testing.T, f func(string) (string, bool), cases []textCase) {
	t.Helper()
	for _, c := range cases {
		if got, ok := f(c.in); got != c.want || !ok {
			t.Errorf("%q: %q, %v; want %q, true", c.in, got, ok, c.want)
		}
	}
}

func checkPairs(t *testing.T, f func(string, string) (string, bool), cases []pairCase) {
	t.Helper()
	for _, c := range cases {
		if got, ok := f(c.a, c.b); got != c.want || !ok {
			t.Errorf("%q, %q: %q, %v; want %q, true", c.a, c.b, got, ok, c.want)
		}
	}
}

func checkRefused(t *testing.T, f func(string, string) (string, bool), pairs [][2]string) {
	t.Helper()
	for _, p := range pairs {
		if got, ok := f(p[0], p[1]); got != "" || ok {
			t.Errorf("%q, %q: %q, %v; want an empty text and false", p[0], p[1], got, ok)
		}
	}
}

func TestMaxPath(t *testing.T) {
	if impl.MaxPath != 60 {
		t.Error(impl.MaxPath)
	}
}

func TestCleanPath(t *testing.T) {
	checkTexts(t, impl.CleanPath, []textCase{
		{"a", "a"},
		{"a/b/c", "a/b/c"},
		{"/a/b", "/a/b"},
		{"a-b_c.9/z0", "a-b_c.9/z0"},
		{"a/./b/../c", "a/c"},
		{"", "."},
		{".", "."},
		{"./.", "."},
		{"/", "/"},
		{"//", "/"},
		{"/.", "/"},
		{"..", ".."},
		{"../..", "../.."},
		{"../../..", "../../.."},
		{"/..", "/"},
		{"/../..", "/"},
		{"/../a", "/a"},
		{"/a/../../b", "/b"},
		{"a/..", "."},
		{"/a/..", "/"},
		{"a/../..", ".."},
		{"a/../../b", "../b"},
		{"../a/..", ".."},
		{"../a/../..", "../.."},
		{"a//b", "a/b"},
		{"//a///b//", "/a/b"},
		{"a/", "a"},
		{"./a", "a"},
		{"a/.", "a"},
		{"...", "..."},
		{"..a/a..", "..a/a.."},
		{".a/../b.", "b."},
	})
}

func TestCleanPathAgainstLibrary(t *testing.T) {
	for _, s := range textsOver("a./", 8) {
		if got, ok := impl.CleanPath(s); got != path.Clean(s) || !ok {
			t.Fatalf("%q: %q, %v; want %q", s, got, ok, path.Clean(s))
		}
	}
}

func TestPathLength(t *testing.T) {
	most := textOfBytes(impl.MaxPath)
	checkTexts(t, impl.CleanPath, []textCase{
		{most, most},
		{strings.Repeat("/", impl.MaxPath), "/"},
		{strings.Repeat("a/", impl.MaxPath/2), strings.Repeat("a/", impl.MaxPath/2-1) + "a"},
		{strings.Repeat("../", impl.MaxPath/3), strings.Repeat("../", impl.MaxPath/3-1) + ".."},
	})
	for _, long := range []string{textOfBytes(impl.MaxPath + 1), strings.Repeat("/", impl.MaxPath+1), strings.Repeat("x", 5000)} {
		if got, ok := impl.CleanPath(long); got != "" || ok {
			t.Errorf("%d bytes: %q, %v", len(long), got, ok)
		}
	}
}

// The byte stands at the front, in the middle and at the end, so that each place is looked at.
func TestPathBytes(t *testing.T) {
	const allowed = "abcdefghijklmnopqrstuvwxyz0123456789._-/"
	for b := range 256 {
		one := string([]byte{byte(b)})
		want := strings.IndexByte(allowed, byte(b)) >= 0
		for _, s := range []string{one, one + "a", "a" + one, "a" + one + "b"} {
			if got, ok := impl.CleanPath(s); ok != want || !ok && got != "" {
				t.Errorf("%q: %q, %v; want %v", s, got, ok, want)
			}
		}
	}
}

func TestIsClean(t *testing.T) {
	for _, s := range []string{"a", "a/b", "/a", "/", ".", "..", "../..", "../a", "...", "..a", textOfBytes(impl.MaxPath)} {
		if is, ok := impl.IsClean(s); !is || !ok {
			t.Errorf("%q: %v, %v; want it clean", s, is, ok)
		}
	}
	for _, s := range []string{"", "a/", "//", "/.", "./a", "a//b", "a/..", "/..", "a/../..", "//a", "a/./b"} {
		if is, ok := impl.IsClean(s); is || !ok {
			t.Errorf("%q: %v, %v; want it not clean", s, is, ok)
		}
	}
	for _, s := range textsOver("a./", 7) {
		if is, ok := impl.IsClean(s); is != (path.Clean(s) == s) || !ok {
			t.Fatalf("%q: %v, %v", s, is, ok)
		}
	}
}

func TestJoinPath(t *testing.T) {
	checkPairs(t, impl.JoinPath, []pairCase{
		{"a", "b", "a/b"},
		{"a/b", "../c", "a/c"},
		{"a", "../b", "b"},
		{"a", "../..", ".."},
		{"/a", "../..", "/"},
		{"/a", "b", "/a/b"},
		{"/", "b", "/b"},
		{"a", "/b", "a/b"},
		{"/a", "/b", "/a/b"},
		{"a/", "/b/", "a/b"},
		{".", "b", "b"},
		{"..", "..", "../.."},
		{"", "b", "b"},
		{"", "/b", "/b"},
		{"", "b/..", "."},
		{"a", "", "a"},
		{"/a", "", "/a"},
		{"a/../..", "", ".."},
		{"", "", "."},
	})
}

func TestJoinPathAgainstLibrary(t *testing.T) {
	all := textsOver("ab./", 4)
	for _, a := range all {
		for _, b := range all {
			want := path.Join(a, b)
			if want == "" {
				want = "."
			}
			if got, ok := impl.JoinPath(a, b); got != want || !ok {
				t.Fatalf("%q, %q: %q, %v; want %q", a, b, got, ok, want)
			}
		}
	}
}

func TestJoinPathLength(t *testing.T) {
	most := textOfBytes(impl.MaxPath)
	half := textOfBytes(impl.MaxPath / 2)
	rest := textOfBytes(impl.MaxPath/2 - 1)
	up := ".." + strings.Repeat("/", impl.MaxPath-2)
	checkPairs(t, impl.JoinPath, []pairCase{
		{half, rest, half + "/" + rest},
		{most, "..", "."},
		{most, ".", most},
		{most, "", most},
		{"", most, most},
		{".", most, most},
		{"..", "../" + textOfBytes(impl.MaxPath-6), "../../" + textOfBytes(impl.MaxPath-6)},
		{most, up, "."},
		{strings.Repeat("/", impl.MaxPath), strings.Repeat("/", impl.MaxPath), "/"},
		{strings.Repeat("a/", impl.MaxPath/2), strings.Repeat("../", impl.MaxPath/3), strings.Repeat("a/", impl.MaxPath/2-impl.MaxPath/3-1) + "a"},
	})
	long := textOfBytes(impl.MaxPath + 1)
	checkRefused(t, impl.JoinPath, [][2]string{
		{half, half},
		{"/" + rest, half},
		{most, "a"},
		{"a", most},
		{"/", most},
		{"..", textOfBytes(impl.MaxPath - 2)},
		{most, most},
		{long, ".."},
		{long, ""},
		{"", long},
		{"..", long + "/.."},
	})
}

func TestDirOf(t *testing.T) {
	most := textOfBytes(impl.MaxPath)
	checkTexts(t, impl.DirOf, []textCase{
		{"a/b", "a"},
		{"a/b/c", "a/b"},
		{"/a/b", "/a"},
		{"a/b/", "a"},
		{"a//b/./c/..", "a"},
		{"", "."},
		{".", "."},
		{"/", "/"},
		{"//", "/"},
		{"/..", "/"},
		{"a", "."},
		{"a/", "."},
		{"/a", "/"},
		{"..", "."},
		{"../..", ".."},
		{"../a", ".."},
		{"a/..", "."},
		{"/a/..", "/"},
		{most, "."},
		{"a/" + textOfBytes(impl.MaxPath-2), "a"},
	})
	for _, s := range textsOver("a./", 7) {
		if got, ok := impl.DirOf(s); got != path.Dir(path.Clean(s)) || !ok {
			t.Fatalf("%q: %q, %v; want %q", s, got, ok, path.Dir(path.Clean(s)))
		}
	}
}

func TestBaseOf(t *testing.T) {
	most := textOfBytes(impl.MaxPath)
	checkTexts(t, impl.BaseOf, []textCase{
		{"a/b", "b"},
		{"a/b/c", "c"},
		{"/a/b", "b"},
		{"a/b/", "b"},
		{"a//b/./c/..", "b"},
		{"", "."},
		{".", "."},
		{"/", "/"},
		{"//", "/"},
		{"/..", "/"},
		{"a", "a"},
		{"a/", "a"},
		{"/a", "a"},
		{"..", ".."},
		{"../..", ".."},
		{"../a", "a"},
		{"a/..", "."},
		{"/a/..", "/"},
		{most, most},
		{"a/" + textOfBytes(impl.MaxPath-2), textOfBytes(impl.MaxPath - 2)},
	})
	for _, s := range textsOver("a./", 7) {
		if got, ok := impl.BaseOf(s); got != path.Base(path.Clean(s)) || !ok {
			t.Fatalf("%q: %q, %v; want %q", s, got, ok, path.Base(path.Clean(s)))
		}
	}
}

func TestIsWithin(t *testing.T) {
	most := textOfBytes(impl.MaxPath)
	within := [][2]string{
		{"a/b", "a"}, {"a/b/c", "a/b"}, {"a", "a"}, {"a//b/", "./a"}, {"/a/b", "/a"}, {"/a", "/a/"},
		{"a", "."}, {"a", ""}, {".", "."}, {"", ""}, {"/a", "/"}, {"/", "/"}, {"/../a", "/"}, {"/..", "/.."},
		{"..", ".."}, {"../a", ".."}, {"../..", ".."}, {"../../a", "../.."}, {"..a", "."}, {"..a/b", ""},
		{"a/../b/c", "b"}, {"a", "b/.."}, {most, most}, {most, ""},
	}
	for _, p := range within {
		if is, ok := impl.IsWithin(p[0], p[1]); !is || !ok {
			t.Errorf("%q, %q: %v, %v; want true, true", p[0], p[1], is, ok)
		}
	}
	without := [][2]string{
		{"a", "a/b"}, {"a", "b"}, {"ab", "a"}, {"a/bc", "a/b"}, {"b/a", "a"}, {"/ab/c", "/a"},
		{"a/../b", "a"}, {"a/..", "a"}, {".", "a"}, {"", "a"}, {"/", "/a"},
		{"..", "."}, {"../a", ""}, {"a/../..", "."}, {"../..", "b/.."}, {"..", "../.."}, {"a", ".."}, {"", ".."},
		{"/a", "a"}, {"a", "/a"}, {"/a", ""}, {"/a", "."}, {"a", "/"}, {"", "/"}, {"/", ""}, {"..", "/.."},
	}
	for _, p := range without {
		if is, ok := impl.IsWithin(p[0], p[1]); is || !ok {
			t.Errorf("%q, %q: %v, %v; want false, true", p[0], p[1], is, ok)
		}
	}
}

// Said by texts in place of parts: what is within begins with the other one and a slash.
func withinByTexts(s string, dir string) bool {
	if strings.HasPrefix(s, "/") != strings.HasPrefix(dir, "/") {
		return false
	}
	s, dir = path.Clean(s), path.Clean(dir)
	switch dir {
	case "/":
		return true
	case ".":
		return !strings.HasPrefix(s+"/", "../")
	}
	return strings.HasPrefix(s+"/", dir+"/")
}

func TestIsWithinByTexts(t *testing.T) {
	all := textsOver("ab./", 4)
	for _, s := range all {
		for _, dir := range all {
			if is, ok := impl.IsWithin(s, dir); is != withinByTexts(s, dir) || !ok {
				t.Fatalf("%q, %q: %v, %v; want %v, true", s, dir, is, ok, withinByTexts(s, dir))
			}
		}
	}
}

func TestRelPath(t *testing.T) {
	checkPairs(t, impl.RelPath, []pairCase{
		{"a/b", "a/c", "../c"},
		{"a", "a/b/c", "b/c"},
		{"a/b/c", "a", "../.."},
		{"a", "b", "../b"},
		{"a/b", "c/d", "../../c/d"},
		{"a/b/c", "a/x/c", "../../x/c"},
		{"ab", "a", "../a"},
		{"a", "a", "."},
		{"a/", "./a", "."},
		{"", "", "."},
		{".", "", "."},
		{"/", "/", "."},
		{"", "a", "a"},
		{"a", "", ".."},
		{"/", "/a", "a"},
		{"/a", "/", ".."},
		{"/a/b", "/a/c", "../c"},
		{"/..", "/a", "a"},
		{"/../a", "/../../b", "../b"},
		{"a/..", "b", "b"},
		{"a/../b", "b/c/..", "."},
		{"..a", "a..", "../a.."},
	})
	checkRefused(t, impl.RelPath, [][2]string{
		{"/a", "a"}, {"a", "/a"}, {"", "/"}, {"/", "."},
		{"..", "a"}, {"a", ".."}, {"..", ".."}, {"../a", "../b"}, {"a/../..", "a"}, {"a", "a/../../b"}, {"..", "/"},
	})
}

func TestRelPathLength(t *testing.T) {
	most := textOfBytes(impl.MaxPath)
	deep := strings.Repeat("a/", impl.MaxPath/3)
	checkPairs(t, impl.RelPath, []pairCase{
		{most, most, "."},
		{most, "", ".."},
		{"", most, most},
		{"a", textOfBytes(impl.MaxPath - 3), "../" + textOfBytes(impl.MaxPath-3)},
		{deep, "", strings.Repeat("../", impl.MaxPath/3-1) + ".."},
		{"a/" + deep, "a", strings.Repeat("../", impl.MaxPath/3-1) + ".."},
	})
	checkRefused(t, impl.RelPath, [][2]string{
		{"a", textOfBytes(impl.MaxPath - 2)},
		{"a", most},
		{deep, "b"},
		{"a/" + deep, ""},
		{"/a/" + deep, "/"},
		{textOfBytes(impl.MaxPath + 1), ""},
	})
}

// leadsUp tells where the document gives no way, as no name is known for what lies above.
func leadsUp(s string) bool {
	return strings.HasPrefix(path.Clean(s)+"/", "../")
}

func TestRelPathAgainstLibrary(t *testing.T) {
	all := textsOver("ab./", 4)
	for _, from := range all {
		for _, to := range all {
			want, err := filepath.Rel(from, to)
			if leadsUp(from) || leadsUp(to) || strings.HasPrefix(from, "/") != strings.HasPrefix(to, "/") {
				checkRefused(t, impl.RelPath, [][2]string{{from, to}})
			} else if got, ok := impl.RelPath(from, to); err != nil || got != want || !ok {
				t.Fatalf("%q, %q: %q, %v; want %q, %v", from, to, got, ok, want, err)
			}
		}
	}
}

func TestPromise1CleanStays(t *testing.T) {
	for _, s := range append(textsOver("a./", 8), textsOver("b-._/", 5)...) {
		once, ok := impl.CleanPath(s)
		if !ok {
			t.Fatalf("%q is a path", s)
		}
		if again, ok := impl.CleanPath(once); again != once || !ok {
			t.Fatalf("%q: %q, then %q, %v", s, once, again, ok)
		}
		if is, ok := impl.IsClean(once); !is || !ok {
			t.Fatalf("%q: %q is not told clean", s, once)
		}
		if is, ok := impl.IsClean(s); is != (s == once) || !ok {
			t.Fatalf("%q: clean %v, %v, but CleanPath of it is %q", s, is, ok, once)
		}
	}
}

func checkWayLeads(t *testing.T, from string, to string) bool {
	t.Helper()
	way, ok := impl.RelPath(from, to)
	if !ok {
		return false
	}
	want, _ := impl.CleanPath(to)
	if got, ok := impl.JoinPath(from, way); got != want || !ok {
		t.Fatalf("from %q by %q: %q, %v; want %q", from, way, got, ok, want)
	}
	return true
}

func TestPromise1WayLeadsThere(t *testing.T) {
	rooted, others := 0, 0
	all := textsOver("ab./", 4)
	for _, from := range all {
		for _, to := range all {
			if !checkWayLeads(t, from, to) {
				continue
			}
			if strings.HasPrefix(from, "/") {
				rooted++
			} else {
				others++
			}
		}
	}
	if rooted == 0 || others == 0 {
		t.Error("no way was tried of one of the kinds", rooted, others)
	}
}

// Long places are where a way that is told could be too long to be walked.
func TestPromise1LongWays(t *testing.T) {
	var places []string
	for n := 0; n <= impl.MaxPath; n++ {
		for _, piece := range []string{"a/", "bb/", "/", "ccccc/./"} {
			long := strings.Repeat(piece, impl.MaxPath)
			places = append(places, long[:n], ("/" + long)[:n])
		}
	}
	for _, from := range places {
		for _, to := range places {
			checkWayLeads(t, from, to)
		}
	}
}

func noPaths() []string {
	return []string{
		textOfBytes(impl.MaxPath + 1), strings.Repeat("/", impl.MaxPath+1), textOfBytes(1000) + "\xff",
		"A", "a b", "a\\b", "a*", "a?b", "%", "~", "a\n", "\x00", "a\x00", "a:b", "`", "{", "@", "[", ",",
		"\xff", "a\x80", "a\xc3", "\xe2\x82", "\xed\xa0\x80", "\xf0\x9f\x98", "é", "а", "１", "a/€/b", "\ufffd",
	}
}

func TestPromise19OfOneText(t *testing.T) {
	for _, s := range noPaths() {
		for name, f := range map[string]func(string) (string, bool){"CleanPath": impl.CleanPath, "DirOf": impl.DirOf, "BaseOf": impl.BaseOf} {
			if got, ok := f(s); got != "" || ok {
				t.Errorf("%s of %q: %q, %v", name, s, got, ok)
			}
		}
		if is, ok := impl.IsClean(s); is || ok {
			t.Errorf("IsClean of %q: %v, %v", s, is, ok)
		}
	}
}

func TestPromise19OfTwoTexts(t *testing.T) {
	for _, bad := range noPaths() {
		for _, other := range append(noPaths(), "", ".", "/", "..", "a", "/a", "a/b", textOfBytes(impl.MaxPath)) {
			pairs := [][2]string{{bad, other}, {other, bad}}
			checkRefused(t, impl.JoinPath, pairs)
			checkRefused(t, impl.RelPath, pairs)
			for _, p := range pairs {
				if is, ok := impl.IsWithin(p[0], p[1]); is || ok {
					t.Errorf("IsWithin of %q, %q: %v, %v", p[0], p[1], is, ok)
				}
			}
		}
	}
}

// keepsApart calls f with a text in memory that is then overwritten: an argument that was
// written into, or an answer that lies in it, would show.
func keepsApart(t *testing.T, name string, text string, f func(string) (string, bool)) {
	t.Helper()
	memory := []byte(text)
	got, _ := f(unsafe.String(unsafe.SliceData(memory), len(memory)))
	want := strings.Clone(got)
	if string(memory) != text {
		t.Errorf("%s wrote into %q: %q", name, text, memory)
	}
	for i := range memory {
		memory[i] = '#'
	}
	if got != want {
		t.Errorf("%s of %q answers the argument's memory", name, text)
	}
}

func TestPromise19NewMemory(t *testing.T) {
	for _, s := range []string{"a", "/a", "a/b", "name", "../a", "/", ".", "..", "a/", "x//y"} {
		keepsApart(t, "CleanPath", s, impl.CleanPath)
		keepsApart(t, "DirOf", s, impl.DirOf)
		keepsApart(t, "BaseOf", s, impl.BaseOf)
		for _, other := range []string{"", ".", "/", "a", "b"} {
			keepsApart(t, "JoinPath", s, func(m string) (string, bool) { return impl.JoinPath(m, other) })
			keepsApart(t, "JoinPath", s, func(m string) (string, bool) { return impl.JoinPath(other, m) })
			keepsApart(t, "RelPath", s, func(m string) (string, bool) { return impl.RelPath(m, other) })
			keepsApart(t, "RelPath", s, func(m string) (string, bool) { return impl.RelPath(other, m) })
		}
	}
}
