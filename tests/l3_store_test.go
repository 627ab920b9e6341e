package tests

import (
	"fmt"
	"slices"
	"strings"
	"testing"
	"unsafe"

	"loop.example/g00636/impl"
)

const mostNameBytes = 20

type readCase struct {
	name string
	body string
	is   bool
}

// filesNamed gives a file for each name, with a body of its own.
func filesNamed(names ...string) []impl.File {
	var l []impl.File
	for _, name := range names {
		l = append(l, impl.File{Name: name, Body: "of " + name})
	}
	return l
}

// numbered gives n names from the one of that number on, rising.
func numbered(from int, n int) []string {
	var names []string
	for i := range n {
		names = append(names, fmt.Sprintf("n%03d", from+i))
	}
	return names
}

func cloneStore(s impl.Store) impl.Store {
	return impl.Store{Files: slices.Clone(s.Files), Staged: slices.Clone(s.Staged), Gone: slices.Clone(s.Gone)}
}

func sameStore(a impl.Store, b impl.Store) bool {
	return slices.Equal(a.Files, b.Files) && slices.Equal(a.Staged, b.Staged) && slices.Equal(a.Gone, b.Gone)
}

func isEmptyStore(s impl.Store) bool {
	return sameStore(s, impl.Store{})
}

func bodyIn(l []impl.File, name string) (string, bool) {
	for _, f := range l {
		if f.Name == name {
			return f.Body, true
		}
	}
	return "", false
}

// seenIn says what is seen name by name, without making the store that Commit would answer.
func seenIn(s impl.Store, name string) (string, bool) {
	if slices.Contains(s.Gone, name) {
		return "", false
	}
	if body, is := bodyIn(s.Staged, name); is {
		return body, true
	}
	return bodyIn(s.Files, name)
}

// knownNames are all that a store speaks of, each once, rising.
func knownNames(s impl.Store) []string {
	names := slices.Clone(s.Gone)
	for _, f := range slices.Concat(s.Files, s.Staged) {
		names = append(names, f.Name)
	}
	slices.Sort(names)
	return slices.Compact(names)
}

// badNames are refused as names of files, in whatever list they stand.
func badNames() []string {
	return append(noPaths(),
		"", "a/", "./a", "a//b", "a/..", "/..", "//", "/.", "a/./b", "/a/",
		textOfBytes(mostNameBytes+1), "/"+textOfBytes(mostNameBytes), "a/"+textOfBytes(mostNameBytes-1), textOfBytes(impl.MaxPath))
}

func goodNames() []string {
	return []string{
		"a", "a/b", "/a", "/", ".", "..", "../a", "a-b_c.9/z0", "...",
		textOfBytes(mostNameBytes), "/" + textOfBytes(mostNameBytes-1), strings.Repeat("a/", mostNameBytes/2-1) + "bb",
	}
}

func goodBodies() []string {
	return []string{
		"", "x", "a b\nc\n", "\x00", "\xff\xfe", "NO PATH *?%", "€",
		textOfBytes(impl.MaxBody), strings.Repeat("\x00", impl.MaxBody), strings.Repeat("€", impl.MaxBody/3), strings.Repeat("é", impl.MaxBody/2),
	}
}

func badBodies() []string {
	return []string{
		textOfBytes(impl.MaxBody + 1), strings.Repeat("\x00", impl.MaxBody+1), strings.Repeat("€", impl.MaxBody/3+1), textOfBytes(100000),
	}
}

// risingNames are in the order of bytes: a text that ends is less, and `/` stands between `.` and `0`.
func risingNames() []string {
	return []string{"-", "..", "/", "/a", "9", "a", "a-b", "a.b", "a/b", "a0", "a_", "aa"}
}

func badFileLists() map[string][]impl.File {
	lists := map[string][]impl.File{
		"one more than MaxFiles":     filesNamed(numbered(0, impl.MaxFiles+1)...),
		"many":                       filesNamed(numbered(0, 900)...),
		"falling":                    filesNamed("b", "a"),
		"falling behind":             filesNamed("a", "c", "b"),
		"falling by bytes":           filesNamed("a0", "a/b"),
		"the longer one first":       filesNamed("ab", "a"),
		"two alike":                  filesNamed("a", "a"),
		"two alike behind":           filesNamed("a", "b", "b"),
		"two alike, not neighbours":  filesNamed("a", "b", "a"),
		"two alike, same bodies":     {{Name: "a"}, {Name: "a"}},
		"two alike, other bodies":    {{Name: "a", Body: "1"}, {Name: "a", Body: "2"}},
		"nothing in it":              {{}},
		"nothing in it, many of it":  make([]impl.File, 500),
		"MaxFiles, and two of alike": filesNamed(append(numbered(0, impl.MaxFiles-1), "n010")...),
	}
	for _, name := range badNames() {
		lists[fmt.Sprintf("the name %q", name)] = filesNamed(name)
		lists[fmt.Sprintf("the name %q among others", name)] = sortedFiles(filesNamed("-", name, "zz"))
	}
	for _, body := range badBodies() {
		lists[fmt.Sprintf("a body of %d bytes", len(body))] = []impl.File{{Name: "a", Body: body}}
		lists[fmt.Sprintf("a body of %d bytes behind", len(body))] = []impl.File{{Name: "a"}, {Name: "b", Body: body}}
		lists[fmt.Sprintf("a body of %d bytes ahead", len(body))] = []impl.File{{Name: "a", Body: body}, {Name: "b"}}
	}
	return lists
}

func sortedFiles(l []impl.File) []impl.File {
	slices.SortFunc(l, func(a impl.File, b impl.File) int { return strings.Compare(a.Name, b.Name) })
	return l
}

func badGoneLists() map[string][]string {
	lists := map[string][]string{
		"one more than MaxFiles": numbered(0, impl.MaxFiles+1),
		"many":                   numbered(0, 900),
		"falling":                {"b", "a"},
		"falling behind":         {"a", "c", "b"},
		"falling by bytes":       {"a0", "a/b"},
		"two alike":              {"a", "a"},
		"two alike behind":       {"a", "b", "b"},
		"two alike, apart":       {"a", "b", "a"},
		"empty names":            make([]string, 500),
	}
	for _, name := range badNames() {
		lists[fmt.Sprintf("the name %q", name)] = []string{name}
		around := []string{"-", name, "zz"}
		slices.Sort(around)
		lists[fmt.Sprintf("the name %q among others", name)] = around
	}
	return lists
}

func fileLists() [][]impl.File {
	lists := [][]impl.File{
		nil, {}, filesNamed("a"), filesNamed("a", "b"), filesNamed(risingNames()...),
		filesNamed(numbered(0, impl.MaxFiles-1)...), filesNamed(numbered(0, impl.MaxFiles)...),
	}
	for _, name := range goodNames() {
		lists = append(lists, filesNamed(name))
	}
	for _, body := range goodBodies() {
		lists = append(lists, []impl.File{{Name: "a", Body: body}}, []impl.File{{Name: "a"}, {Name: "b", Body: body}})
	}
	return lists
}

func badStores() map[string]impl.Store {
	twelve := filesNamed(numbered(0, impl.MaxFiles)...)
	stores := map[string]impl.Store{
		"staged and gone":           {Staged: filesNamed("a"), Gone: []string{"a"}},
		"there, staged and gone":    {Files: filesNamed("a"), Staged: filesNamed("a"), Gone: []string{"a"}},
		"staged and gone, last":     {Staged: filesNamed("a", "b", "c"), Gone: []string{"-", "c"}},
		"staged and gone, first":    {Staged: filesNamed("a", "b", "c"), Gone: []string{"a", "d"}},
		"one new one too many":      {Files: twelve, Staged: filesNamed("a")},
		"twice as many":             {Files: twelve, Staged: filesNamed(numbered(500, impl.MaxFiles)...)},
		"too many by half":          {Files: filesNamed(numbered(0, 7)...), Staged: filesNamed(numbered(7, 6)...)},
		"too many, another goes":    {Files: twelve, Staged: filesNamed("a"), Gone: []string{"b"}},
		"two new ones, one goes":    {Files: twelve, Staged: filesNamed("a", "b"), Gone: []string{"n003"}},
		"too many, staged and gone": {Files: twelve, Staged: filesNamed("a"), Gone: []string{"a"}},
	}
	for what, l := range badFileLists() {
		stores["files: "+what] = impl.Store{Files: l}
		stores["staged: "+what] = impl.Store{Staged: l}
		stores["files among others: "+what] = impl.Store{Files: l, Staged: filesNamed("a"), Gone: []string{"b"}}
		stores["staged among others: "+what] = impl.Store{Files: filesNamed("a"), Staged: l, Gone: []string{"zzz"}}
	}
	for what, l := range badGoneLists() {
		stores["gone: "+what] = impl.Store{Gone: l}
		stores["gone among others: "+what] = impl.Store{Files: filesNamed("a", "b"), Staged: filesNamed("zzz"), Gone: l}
	}
	return stores
}

// fullStores stand at the limits: of each list, and of what there is with all of them taken.
func fullStores() map[string]impl.Store {
	twelve := filesNamed(numbered(0, impl.MaxFiles)...)
	others := filesNamed(numbered(500, impl.MaxFiles)...)
	return map[string]impl.Store{
		"files":                      {Files: twelve},
		"staged":                     {Staged: twelve},
		"gone":                       {Gone: numbered(0, impl.MaxFiles)},
		"all of them as they are":    {Files: twelve, Staged: twelve},
		"all of them anew":           {Files: twelve, Staged: withBody(twelve, "anew")},
		"all of them go":             {Files: twelve, Gone: numbered(0, impl.MaxFiles)},
		"all go and others come":     {Files: twelve, Staged: others, Gone: numbered(0, impl.MaxFiles)},
		"one goes and one comes":     {Files: twelve, Staged: filesNamed("a"), Gone: []string{"n007"}},
		"half and half":              {Files: filesNamed(numbered(0, 6)...), Staged: filesNamed(numbered(6, 6)...)},
		"staged, and others gone":    {Staged: others, Gone: numbered(0, impl.MaxFiles)},
		"files, and others gone":     {Files: others, Gone: numbered(0, impl.MaxFiles)},
		"bodies as long as may be":   {Files: []impl.File{{Name: "a", Body: textOfBytes(impl.MaxBody)}}, Staged: []impl.File{{Name: "b", Body: textOfBytes(impl.MaxBody)}}},
		"names as long as may be":    {Files: filesNamed(textOfBytes(mostNameBytes)), Staged: filesNamed(strings.Repeat("y", mostNameBytes)), Gone: []string{strings.Repeat("z", mostNameBytes)}},
		"names of each kind of byte": {Files: filesNamed(risingNames()...), Gone: goodGone()},
	}
}

func withBody(l []impl.File, body string) []impl.File {
	var next []impl.File
	for _, f := range l {
		next = append(next, impl.File{Name: f.Name, Body: body})
	}
	return next
}

func goodGone() []string {
	names := goodNames()
	slices.Sort(names)
	return names
}

// smallStores are all of three names, each of them absent or with one of two bodies, and with
// nothing on the side, Gone, or Staged with one of three bodies.
func smallStores() []impl.Store {
	stores := []impl.Store{{}}
	for _, name := range []string{"a", "a/b", "b"} {
		var more []impl.Store
		for _, s := range stores {
			more = append(more, withEachState(s, name)...)
		}
		stores = more
	}
	return stores
}

func withEachState(s impl.Store, name string) []impl.Store {
	var all []impl.Store
	for _, there := range [][]string{nil, {""}, {"x"}} {
		for _, staged := range [][]string{nil, {""}, {"x"}, {"y"}} {
			next := cloneStore(s)
			next.Files = append(next.Files, filesWith(name, there)...)
			next.Staged = append(next.Staged, filesWith(name, staged)...)
			all = append(all, next)
		}
		next := cloneStore(s)
		next.Files = append(next.Files, filesWith(name, there)...)
		next.Gone = append(next.Gone, name)
		all = append(all, next)
	}
	return all
}

func filesWith(name string, bodies []string) []impl.File {
	var l []impl.File
	for _, body := range bodies {
		l = append(l, impl.File{Name: name, Body: body})
	}
	return l
}

func allGoodStores() []impl.Store {
	stores := smallStores()
	for _, s := range fullStores() {
		stores = append(stores, s)
	}
	for _, l := range fileLists() {
		stores = append(stores, impl.Store{Files: l}, impl.Store{Staged: l})
	}
	return stores
}

func TestStoreLimits(t *testing.T) {
	if impl.MaxFiles != 12 || impl.MaxBody != 40 {
		t.Error(impl.MaxFiles, impl.MaxBody)
	}
}

func TestGoodFiles(t *testing.T) {
	for _, l := range fileLists() {
		if !impl.GoodFiles(l) {
			t.Errorf("%q is not good", l)
		}
	}
	for what, l := range badFileLists() {
		if impl.GoodFiles(l) {
			t.Errorf("%s: good", what)
		}
	}
}

func TestGoodStore(t *testing.T) {
	for _, s := range allGoodStores() {
		if !impl.GoodStore(s) {
			t.Errorf("%q is not good", s)
		}
	}
	for what, s := range badStores() {
		if impl.GoodStore(s) {
			t.Errorf("%s: good", what)
		}
	}
}

// The empty list and the nil list are the same value, so a store without any is good both ways.
func TestGoodStoreOfNothing(t *testing.T) {
	if !impl.GoodStore(impl.Store{}) || !impl.GoodStore(impl.Store{Files: []impl.File{}, Staged: []impl.File{}, Gone: []string{}}) {
		t.Error("the empty store is not good")
	}
}

func TestReadFile(t *testing.T) {
	s := impl.Store{
		Files:  []impl.File{{Name: "a", Body: "1"}, {Name: "b", Body: ""}, {Name: "c", Body: "3"}},
		Staged: []impl.File{{Name: "a", Body: "9"}, {Name: "d", Body: "4"}},
		Gone:   []string{"c", "e"},
	}
	for _, c := range []readCase{
		{"a", "1", true}, {"b", "", true}, {"c", "3", true},
		{"d", "", false}, {"e", "", false}, {"f", "", false}, {"", "", false}, {"./a", "", false}, {"A", "", false}, {"aa", "", false}, {".", "", false},
	} {
		if body, is := impl.ReadFile(s, c.name); body != c.body || is != c.is {
			t.Errorf("%q: %q, %v; want %q, %v", c.name, body, is, c.body, c.is)
		}
	}
	for _, name := range badNames() {
		if body, is := impl.ReadFile(s, name); body != "" || is {
			t.Errorf("%q: %q, %v; want none", name, body, is)
		}
	}
}

func TestSeenStaged(t *testing.T) {
	s := impl.Store{
		Files:  []impl.File{{Name: "a", Body: "1"}, {Name: "b", Body: ""}, {Name: "c", Body: "3"}, {Name: "f", Body: "6"}},
		Staged: []impl.File{{Name: "a", Body: "9"}, {Name: "d", Body: "4"}, {Name: "f", Body: ""}},
		Gone:   []string{"c", "e"},
	}
	for _, c := range []readCase{
		{"a", "9", true}, {"b", "", true}, {"d", "4", true}, {"f", "", true},
		{"c", "", false}, {"e", "", false}, {"g", "", false}, {"", "", false}, {"./a", "", false}, {"A", "", false}, {"aa", "", false},
	} {
		if body, is := impl.SeenStaged(s, c.name); body != c.body || is != c.is {
			t.Errorf("%q: %q, %v; want %q, %v", c.name, body, is, c.body, c.is)
		}
	}
	for _, name := range badNames() {
		if body, is := impl.SeenStaged(s, name); body != "" || is {
			t.Errorf("%q: %q, %v; want none", name, body, is)
		}
	}
}

func TestReadsNameByName(t *testing.T) {
	for _, s := range allGoodStores() {
		for _, name := range append(knownNames(s), "unknown", "zz", "") {
			body, is := bodyIn(s.Files, name)
			if got, ok := impl.ReadFile(s, name); got != body || ok != is {
				t.Fatalf("ReadFile of %q and %q: %q, %v; want %q, %v", s, name, got, ok, body, is)
			}
			body, is = seenIn(s, name)
			if got, ok := impl.SeenStaged(s, name); got != body || ok != is {
				t.Fatalf("SeenStaged of %q and %q: %q, %v; want %q, %v", s, name, got, ok, body, is)
			}
		}
	}
}

func checkStaged(t *testing.T, s impl.Store, name string, body string, want impl.Store) {
	t.Helper()
	if got, ok := impl.StageFile(s, name, body); !sameStore(got, want) || !ok {
		t.Errorf("StageFile of %q, %q, %q: %q, %v; want %q, true", s, name, body, got, ok, want)
	}
}

func checkNotStaged(t *testing.T, s impl.Store, name string, body string) {
	t.Helper()
	if got, ok := impl.StageFile(s, name, body); !isEmptyStore(got) || ok {
		t.Errorf("StageFile of %q, %q, %q: %q, %v; want the zero answer", s, name, body, got, ok)
	}
}

func checkGone(t *testing.T, s impl.Store, name string, want impl.Store) {
	t.Helper()
	if got, ok := impl.StageGone(s, name); !sameStore(got, want) || !ok {
		t.Errorf("StageGone of %q, %q: %q, %v; want %q, true", s, name, got, ok, want)
	}
}

func checkNotGone(t *testing.T, s impl.Store, name string) {
	t.Helper()
	if got, ok := impl.StageGone(s, name); !isEmptyStore(got) || ok {
		t.Errorf("StageGone of %q, %q: %q, %v; want the zero answer", s, name, got, ok)
	}
}

func TestStageFile(t *testing.T) {
	there := filesNamed("b", "d")
	checkStaged(t, impl.Store{}, "a", "1", impl.Store{Staged: []impl.File{{Name: "a", Body: "1"}}})
	checkStaged(t, impl.Store{}, "a", "", impl.Store{Staged: []impl.File{{Name: "a"}}})
	checkStaged(t, impl.Store{Files: there}, "b", "1", impl.Store{Files: there, Staged: []impl.File{{Name: "b", Body: "1"}}})
	checkStaged(t, impl.Store{Files: there}, "b", "of b", impl.Store{Files: there, Staged: filesNamed("b")})
	checkStaged(t, impl.Store{Staged: there}, "a", "of a", impl.Store{Staged: filesNamed("a", "b", "d")})
	checkStaged(t, impl.Store{Staged: there}, "c", "of c", impl.Store{Staged: filesNamed("b", "c", "d")})
	checkStaged(t, impl.Store{Staged: there}, "e", "of e", impl.Store{Staged: filesNamed("b", "d", "e")})
	checkStaged(t, impl.Store{Staged: filesNamed("a.b", "a0")}, "a/b", "of a/b", impl.Store{Staged: filesNamed("a.b", "a/b", "a0")})
	checkStaged(t, impl.Store{Staged: there}, "b", "2", impl.Store{Staged: []impl.File{{Name: "b", Body: "2"}, {Name: "d", Body: "of d"}}})
	checkStaged(t, impl.Store{Staged: there}, "d", "", impl.Store{Staged: []impl.File{{Name: "b", Body: "of b"}, {Name: "d"}}})
	checkStaged(t, impl.Store{Staged: there}, "d", "of d", impl.Store{Staged: there})
	checkStaged(t, impl.Store{Files: there, Gone: []string{"a", "b", "c"}}, "b", "1",
		impl.Store{Files: there, Staged: []impl.File{{Name: "b", Body: "1"}}, Gone: []string{"a", "c"}})
	checkStaged(t, impl.Store{Gone: []string{"a"}}, "a", "of a", impl.Store{Staged: filesNamed("a")})
	checkStaged(t, impl.Store{Gone: []string{"a"}}, "b", "of b", impl.Store{Staged: filesNamed("b"), Gone: []string{"a"}})
	for _, name := range goodNames() {
		checkStaged(t, impl.Store{}, name, "of "+name, impl.Store{Staged: filesNamed(name)})
	}
	for _, body := range goodBodies() {
		checkStaged(t, impl.Store{}, "a", body, impl.Store{Staged: []impl.File{{Name: "a", Body: body}}})
	}
}

func TestStageFileRefused(t *testing.T) {
	twelve := filesNamed(numbered(0, impl.MaxFiles)...)
	eleven := twelve[:impl.MaxFiles-1]
	for _, s := range []impl.Store{{}, {Files: filesNamed("a")}, {Staged: filesNamed("a")}, {Gone: []string{"a"}}} {
		for _, name := range badNames() {
			checkNotStaged(t, s, name, "1")
		}
		for _, body := range badBodies() {
			checkNotStaged(t, s, "a", body)
			checkNotStaged(t, s, "b", body)
		}
	}
	checkNotStaged(t, impl.Store{Files: twelve}, "a", "1")
	checkNotStaged(t, impl.Store{Staged: twelve}, "a", "1")
	checkNotStaged(t, impl.Store{Files: twelve, Staged: filesNamed("a"), Gone: []string{"n003"}}, "b", "1")
	checkNotStaged(t, impl.Store{Files: twelve, Staged: filesNamed("a"), Gone: []string{"n003"}}, "n003", "1")
	checkNotStaged(t, impl.Store{Files: filesNamed(numbered(0, 6)...), Staged: filesNamed(numbered(6, 6)...)}, "a", "1")
	all := numbered(0, impl.MaxFiles)
	checkNotStaged(t, impl.Store{Files: twelve, Staged: filesNamed(numbered(500, impl.MaxFiles)...), Gone: all}, "n001", "1")
	checkNotStaged(t, impl.Store{Files: eleven, Staged: filesNamed("a")}, "b", "1")
}

func TestStageFileAtTheLimit(t *testing.T) {
	twelve := filesNamed(numbered(0, impl.MaxFiles)...)
	eleven := twelve[:impl.MaxFiles-1]
	last := impl.File{Name: "n011", Body: "of n011"}
	checkStaged(t, impl.Store{Files: eleven}, last.Name, last.Body, impl.Store{Files: eleven, Staged: []impl.File{last}})
	checkStaged(t, impl.Store{Staged: eleven}, last.Name, last.Body, impl.Store{Staged: twelve})
	checkStaged(t, impl.Store{Files: twelve}, last.Name, "x", impl.Store{Files: twelve, Staged: []impl.File{{Name: last.Name, Body: "x"}}})
	checkStaged(t, impl.Store{Files: twelve, Staged: eleven}, last.Name, last.Body, impl.Store{Files: twelve, Staged: twelve})
	checkStaged(t, impl.Store{Files: twelve, Gone: []string{"n002"}}, "a", "of a",
		impl.Store{Files: twelve, Staged: filesNamed("a"), Gone: []string{"n002"}})
	checkStaged(t, impl.Store{Files: twelve, Gone: []string{"n002"}}, "n002", "of n002",
		impl.Store{Files: twelve, Staged: filesNamed("n002")})
	checkStaged(t, impl.Store{Staged: twelve}, "n011", "x", impl.Store{Staged: append(slices.Clone(eleven), impl.File{Name: "n011", Body: "x"})})
}

func TestStageGone(t *testing.T) {
	there := filesNamed("b", "d")
	checkGone(t, impl.Store{}, "a", impl.Store{Gone: []string{"a"}})
	checkGone(t, impl.Store{Files: there}, "b", impl.Store{Files: there, Gone: []string{"b"}})
	checkGone(t, impl.Store{Files: there}, "c", impl.Store{Files: there, Gone: []string{"c"}})
	checkGone(t, impl.Store{Staged: there}, "b", impl.Store{Staged: filesNamed("d"), Gone: []string{"b"}})
	checkGone(t, impl.Store{Staged: there}, "d", impl.Store{Staged: filesNamed("b"), Gone: []string{"d"}})
	checkGone(t, impl.Store{Staged: filesNamed("a")}, "a", impl.Store{Gone: []string{"a"}})
	checkGone(t, impl.Store{Files: there, Staged: there}, "d", impl.Store{Files: there, Staged: filesNamed("b"), Gone: []string{"d"}})
	checkGone(t, impl.Store{Gone: []string{"b", "d"}}, "a", impl.Store{Gone: []string{"a", "b", "d"}})
	checkGone(t, impl.Store{Gone: []string{"b", "d"}}, "c", impl.Store{Gone: []string{"b", "c", "d"}})
	checkGone(t, impl.Store{Gone: []string{"b", "d"}}, "e", impl.Store{Gone: []string{"b", "d", "e"}})
	checkGone(t, impl.Store{Gone: []string{"a.b", "a0"}}, "a/b", impl.Store{Gone: []string{"a.b", "a/b", "a0"}})
	checkGone(t, impl.Store{Files: there, Gone: []string{"b", "d"}}, "d", impl.Store{Files: there, Gone: []string{"b", "d"}})
	for _, name := range goodNames() {
		checkGone(t, impl.Store{}, name, impl.Store{Gone: []string{name}})
	}
}

func TestStageGoneAtTheLimit(t *testing.T) {
	all := numbered(0, impl.MaxFiles)
	twelve := filesNamed(all...)
	checkGone(t, impl.Store{Gone: all[:impl.MaxFiles-1]}, "n011", impl.Store{Gone: all})
	checkGone(t, impl.Store{Gone: all}, "n011", impl.Store{Gone: all})
	checkGone(t, impl.Store{Files: twelve}, "n011", impl.Store{Files: twelve, Gone: []string{"n011"}})
	checkGone(t, impl.Store{Files: twelve}, "a", impl.Store{Files: twelve, Gone: []string{"a"}})
	checkGone(t, impl.Store{Files: twelve, Staged: filesNamed("a"), Gone: []string{"n002"}}, "a", impl.Store{Files: twelve, Gone: []string{"a", "n002"}})
	checkNotGone(t, impl.Store{Gone: all}, "a")
	checkNotGone(t, impl.Store{Gone: all}, "zz")
	checkNotGone(t, impl.Store{Files: filesNamed("a"), Gone: all}, "a")
	checkNotGone(t, impl.Store{Staged: filesNamed("a"), Gone: all}, "a")
	for _, s := range []impl.Store{{}, {Files: filesNamed("a")}, {Staged: filesNamed("a")}, {Gone: []string{"a"}}} {
		for _, name := range badNames() {
			checkNotGone(t, s, name)
		}
	}
}

// Whatever is on the side, a name that is staged is seen and one that is gone is not, and all
// other names stay as they were.
func TestStagedIsSeen(t *testing.T) {
	for _, s := range smallStores() {
		for _, name := range []string{"a", "a/b", "b", "c"} {
			staged, ok := impl.StageFile(s, name, "new")
			if body, is := seenIn(staged, name); body != "new" || !is || !ok || !impl.GoodStore(staged) {
				t.Fatalf("StageFile of %q, %q: %q, %v", s, name, staged, ok)
			}
			gone, ok := impl.StageGone(s, name)
			if _, is := seenIn(gone, name); is || !ok || !slices.Contains(gone.Gone, name) || !impl.GoodStore(gone) {
				t.Fatalf("StageGone of %q, %q: %q, %v", s, name, gone, ok)
			}
			checkOthersStay(t, s, staged, name)
			checkOthersStay(t, s, gone, name)
		}
	}
}

func checkOthersStay(t *testing.T, before impl.Store, after impl.Store, name string) {
	t.Helper()
	isIt := func(f impl.File) bool { return f.Name == name }
	if !slices.Equal(before.Files, after.Files) {
		t.Fatalf("the files of %q became %q", before, after)
	}
	if !slices.Equal(slices.DeleteFunc(slices.Clone(before.Staged), isIt), slices.DeleteFunc(slices.Clone(after.Staged), isIt)) {
		t.Fatalf("others than %q staged in %q became %q", name, before, after)
	}
	isName := func(s string) bool { return s == name }
	if !slices.Equal(slices.DeleteFunc(slices.Clone(before.Gone), isName), slices.DeleteFunc(slices.Clone(after.Gone), isName)) {
		t.Fatalf("others than %q gone in %q became %q", name, before, after)
	}
}

func TestCommit(t *testing.T) {
	ab := []impl.File{{Name: "a", Body: "1"}, {Name: "b", Body: "2"}}
	cases := []struct {
		what   string
		s      impl.Store
		files  []impl.File
		number int
	}{
		{"nothing", impl.Store{}, nil, 0},
		{"nothing on the side", impl.Store{Files: ab}, ab, 0},
		{"a new name", impl.Store{Files: ab, Staged: []impl.File{{Name: "c", Body: "3"}}}, []impl.File{{Name: "a", Body: "1"}, {Name: "b", Body: "2"}, {Name: "c", Body: "3"}}, 1},
		{"a new name ahead", impl.Store{Files: ab, Staged: []impl.File{{Name: "-", Body: "3"}}}, []impl.File{{Name: "-", Body: "3"}, {Name: "a", Body: "1"}, {Name: "b", Body: "2"}}, 1},
		{"a new name between", impl.Store{Files: ab, Staged: []impl.File{{Name: "a/b"}}}, []impl.File{{Name: "a", Body: "1"}, {Name: "a/b"}, {Name: "b", Body: "2"}}, 1},
		{"another body", impl.Store{Files: ab, Staged: []impl.File{{Name: "a", Body: "9"}}}, []impl.File{{Name: "a", Body: "9"}, {Name: "b", Body: "2"}}, 1},
		{"another body that is empty", impl.Store{Files: ab, Staged: []impl.File{{Name: "a"}}}, []impl.File{{Name: "a"}, {Name: "b", Body: "2"}}, 1},
		{"the same body", impl.Store{Files: ab, Staged: []impl.File{{Name: "a", Body: "1"}}}, ab, 0},
		{"all the same", impl.Store{Files: ab, Staged: ab}, ab, 0},
		{"one goes", impl.Store{Files: ab, Gone: []string{"a"}}, ab[1:], 1},
		{"all go", impl.Store{Files: ab, Gone: []string{"a", "b"}}, nil, 2},
		{"one that was never there", impl.Store{Files: ab, Gone: []string{"c"}}, ab, 0},
		{"one goes, one comes", impl.Store{Files: ab, Staged: []impl.File{{Name: "c", Body: "1"}}, Gone: []string{"a"}}, []impl.File{{Name: "b", Body: "2"}, {Name: "c", Body: "1"}}, 2},
		{"some of each", impl.Store{Files: ab, Staged: []impl.File{{Name: "b", Body: "9"}, {Name: "c"}}, Gone: []string{"a", "z"}}, []impl.File{{Name: "b", Body: "9"}, {Name: "c"}}, 3},
	}
	for _, c := range cases {
		got, number, ok := impl.Commit(c.s)
		if !sameStore(got, impl.Store{Files: c.files}) || number != c.number || !ok {
			t.Errorf("%s: %q, %d, %v; want %q, %d", c.what, got, number, ok, c.files, c.number)
		}
	}
}

func TestCommitAtTheLimit(t *testing.T) {
	twelve := filesNamed(numbered(0, impl.MaxFiles)...)
	others := filesNamed(numbered(500, impl.MaxFiles)...)
	s := impl.Store{Files: twelve, Staged: others, Gone: numbered(0, impl.MaxFiles)}
	if got, number, ok := impl.Commit(s); !sameStore(got, impl.Store{Files: others}) || number != 2*impl.MaxFiles || !ok {
		t.Errorf("%q, %d, %v", got, number, ok)
	}
	s = impl.Store{Staged: twelve}
	if got, number, ok := impl.Commit(s); !sameStore(got, impl.Store{Files: twelve}) || number != impl.MaxFiles || !ok {
		t.Errorf("%q, %d, %v", got, number, ok)
	}
}

func TestDiscard(t *testing.T) {
	for _, s := range allGoodStores() {
		if got, ok := impl.Discard(s); !sameStore(got, impl.Store{Files: s.Files}) || !ok {
			t.Fatalf("%q: %q, %v", s, got, ok)
		}
	}
}

// countChanged counts over all names that one of the two knows.
func countChanged(before impl.Store, after impl.Store) int {
	count := 0
	for _, name := range knownNames(impl.Store{Files: before.Files, Staged: after.Files}) {
		was, hadIt := bodyIn(before.Files, name)
		body, hasIt := bodyIn(after.Files, name)
		if was != body || hadIt != hasIt {
			count++
		}
	}
	return count
}

func checkPromise3(t *testing.T, s impl.Store) int {
	t.Helper()
	after, number, ok := impl.Commit(s)
	if !ok || !impl.GoodStore(after) || len(after.Staged) != 0 || len(after.Gone) != 0 {
		t.Fatalf("Commit of %q: %q, %v", s, after, ok)
	}
	for _, name := range append(knownNames(s), "unknown", "a/unknown", "") {
		seen, was := impl.SeenStaged(s, name)
		if body, is := impl.ReadFile(after, name); body != seen || is != was {
			t.Fatalf("Commit of %q: %q is %q, %v; seen was %q, %v", s, name, body, is, seen, was)
		}
		if body, is := impl.SeenStaged(after, name); body != seen || is != was {
			t.Fatalf("Commit of %q: %q is seen as %q, %v; seen was %q, %v", s, name, body, is, seen, was)
		}
	}
	if want := countChanged(s, after); number != want {
		t.Fatalf("Commit of %q: %d names changed; want %d", s, number, want)
	}
	return number
}

func TestPromise3SmallStores(t *testing.T) {
	met := map[int]bool{}
	for _, s := range smallStores() {
		met[checkPromise3(t, s)] = true
	}
	if len(met) != 4 {
		t.Error("not each number of changes was met", met)
	}
}

func TestPromise3FullStores(t *testing.T) {
	for _, s := range fullStores() {
		checkPromise3(t, s)
	}
}

func TestPromise3OneList(t *testing.T) {
	for _, l := range fileLists() {
		checkPromise3(t, impl.Store{Files: l})
		checkPromise3(t, impl.Store{Staged: l})
	}
}

// A store is taken through many changes, with a plain list of what each name should be beside it.
func TestPromise3ManySteps(t *testing.T) {
	s, seen := impl.Store{}, map[string]string{}
	names := append(goodNames(), numbered(0, 6)...)
	refused := 0
	for step := range 4000 {
		name := names[step*step*7%len(names)]
		body := strings.Repeat("x", step*5%(impl.MaxBody+3))
		next, ok := impl.StageFile(s, name, body)
		if step%3 == 1 {
			next, ok = impl.StageGone(s, name)
		}
		if !ok {
			refused++
		} else if s = next; step%3 == 1 {
			delete(seen, name)
		} else {
			seen[name] = body
		}
		if step%11 == 10 {
			checkPromise3(t, s)
			s, _, _ = impl.Commit(s)
		}
		checkSeen(t, s, seen, names)
	}
	if refused == 0 {
		t.Error("no step was refused")
	}
}

func checkSeen(t *testing.T, s impl.Store, seen map[string]string, names []string) {
	t.Helper()
	for _, name := range names {
		want, was := seen[name]
		if body, is := impl.SeenStaged(s, name); body != want || is != was {
			t.Fatalf("%q: %q is seen as %q, %v; want %q, %v", s, name, body, is, want, was)
		}
	}
}

func TestPromise19BadStores(t *testing.T) {
	for what, s := range badStores() {
		before := cloneStore(s)
		for _, name := range []string{"a", "b", "n001", "zzz", "", "A"} {
			if body, is := impl.ReadFile(s, name); body != "" || is {
				t.Errorf("ReadFile, %s: %q, %v", what, body, is)
			}
			if body, is := impl.SeenStaged(s, name); body != "" || is {
				t.Errorf("SeenStaged, %s: %q, %v", what, body, is)
			}
			if got, ok := impl.StageFile(s, name, "1"); !isEmptyStore(got) || ok {
				t.Errorf("StageFile, %s: %q, %v", what, got, ok)
			}
			if got, ok := impl.StageGone(s, name); !isEmptyStore(got) || ok {
				t.Errorf("StageGone, %s: %q, %v", what, got, ok)
			}
		}
		if got, number, ok := impl.Commit(s); !isEmptyStore(got) || number != 0 || ok {
			t.Errorf("Commit, %s: %q, %d, %v", what, got, number, ok)
		}
		if got, ok := impl.Discard(s); !isEmptyStore(got) || ok {
			t.Errorf("Discard, %s: %q, %v", what, got, ok)
		}
		if !sameStore(s, before) {
			t.Errorf("%s: it was written into", what)
		}
	}
}

// A step that would make a bad store good is refused, as the store that it is of was bad.
func TestPromise19BadStoreIsNotMended(t *testing.T) {
	bad := impl.Store{Files: filesNamed("a"), Staged: filesNamed("a"), Gone: []string{"a"}}
	checkNotStaged(t, bad, "a", "1")
	checkNotGone(t, bad, "a")
	full := impl.Store{Files: filesNamed(numbered(0, impl.MaxFiles)...), Staged: filesNamed("a")}
	checkNotGone(t, full, "a")
	checkNotGone(t, full, "n001")
	long := impl.Store{Staged: []impl.File{{Name: "a", Body: textOfBytes(impl.MaxBody + 1)}}}
	checkNotStaged(t, long, "a", "1")
	checkNotGone(t, long, "a")
}

// roomyStore gives the store with something behind the length of each list, and these lists
// whole: what reads behind a length meets names that are not good, what writes there is seen.
func roomyStore(s impl.Store) (impl.Store, impl.Store) {
	files := append(slices.Clone(s.Files), impl.File{Name: "BEHIND", Body: "files"}, impl.File{Name: "A"})
	staged := append(slices.Clone(s.Staged), impl.File{Name: "BEHIND", Body: "staged"}, impl.File{Name: "A"})
	gone := append(slices.Clone(s.Gone), "BEHIND", "A")
	whole := impl.Store{Files: files, Staged: staged, Gone: gone}
	return impl.Store{Files: files[:len(s.Files)], Staged: staged[:len(s.Staged)], Gone: gone[:len(s.Gone)]}, whole
}

func overwriteFiles(l []impl.File) {
	l = l[:cap(l)]
	for i := range l {
		l[i] = impl.File{Name: "#", Body: "#"}
	}
}

func overwriteNames(l []string) {
	l = l[:cap(l)]
	for i := range l {
		l[i] = "#"
	}
}

// storeSteps are the four functions that answer a store.
func storeSteps(name string) map[string]func(impl.Store) impl.Store {
	return map[string]func(impl.Store) impl.Store{
		"StageFile": func(s impl.Store) impl.Store { got, _ := impl.StageFile(s, name, "new"); return got },
		"StageGone": func(s impl.Store) impl.Store { got, _ := impl.StageGone(s, name); return got },
		"Commit":    func(s impl.Store) impl.Store { got, _, _ := impl.Commit(s); return got },
		"Discard":   func(s impl.Store) impl.Store { got, _ := impl.Discard(s); return got },
	}
}

func checkStoreMemory(t *testing.T, what string, s impl.Store, step func(impl.Store) impl.Store) {
	t.Helper()
	given, whole := roomyStore(s)
	before := cloneStore(whole)
	got := step(given)
	want := step(cloneStore(s))
	if !sameStore(got, want) {
		t.Fatalf("%s of %q reads behind a list: %q; want %q", what, s, got, want)
	}
	overwriteFiles(got.Files)
	if !slices.Equal(got.Staged, want.Staged) || !slices.Equal(got.Gone, want.Gone) {
		t.Fatalf("%s of %q: lists of the answer share memory", what, s)
	}
	overwriteFiles(got.Staged)
	overwriteNames(got.Gone)
	if !sameStore(whole, before) {
		t.Fatalf("%s of %q wrote into it, or answers its memory: %q", what, before, whole)
	}
}

func TestPromise19StoreStays(t *testing.T) {
	for _, s := range allGoodStores() {
		for _, name := range []string{"a", "b", "c", "n003", "A", ""} {
			for what, step := range storeSteps(name) {
				checkStoreMemory(t, what, s, step)
			}
		}
	}
}

func TestPromise19StoreIsOnlyRead(t *testing.T) {
	for _, s := range allGoodStores() {
		given, whole := roomyStore(s)
		before := cloneStore(whole)
		if !impl.GoodStore(given) || !impl.GoodFiles(given.Files) || !impl.GoodFiles(given.Staged) {
			t.Fatalf("what lies behind the lists of %q is read", s)
		}
		for _, name := range append(knownNames(s), "unknown", "BEHIND") {
			body, is := bodyIn(s.Files, name)
			if got, ok := impl.ReadFile(given, name); got != body || ok != is {
				t.Fatalf("ReadFile of %q, %q: %q, %v", s, name, got, ok)
			}
			body, is = seenIn(s, name)
			if got, ok := impl.SeenStaged(given, name); got != body || ok != is {
				t.Fatalf("SeenStaged of %q, %q: %q, %v", s, name, got, ok)
			}
		}
		if !sameStore(whole, before) {
			t.Fatalf("%q was written into: %q", before, whole)
		}
	}
}

// One piece of memory may be given as two lists; the answer has two of its own.
func TestPromise19OneListGivenTwice(t *testing.T) {
	l := filesNamed("a", "b", "c")
	s := impl.Store{Files: l, Staged: l}
	got, ok := impl.StageGone(s, "zz")
	if !ok || !sameStore(got, impl.Store{Files: filesNamed("a", "b", "c"), Staged: filesNamed("a", "b", "c"), Gone: []string{"zz"}}) {
		t.Fatal(got, ok)
	}
	overwriteFiles(got.Staged)
	if !slices.Equal(got.Files, filesNamed("a", "b", "c")) || !slices.Equal(l, filesNamed("a", "b", "c")) {
		t.Error("two lists of the answer share memory", got.Files, l)
	}
}

// What is answered by one call is not what the next one answers.
func TestPromise19AnswersApart(t *testing.T) {
	s := impl.Store{Files: filesNamed("a", "b"), Staged: filesNamed("c"), Gone: []string{"d"}}
	for what, step := range storeSteps("e") {
		one, two := step(s), step(s)
		want := cloneStore(two)
		overwriteFiles(one.Files)
		overwriteFiles(one.Staged)
		overwriteNames(one.Gone)
		if !sameStore(two, want) {
			t.Errorf("two answers of %s share memory", what)
		}
	}
}

func storeText(s impl.Store) string {
	return fmt.Sprintf("%q", s)
}

// keepsStoreApart gives a store whose texts lie in memory that is then overwritten.
func keepsStoreApart(t *testing.T, what string, step func(impl.Store) impl.Store) {
	t.Helper()
	const text = "abcd1234"
	memory := []byte(text)
	all := unsafe.String(unsafe.SliceData(memory), len(memory))
	got := step(impl.Store{
		Files:  []impl.File{{Name: all[0:1], Body: all[4:5]}, {Name: all[1:2], Body: all[5:6]}},
		Staged: []impl.File{{Name: all[2:3], Body: all[6:7]}},
		Gone:   []string{all[3:4]},
	})
	want := storeText(got)
	if string(memory) != text {
		t.Errorf("%s wrote into a text", what)
	}
	for i := range memory {
		memory[i] = '#'
	}
	if storeText(got) != want {
		t.Errorf("%s answers the argument's texts: %q; want %s", what, got, want)
	}
}

func TestPromise19NewTextsOfStores(t *testing.T) {
	for what, step := range storeSteps("e") {
		keepsStoreApart(t, what, step)
	}
	s := impl.Store{Files: filesNamed("a"), Staged: filesNamed("b")}
	keepsApart(t, "StageFile", "name", func(m string) (string, bool) {
		got, ok := impl.StageFile(s, m, "1")
		return got.Staged[1].Name, ok
	})
	keepsApart(t, "StageFile", "body", func(m string) (string, bool) {
		got, ok := impl.StageFile(s, "c", m)
		return got.Staged[1].Body, ok
	})
	keepsApart(t, "StageGone", "name", func(m string) (string, bool) {
		got, ok := impl.StageGone(s, m)
		return got.Gone[0], ok
	})
	keepsApart(t, "ReadFile", "body", func(m string) (string, bool) {
		return impl.ReadFile(impl.Store{Files: []impl.File{{Name: "a", Body: m}}}, "a")
	})
	keepsApart(t, "SeenStaged", "body", func(m string) (string, bool) {
		return impl.SeenStaged(impl.Store{Staged: []impl.File{{Name: "a", Body: m}}}, "a")
	})
}

// The answer does not hang on the order in which a map is ranged over.
func TestSameAnswerEachTime(t *testing.T) {
	for what, s := range fullStores() {
		for name, step := range storeSteps("n003") {
			first := step(s)
			for range 20 {
				if again := step(s); !sameStore(again, first) {
					t.Fatalf("%s, %s: %q, then %q", what, name, first, again)
				}
			}
		}
	}
}
