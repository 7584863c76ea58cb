package path_test

import (
	"math/rand"
	"slices"
	"strings"
	"testing"

	"scupper/api"
	"scupper/path"
)

// The document's numbers, written out, so that no shared slip of code and test hides.
const (
	maxDepth = 16
	maxName  = 10
)

// isName is the words of chapter 12, byte by byte.
func isName(s string) bool {
	if len(s) == 0 || len(s) > maxName || s == "." || s == ".." {
		return false
	}
	for i := 0; i < len(s); i++ {
		if s[i] < 33 || s[i] > 126 || s[i] == 47 {
			return false
		}
	}
	return true
}

// split is the chapter's words: what stands between a text's slashes, if the first one begins it.
func split(p string) ([]string, api.Errno) {
	if p == "/" {
		return nil, api.OK
	}
	parts := strings.Split(p, "/")
	if parts[0] != "" || len(parts) == 1 {
		return nil, api.ErrName
	}
	parts = parts[1:]
	for _, s := range parts {
		if !isName(s) {
			return nil, api.ErrName
		}
	}
	if len(parts) > maxDepth {
		return nil, api.ErrLong
	}
	return parts, api.OK
}

// join is the chapter's words.
func join(l []string) (string, api.Errno) {
	p := ""
	for _, s := range l {
		if !isName(s) {
			return "", api.ErrName
		}
		p += "/" + s
	}
	if len(l) > maxDepth {
		return "", api.ErrLong
	}
	if p == "" {
		p = "/"
	}
	return p, api.OK
}

// some is n times that name.
func some(n int, name string) []string {
	return slices.Repeat([]string{name}, n)
}

// lists are names of paths, the path of each written out.
func lists() map[string][]string {
	return map[string][]string{
		"/":               nil,
		"/a":              {"a"},
		"/a/b":            {"a", "b"},
		"/b/a":            {"b", "a"},
		"/a/a/a":          {"a", "a", "a"},
		"/0123456789":     {"0123456789"},
		"/0123456789/!/~": {"0123456789", "!", "~"},
		"/~~~~~~~~~~/!!!!!!!!!!": {
			"~~~~~~~~~~", "!!!!!!!!!!"},
		"/.../.a/a./..a/a..": {"...", ".a", "a.", "..a", "a.."},
		"/usr/lib-2/x.y_z/A": {"usr", "lib-2", "x.y_z", "A"},
		"/0/1/2/3/4/5/6/7/8/9/a/b/c/d/e": {
			"0", "1", "2", "3", "4", "5", "6", "7", "8", "9", "a", "b", "c", "d", "e"},
		"/0/1/2/3/4/5/6/7/8/9/a/b/c/d/e/f": {
			"0", "1", "2", "3", "4", "5", "6", "7", "8", "9", "a", "b", "c", "d", "e", "f"},
		strings.Repeat("/9876543210", maxDepth): some(maxDepth, "9876543210"),
		"/%2F/\\/\"/*/?":                        {"%2F", "\\", "\"", "*", "?"},
	}
}

// wrong are texts that are no paths.
func wrong() []string {
	return []string{
		"", "a", "a/", "a/b", "ab", " ", " /a", "\\a", ".", "..", "a/b/c",
		"//", "///", "//a", "/a/", "/a//", "/a//b", "/a/b/", "/a/b//", "//a/b", "/a/b//c",
		"/.", "/..", "/./a", "/../a", "/a/.", "/a/..", "/a/./b", "/a/../b",
		"/01234567890", "/a/01234567890", "/01234567890/a", "/" + strings.Repeat("a", 10000),
		"/ ", "/a b", "/a /b", "/\x00", "/a\x00", "/a/\x1f", "/a/\x7f/b", "/a\n", "/\t/a",
		"/\x80", "/\xff", "/a/\xc3", "/\u00e9", "/a/\u20ac", "/\u2215", "/a\uff0fb", "/\U0001f4a9",
	}
}

// wrongNames are texts that are no names.
func wrongNames() []string {
	return []string{
		"", ".", "..", "/", "a/", "/a", "a/b", "//", "01234567890", strings.Repeat("a", 10000),
		" ", "a b", "\x00", "a\x1f", "\x7f", "a\n", "\x80", "\xff", "\u00e9", "\u2215",
	}
}

// 23.1: Split tells the names, in order; none of /.
func TestSplit(t *testing.T) {
	for p, want := range lists() {
		if got, err := path.Split(p); err != api.OK || !slices.Equal(got, want) {
			t.Errorf("Split(%q): %q, %d, want %q", p, got, err, want)
		}
	}
}

// 23.1: a name may have each byte that chapter 12 lets it have, and no other.
func TestSplitBytes(t *testing.T) {
	for c := range 256 {
		name := string([]byte{'a', byte(c), 'b'})
		got, err := path.Split("/x/" + name + "/y")
		want, wrong := []string{"x", name, "y"}, api.OK
		switch {
		case c == '/':
			want = []string{"x", "a", "b", "y"}
		case c < 33 || c > 126:
			want, wrong = nil, api.ErrName
		}
		if err != wrong || !slices.Equal(got, want) {
			t.Errorf("byte %d: %q, %d, want %q, %d", c, got, err, want, wrong)
		}
	}
}

// 23.1: what is no path is ErrName, with no names.
func TestSplitWrong(t *testing.T) {
	for _, p := range wrong() {
		if got, err := path.Split(p); err != api.ErrName || len(got) != 0 {
			t.Errorf("Split(%q): %q, %d, want none, ErrName", p, got, err)
		}
	}
}

// 23.1: up to MaxDepth names are a path; more of them, all right, are ErrLong, with no names.
func TestSplitLong(t *testing.T) {
	for _, name := range []string{"a", "0123456789", "...", "~"} {
		for n := range 3 * maxDepth {
			p := strings.Repeat("/"+name, n+1)
			want, wrong := some(n+1, name), api.OK
			if n+1 > maxDepth {
				want, wrong = nil, api.ErrLong
			}
			if got, err := path.Split(p); err != wrong || !slices.Equal(got, want) {
				t.Errorf("Split of %d names: %q, %d, want %q, %d", n+1, got, err, want, wrong)
			}
		}
	}
	if got, err := path.Split(strings.Repeat("/a", 1<<20)); err != api.ErrLong || len(got) != 0 {
		t.Errorf("Split of many names: %d names, %d, want none, ErrLong", len(got), err)
	}
}

// 23.1: a name that is none comes ahead of too many of them, wherever it stands.
func TestSplitWrongAheadOfLong(t *testing.T) {
	for _, n := range []int{maxDepth, maxDepth + 1, maxDepth + 2, 3 * maxDepth, 1000} {
		for _, bad := range []string{"", ".", "..", "01234567890", "a b", "\x7f"} {
			for _, at := range []int{0, 1, maxDepth - 1, maxDepth, maxDepth + 1, n / 2, n - 2, n - 1} {
				if at >= n {
					continue
				}
				l := some(n, "a")
				l[at] = bad
				p := "/" + strings.Join(l, "/")
				if got, err := path.Split(p); err != api.ErrName || len(got) != 0 {
					t.Errorf("Split of %d names with %q at %d: %q, %d, want none, ErrName", n, bad, at, got, err)
				}
			}
		}
	}
	// Without a slash ahead of it, or with one behind it, it is no path, however long.
	long := strings.Repeat("/a", maxDepth+1)
	for _, p := range []string{long[1:], long + "/", long + "//", "/" + long, " " + long} {
		if got, err := path.Split(p); err != api.ErrName || len(got) != 0 {
			t.Errorf("Split(%q): %q, %d, want none, ErrName", p, got, err)
		}
	}
}

// 23.1: Join tells the path; / of no names.
func TestJoin(t *testing.T) {
	for want, l := range lists() {
		if got, err := path.Join(l); err != api.OK || got != want {
			t.Errorf("Join(%q): %q, %d, want %q", l, got, err, want)
		}
	}
	if got, err := path.Join([]string{}); err != api.OK || got != "/" {
		t.Errorf("Join of no names: %q, %d, want /", got, err)
	}
}

// 23.1: a text that is no name is ErrName, with no path, wherever it stands; a / in it does not part it.
func TestJoinWrong(t *testing.T) {
	for _, bad := range wrongNames() {
		for _, l := range [][]string{{bad}, {bad, "a"}, {"a", bad}, {"a", bad, "b"}, {bad, bad}} {
			if got, err := path.Join(l); err != api.ErrName || got != "" {
				t.Errorf("Join(%q): %q, %d, want none, ErrName", l, got, err)
			}
		}
	}
}

// 23.1: a name may have each byte that chapter 12 lets it have, and no other.
func TestJoinBytes(t *testing.T) {
	for c := range 256 {
		name := string([]byte{'a', byte(c), 'b'})
		got, err := path.Join([]string{"x", name, "y"})
		want, wrong := "/x/"+name+"/y", api.OK
		if c < 33 || c > 126 || c == '/' {
			want, wrong = "", api.ErrName
		}
		if err != wrong || got != want {
			t.Errorf("byte %d: %q, %d, want %q, %d", c, got, err, want, wrong)
		}
	}
}

// 23.1: up to MaxDepth names are a path; more of them, all right, are ErrLong, with no path; one that is none comes ahead of that.
func TestJoinLong(t *testing.T) {
	for n := range 3 * maxDepth {
		want, wrong := strings.Repeat("/bc", n), api.OK
		if n == 0 {
			want = "/"
		}
		if n > maxDepth {
			want, wrong = "", api.ErrLong
		}
		if got, err := path.Join(some(n, "bc")); err != wrong || got != want {
			t.Errorf("Join of %d names: %q, %d, want %q, %d", n, got, err, want, wrong)
		}
		for _, bad := range []string{"", ".", "..", "a/b", "01234567890"} {
			for at := range n {
				l := some(n, "bc")
				l[at] = bad
				if got, err := path.Join(l); err != api.ErrName || got != "" {
					t.Errorf("Join of %d names with %q at %d: %q, %d, want none, ErrName", n, bad, at, got, err)
				}
			}
		}
	}
	if got, err := path.Join(some(1<<20, "a")); err != api.ErrLong || got != "" {
		t.Errorf("Join of many names: %d bytes, %d, want none, ErrLong", len(got), err)
	}
}

// 23.2: Last parts the last name from those ahead of it.
func TestLast(t *testing.T) {
	for p, l := range lists() {
		got, name, err := path.Last(p)
		if len(l) == 0 {
			if err != api.ErrArg || len(got) != 0 || name != "" {
				t.Errorf("Last(%q): %q, %q, %d, want none, ErrArg", p, got, name, err)
			}
			continue
		}
		n := len(l) - 1
		if err != api.OK || !slices.Equal(got, l[:n]) || name != l[n] {
			t.Errorf("Last(%q): %q, %q, %d, want %q, %q", p, got, name, err, l[:n], l[n])
		}
	}
}

// 23.2: Last tells Split's error, with no names and no name.
func TestLastWrong(t *testing.T) {
	for _, p := range wrong() {
		if got, name, err := path.Last(p); err != api.ErrName || len(got) != 0 || name != "" {
			t.Errorf("Last(%q): %q, %q, %d, want none, ErrName", p, got, name, err)
		}
	}
	long := strings.Repeat("/a", maxDepth+1)
	if got, name, err := path.Last(long); err != api.ErrLong || len(got) != 0 || name != "" {
		t.Errorf("Last(%q): %q, %q, %d, want none, ErrLong", long, got, name, err)
	}
	for _, p := range []string{long + "/", long + "/..", long + "/01234567890", "/." + long} {
		if got, name, err := path.Last(p); err != api.ErrName || len(got) != 0 || name != "" {
			t.Errorf("Last(%q): %q, %q, %d, want none, ErrName", p, got, name, err)
		}
	}
}

// 23.2: Inside asks whether there are more names, and whether they begin alike.
func TestInside(t *testing.T) {
	deep := strings.Fields("0 1 2 3 4 5 6 7 8 9 a b c d e f")
	for _, c := range []struct {
		a, b []string
		want bool
	}{
		{nil, nil, false},
		{nil, []string{}, false},
		{[]string{}, nil, false},
		{nil, []string{"a"}, true},
		{[]string{}, []string{"a"}, true},
		{[]string{"a"}, nil, false},
		{nil, deep, true},
		{[]string{"a"}, []string{"a"}, false},
		{[]string{"a"}, []string{"b"}, false},
		{[]string{"a"}, []string{"a", "b"}, true},
		{[]string{"a"}, []string{"a", "a"}, true},
		{[]string{"a"}, []string{"a", "b", "c"}, true},
		{[]string{"b"}, []string{"a", "b"}, false},
		{[]string{"a", "b"}, []string{"a"}, false},
		{[]string{"a", "b"}, []string{"a", "b"}, false},
		{[]string{"a", "b"}, []string{"a", "b", "c"}, true},
		{[]string{"a", "b"}, []string{"a", "c", "b"}, false},
		{[]string{"a", "b"}, []string{"c", "b", "a"}, false},
		{[]string{"a", "b"}, []string{"b", "a", "c"}, false},
		{[]string{"a", "b"}, []string{"x", "a", "b"}, false},
		{[]string{"a"}, []string{"ab", "c"}, false},
		{[]string{"ab"}, []string{"a", "b"}, false},
		{[]string{"ab"}, []string{"a", "b", "c"}, false},
		{[]string{"a"}, []string{"A", "b"}, false},
		{deep[:15], deep, true},
		{deep, deep, false},
		{deep, deep[:15], false},
		{deep[1:], deep, false},
		// What the texts are is not asked.
		{[]string{""}, []string{"", ""}, true},
		{[]string{"a/b"}, []string{"a", "b", "c"}, false},
		{[]string{"a/b"}, []string{"a/b", ".."}, true},
	} {
		if got := path.Inside(c.a, c.b); got != c.want {
			t.Errorf("Inside(%q, %q): %v, want %v", c.a, c.b, got, c.want)
		}
	}
}

// 23.2: names that begin alike, and part at some place, are not inside of one another.
func TestInsideParts(t *testing.T) {
	for n := range maxDepth + 4 {
		for m := range maxDepth + 4 {
			a, b := some(n, "x"), some(m, "x")
			if got := path.Inside(a, b); got != (m > n) {
				t.Errorf("Inside of %d and %d names: %v", n, m, got)
			}
			for at := range min(n, m) {
				b[at] = "y"
				if path.Inside(a, b) {
					t.Errorf("Inside of %d and %d names that part at %d: true", n, m, at)
				}
				b[at] = "x"
			}
			for at := n; at < m; at++ {
				b[at] = "y"
				if !path.Inside(a, b) {
					t.Errorf("Inside of %d and %d names, another one at %d: false", n, m, at)
				}
				b[at] = "x"
			}
		}
	}
}

// 23.3: Split of Join is the names, and Join of Split the path.
func TestBack(t *testing.T) {
	for p, l := range lists() {
		joined, err := path.Join(l)
		names, again := path.Split(joined)
		if err != api.OK || again != api.OK || !slices.Equal(names, l) {
			t.Errorf("Split of Join(%q): %q, %d, %d", l, names, err, again)
		}
		names, err = path.Split(p)
		joined, again = path.Join(names)
		if err != api.OK || again != api.OK || joined != p {
			t.Errorf("Join of Split(%q): %q, %d, %d", p, joined, err, again)
		}
	}
}

// dice are texts of few bytes, so that many of them are paths, and many just are none.
type dice struct{ r *rand.Rand }

func (d dice) text() string {
	const bytes = "aab.~!0"
	var b strings.Builder
	for range d.r.Intn(20) {
		if d.r.Intn(12) > 0 {
			b.WriteByte('/')
		}
		for range 1 + d.r.Intn(4)*d.r.Intn(2) {
			b.WriteByte(bytes[d.r.Intn(len(bytes))])
		}
		if d.r.Intn(60) == 0 {
			b.WriteByte("/ \x00\x7f\xe9"[d.r.Intn(5)])
		}
	}
	return b.String()
}

func (d dice) names() []string {
	var l []string
	for range d.r.Intn(20) {
		l = append(l, strings.ReplaceAll(d.text(), "/", "")+"x")
		if len(l[len(l)-1]) > maxName && d.r.Intn(20) > 0 {
			l[len(l)-1] = l[len(l)-1][:maxName]
		}
	}
	return l
}

// 23.1, 23.2, 23.3: all calls answer what the chapter's words make of many texts and many lists.
func TestWords(t *testing.T) {
	d := dice{rand.New(rand.NewSource(23))}
	told := map[api.Errno]int{}
	for range 30000 {
		p := d.text()
		want, wrong := split(p)
		told[wrong]++
		got, err := path.Split(p)
		if err != wrong || !slices.Equal(got, want) {
			t.Fatalf("Split(%q): %q, %d, want %q, %d", p, got, err, want, wrong)
		}
		if err == api.OK {
			if back, err := path.Join(got); err != api.OK || back != p {
				t.Fatalf("Join of Split(%q): %q, %d", p, back, err)
			}
		}
		ahead, name, err := path.Last(p)
		if wrong == api.OK && len(want) == 0 {
			wrong = api.ErrArg
		}
		if err != wrong || wrong == api.OK && !slices.Equal(append(slices.Clone(ahead), name), want) || wrong != api.OK && (len(ahead) != 0 || name != "") {
			t.Fatalf("Last(%q): %q, %q, %d, want %q, %d", p, ahead, name, err, want, wrong)
		}
	}
	for range 10000 {
		l := d.names()
		want, wrong := join(l)
		told[wrong]++
		got, err := path.Join(l)
		if err != wrong || got != want {
			t.Fatalf("Join(%q): %q, %d, want %q, %d", l, got, err, want, wrong)
		}
		if err == api.OK {
			if back, err := path.Split(got); err != api.OK || !slices.Equal(back, l) {
				t.Fatalf("Split of Join(%q): %q, %d", l, back, err)
			}
		}
	}
	for _, e := range []api.Errno{api.OK, api.ErrName, api.ErrLong} {
		if told[e] < 500 {
			t.Errorf("error %d was to be told %d times alone", e, told[e])
		}
	}
}

// Rule 4: a list that is handed in is not changed, also behind its end.
func TestLeaves(t *testing.T) {
	for _, l := range [][]string{{"a", "b", "c", "d"}, {"a", "", "c", "d"}, {"..", "b", "/", "d"}} {
		a, b := slices.Clone(l), slices.Clone(l)
		path.Join(a[:2])
		path.Join(a)
		path.Inside(a[:2], b[:3])
		path.Inside(b, a[:1])
		if !slices.Equal(a, l) || !slices.Equal(b, l) {
			t.Errorf("%q: turned to %q and %q", l, a, b)
		}
	}
}

// Rule 4: what is handed out is the caller's own: what is done to it tells in no other answer.
func TestOwn(t *testing.T) {
	const p = "/a/b/c"
	first, _ := path.Split(p)
	second, _ := path.Split(p)
	ahead, name, _ := path.Last(p)
	for i := range first {
		first[i] = "x"
	}
	ahead = append(ahead, "y")
	ahead[0] = "z"
	again, _ := path.Split(p)
	more, last, _ := path.Last(p)
	if want := []string{"a", "b", "c"}; !slices.Equal(second, want) || !slices.Equal(again, want) {
		t.Errorf("Split(%q): %q and %q", p, second, again)
	}
	if name != "c" || last != "c" || !slices.Equal(more, []string{"a", "b"}) {
		t.Errorf("Last(%q): %q, %q, %q", p, name, more, last)
	}
	l := []string{"a", "b"}
	joined, _ := path.Join(l)
	l[0] = "x"
	if joined != "/a/b" {
		t.Errorf("a path turned with the names that it was made of: %q", joined)
	}
}

// The chapter's example.
func TestExample(t *testing.T) {
	if l, err := path.Split("/a/b"); err != api.OK || !slices.Equal(l, []string{"a", "b"}) {
		t.Errorf("/a/b: %q, %d", l, err)
	}
	if l, err := path.Split("/a/"); err != api.ErrName || len(l) != 0 {
		t.Errorf("/a/: %q, %d", l, err)
	}
}
