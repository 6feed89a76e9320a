package verb_test

import (
	"math/rand"
	"slices"
	"strings"
	"testing"

	"intaglio/verb"
)

// matches asks which of some texts a pattern describes.
func matches(t *testing.T, pattern string, yes, no []string) {
	t.Helper()
	for i, s := range append(slices.Clone(yes), no...) {
		want := i < len(yes)
		if got := verb.Match(pattern, s); got != want {
			t.Errorf("%q, %q: %v, want %v", pattern, s, got, want)
		}
		if plainMatch(pattern, s) != want {
			t.Errorf("%q, %q: the test is wrong", pattern, s)
		}
	}
}

// P17.4: the example, patterns without anything of its own, and none.
func TestMatchPlain(t *testing.T) {
	matches(t, "h[a-c]?*", []string{"hbx", "hab", "hcxyz", "hb?"}, []string{"hb", "hdx", "bx", "", "hBx", "xhbx"})
	matches(t, "", []string{""}, []string{"a", " ", "\x00"})
	matches(t, "abc", []string{"abc"}, []string{"", "ab", "abcd", "xabc", "ABC", "abd", "abc\x00"})
	matches(t, "a^]-b", []string{"a^]-b"}, []string{"ab", "a^-b"})
	matches(t, "\xff\x00é", []string{"\xff\x00é"}, []string{"\xff\x00e", "\xfe\x00é"})
}

// P17.4: * is any bytes, also none; ? is one byte.
func TestMatchAny(t *testing.T) {
	some := []string{"", "a", "*", "?", "abc", "\x00", "\xff\xfe", "é", long(5000), "a\nb"}
	matches(t, "*", some, nil)
	matches(t, "**", some, nil)
	matches(t, "***", some, nil)
	matches(t, "?", []string{"a", "?", "*", "\x00", "\xff", "\n"}, []string{"", "ab", "é"})
	matches(t, "??", []string{"ab", "é"}, []string{"", "a", "abc"})
	matches(t, "*?", some[1:], some[:1])
	matches(t, "?*", some[1:], some[:1])
	matches(t, "?*?", []string{"ab", "abc", "é"}, []string{"", "a"})
	matches(t, "a*", []string{"a", "ab", "aa", "a*"}, []string{"", "b", "ba"})
	matches(t, "*a", []string{"a", "ba", "aa", "aba"}, []string{"", "b", "ab"})
	matches(t, "a*b", []string{"ab", "axb", "abb", "aab", "abab"}, []string{"", "a", "b", "aba", "ba", "abc"})
	matches(t, "*ab*ab*", []string{"abab", "xabxabx", "aabab"}, []string{"ab", "aab", "abb", "aba"})
	matches(t, "*aab", []string{"aab", "aaab", "aabaab"}, []string{"ab", "aabb", "aaba"})
	matches(t, "a*b?d*", []string{"abcd", "abbbcd", "abcdabcde", "abdbxd"}, []string{"abd", "abc", "abccd"})
}

// P17.4: [ up to its ] is one byte of those between.
func TestMatchAmong(t *testing.T) {
	matches(t, "[a]", []string{"a"}, []string{"", "b", "[a]", "aa", "[", "]"})
	matches(t, "[abc]", []string{"a", "b", "c"}, []string{"", "d", "ab", "A"})
	matches(t, "[a-c]", []string{"a", "b", "c"}, []string{"", "d", "-", "`", "B"})
	matches(t, "[c-a]", nil, []string{"a", "b", "c", "-", "", "[c-a]"})
	matches(t, "[c-ad]", []string{"d"}, []string{"a", "b", "c", "-"})
	matches(t, "[b-b]", []string{"b"}, []string{"a", "c", "-"})
	matches(t, "[a-cx-z]", []string{"a", "c", "x", "y", "z"}, []string{"d", "w", "-", "{"})
	matches(t, "[-a]", []string{"-", "a"}, []string{"b", "]", "."})
	matches(t, "[a-]", []string{"-", "a"}, []string{"b", "]", "\\"})
	matches(t, "[-]", []string{"-"}, []string{"", "a"})
	matches(t, "[--]", []string{"-"}, []string{"", ",", "."})
	matches(t, "[---]", []string{"-"}, []string{"", ",", "."})
	matches(t, "[--0]", []string{"-", ".", "/", "0"}, []string{",", "1"})
	matches(t, "[+--]", []string{"+", ",", "-"}, []string{"*", "."})
	matches(t, "[a-c-e]", []string{"a", "b", "c", "-", "e"}, []string{"d", "f"})
	matches(t, "[a-c-]", []string{"a", "b", "c", "-"}, []string{"d"})
	matches(t, "[\x80-\xff]", []string{"\x80", "\xff", "\xc3"}, []string{"\x7f", "é", "", "a"})
	matches(t, "[\x00-\xff]", []string{"\x00", "\xff", "]", "a"}, []string{"", "aa"})
	matches(t, "[\xff-\x80]", nil, []string{"\x80", "\xff", "\xc3", "-"})
	matches(t, "[*?]", []string{"*", "?"}, []string{"", "a", "**"})
	matches(t, "[[]", []string{"["}, []string{"", "]", "[[]"})
	matches(t, "[a^]", []string{"a", "^"}, []string{"b", "]"})
	matches(t, "x[a]*[b]y", []string{"xaby", "xa12by"}, []string{"xay", "xby", "xaby1"})
}

// P17.4: with ^ at first one byte that is none of these.
func TestMatchOutside(t *testing.T) {
	matches(t, "[^a]", []string{"b", "^", "]", "\x00", "\xff"}, []string{"", "a", "bb", "[^a]"})
	matches(t, "[^a-c]", []string{"d", "-", "^", "`"}, []string{"a", "b", "c", ""})
	matches(t, "[^c-a]", []string{"a", "b", "c", "-", "\x00", "\xff"}, []string{"", "ab"})
	matches(t, "[^^]", []string{"a", "]"}, []string{"^", ""})
	matches(t, "[^-a]", []string{"b", "^"}, []string{"-", "a"})
	matches(t, "[^a-]", []string{"b", "^"}, []string{"-", "a"})
	matches(t, "[^\x80-\xff]", []string{"\x7f", "a"}, []string{"\x80", "\xff"})
	matches(t, "[^^-a]", []string{"]", "b"}, []string{"^", "_", "`", "a"})
	matches(t, "[^ab]*", []string{"c", "ca"}, []string{"a", "bc", ""})
}

// P17.4: a ] as first byte is one of those between; without a ] behind that, a [ is itself.
func TestMatchOpen(t *testing.T) {
	matches(t, "[]]", []string{"]"}, []string{"", "[", "[]]", "a"})
	matches(t, "[]a]", []string{"]", "a"}, []string{"", "[", "b"})
	matches(t, "[]-a]", []string{"]", "^", "`", "a"}, []string{"\\", "b", "-"})
	matches(t, "[^]]", []string{"a", "[", "^"}, []string{"]", "", "[^]]"})
	matches(t, "[^]a]", []string{"b", "[", "^"}, []string{"]", "a", ""})
	matches(t, "[^][a]", []string{"b", "^"}, []string{"]", "[", "a"})
	matches(t, "[a]]", []string{"a]"}, []string{"a", "]", "[a]]"})
	matches(t, "[a-]]", []string{"a]", "-]"}, []string{"a", "]", "b]"})
	matches(t, "[]]]", []string{"]]"}, []string{"]", "[]]]"})
	matches(t, "[", []string{"["}, []string{"", "a", "[["})
	matches(t, "[]", []string{"[]"}, []string{"", "[", "]", "a"})
	matches(t, "[^", []string{"[^"}, []string{"", "[", "^", "a"})
	matches(t, "[^]", []string{"[^]"}, []string{"", "[", "]", "a", "^", "[^"})
	matches(t, "[abc", []string{"[abc"}, []string{"a", "b", "abc", "["})
	matches(t, "[a-c", []string{"[a-c"}, []string{"a", "b"})
	matches(t, "[^a", []string{"[^a"}, []string{"b", ""})
	matches(t, "[?*", []string{"[a", "[ab", "[]"}, []string{"[", "a", ""})
	matches(t, "[\\", []string{"[\\"}, []string{"[", "\\", ""})
	matches(t, "[\\*", []string{"[*"}, []string{"[\\*", "[\\", "*"})
	matches(t, "[[", []string{"[["}, []string{"[", ""})
	matches(t, "[a][b", []string{"a[b"}, []string{"ab", "[a][b"})
	matches(t, "[^][", []string{"[^]["}, []string{"a", "", "]"})
	matches(t, "a]", []string{"a]"}, []string{"a", "]"})
}

// P17.4: \ is the byte behind it, whatever that is; the last one is itself. Between [ and ] it is a byte as others.
func TestMatchBehind(t *testing.T) {
	for _, c := range []string{"*", "?", "[", "]", "^", "-", "\\", "a", "\x00", "\xff", "n"} {
		matches(t, "\\"+c, []string{c}, []string{"", "\\" + c, "\\" + c + c, "b", c + c})
		matches(t, "x\\"+c+"y", []string{"x" + c + "y"}, []string{"x\\" + c + "y", "xy", "xby"})
		matches(t, "*\\"+c, []string{c, "b" + c, c + c, "\\" + c}, []string{"", c + "b"})
	}
	matches(t, "\\", []string{"\\"}, []string{"", "\\\\", "a"})
	matches(t, "a\\", []string{"a\\"}, []string{"a", "a\\\\"})
	matches(t, "\\\\\\", []string{"\\\\"}, []string{"\\", "\\\\\\"})
	matches(t, "*\\", []string{"\\", "a\\"}, []string{"", "a"})
	matches(t, "\\[a]", []string{"[a]"}, []string{"a", "\\[a]"})
	matches(t, "\\[a-c]", []string{"[a-c]"}, []string{"a", "b"})
	matches(t, "[\\]", []string{"\\"}, []string{"", "]", "[]"})
	matches(t, "[\\]]", []string{"\\]"}, []string{"]", "\\", "[\\]]"})
	matches(t, "[\\a]", []string{"\\", "a"}, []string{"b", "\\a"})
	matches(t, "[^\\]", []string{"a", "]"}, []string{"\\", ""})
	matches(t, "[\\^a]", []string{"\\", "^", "a"}, []string{"b"})
	matches(t, "[a\\-c]", []string{"a", "\\", "]", "^", "_", "`", "b", "c"}, []string{"-", "d", "["})
	matches(t, "[", []string{"["}, []string{"\\"})
}

// texts is all texts of at most so many of some bytes.
func texts(bytes string, most int) []string {
	out := []string{""}
	for from := 0; most > 0; most-- {
		to := len(out)
		for _, s := range out[from:to] {
			for i := range len(bytes) {
				out = append(out, s+bytes[i:i+1])
			}
		}
		from = to
	}
	return out
}

// P17.4: all short patterns describe what the chapter says.
func TestMatchAllShort(t *testing.T) {
	told := map[bool]int{}
	all := texts("ab*[]^-\\", 2)
	for _, pattern := range texts("ab*?[]^-\\", 4) {
		for _, s := range all {
			want := plainMatch(pattern, s)
			if verb.Match(pattern, s) != want {
				t.Fatalf("%q, %q: want %v", pattern, s, want)
			}
			told[want]++
		}
	}
	if told[true] < 5000 || told[false] < 100000 {
		t.Error(told)
	}
}

// P17.4: longer patterns, of bytes that are somewhat likely to describe a text.
func TestMatchAnyPattern(t *testing.T) {
	rnd := rand.New(rand.NewSource(9))
	pieces := []string{"*", "*", "?", "a", "b", "[ab]", "[^a]", "[a-c]", "[b-", "]", "[", "^", "-", "\\", "\\*", "\xff", "[\x80-\xff]", "[c-a]", "[]", "[^]", "a*", "[^c-a]"}
	const bytes = "aaaabbbc[]*-\\\xff\x80"
	told := map[bool]int{}
	for range 150000 {
		pattern, s := "", ""
		for range rnd.Intn(7) {
			pattern += pieces[rnd.Intn(len(pieces))]
		}
		for range rnd.Intn(9) {
			i := rnd.Intn(len(bytes))
			s += bytes[i : i+1]
		}
		want := plainMatch(pattern, s)
		if verb.Match(pattern, s) != want {
			t.Fatalf("%q, %q: want %v", pattern, s, want)
		}
		told[want]++
	}
	if told[true] < 5000 || told[false] < 10000 {
		t.Error(told)
	}
}

// P17.4, rule 6: many * and long texts end too.
func TestMatchGreat(t *testing.T) {
	a := strings.Repeat("a", 4000)
	for pattern, want := range map[string]bool{
		strings.Repeat("*a", 300): true, strings.Repeat("*a", 300) + "b": false, strings.Repeat("*", 5000): true, strings.Repeat("a*", 300) + "a": true, strings.Repeat("?", 4000): true,
		strings.Repeat("?", 3999): false, strings.Repeat("?", 4001): false, "*" + strings.Repeat("[a-b]", 3000) + "b": false, strings.Repeat("[", 20000): false, a: true, a + "*": true, "*" + a + "a": false,
	} {
		if verb.Match(pattern, a) != want {
			t.Errorf("%.20q: want %v", pattern, want)
		}
	}
}
