package verb_test

import (
	"math"
	"math/big"
	"math/rand"
	"slices"
	"strconv"
	"strings"
	"testing"

	"intaglio/verb"
)

// plainUpper is Upper by two alphabets.
func plainUpper(s string) string {
	var b strings.Builder
	for i := range len(s) {
		at := strings.IndexByte("abcdefghijklmnopqrstuvwxyz", s[i])
		if at >= 0 {
			b.WriteByte("ABCDEFGHIJKLMNOPQRSTUVWXYZ"[at])
		} else {
			b.WriteByte(s[i])
		}
	}
	return b.String()
}

// P17.1: a to z alone become A to Z, byte by byte.
func TestUpper(t *testing.T) {
	for c := range 256 {
		one := string([]byte{byte(c)})
		for _, s := range []string{one, "a" + one, one + "z", "\xc3" + one, one + "\x80", "Ab" + one + "yZ", one + one} {
			if got := verb.Upper(s); got != plainUpper(s) {
				t.Errorf("%q: %q, want %q", s, got, plainUpper(s))
			}
		}
	}
	for from, want := range map[string]string{"": "", "get": "GET", "gEt k": "GET K", "ſeté": "ſETé", "ıß": "ıß", "\xff\x00z": "\xff\x00Z", "`a{z@A[Z": "`A{Z@A[Z"} {
		if got := verb.Upper(from); got != want {
			t.Errorf("%q: %q, want %q", from, got, want)
		}
	}
	if got := verb.Upper(strings.Repeat("aé", 100000)); got != strings.Repeat("Aé", 100000) {
		t.Error("a long text")
	}
}

// P17.1: of each command of the table its spec, in whatever letters its name is.
func TestFind(t *testing.T) {
	if n := len(known()); n != 79 {
		t.Fatalf("the test is wrong: %d commands", n)
	}
	for _, want := range known() {
		for _, name := range letters(want.Name) {
			if got, ok := verb.Find(name); !ok || got != want {
				t.Errorf("%s: %v %v, want %v", name, got, ok, want)
			}
		}
	}
}

// Ways: where the keys of a command stand is promoted.
func TestPlacePromoted(t *testing.T) {
	s, _ := verb.Find("mset")
	if s.First != 1 || s.Last != -1 || s.Step != 2 || s.Place != (verb.Place{First: 1, Last: -1, Step: 2}) {
		t.Error(s)
	}
}

// others are names that no command has, among them those which are like one.
func others() []string {
	out := []string{"", " ", "*", "G", "INFO", "SELECT", "SETEX", "HSETALL", "LINSERT", "ZREVRANGEBYSCORE", "\x00", "ſET", "pıng", "PİNG", "ＧＥＴ", long(600)}
	is := map[string]bool{}
	for _, s := range known() {
		is[s.Name] = true
	}
	for _, s := range known() {
		for _, name := range []string{s.Name, strings.ToLower(s.Name)} {
			near := []string{" " + name, name + " ", name + "\x00", name + "S", name + name, "Z" + name, name + "\r\n", name[1:], name[:len(name)-1]}
			for i := range len(name) {
				for _, by := range []byte{1, 0x40, 0x80, 0xa0} {
					b := []byte(name)
					b[i] ^= by
					near = append(near, string(b))
				}
			}
			for _, x := range near {
				if !is[strings.ToUpper(x)] {
					out = append(out, x)
				}
			}
		}
	}
	return out
}

// P17.1, P17.2: a name that is none has no spec and no keys.
func TestNoCommand(t *testing.T) {
	for _, name := range others() {
		if s, ok := verb.Find(name); ok || s != (verb.Spec{}) {
			t.Errorf("%q: %v %v", name, s, ok)
		}
		for _, args := range [][]string{{name}, {name, "k"}, {name, "", long(513)}, append([]string{name}, make([]string, 50)...)} {
			if l := verb.Keys(args); len(l) != 0 {
				t.Errorf("%q: keys %q", name, l)
			}
			if s, e := verb.Check(args); e != "ERR unknown command" || s != (verb.Spec{}) {
				t.Errorf("%q: %q, %v", name, e, s)
			}
		}
	}
	for _, args := range [][]string{nil, {}} {
		if l := verb.Keys(args); len(l) != 0 {
			t.Errorf("no word: %q", l)
		}
		if s, e := verb.Check(args); e != "ERR unknown command" || s != (verb.Spec{}) {
			t.Errorf("no word: %q, %v", e, s)
		}
	}
}

// words are a command's name and so many words less one, all unlike.
func words(name string, n int) []string {
	out := []string{name}
	for i := 1; i < n; i++ {
		out = append(out, "w"+strconv.Itoa(i))
	}
	return out[:n]
}

// P17.1: keys by First, Last and Step, as far as they are there, be there too few words or too many.
func TestKeys(t *testing.T) {
	for _, s := range known() {
		for n := 1; n < 60; n++ {
			for _, name := range letters(s.Name) {
				args := words(name, n)
				if got, want := verb.Keys(args), plainKeys(s, args); !slices.Equal(got, want) {
					t.Errorf("%q: %q, want %q", args, got, want)
				}
			}
		}
	}
	for _, c := range []struct{ args, want string }{
		{"PING a", ""}, {"KEYS a", ""}, {"FLUSHALL a", ""}, {"GET", ""}, {"GET a", "a"}, {"GET a b", "a"}, {"del a b a", "a b a"}, {"RENAME a", "a"}, {"RENAME a b c", "a b"},
		{"SMOVE a b m", "a b"}, {"MSET", ""}, {"MSET a", "a"}, {"MSET a 1", "a"}, {"MSET a 1 b", "a b"}, {"mset a 1 b 2", "a b"}, {"HMGET k f g", "k"}, {"WATCH a b c", "a b c"}, {"SDIFF a", "a"},
	} {
		if got := verb.Keys(strings.Fields(c.args)); strings.Join(got, " ") != c.want {
			t.Errorf("%s: %q, want %s", c.args, got, c.want)
		}
	}
	if got := verb.Keys([]string{"DEL", "", long(65), long(600)}); len(got) != 3 || got[0] != "" {
		t.Errorf("keys that may not be: %d", len(got))
	}
}

// P17.1, rule 4: keys are new memory, and words stay as they are.
func TestKeysNew(t *testing.T) {
	for _, s := range known() {
		args := words(strings.ToLower(s.Name), 7)
		one, two := verb.Keys(args), verb.Keys(args)
		clear(one)
		verb.Check(args)
		if !slices.Equal(args, words(strings.ToLower(s.Name), 7)) || !slices.Equal(two, plainKeys(s, args)) {
			t.Errorf("%q, %q", args, two)
		}
	}
}

// checks asks what Check tells of a command's words.
func checks(t *testing.T, s verb.Spec, args []string, want string) {
	t.Helper()
	told := verb.Spec{}
	if want == "" {
		told = s
	}
	if got, e := verb.Check(args); e != want || got != told {
		t.Errorf("%.200q: %q, %v, want %q", args, e, got, want)
	}
	if e := plainCheck(s, args); e != want {
		t.Errorf("%.200q: the test is wrong: %q, want %q", args, e, want)
	}
}

// P17.2: each command has from Min to Max words, of the right number.
func TestCheckCount(t *testing.T) {
	for _, s := range known() {
		for n := 1; n < 90; n++ {
			for _, name := range letters(s.Name) {
				args := words(name, n)
				checks(t, s, args, plainCheck(s, args))
			}
		}
	}
	const wrong = "ERR wrong number of arguments"
	for args, want := range map[string]string{
		"PING": "", "PING a": "", "PING a b": wrong, "ECHO": wrong, "ECHO a": "", "ECHO a b": wrong, "EXEC": "", "EXEC a": wrong, "FLUSHALL": "", "FLUSHALL a": wrong,
		"DEL": wrong, "DEL a": "", "GET": wrong, "GET a": "", "GET a b": wrong, "SET k": wrong, "SET k t": "", "SET k t NX EX 1": "", "SET k t NX EX 1 b": "", "SET k t NX EX 1 b c": wrong,
		"MSET a": wrong, "MSET a b": "", "MSET a b c": wrong, "MSET a b c d": "", "HSET k": wrong, "HSET k a": wrong, "HSET k a b": "", "HSET k a b c": wrong, "HSET k a b c d": "",
		"ZADD k 1": wrong, "ZADD k 1 a": "", "ZADD k 1 a 2": wrong, "ZRANGE k 0 1": "", "ZRANGE k 0 1 a": "", "ZRANGE k 0 1 a b": wrong, "ZRANGE k 0": wrong,
		"HMGET k": wrong, "HMGET k f": "", "SMOVE a b": wrong, "SMOVE a b c": "", "RENAME a": wrong, "RENAME a b": "", "RENAME a b c": wrong,
	} {
		s, _ := verb.Find(strings.Fields(args)[0])
		checks(t, s, strings.Fields(args), want)
	}
	for name, most := range map[string]int{"DEL": 40, "WATCH": 40, "MSET": 39, "HSET": 40, "ZADD": 40, "HMGET": 40, "LPUSH": 40} {
		s, _ := verb.Find(name)
		for n := most - 2; n < most+4; n++ {
			right := n <= most && (name != "MSET" || n%2 == 1) && (!s.Even || n%2 == 0)
			want := ""
			if !right {
				want = wrong
			}
			checks(t, s, words(name, n), want)
		}
	}
}

// each tells words with one of them changed, at each place behind the name.
func each(args []string, to string, tell func(place int, changed []string)) {
	for i := 1; i < len(args); i++ {
		changed := slices.Clone(args)
		changed[i] = to
		tell(i, changed)
	}
}

// isKey tells whether the word at a place of so many is a key.
func isKey(s verb.Spec, place, of int) bool {
	marked := make([]string, of)
	marked[place] = "x"
	return slices.Contains(plainKeys(s, marked), "x")
}

// P17.2: words of at most 512 bytes, keys of 1 to 64; it matters where a word stands.
func TestCheckLong(t *testing.T) {
	for _, s := range known() {
		for n := s.Min; n <= min(s.Max, s.Min+5); n++ {
			args := words(s.Name, n)
			if plainCheck(s, args) != "" {
				continue
			}
			for length, key := range map[int]string{0: "ERR bad key", 1: "", 2: "", 63: "", 64: "", 65: "ERR bad key", 100: "ERR bad key", 511: "ERR bad key", 512: "ERR bad key"} {
				each(args, long(length), func(place int, changed []string) {
					want := ""
					if isKey(s, place, n) {
						want = key
					}
					checks(t, s, changed, want)
				})
			}
			for _, length := range []int{513, 514, 1 << 16} {
				each(args, long(length), func(_ int, changed []string) { checks(t, s, changed, "ERR too long") })
			}
			each(args, "\xff\x00\r\n é", func(_ int, changed []string) { checks(t, s, changed, "") })
		}
	}
	for _, last := range []int{37, 38, 39} {
		for to, want := range map[string]string{long(64): "", long(65): "ERR bad key", "": "ERR bad key", long(513): "ERR too long"} {
			args := words("DEL", 40)
			args[last] = to
			s, _ := verb.Find("DEL")
			checks(t, s, args, want)
		}
	}
}

// P17.2: of several errors the first one in the chapter's order is told, wherever they stand.
func TestCheckFirst(t *testing.T) {
	del, _ := verb.Find("DEL")
	mset, _ := verb.Find("MSET")
	get, _ := verb.Find("GET")
	for range 2 {
		checks(t, get, []string{"GET", "", long(513)}, "ERR wrong number of arguments")
		checks(t, get, []string{"GET", long(513), ""}, "ERR wrong number of arguments")
		checks(t, get, []string{"GET", long(513)}, "ERR too long")
		checks(t, del, []string{"DEL", "", long(513)}, "ERR too long")
		checks(t, del, []string{"DEL", long(65), "a", long(513), ""}, "ERR too long")
		checks(t, del, []string{"DEL", long(513), long(65)}, "ERR too long")
		checks(t, del, append(words("DEL", 40), ""), "ERR wrong number of arguments")
		checks(t, mset, []string{"MSET", "", "", "", long(513)}, "ERR too long")
		checks(t, mset, []string{"MSET", "", "", long(513)}, "ERR wrong number of arguments")
		checks(t, mset, []string{"MSET", "a", "", "b", ""}, "")
		checks(t, mset, []string{"MSET", "a", long(512), "b", long(100)}, "")
		checks(t, mset, []string{"MSET", "a", "", "", ""}, "ERR bad key")
	}
	for _, args := range [][]string{{"NONE", "", long(513)}, {"", ""}, {long(513)}} {
		if s, e := verb.Check(args); e != "ERR unknown command" || s != (verb.Spec{}) {
			t.Errorf("%.20q: %q", args, e)
		}
	}
}

// plainInt is the number of a text by the chapter's words: big enough, and held against the text that it has.
func plainInt(s string) (int, bool) {
	digits := strings.TrimPrefix(s, "-")
	for _, c := range []byte(digits) {
		if c < '0' || c > '9' {
			return 0, false
		}
	}
	if digits == "" || digits[0] == '0' && (len(s) > 1) {
		return 0, false
	}
	n, _ := new(big.Int).SetString(s, 10)
	if !n.IsInt64() {
		return 0, false
	}
	return int(n.Int64()), true
}

// P17.3: a text has a number in one form alone, from -2^63 to 2^63 - 1.
func TestInt(t *testing.T) {
	for s, want := range map[string]int{
		"0": 0, "1": 1, "-1": -1, "9": 9, "10": 10, "-10": -10, "100": 100, "1234567890": 1234567890, "9223372036854775807": math.MaxInt, "-9223372036854775808": math.MinInt,
		"9223372036854775806": math.MaxInt - 1, "-9223372036854775807": math.MinInt + 1, "999999999999999999": 999999999999999999, "1000000000000000000": 1000000000000000000,
	} {
		if n, ok := verb.Int(s); n != want || !ok {
			t.Errorf("%s: %d %v", s, n, ok)
		}
	}
	for _, s := range []string{
		"", "-", "--1", "-0", "00", "01", "-01", "007", "000", "+0", "+1", " 1", "1 ", "1 2", "1a", "a1", "1.0", "1e3", "0x1", "1_000", "١", "１", "\x001", "1\x00", "1\n", "1\r\n", "-\xff", "−1", "0-", "1-", "1-1",
		"9223372036854775808", "-9223372036854775809", "9223372036854775810", "18446744073709551615", "18446744073709551616", "18446744073709551617", "-18446744073709551616", "10000000000000000000",
		"99999999999999999999", strings.Repeat("9", 500), "1" + strings.Repeat("0", 100000), "-" + strings.Repeat("8", 200), "0" + strings.Repeat("0", 30), "00000000000000000000001", "-00", "inf", "nil",
	} {
		if n, ok := verb.Int(s); n != 0 || ok {
			t.Errorf("%.40q: %d %v", s, n, ok)
		}
	}
}

// P17.3: texts of few kinds of bytes have the numbers that the chapter says.
func TestIntAnyText(t *testing.T) {
	const bytes = "0123456789-+. a"
	told := map[bool]int{}
	var all func(s string, more int)
	ask := func(s string) {
		n, ok := verb.Int(s)
		want, is := plainInt(s)
		if n != want || ok != is {
			t.Errorf("%q: %d %v, want %d %v", s, n, ok, want, is)
		}
		told[ok]++
	}
	all = func(s string, more int) {
		ask(s)
		for i := 0; more > 0 && i < len(bytes); i++ {
			all(s+bytes[i:i+1], more-1)
		}
	}
	all("", 4)
	rnd := rand.New(rand.NewSource(7))
	for range 30000 {
		s := []byte(strconv.Itoa(int(rnd.Uint64() >> rnd.Intn(64))))
		for range rnd.Intn(3) {
			i := rnd.Intn(len(s) + 1)
			if rnd.Intn(2) == 0 {
				s = slices.Insert(s, i, bytes[rnd.Intn(11)])
			} else if i < len(s) {
				s[i] = bytes[rnd.Intn(10)]
			}
		}
		ask(string(s))
	}
	if told[true] < 10000 || told[false] < 10000 {
		t.Error(told)
	}
}

// P17.3: the text of a number is that of which Int tells it.
func TestText(t *testing.T) {
	for n, want := range map[int]string{0: "0", 1: "1", -1: "-1", 10: "10", -105: "-105", math.MaxInt: "9223372036854775807", math.MinInt: "-9223372036854775808"} {
		if got := verb.Text(n); got != want {
			t.Errorf("%d: %q", n, got)
		}
	}
	rnd := rand.New(rand.NewSource(8))
	for range 5000 {
		n := int(rnd.Uint64()) >> rnd.Intn(64)
		if got, ok := verb.Int(verb.Text(n)); got != n || !ok {
			t.Errorf("%d: %q, %d %v", n, verb.Text(n), got, ok)
		}
	}
}
