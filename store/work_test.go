package store_test

import (
	"maps"
	"math"
	"slices"
	"strconv"
	"strings"

	"intaglio/api"
	"intaglio/verb"
)

// work is one command that is being done on keys that may be thrown away.
type work struct {
	keys      map[string]item
	now, draw int
	args      []string
}

// kinds tells of which kind the first key of a command must be.
var kinds = func() map[string]int {
	out := map[string]int{}
	for kind, names := range map[int]string{
		api.VString: "GET STRLEN GETSET APPEND SETRANGE GETRANGE INCR DECR INCRBY DECRBY",
		api.VHash:   "HSET HSETNX HGET HMGET HEXISTS HDEL HLEN HGETALL HKEYS HVALS HINCRBY",
		api.VList:   "LPUSH RPUSH LPOP RPOP LLEN LRANGE LINDEX LSET LTRIM LREM RPOPLPUSH",
		api.VSet:    "SADD SREM SISMEMBER SCARD SMEMBERS SINTER SUNION SDIFF SRANDMEMBER SPOP SMOVE",
		api.VZset:   "ZADD ZREM ZSCORE ZINCRBY ZCARD ZRANK ZREVRANK ZRANGE ZREVRANGE ZRANGEBYSCORE ZCOUNT ZREMRANGEBYSCORE",
	} {
		for _, name := range strings.Fields(names) {
			out[name] = kind
		}
	}
	return out
}()

// numbers tells at which places the words of a command are numbers; inf: -inf and +inf too.
func numbers(name string, n int) (at []int, inf bool) {
	switch name {
	case "EXPIRE", "PEXPIRE", "PEXPIREAT", "INCRBY", "DECRBY", "SETRANGE", "LINDEX", "LSET", "LREM", "ZINCRBY":
		return []int{2}, false
	case "GETRANGE", "LRANGE", "LTRIM", "ZRANGE", "ZREVRANGE":
		return []int{2, 3}, false
	case "ZRANGEBYSCORE", "ZCOUNT", "ZREMRANGEBYSCORE":
		return []int{2, 3}, true
	case "HINCRBY":
		return []int{3}, false
	case "ZADD":
		for i := 2; i < n; i += 2 {
			at = append(at, i)
		}
	}
	return at, false
}

// set is what the words of SET behind its text say.
type setWords struct {
	nx, xx bool
	at     int
	wrong  string
}

// setOptions reads these words: each is held against all that may stand there.
func (w *work) setOptions() setWords {
	var o setWords
	left := w.args[3:]
	for len(left) > 0 {
		word := strings.ToUpper(left[0])
		switch {
		case (word == "NX" || word == "XX") && !(o.nx || o.xx):
			o.nx, o.xx = word == "NX", word == "XX"
			left = left[1:]
			continue
		case (word == "EX" || word == "PX") && o.at == 0 && len(left) > 1:
			n, ok := plainInt(left[1])
			if !ok {
				return setWords{wrong: eInt}
			}
			if o.at = w.later(n, word == "EX"); o.at == -1 || n < 1 {
				return setWords{wrong: eTime}
			}
			left = left[2:]
			continue
		}
		return setWords{wrong: eSyntax}
	}
	return o
}

// later is the time that is n later; -1: it may not be.
func (w *work) later(n int, seconds bool) int {
	unit := 1
	if seconds {
		unit = 1000
	}
	if n > (1<<40)/unit || n > 0 && w.now+n*unit > 1<<40 {
		return -1
	}
	if n <= 0 {
		return 0
	}
	return w.now + n*unit
}

// words tells what is wrong with the words, from left to right; "": nothing is.
func (w *work) words(name string) string {
	at, inf := numbers(name, len(w.args))
	for _, i := range at {
		if _, ok := plainInt(w.args[i]); !ok && !(inf && (w.args[i] == "-inf" || w.args[i] == "+inf")) {
			return eInt
		}
	}
	switch name {
	case "SET":
		return w.setOptions().wrong
	case "ZRANGE":
		if len(w.args) == 5 && strings.ToUpper(w.args[4]) != "WITHSCORES" {
			return eSyntax
		}
	case "EXPIRE", "PEXPIRE":
		if w.later(w.n(2), name == "EXPIRE") == -1 {
			return eTime
		}
	case "PEXPIREAT":
		if w.n(2) > 1<<40 {
			return eTime
		}
	}
	return ""
}

// n is the number of a word.
func (w *work) n(i int) int {
	switch w.args[i] {
	case "-inf":
		return math.MinInt
	case "+inf":
		return math.MaxInt
	}
	n, _ := plainInt(w.args[i])
	return n
}

// other tells whether by a key stands another kind.
func (w *work) other(key string, kind int) bool {
	x, there := w.keys[key]
	return there && x.kind != kind
}

// wrongKind tells whether one of the keys that are looked at is of another kind.
func (w *work) wrongKind(name string) bool {
	kind, has := kinds[name]
	if !has {
		return false
	}
	if w.other(w.args[1], kind) {
		return true
	}
	if _, there := w.keys[w.args[1]]; name == "RPOPLPUSH" && !there {
		return false
	}
	return slices.ContainsFunc(verb.Keys(w.args), func(key string) bool { return w.other(key, kind) })
}

// at is what stands by a key, in new memory; of a key that is not there an empty item of a kind.
func (w *work) at(key string, kind int) item {
	x, there := w.keys[key]
	if !there {
		return itemOf(api.Entry{Val: api.Val{Kind: kind}})
	}
	return itemOf(api.Entry{Val: x.val(), At: x.at})
}

// put puts an item by a key, and tells a reply, or what is wrong with the item.
func (w *work) put(key string, x item, out api.Reply) api.Reply {
	n := len(x.hash) + len(x.list) + len(x.set) + len(x.scores)
	switch {
	case x.kind == api.VString && len(x.text) > 512:
		return bad(eLong)
	case n > 200:
		return bad(eMany)
	case x.kind != api.VString && n == 0:
		delete(w.keys, key)
	default:
		w.keys[key] = x
	}
	return out
}

func (w *work) run(name string) api.Reply {
	if strings.Contains(" MULTI EXEC DISCARD WATCH UNWATCH ", " "+name+" ") {
		return bad(eHere)
	}
	if wrong := w.words(name); wrong != "" {
		return bad(wrong)
	}
	if w.wrongKind(name) {
		return bad(eKind)
	}
	switch kinds[name] {
	case api.VString:
		return w.texts(name, w.args[1], w.at(w.args[1], api.VString))
	case api.VHash:
		return w.hashes(name, w.args[1], w.at(w.args[1], api.VHash))
	case api.VList:
		return w.lists(name, w.args[1], w.at(w.args[1], api.VList))
	case api.VSet:
		return w.sets(name, w.args[1], w.at(w.args[1], api.VSet))
	case api.VZset:
		return w.scores(name, w.args[1], w.at(w.args[1], api.VZset))
	}
	return w.any(name)
}

// any does commands of keys of any kind, and of none.
func (w *work) any(name string) api.Reply {
	ok, rest := simple("OK"), w.args[1:]
	if len(rest) == 0 {
		switch name {
		case "PING":
			return simple("PONG")
		case "DBSIZE":
			return num(len(w.keys))
		}
		clear(w.keys) // FLUSHALL
		return ok
	}
	key := rest[0]
	x, there := w.keys[key]
	switch name {
	case "PING", "ECHO":
		return bulk(key)
	case "KEYS":
		return bulks(slices.DeleteFunc(sorted(w.keys), func(k string) bool { return !verb.Match(key, k) }))
	case "EXISTS", "DEL":
		n := 0
		for _, k := range rest {
			if _, is := w.keys[k]; is {
				n++
			}
			if name == "DEL" {
				delete(w.keys, k)
			}
		}
		return num(n)
	case "TYPE":
		return simple([]string{"none", "string", "hash", "list", "set", "zset"}[x.kind])
	case "RENAME":
		if !there {
			return bad(eKey)
		}
		delete(w.keys, key)
		w.keys[rest[1]] = x
		return ok
	case "EXPIRE", "PEXPIRE", "PEXPIREAT", "TTL", "PTTL", "PERSIST":
		return w.times(name, key, x, there)
	}
	return w.strings(name, key, there)
}

// times does commands of the times at which keys go.
func (w *work) times(name, key string, x item, there bool) api.Reply {
	switch name {
	case "EXPIRE", "PEXPIRE", "PEXPIREAT":
		if !there {
			return num(0)
		}
		if name == "PEXPIREAT" {
			x.at = w.n(2)
		} else {
			x.at = w.later(w.n(2), name == "EXPIRE")
		}
		w.keys[key] = x
		if x.at <= w.now {
			delete(w.keys, key)
		}
		return num(1)
	case "TTL", "PTTL":
		switch {
		case !there:
			return num(-2)
		case x.at == 0:
			return num(-1)
		case name == "PTTL":
			return num(x.at - w.now)
		}
		return num(int(math.Ceil(float64(x.at-w.now) / 1000)))
	}
	was := x.at // PERSIST
	if x.at = 0; there {
		w.keys[key] = x
	}
	return one(was > 0)
}

// strings does commands that make strings of keys of any kind, or look at these.
func (w *work) strings(name, key string, there bool) api.Reply {
	str := func(key, text string, at int) {
		x := itemOf(api.Entry{Val: api.Val{Kind: api.VString, Text: text}})
		x.at = at
		w.keys[key] = x
	}
	switch name {
	case "SET":
		o := w.setOptions()
		if o.nx && there || o.xx && !there {
			return null()
		}
		str(key, w.args[2], o.at)
	case "SETNX":
		if !there {
			str(key, w.args[2], 0)
		}
		return one(!there)
	case "MGET":
		out := api.Reply{Kind: api.RArray}
		for _, k := range w.args[1:] {
			if x := w.keys[k]; x.kind == api.VString {
				out.List = append(out.List, bulk(x.text))
			} else {
				out.List = append(out.List, null())
			}
		}
		return out
	case "MSET":
		for i := 1; i < len(w.args); i += 2 {
			str(w.args[i], w.args[i+1], 0)
		}
	}
	return simple("OK")
}

// raise is a text's number and sign * by, as a text, or what is wrong.
func raise(text string, by, sign int) (string, int, string) {
	n := 0
	if text != "" {
		var ok bool
		if n, ok = plainInt(text); !ok {
			return "", 0, eInt
		}
	}
	s, ok := plainSum(n, by, sign)
	if !ok || sign < 0 && by == math.MinInt {
		return "", 0, eOver
	}
	return strconv.Itoa(s), s, ""
}

func (w *work) texts(name, key string, x item) api.Reply {
	_, there := w.keys[key]
	was := null()
	if there {
		was = bulk(x.text)
	}
	switch name {
	case "GET":
		return was
	case "STRLEN":
		return num(len(x.text))
	case "GETSET":
		x.text, x.at = w.args[2], 0
		return w.put(key, x, was)
	case "APPEND":
		x.text += w.args[2]
		return w.put(key, x, num(len(x.text)))
	case "SETRANGE":
		at, t := w.n(2), w.args[3]
		if at < 0 || at > 512 {
			return bad(ePlace)
		}
		if t == "" {
			return num(len(x.text))
		}
		for len(x.text) < at {
			x.text += "\x00"
		}
		head, tail := x.text[:at], ""
		if at+len(t) < len(x.text) {
			tail = x.text[at+len(t):]
		}
		x.text = head + t + tail
		return w.put(key, x, num(len(x.text)))
	case "GETRANGE":
		out := ""
		for _, i := range plainPlaces(w.n(2), w.n(3), len(x.text)) {
			out += x.text[i : i+1]
		}
		return bulk(out)
	}
	by, sign := 1, 1
	if len(w.args) > 2 {
		by = w.n(2)
	}
	if strings.HasPrefix(name, "DECR") {
		sign = -1
	}
	text, n, wrong := raise(x.text, by, sign)
	if wrong != "" {
		return bad(wrong)
	}
	x.text = text
	return w.put(key, x, num(n))
}

func (w *work) hashes(name, key string, x item) api.Reply {
	rest := w.args[2:]
	n := 0
	var l []string
	for _, f := range sorted(x.hash) {
		switch name {
		case "HGETALL":
			l = append(l, f, x.hash[f])
		case "HKEYS":
			l = append(l, f)
		case "HVALS":
			l = append(l, x.hash[f])
		}
	}
	switch name {
	case "HGETALL", "HKEYS", "HVALS":
		return bulks(l)
	case "HLEN":
		return num(len(x.hash))
	case "HSET":
		before := len(x.hash)
		for i := 0; i < len(rest); i += 2 {
			x.hash[rest[i]] = rest[i+1]
		}
		return w.put(key, x, num(len(x.hash)-before))
	case "HDEL":
		before := len(x.hash)
		for _, f := range rest {
			delete(x.hash, f)
		}
		return w.put(key, x, num(before-len(x.hash)))
	case "HMGET":
		out := api.Reply{Kind: api.RArray}
		for _, f := range rest {
			r := null()
			if t, there := x.hash[f]; there {
				r = bulk(t)
			}
			out.List = append(out.List, r)
		}
		return out
	}
	text, there := x.hash[rest[0]]
	switch name {
	case "HGET":
		if there {
			return bulk(text)
		}
		return null()
	case "HEXISTS":
		return one(there)
	case "HSETNX":
		if !there {
			x.hash[rest[0]] = rest[1]
		}
		return w.put(key, x, one(!there))
	}
	text, n, wrong := raise(text, w.n(3), 1) // HINCRBY
	if wrong != "" {
		return bad(wrong)
	}
	x.hash[rest[0]] = text
	return w.put(key, x, num(n))
}

func (w *work) lists(name, key string, x item) api.Reply {
	n, rest := len(x.list), w.args[2:]
	switch name {
	case "LLEN":
		return num(n)
	case "LPUSH", "RPUSH":
		for _, t := range rest {
			if name == "LPUSH" {
				x.list = append([]string{t}, x.list...)
			} else {
				x.list = append(x.list, t)
			}
		}
		return w.put(key, x, num(len(x.list)))
	case "LRANGE", "LTRIM":
		var l []string
		for _, i := range plainPlaces(w.n(2), w.n(3), n) {
			l = append(l, x.list[i])
		}
		if name == "LRANGE" {
			return bulks(l)
		}
		x.list = l
		return w.put(key, x, simple("OK"))
	case "LREM":
		return w.lrem(key, x, w.n(2), rest[1])
	case "LINDEX", "LSET":
		return w.listAt(name, key, x, w.n(2))
	}
	if n == 0 {
		return null()
	}
	first, last := x.list[0], x.list[n-1]
	switch name {
	case "LPOP":
		x.list = x.list[1:]
		return w.put(key, x, bulk(first))
	case "RPOP":
		x.list = x.list[:n-1]
		return w.put(key, x, bulk(last))
	}
	x.list = x.list[:n-1] // RPOPLPUSH
	if rest[0] == key {
		x.list = append([]string{last}, x.list...)
		return w.put(key, x, bulk(last))
	}
	y := w.at(rest[0], api.VList)
	y.list = append([]string{last}, y.list...)
	w.put(key, x, null())
	return w.put(rest[0], y, bulk(last))
}

// listAt does commands of one place of a list.
func (w *work) listAt(name, key string, x item, at int) api.Reply {
	n := len(x.list)
	if at < 0 {
		at += n
	}
	out := at < 0 || at >= n
	switch {
	case name == "LINDEX" && out:
		return null()
	case name == "LINDEX":
		return bulk(x.list[at])
	case n == 0:
		return bad(eKey)
	case out:
		return bad(ePlace)
	}
	x.list[at] = w.args[3]
	return w.put(key, x, simple("OK"))
}

// lrem goes through the list from the front or from the end, and leaves a mark by what goes.
func (w *work) lrem(key string, x item, n int, text string) api.Reply {
	goes := make([]bool, len(x.list))
	count := 0
	for i := range x.list {
		if n < 0 {
			i = len(x.list) - 1 - i
		}
		if x.list[i] == text && (n == 0 || n > 0 && count < n || n < 0 && -count > n) {
			goes[i] = true
			count++
		}
	}
	var l []string
	for i, t := range x.list {
		if !goes[i] {
			l = append(l, t)
		}
	}
	x.list = l
	return w.put(key, x, num(count))
}

func (w *work) sets(name, key string, x item) api.Reply {
	rest := w.args[2:]
	before := len(x.set)
	switch name {
	case "SCARD":
		return num(before)
	case "SMEMBERS":
		return bulks(sorted(x.set))
	case "SISMEMBER":
		return one(x.set[rest[0]])
	case "SADD":
		for _, m := range rest {
			x.set[m] = true
		}
		return w.put(key, x, num(len(x.set)-before))
	case "SREM":
		for _, m := range rest {
			delete(x.set, m)
		}
		return w.put(key, x, num(before-len(x.set)))
	case "SINTER", "SUNION", "SDIFF":
		in := map[string]int{}
		for _, k := range w.args[1:] {
			for m := range w.at(k, api.VSet).set {
				in[m]++
			}
		}
		return bulks(slices.DeleteFunc(sorted(in), func(m string) bool {
			return name == "SINTER" && in[m] < len(w.args)-1 || name == "SDIFF" && (in[m] > 1 || !x.set[m])
		}))
	case "SRANDMEMBER", "SPOP":
		if before == 0 {
			return null()
		}
		m := sorted(x.set)[int(uint64(w.draw)%uint64(before))]
		if name == "SPOP" {
			delete(x.set, m)
		}
		return w.put(key, x, bulk(m))
	}
	to, m := rest[0], rest[1] // SMOVE
	if !x.set[m] {
		return num(0)
	}
	if to == key {
		return num(1)
	}
	y := w.at(to, api.VSet)
	delete(x.set, m)
	y.set[m] = true
	w.put(key, x, null())
	return w.put(to, y, num(1))
}

func (w *work) scores(name, key string, x item) api.Reply {
	rest, all := w.args[2:], order(x.scores)
	before := len(all)
	switch name {
	case "ZCARD":
		return num(before)
	case "ZADD":
		for i := 0; i < len(rest); i += 2 {
			x.scores[rest[i+1]] = w.n(i + 2)
		}
		return w.put(key, x, num(len(x.scores)-before))
	case "ZREM":
		for _, m := range rest {
			delete(x.scores, m)
		}
		return w.put(key, x, num(before-len(x.scores)))
	case "ZINCRBY":
		n, ok := plainSum(x.scores[rest[1]], w.n(2), 1)
		if !ok {
			return bad(eOver)
		}
		x.scores[rest[1]] = n
		return w.put(key, x, bulk(strconv.Itoa(n)))
	case "ZSCORE", "ZRANK", "ZREVRANK":
		i := slices.Index(all, rest[0])
		switch {
		case i < 0:
			return null()
		case name == "ZSCORE":
			return bulk(strconv.Itoa(x.scores[rest[0]]))
		case name == "ZREVRANK":
			return num(before - 1 - i)
		}
		return num(i)
	case "ZRANGE", "ZREVRANGE":
		if name == "ZREVRANGE" {
			slices.Reverse(all)
		}
		var l []string
		for _, i := range plainPlaces(w.n(2), w.n(3), before) {
			if l = append(l, all[i]); len(rest) == 3 {
				l = append(l, strconv.Itoa(x.scores[all[i]]))
			}
		}
		return bulks(l)
	}
	within := slices.DeleteFunc(slices.Clone(all), func(m string) bool { return x.scores[m] < w.n(2) || x.scores[m] > w.n(3) })
	switch name {
	case "ZRANGEBYSCORE":
		return bulks(within)
	case "ZREMRANGEBYSCORE":
		maps.DeleteFunc(x.scores, func(m string, _ int) bool { return slices.Contains(within, m) })
		return w.put(key, x, num(len(within)))
	}
	return num(len(within)) // ZCOUNT
}
