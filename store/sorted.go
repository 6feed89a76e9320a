package store

import (
	"math"
	"slices"

	"intaglio/api"
	"intaglio/verb"
)

// sortedDoer is what does a command of sorted sets; nil: it is no such command.
func sortedDoer(name string) doer {
	switch name {
	case "ZADD":
		return (*task).putScores
	case "ZREM":
		return (*task).dropMembers
	case "ZSCORE":
		return (*task).score
	case "ZINCRBY":
		return (*task).countScore
	case "ZCARD":
		return func(t *task) api.Reply { return number(t.first(api.VZset).Len()) }
	case "ZRANK":
		return (*task).rank
	case "ZREVRANK":
		return (*task).rankFromEnd
	case "ZRANGE":
		return (*task).sortedRange
	case "ZREVRANGE":
		return (*task).rangeFromEnd
	case "ZRANGEBYSCORE":
		return func(t *task) api.Reply { return members(t.between(), false) }
	case "ZCOUNT":
		return func(t *task) api.Reply { return number(len(t.between())) }
	case "ZREMRANGEBYSCORE":
		return (*task).dropBetween
	}
	return nil
}

func (t *task) putScores() api.Reply {
	var l []api.Score
	for i := 2; i < len(t.words); i += 2 {
		l = append(l, api.Score{Member: t.words[i+1], Score: t.num(i)})
	}
	v := t.first(api.VZset)
	n := 0
	for _, s := range l {
		if v.Sorted().Put(s.Member, s.Score) {
			n++
		}
	}
	t.update(t.key(), v)
	return number(n)
}

func (t *task) dropMembers() api.Reply {
	v := t.first(api.VZset)
	n := counted(t.words[2:], v.Sorted().Drop)
	t.update(t.key(), v)
	return number(n)
}

func (t *task) score() api.Reply {
	score, there := t.first(api.VZset).Sorted().Score(t.words[2])
	return textIf(verb.Text(score), there)
}

func (t *task) countScore() api.Reply {
	by, m := t.num(2), t.words[3]
	v := t.first(api.VZset)
	score, _ := v.Sorted().Score(m)
	total := sum(score, by)
	v.Sorted().Put(m, total)
	t.update(t.key(), v)
	return text(verb.Text(total))
}

func (t *task) rank() api.Reply { return numberIf(t.first(api.VZset).Sorted().Rank(t.words[2])) }

func (t *task) rankFromEnd() api.Reply {
	z := t.first(api.VZset).Sorted()
	ahead, there := z.Rank(t.words[2])
	return numberIf(z.Len()-1-ahead, there)
}

// members is a list of members, each followed by its score, if that is to be told.
func members(l []api.Score, scores bool) api.Reply {
	var out []string
	for _, s := range l {
		out = append(out, s.Member)
		if scores {
			out = append(out, verb.Text(s.Score))
		}
	}
	return texts(out...)
}

// withScores tells whether a word is there, that may be WITHSCORES alone.
func (t *task) withScores(word int) bool {
	if len(t.words) == word {
		return false
	}
	if verb.Upper(t.words[word]) != "WITHSCORES" {
		panic(badWord)
	}
	return true
}

func (t *task) sortedRange() api.Reply {
	a, b, scores := t.num(2), t.num(3), t.withScores(4)
	z := t.first(api.VZset).Sorted()
	return members(z.Range(places(a, b, z.Len())), scores)
}

func (t *task) rangeFromEnd() api.Reply {
	a, b := t.num(2), t.num(3)
	z := t.first(api.VZset).Sorted()
	n := z.Len()
	from, to := places(a, b, n)
	l := z.Range(n-to, n-from)
	slices.Reverse(l)
	return members(l, false)
}

// bound is the score of a word, that may be -inf or +inf too.
func (t *task) bound(word int) int {
	switch t.words[word] {
	case "-inf":
		return math.MinInt
	case "+inf":
		return math.MaxInt
	}
	return t.num(word)
}

// between is those members whose scores are from one word's to another one's.
func (t *task) between() []api.Score {
	low, high := t.bound(2), t.bound(3)
	return t.first(api.VZset).Sorted().Between(low, high)
}

func (t *task) dropBetween() api.Reply {
	l := t.between()
	v := t.first(api.VZset)
	for _, s := range l {
		v.Sorted().Drop(s.Member)
	}
	t.update(t.key(), v)
	return number(len(l))
}
