package store_test

import (
	"math"
	"testing"

	"intaglio/verb"
)

// P18.1: ZADD, ZREM, ZSCORE, ZCARD, ZRANK, ZREVRANK.
func TestScores(t *testing.T) {
	ahead := []string{"ZADD z 2 b 1 a 2 <0> 9223372036854775807 max -9223372036854775808 min", "5"}
	each(t, ahead, "ZADD z 5 c", "1", "ZADD z 5 a", "0", "ZADD z 5 c 6 c 7 a 8 d", "2", "ZADD none 1 a 2 a", "1", "ZADD z 5 <0>", "0", "ZADD z 9223372036854775808 a", "-"+eInt, "ZADD z 1.5 a", "-"+eInt, "ZADD z +inf a", "-"+eInt, "ZADD z -inf a", "-"+eInt,
		"ZREM z a", "1", "ZREM z x", "0", "ZREM z a x a b", "2", "ZREM none a", "0", "ZSCORE z b", "'2'", "ZSCORE z <0>", "'2'", "ZSCORE z min", "'-9223372036854775808'", "ZSCORE z max", "'9223372036854775807'", "ZSCORE z x", "nil", "ZSCORE none a", "nil", "ZCARD z", "5", "ZCARD none", "0",
		"ZRANK z min", "0", "ZRANK z a", "1", "ZRANK z <0>", "2", "ZRANK z b", "3", "ZRANK z max", "4", "ZRANK z x", "nil", "ZRANK none a", "nil", "ZREVRANK z min", "4", "ZREVRANK z a", "3", "ZREVRANK z <0>", "2", "ZREVRANK z b", "1", "ZREVRANK z max", "0", "ZREVRANK z x", "nil", "ZREVRANK none a", "nil")
	each(t, []string{"ZADD k 1 k", "1"}, "ZREM k m", "0", "ZREM k k", "1", "ZADD k 1 m", "1", "ZRANK k m", "nil")
	b := newBoth(plenty)
	b.told(t, ahead...)
	b.told(t, "ZADD z 0 b 3 c 4 c", "1", "ZRANGE z 0 -1 WITHSCORES", "['min' '-9223372036854775808' 'b' '0' 'a' '1' '' '2' 'c' '4' 'max' '9223372036854775807']", "ZREM z min max", "2", "ZRANGE z 0 -1", "['b' 'a' '' 'c']")
}

// P18.1: ZINCRBY as INCRBY, told as a text; a member that is not there had 0.
func TestScoreCount(t *testing.T) {
	each(t, []string{"ZADD z 5 a 9223372036854775807 max -9223372036854775808 min", "3"}, "ZINCRBY z 1 a", "'6'", "ZINCRBY z -9 a", "'-4'", "ZINCRBY z 0 a", "'5'", "ZINCRBY z 3 b", "'3'", "ZINCRBY none -3 b", "'-3'", "ZINCRBY none 0 b", "'0'", "ZINCRBY z 1 max", "-"+eOver, "ZINCRBY z -1 min", "-"+eOver,
		"ZINCRBY z -9223372036854775808 max", "'-1'", "ZINCRBY z 9223372036854775807 min", "'-1'", "ZINCRBY z 9223372036854775803 a", "-"+eOver, "ZINCRBY z 9223372036854775802 a", "'9223372036854775807'", "ZINCRBY none -9223372036854775808 a", "'-9223372036854775808'", "ZINCRBY z x a", "-"+eInt, "ZINCRBY z +inf a", "-"+eInt, "ZINCRBY z 1.5 a", "-"+eInt)
	b := newBoth(plenty)
	b.told(t, "ZINCRBY z 5 a", "'5'", "ZINCRBY z 3 b", "'3'", "ZRANGE z 0 -1", "['b' 'a']", "ZINCRBY z 3 b", "'6'", "ZRANGE z 0 -1 WITHSCORES", "['a' '5' 'b' '6']")
}

// P18.1: members at places, from the front and from the end, beyond and crossed; the second command's places count from the end.
func TestSortedPlaces(t *testing.T) {
	edges := []int{math.MinInt, -6, -5, -4, -3, -1, 0, 1, 3, 4, 5, math.MaxInt}
	for _, key := range []string{"z", "none"} {
		for _, x := range edges {
			for _, y := range edges {
				b := newBoth(plenty)
				b.told(t, "ZADD z 1 a 2 b 3 c 4 d", "4", "RPUSH up a b c d", "4", "RPUSH down d c b a", "4")
				places := " " + verb.Text(x) + " " + verb.Text(y)
				if key == "none" {
					b.told(t, "DEL up down", "2")
				}
				b.told(t, "ZRANGE "+key+places, show(b.do(t, words("LRANGE up"+places)...)), "ZREVRANGE "+key+places, show(b.do(t, words("LRANGE down"+places)...)))
			}
		}
	}
	each(t, []string{"ZADD z 2 b 1 a 3 c", "3"}, "ZRANGE z 0 -1", "['a' 'b' 'c']", "ZRANGE z 0 0", "['a']", "ZRANGE z -1 -1", "['c']", "ZRANGE z 1 9", "['b' 'c']", "ZRANGE z 3 9", "[]", "ZRANGE z 1 0", "[]", "ZRANGE z 0 1 WITHSCORES", "['a' '1' 'b' '2']", "ZRANGE z 0 1 withscores", "['a' '1' 'b' '2']", "ZRANGE none 0 -1 WithScores", "[]",
		"ZRANGE z 5 9 WITHSCORES", "[]", "ZRANGE z 0 1 WITHSCORE", "-"+eSyntax, "ZRANGE z 0 1 <0>", "-"+eSyntax, "ZREVRANGE z 0 -1", "['c' 'b' 'a']", "ZREVRANGE z 0 0", "['c']", "ZREVRANGE z -1 -1", "['a']", "ZREVRANGE z 1 9", "['b' 'a']", "ZREVRANGE z 3 9", "[]", "ZREVRANGE none 0 -1", "[]", "ZREVRANGE z 0 1 WITHSCORES", "-ERR wrong number of arguments")
}

// P18.1: members by their scores, both bounds among them; -inf is the least, +inf the greatest.
func TestBetween(t *testing.T) {
	for bounds, want := range map[string]struct{ members, count string }{
		"1 3": {"['a' 'b' 'b2' 'c']", "4"}, "2 2": {"['b' 'b2']", "2"}, "3 1": {"[]", "0"}, "4 9": {"[]", "0"}, "-inf +inf": {"['min' 'a' 'b' 'b2' 'c' 'max']", "6"}, "-inf 1": {"['min' 'a']", "2"}, "3 +inf": {"['c' 'max']", "2"}, "+inf -inf": {"[]", "0"}, "+inf +inf": {"['max']", "1"}, "-inf -inf": {"['min']", "1"},
		"-9223372036854775808 -9223372036854775808": {"['min']", "1"}, "-9223372036854775807 9223372036854775806": {"['a' 'b' 'b2' 'c']", "4"}, "9223372036854775807 +inf": {"['max']", "1"}, "-5 0": {"[]", "0"}, "0 1": {"['a']", "1"},
	} {
		each(t, []string{"ZADD z 2 b2 2 b 1 a 3 c 9223372036854775807 max -9223372036854775808 min", "6"}, "ZRANGEBYSCORE z "+bounds, want.members, "ZCOUNT z "+bounds, want.count, "ZREMRANGEBYSCORE z "+bounds, want.count, "ZRANGEBYSCORE none "+bounds, "[]", "ZCOUNT none "+bounds, "0", "ZREMRANGEBYSCORE none "+bounds, "0")
	}
	for _, bad := range []string{"inf", "-INF", "+Inf", "(1", "1.5", "", "--inf", "+inf ", "9223372036854775808", "+1"} {
		for _, name := range []string{"ZRANGEBYSCORE", "ZCOUNT", "ZREMRANGEBYSCORE"} {
			for _, args := range [][]string{{name, "z", bad, "1"}, {name, "z", "1", bad}} {
				if got := show(newBoth(plenty).do(t, args...)); got != "-"+eInt {
					t.Errorf("%q: %s", args, got)
				}
			}
		}
	}
	b := newBoth(plenty)
	b.told(t, "ZADD z 1 a 2 b 3 c 4 d", "4", "ZREMRANGEBYSCORE z 2 3", "2", "ZRANGE z 0 -1", "['a' 'd']", "ZREMRANGEBYSCORE z 2 3", "0", "ZREMRANGEBYSCORE z -inf 1", "1", "ZREMRANGEBYSCORE z 4 +inf", "1", "EXISTS z", "0")
}
