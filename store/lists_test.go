package store_test

import (
	"math"
	"testing"

	"intaglio/verb"
)

// P18.1: one by one at the front, at the end; the first and the last one go.
func TestPush(t *testing.T) {
	b := newBoth(plenty)
	b.told(t, "LPUSH l a b c", "3", "RPUSH l x y", "5", "LRANGE l 0 -1", "['c' 'b' 'a' 'x' 'y']", "LPUSH l <0>", "6", "LPOP l", "''", "LPOP l", "'c'", "RPOP l", "'y'", "LLEN l", "3", "RPUSH l a", "4", "LRANGE l 0 -1", "['b' 'a' 'x' 'a']",
		"LPOP none", "nil", "RPOP none", "nil", "LLEN none", "0", "EXISTS none", "0")
}

// P18.1: LRANGE, LINDEX and LTRIM at places from the front and from the end, beyond, and crossed.
func TestPlaces(t *testing.T) {
	edges := []int{math.MinInt, math.MinInt + 1, -7, -6, -5, -4, -2, -1, 0, 1, 3, 4, 5, 6, math.MaxInt - 1, math.MaxInt}
	for _, key := range []string{"l", "none"} {
		for _, x := range edges {
			for _, y := range edges {
				b := newBoth(plenty)
				b.told(t, "RPUSH l a b c d e", "5")
				got := show(b.do(t, "LRANGE", key, verb.Text(x), verb.Text(y)))
				b.told(t, "LTRIM "+key+" "+verb.Text(x)+" "+verb.Text(y), "+OK", "LRANGE "+key+" 0 -1", got)
			}
		}
	}
	each(t, []string{"RPUSH l a b c d e", "5"}, "LRANGE l 0 -1", "['a' 'b' 'c' 'd' 'e']", "LRANGE l 1 2", "['b' 'c']", "LRANGE l -2 -1", "['d' 'e']", "LRANGE l -9 0", "['a']", "LRANGE l 4 9", "['e']", "LRANGE l 5 9", "[]", "LRANGE l 3 1", "[]", "LRANGE l -9 -6", "[]", "LRANGE l 0 -5", "['a']", "LRANGE none 0 -1", "[]",
		"LINDEX l 0", "'a'", "LINDEX l 4", "'e'", "LINDEX l 5", "nil", "LINDEX l -1", "'e'", "LINDEX l -5", "'a'", "LINDEX l -6", "nil", "LINDEX l 9223372036854775807", "nil", "LINDEX l -9223372036854775808", "nil", "LINDEX none 0", "nil", "LINDEX none -1", "nil")
	b := newBoth(plenty)
	b.told(t, "RPUSH l a b c d e", "5", "LTRIM l 1 -2", "+OK", "LRANGE l 0 -1", "['b' 'c' 'd']", "LTRIM l -9 9", "+OK", "LLEN l", "3", "LTRIM l 3 5", "+OK", "EXISTS l", "0")
}

// P18.1: LSET, with its errors.
func TestListSet(t *testing.T) {
	each(t, []string{"RPUSH l a b c", "3"}, "LSET l 0 x", "+OK", "LSET l 2 x", "+OK", "LSET l -1 x", "+OK", "LSET l -3 x", "+OK", "LSET l 3 x", "-"+ePlace, "LSET l -4 x", "-"+ePlace, "LSET l 9223372036854775807 x", "-"+ePlace, "LSET l -9223372036854775808 x", "-"+ePlace, "LSET none 0 x", "-"+eKey, "LSET none -1 x", "-"+eKey, "LSET none 5 x", "-"+eKey)
	b := newBoth(plenty)
	b.told(t, "RPUSH l a b c", "3", "LSET l 0 x", "+OK", "LSET l -1 <0>", "+OK", "LSET l 3 y", "-"+ePlace, "LRANGE l 0 -1", "['x' 'b' '']")
}

// P18.1: LREM of the first n, of the last -n, of all.
func TestListRemove(t *testing.T) {
	for line, want := range map[string][2]string{
		"1": {"1", "['b' 'a' 'c' 'a' 'a']"}, "2": {"2", "['b' 'c' 'a' 'a']"}, "3": {"3", "['b' 'c' 'a']"}, "4": {"4", "['b' 'c']"}, "5": {"4", "['b' 'c']"}, "9223372036854775807": {"4", "['b' 'c']"}, "0": {"4", "['b' 'c']"},
		"-1": {"1", "['a' 'b' 'a' 'c' 'a']"}, "-2": {"2", "['a' 'b' 'a' 'c']"}, "-3": {"3", "['a' 'b' 'c']"}, "-4": {"4", "['b' 'c']"}, "-5": {"4", "['b' 'c']"}, "-9223372036854775808": {"4", "['b' 'c']"}, "-9223372036854775807": {"4", "['b' 'c']"},
	} {
		b := newBoth(plenty)
		b.told(t, "RPUSH l a b a c a a", "6", "LREM l "+line+" none", "0", "LREM none "+line+" a", "0", "LREM l "+line+" a", want[0], "LRANGE l 0 -1", want[1], "LREM l "+line+" c", "1")
	}
	b := newBoth(plenty)
	b.told(t, "RPUSH l b a a b", "4", "LREM l -1 a", "1", "LRANGE l 0 -1", "['b' 'a' 'b']", "LREM l 2 b", "2", "LREM l -7 a", "1", "EXISTS l", "0", "LREM l 1 a", "0")
}

// P18.1: the last one goes to the front of the other, or of the same.
func TestPopPush(t *testing.T) {
	b := newBoth(plenty)
	b.told(t, "RPUSH a 1 2 3", "3", "RPOPLPUSH a b", "'3'", "RPOPLPUSH a b", "'2'", "LRANGE b 0 -1", "['2' '3']", "LRANGE a 0 -1", "['1']", "RPOPLPUSH a a", "'1'", "LRANGE a 0 -1", "['1']", "RPOPLPUSH a b", "'1'", "EXISTS a", "0", "RPOPLPUSH a b", "nil", "RPOPLPUSH b b", "'3'", "LRANGE b 0 -1", "['3' '1' '2']",
		"SET t v", "+OK", "RPOPLPUSH a t", "nil", "RPOPLPUSH b t", "-"+eKind, "LRANGE b 0 -1", "['3' '1' '2']", "RPOPLPUSH none none", "nil", "EXISTS none", "0", "GET t", "'v'")
}
