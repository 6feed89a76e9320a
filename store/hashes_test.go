package store_test

import "testing"

// P18.1: HSET, HSETNX, and what is told of fields.
func TestHash(t *testing.T) {
	ahead := []string{"HSET h b 2 a 1", "2", "HSET h <0> x", "1", "HSET h e <0>", "1"}
	each(t, ahead, "HSET h c 3", "1", "HSET h a 9", "0", "HSET h a 1 c 2 c 3 d 4", "2", "HSET none f v", "1", "HSET none f v f w", "1", "HSETNX h a 9", "0", "HSETNX h c 9", "1", "HSETNX none f v", "1", "HSETNX h <0> v", "0", "HSETNX h e v", "0",
		"HGET h a", "'1'", "HGET h c", "nil", "HGET h <0>", "'x'", "HGET h e", "''", "HGET none a", "nil", "HMGET h a", "['1']", "HMGET h a c b a <0>", "['1' nil '2' '1' 'x']", "HMGET none a b", "[nil nil]", "HEXISTS h a", "1", "HEXISTS h c", "0", "HEXISTS h e", "1", "HEXISTS none a", "0",
		"HDEL h a", "1", "HDEL h c", "0", "HDEL h a c b a", "2", "HDEL h a b e <0>", "4", "HDEL none a", "0", "HLEN h", "4", "HLEN none", "0", "HGETALL h", "['' 'x' 'a' '1' 'b' '2' 'e' '']", "HGETALL none", "[]", "HKEYS h", "['' 'a' 'b' 'e']", "HKEYS none", "[]", "HVALS h", "['x' '1' '2' '']", "HVALS none", "[]")
	each(t, []string{"HSET k k 1", "1"}, "HDEL k f", "0", "HDEL k k", "1", "HMGET k f", "[nil]", "HSET k f 1", "1")
	b := newBoth(plenty)
	b.told(t, ahead...)
	b.told(t, "HSETNX h a 9", "0", "HGET h a", "'1'", "HSETNX h c 9", "1", "HGET h c", "'9'", "HSET h c 1 c 2", "0", "HGET h c", "'2'", "HDEL h a c x", "2", "HGETALL h", "['' 'x' 'b' '2' 'e' '']", "HLEN h", "3")
}

// P18.1: HINCRBY as INCRBY, of a field.
func TestHashCount(t *testing.T) {
	each(t, []string{"HSET h n 5 t text e <0> max 9223372036854775807 min -9223372036854775808 z 05", "6"}, "HINCRBY h n 1", "6", "HINCRBY h n -9", "-4", "HINCRBY h none 3", "3", "HINCRBY none f -3", "-3", "HINCRBY h e 1", "1", "HINCRBY h t 1", "-"+eInt, "HINCRBY h z 1", "-"+eInt, "HINCRBY h n x", "-"+eInt,
		"HINCRBY h max 1", "-"+eOver, "HINCRBY h max 0", "9223372036854775807", "HINCRBY h max -9223372036854775808", "-1", "HINCRBY h min -1", "-"+eOver, "HINCRBY h min 9223372036854775807", "-1", "HINCRBY h n 9223372036854775803", "-"+eOver, "HINCRBY h n 9223372036854775802", "9223372036854775807", "HINCRBY none f -9223372036854775808", "-9223372036854775808")
	b := newBoth(plenty)
	b.told(t, "HINCRBY h f 5", "5", "HGET h f", "'5'", "HINCRBY h f -7", "-2", "HGETALL h", "['f' '-2']", "HINCRBY h f -9223372036854775808", "-"+eOver, "HGET h f", "'-2'")
}
