package tests

import (
	"math"
	"slices"
	"strconv"
	"strings"
	"testing"

	"loop.example/g00302/impl"
)

// briefReply tells a reply in short: *, $, :, + and - as in its text.
func briefReply(l []impl.Resp) string {
	if !impl.RespOk(l) {
		return "no reply"
	}
	return briefNode(l, l[len(l)-1])
}

func briefNode(l []impl.Resp, node impl.Resp) string {
	switch node.Kind {
	case impl.RsSimple:
		return "+" + node.S
	case impl.RsError:
		return "-" + node.S
	case impl.RsInt:
		return ":" + strconv.FormatInt(node.N, 10)
	case impl.RsBulk:
		return "$" + node.S
	case impl.RsNull:
		return "null"
	}
	var kids []string
	for _, kid := range node.Kids {
		kids = append(kids, briefNode(l, l[kid]))
	}
	return "*" + strings.Join(kids, " ")
}

// briefKeys tells keys in short: k='text' l=[items] h={name:text} z=<member:score>, each with @Due behind, if it has one.
func briefKeys(db []impl.Key) string {
	if len(db) == 0 {
		return "none"
	}
	var list []string
	for _, k := range db {
		s := k.Name + "=" + briefValue(k.Val)
		if k.Due != 0 {
			s += "@" + strconv.FormatInt(k.Due, 10)
		}
		list = append(list, s)
	}
	return strings.Join(list, " ")
}

func briefValue(v impl.Value) string {
	var words []string
	switch v.Kind {
	case impl.VlText:
		return "'" + v.Text + "'"
	case impl.VlList:
		return "[" + strings.Join(v.Items, " ") + "]"
	case impl.VlHash:
		for _, p := range v.Pairs {
			words = append(words, p.Name+":"+p.Text)
		}
		return "{" + strings.Join(words, " ") + "}"
	}
	for _, r := range v.Ranks {
		words = append(words, r.Member+":"+strconv.FormatInt(r.Score, 10))
	}
	return "<" + strings.Join(words, " ") + ">"
}

// asking are the commands that change nothing.
func asking() []string {
	return []string{"PING", "ECHO", "KEYS", "DBSIZE", "EXISTS", "TYPE", "TTL", "GET", "STRLEN", "GETRANGE", "LLEN", "LRANGE", "HGET", "HLEN", "HGETALL", "ZCARD", "ZSCORE", "ZRANK", "ZRANGE"}
}

// done is Done of right arguments, held against what promise 6 says of every command.
func done(t *testing.T, db []impl.Key, now int64, args []string) ([]impl.Key, []impl.Resp) {
	t.Helper()
	given, untouched := roomy(db)
	words := append(make([]string, 0, len(args)+2), args...)
	keys, reply := impl.Done(given, now, words)
	again, replyAgain := impl.Done(given, now, args)
	if !sameKeys(keys, again) || !sameNodes(reply, replyAgain) {
		t.Fatalf("%q: once %s, once %s", args, briefReply(reply), briefReply(replyAgain))
	}
	if !impl.DbOk(keys) || !impl.RespOk(reply) {
		t.Fatalf("%q leaves no right keys or reply: %v %v", args, keys, reply)
	}
	for _, k := range keys {
		if k.Due != 0 && k.Due <= now {
			t.Fatalf("%q leaves %v at %d", args, k, now)
		}
	}
	stays := reply[len(reply)-1].Kind == impl.RsError || slices.Contains(asking(), strings.ToUpper(args[0]))
	if stays && !sameKeys(keys, aliveByWords(db, now)) {
		t.Fatalf("%q changes %s to %s", args, briefKeys(db), briefKeys(keys))
	}
	if !ownsItsLists(again) {
		t.Fatalf("%q: two lists of one answer share memory", args)
	}
	if !untouched() || !slices.Equal(words, args) || !spareIsZero(words) {
		t.Fatalf("%q writes into an argument, or shares it", args)
	}
	return keys, reply
}

// step is a command, what it says, and the keys then ("" for those ahead of it).
type step struct {
	line  string
	reply string
	keys  string
}

// walk does one command after the other, from these keys on.
func walk(t *testing.T, db []impl.Key, now int64, steps []step) []impl.Key {
	t.Helper()
	for _, s := range steps {
		want := s.keys
		if want == "" {
			want = briefKeys(db)
		}
		keys, reply := done(t, db, now, strings.Fields(s.line))
		if got := briefReply(reply); got != s.reply {
			t.Errorf("%s: %s, not %s", s.line, got, s.reply)
		}
		if got := briefKeys(keys); got != want {
			t.Errorf("%s leaves %s, not %s", s.line, got, want)
		}
		db = keys
	}
	return db
}

// says does one command and looks at its reply alone.
func says(t *testing.T, db []impl.Key, now int64, want string, args ...string) []impl.Key {
	t.Helper()
	keys, reply := done(t, db, now, args)
	if got := briefReply(reply); got != want {
		t.Errorf("%q at %d: %s, not %s", args, now, got, want)
	}
	return keys
}

func oneOfEach() []impl.Key {
	return []impl.Key{
		key("h", hashValue(pair("f", "1"), pair("g", "2")), 50),
		key("l", listValue("a", "b", "c"), 60),
		key("t", textValue("10"), 70),
		key("z", zsetValue(rank("b", -1), rank("a", 2), rank("c", 2)), 80),
	}
}

func TestP6WrongArguments(t *testing.T) {
	db := manyKeys(3)
	ping := []string{"PING"}
	tooMany := append([]string{"DEL"}, names(impl.MaxArgs)...)
	tooLong := longText(impl.MaxBulk + 1)
	for i, r := range []struct {
		db   []impl.Key
		now  int64
		args []string
	}{
		{db, -1, ping}, {db, impl.MaxTime + 1, ping}, {db, math.MinInt64, ping}, {db, math.MaxInt64, ping},
		{db, 0, nil}, {db, 0, []string{}}, {db, 0, tooMany}, {nil, 0, tooMany},
		{db, 0, []string{tooLong}}, {db, 0, []string{"ECHO", tooLong}}, {db, 0, []string{"SET", tooLong, "v"}}, {db, 0, []string{"FLY", "a", tooLong}},
		{nil, -1, nil}, {manyKeys(impl.MaxKeys + 1), 0, ping},
	} {
		if keys, reply := impl.Done(r.db, r.now, r.args); len(keys) != 0 || len(reply) != 0 {
			t.Errorf("%d: %v %v", i, keys, reply)
		}
	}
	for i, wrong := range wrongKeys() {
		for _, args := range [][]string{ping, {"FLUSHALL"}, {"GET", "a"}, {"SET", "a", "b"}} {
			if keys, reply := impl.Done(wrong, 0, args); len(keys) != 0 || len(reply) != 0 {
				t.Errorf("%d %q: %v %v", i, args, keys, reply)
			}
		}
	}
	says(t, db, 0, "+PONG", "PING")
	says(t, db, impl.MaxTime, "+PONG", "PING")
	says(t, manyKeys(impl.MaxKeys), 0, ":20", "DBSIZE")
	says(t, db, 0, ":15", append([]string{"EXISTS"}, slices.Repeat([]string{"a0"}, impl.MaxArgs-1)...)...)
	says(t, db, 0, "$"+longText(impl.MaxBulk), "ECHO", longText(impl.MaxBulk))
}

func TestP6UnknownCommands(t *testing.T) {
	db := oneOfEach()
	for _, word := range []string{"", " ", "FLY", "GE", "GETT", "GET ", " GET", "GET\x00", "GET\n", "get\r\n", "\xff", "SET\xff", "ſET", "PıNG", "PİNG", "MULTI", "EXEC", "DISCARD", "G\x45\x74s", "AZ[", "az{", "`", longText(impl.MaxBulk)} {
		for n := range 4 {
			says(t, db, 10, "-ERR unknown command", append([]string{word}, names(n)...)...)
		}
	}
}

func TestP6Letters(t *testing.T) {
	for _, word := range []string{"get", "Get", "gEt", "geT", "GET", "GEt"} {
		says(t, oneOfEach(), 10, "$10", word, "t")
	}
	// Letters count as capitals in the words of the protocol, not in names.
	says(t, oneOfEach(), 10, "null", "GET", "T")
	says(t, oneOfEach(), 10, "$m", "ping", "m")
	says(t, oneOfEach(), 10, "*$a $c", "zrange", "z", "1", "2")
	for _, ex := range []string{"EX", "ex", "Ex", "eX"} {
		says(t, nil, 10, "+OK", "set", "k", "v", ex, "1")
	}
	for _, ex := range []string{"", "E", "EXX", "PX", "EX ", "ex\x00", "XE", "NX"} {
		says(t, nil, 10, "-ERR syntax", "SET", "k", "v", ex, "1")
	}
}

// usage is a command as the table has it: of which kind, and arguments that it takes.
type usage struct {
	word  string
	kind  int64
	takes func(n int) bool
	args  string
}

func just(m ...int) func(int) bool {
	return func(n int) bool { return slices.Contains(m, n) }
}

func startingAt(m int, step int) func(int) bool {
	return func(n int) bool { return n >= m && (n-m)%step == 0 }
}

func usages() []usage {
	return []usage{
		{"PING", 0, just(0, 1), "m"}, {"ECHO", 0, just(1), "m"},
		{"KEYS", 0, just(0), ""}, {"DBSIZE", 0, just(0), ""}, {"FLUSHALL", 0, just(0), ""},
		{"DEL", 0, startingAt(1, 1), "k"}, {"EXISTS", 0, startingAt(1, 1), "k"},
		{"SET", 0, just(2, 4), "k v"}, {"SETNX", 0, just(2), "k v"}, {"TYPE", 0, just(1), "k"},
		{"TTL", 0, just(1), "k"}, {"PERSIST", 0, just(1), "k"}, {"EXPIRE", 0, just(2), "k 1"},
		{"GET", impl.VlText, just(1), "k"}, {"STRLEN", impl.VlText, just(1), "k"}, {"GETRANGE", impl.VlText, just(3), "k 0 1"},
		{"APPEND", impl.VlText, just(2), "k v"}, {"INCRBY", impl.VlText, just(2), "k 1"},
		{"LPUSH", impl.VlList, startingAt(2, 1), "k v"}, {"RPUSH", impl.VlList, startingAt(2, 1), "k v"},
		{"LPOP", impl.VlList, just(1), "k"}, {"RPOP", impl.VlList, just(1), "k"},
		{"LLEN", impl.VlList, just(1), "k"}, {"LRANGE", impl.VlList, just(3), "k 0 1"},
		{"HSET", impl.VlHash, startingAt(3, 2), "k f v"}, {"HGET", impl.VlHash, just(2), "k f"}, {"HDEL", impl.VlHash, startingAt(2, 1), "k f"},
		{"HLEN", impl.VlHash, just(1), "k"}, {"HGETALL", impl.VlHash, just(1), "k"},
		{"ZADD", impl.VlZset, startingAt(3, 2), "k 1 m"}, {"ZREM", impl.VlZset, startingAt(2, 1), "k m"}, {"ZCARD", impl.VlZset, just(1), "k"},
		{"ZSCORE", impl.VlZset, just(2), "k m"}, {"ZRANK", impl.VlZset, just(2), "k m"}, {"ZRANGE", impl.VlZset, just(3), "k 0 1"},
	}
}

// A wrong number of arguments is told ahead of a key of another kind.
func TestP6NumbersOfArguments(t *testing.T) {
	const refused = "-ERR wrong number of arguments"
	for _, u := range usages() {
		for n := range impl.MaxArgs {
			args := append([]string{u.word}, slices.Repeat([]string{"1"}, n)...)
			for _, db := range [][]impl.Key{nil, {key("1", listValue("x"), 0)}, {key("1", textValue("x"), 0)}} {
				_, reply := done(t, db, 10, args)
				if got := briefReply(reply); (got == refused) == u.takes(n) {
					t.Errorf("%s with %d: %s", u.word, n, got)
				}
			}
		}
	}
}

func TestP6Kinds(t *testing.T) {
	for _, u := range usages() {
		args := append([]string{u.word}, strings.Fields(u.args)...)
		for _, v := range []impl.Value{textValue("1"), listValue("x"), hashValue(pair("f", "1")), zsetValue(rank("m", 1))} {
			_, reply := done(t, []impl.Key{key("k", v, 0)}, 10, args)
			other := u.kind != 0 && u.kind != v.Kind
			if got := briefReply(reply); (got == "-WRONGTYPE") != other || !other && strings.HasPrefix(got, "-") {
				t.Errorf("%q of %s: %s", args, briefValue(v), got)
			}
			// A key whose time has come is of no kind any more, nor is one of another name asked.
			_, reply = done(t, nil, 10, args)
			says(t, []impl.Key{key("k", v, 10)}, 10, briefReply(reply), args...)
			if strings.HasPrefix(u.args, "k") {
				says(t, []impl.Key{key("kk", v, 0)}, 10, briefReply(reply), args...)
			}
		}
	}
}

func TestP6RefusalsInOrder(t *testing.T) {
	full := append(manyKeys(impl.MaxKeys-2), key("l", listValue("a"), 20), key("t", textValue("x"), 30))
	walk(t, full, 10, []step{
		{"FLY", "-ERR unknown command", ""},
		{"FLY l x y z", "-ERR unknown command", ""},
		{"GET", "-ERR wrong number of arguments", ""},
		{"LPUSH t", "-ERR wrong number of arguments", ""},
		{"HSET t f", "-ERR wrong number of arguments", ""},
		{"HSET new f v g", "-ERR wrong number of arguments", ""},
		{"ZADD l x", "-ERR wrong number of arguments", ""},
		{"ZADD l x m y", "-ERR wrong number of arguments", ""},
		{"SET new v PX", "-ERR wrong number of arguments", ""},
		{"SET new v EX 1 1", "-ERR wrong number of arguments", ""},
		{"EXPIRE new x y", "-ERR wrong number of arguments", ""},
		{"GETRANGE l x", "-ERR wrong number of arguments", ""},
		{"INCRBY l x", "-WRONGTYPE", ""},
		{"GETRANGE l x y", "-WRONGTYPE", ""},
		{"LRANGE t x y", "-WRONGTYPE", ""},
		{"ZRANGE t x y", "-WRONGTYPE", ""},
		{"ZADD t x m", "-WRONGTYPE", ""},
		{"SET l v PX x", "-ERR syntax", ""},
		{"SET new v PX 1", "-ERR syntax", ""},
		{"SET new v PX 0", "-ERR syntax", ""},
		{"SET new v EX x", "-ERR not an integer", ""},
		{"SET t v EX 1.5", "-ERR not an integer", ""},
		{"SET new v EX 0", "-ERR invalid expire", ""},
		{"SET new v EX -1", "-ERR invalid expire", ""},
		{"SET new v EX 999999991", "-ERR invalid expire", ""},
		{"SET new v EX 1", "-ERR full", ""},
		{"SET new v", "-ERR full", ""},
		{"SETNX new v", "-ERR full", ""},
		{"SETNX l v", ":0", ""},
		{"EXPIRE new x", "-ERR not an integer", ""},
		{"EXPIRE new 999999991", "-ERR invalid expire", ""},
		{"EXPIRE new 999999990", ":0", ""},
		{"INCRBY new x", "-ERR not an integer", ""},
		{"INCRBY new 1000000000000000001", "-ERR not an integer", ""},
		{"INCRBY t 1", "-ERR not an integer", ""},
		{"INCRBY new 1000000000000000000", "-ERR full", ""},
		{"APPEND new v", "-ERR full", ""},
		{"LPUSH new v", "-ERR full", ""},
		{"RPUSH new v", "-ERR full", ""},
		{"HSET new f v", "-ERR full", ""},
		{"ZADD new 1 m x n", "-ERR not an integer", ""},
		{"ZADD new 1 m 2 n", "-ERR full", ""},
		{"LRANGE new x 1", "-ERR not an integer", ""},
		{"LRANGE new 1 x", "-ERR not an integer", ""},
		{"ZRANGE new 0 -", "-ERR not an integer", ""},
		{"GETRANGE new 01 1", "-ERR not an integer", ""},
		{"GETRANGE new 0 +1", "-ERR not an integer", ""},
	})
}

func TestP6AnyKindRows(t *testing.T) {
	walk(t, oneOfEach(), 10, []step{
		{"PING", "+PONG", ""},
		{"PING t", "$t", ""},
		{"ECHO PONG", "$PONG", ""},
		{"KEYS", "*$h $l $t $z", ""},
		{"DBSIZE", ":4", ""},
		{"TYPE h", "+hash", ""},
		{"TYPE l", "+list", ""},
		{"TYPE t", "+string", ""},
		{"TYPE z", "+zset", ""},
		{"TYPE x", "+none", ""},
		{"EXISTS x", ":0", ""},
		{"EXISTS t x t l t", ":4", ""},
		{"TTL t", ":60", ""},
		{"TTL x", ":-2", ""},
		{"DEL x", ":0", ""},
		{"DEL t x t h", ":2", "l=[a b c]@60 z=<b:-1 a:2 c:2>@80"},
		{"TYPE t", "+none", ""},
		{"SETNX z 5", ":0", ""},
		{"SETNX a 5", ":1", "a='5' l=[a b c]@60 z=<b:-1 a:2 c:2>@80"},
		{"SETNX a 6", ":0", ""},
		{"TTL a", ":-1", ""},
		{"SET l v", "+OK", "a='5' l='v' z=<b:-1 a:2 c:2>@80"},
		{"SET a v EX 7", "+OK", "a='v'@17 l='v' z=<b:-1 a:2 c:2>@80"},
		{"SET a w", "+OK", "a='w' l='v' z=<b:-1 a:2 c:2>@80"},
		{"PERSIST a", ":0", ""},
		{"PERSIST x", ":0", ""},
		{"PERSIST z", ":1", "a='w' l='v' z=<b:-1 a:2 c:2>"},
		{"PERSIST z", ":0", ""},
		{"EXPIRE x 5", ":0", ""},
		{"EXPIRE a 5", ":1", "a='w'@15 l='v' z=<b:-1 a:2 c:2>"},
		{"EXPIRE a 1", ":1", "a='w'@11 l='v' z=<b:-1 a:2 c:2>"},
		{"EXPIRE a 0", ":1", "l='v' z=<b:-1 a:2 c:2>"},
		{"EXPIRE a 0", ":0", ""},
		{"EXPIRE z -1000000000000000000", ":1", "l='v'"},
		{"FLUSHALL", "+OK", "none"},
		{"FLUSHALL", "+OK", ""},
		{"KEYS", "*", ""},
		{"DBSIZE", ":0", ""},
	})
}

func TestP6Times(t *testing.T) {
	t1 := []impl.Key{key("k", listValue("x"), 0)}
	for _, now := range []int64{0, 1, 10, impl.MaxTime - 1} {
		most := impl.MaxTime - now
		n, more := strconv.FormatInt(most, 10), strconv.FormatInt(most+1, 10)
		for _, db := range [][]impl.Key{nil, t1} {
			for _, word := range []string{"0", "-1", "-1000000000000000000", more, "1000000000000000000"} {
				says(t, db, now, "-ERR invalid expire", "SET", "k", "v", "EX", word)
			}
			set := says(t, db, now, "+OK", "SET", "k", "v", "EX", n)
			if !sameKeys(set, []impl.Key{key("k", textValue("v"), impl.MaxTime)}) {
				t.Errorf("at %d: %v", now, set)
			}
			set = says(t, db, now, "+OK", "SET", "k", "v", "EX", "1")
			if !sameKeys(set, []impl.Key{key("k", textValue("v"), now+1)}) {
				t.Errorf("at %d: %v", now, set)
			}
			says(t, db, now, "-ERR invalid expire", "EXPIRE", "k", more)
			says(t, db, now, "-ERR invalid expire", "EXPIRE", "k", "1000000000000000000")
		}
		told := says(t, t1, now, ":1", "EXPIRE", "k", n)
		if !sameKeys(told, []impl.Key{key("k", listValue("x"), impl.MaxTime)}) {
			t.Errorf("at %d: %v", now, told)
		}
		says(t, told, now, ":"+n, "TTL", "k")
	}
	// At the end of all times nothing can be told a time; it may go, though.
	says(t, t1, impl.MaxTime, "-ERR invalid expire", "SET", "k", "v", "EX", "1")
	says(t, t1, impl.MaxTime, "-ERR invalid expire", "EXPIRE", "k", "1")
	says(t, says(t, t1, impl.MaxTime, ":1", "EXPIRE", "k", "0"), impl.MaxTime, ":0", "DBSIZE")
	for _, word := range []string{"", "x", "1.0", "01", "+1", "-0", " 1", "1000000000000000001", "-1000000000000000001", "99999999999999999999"} {
		says(t, t1, 10, "-ERR not an integer", "SET", "k", "v", "EX", word)
		says(t, t1, 10, "-ERR not an integer", "EXPIRE", "k", word)
	}
}

// A key that is told its time is there until then.
func TestP6ToldTimes(t *testing.T) {
	for n := int64(1); n <= 6; n++ {
		word := strconv.FormatInt(n, 10)
		set := says(t, nil, 10, "+OK", "SET", "k", "v", "EX", word)
		told := says(t, []impl.Key{key("k", textValue("v"), 11)}, 10, ":1", "EXPIRE", "k", word)
		for _, db := range [][]impl.Key{set, told} {
			for now := int64(10); now < 18; now++ {
				if now < 10+n {
					says(t, db, now, "$v", "GET", "k")
					says(t, db, now, ":"+strconv.FormatInt(10+n-now, 10), "TTL", "k")
					says(t, db, now, ":0", "SETNX", "k", "w")
				} else {
					says(t, db, now, "null", "GET", "k")
					says(t, db, now, ":-2", "TTL", "k")
					says(t, db, now, ":1", "SETNX", "k", "w")
				}
			}
		}
	}
}

// Keys whose time has come are left by no command, be it refused, and take no place.
func TestP6LateKeys(t *testing.T) {
	db := oneOfEach()
	for now, want := range map[int64]string{49: ":4", 50: ":3", 60: ":2", 70: ":1", 79: ":1", 80: ":0", impl.MaxTime: ":0"} {
		says(t, db, now, want, "DBSIZE")
		for _, args := range [][]string{{"PING"}, {"FLY"}, {"GET"}, {"SET", "t", "v", "PX", "1"}, {"KEYS"}} {
			if keys, _ := done(t, db, now, args); !sameKeys(keys, aliveByWords(db, now)) {
				t.Errorf("%q at %d: %s", args, now, briefKeys(keys))
			}
		}
	}
	walk(t, db, 75, []step{
		{"LPUSH t x", ":1", "t=[x] z=<b:-1 a:2 c:2>@80"},
		{"INCRBY l 4", ":4", "l='4' t=[x] z=<b:-1 a:2 c:2>@80"},
		{"DEL h", ":0", ""},
		{"EXPIRE h 3", ":0", ""},
		{"PERSIST h", ":0", ""},
		{"APPEND h x", ":1", "h='x' l='4' t=[x] z=<b:-1 a:2 c:2>@80"},
	})
	full := manyKeys(impl.MaxKeys)
	full[3].Due = 10
	says(t, full, 9, "-ERR full", "SET", "new", "v")
	if keys := says(t, full, 10, "+OK", "SET", "new", "v"); len(keys) != impl.MaxKeys {
		t.Errorf("%d keys", len(keys))
	}
}

func TestP6Texts(t *testing.T) {
	walk(t, nil, 10, []step{
		{"GET k", "null", ""},
		{"STRLEN k", ":0", ""},
		{"GETRANGE k 0 -1", "$", ""},
		{"APPEND k ab", ":2", "k='ab'"},
		{"APPEND k cde", ":5", "k='abcde'"},
		{"STRLEN k", ":5", ""},
		{"GET k", "$abcde", ""},
		{"GETRANGE k 0 -1", "$abcde", ""},
		{"GETRANGE k 1 3", "$bcd", ""},
		{"GETRANGE k -3 -2", "$cd", ""},
		{"GETRANGE k 4 4", "$e", ""},
		{"GETRANGE k 5 9", "$", ""},
		{"GETRANGE k 3 2", "$", ""},
		{"GETRANGE k -100 1", "$ab", ""},
		{"GETRANGE k -1000000000000000000 1000000000000000000", "$abcde", ""},
		{"GETRANGE k -1000000000000000001 1", "-ERR not an integer", ""},
		{"GETRANGE k 0 1000000000000000001", "-ERR not an integer", ""},
		{"EXPIRE k 5", ":1", "k='abcde'@15"},
		{"APPEND k f", ":6", "k='abcdef'@15"},
		{"INCRBY k 1", "-ERR not an integer", ""},
		{"INCRBY n 7", ":7", "k='abcdef'@15 n='7'"},
		{"INCRBY n -17", ":-10", "k='abcdef'@15 n='-10'"},
		{"INCRBY n 0", ":-10", ""},
		{"EXPIRE n 9", ":1", "k='abcdef'@15 n='-10'@19"},
		{"INCRBY n 10", ":0", "k='abcdef'@15 n='0'@19"},
		{"INCRBY n 1000000000000000000", ":1000000000000000000", "k='abcdef'@15 n='1000000000000000000'@19"},
		{"INCRBY n 1", "-ERR out of range", ""},
		{"INCRBY n 1000000000000000000", "-ERR out of range", ""},
		{"INCRBY n -1000000000000000000", ":0", "k='abcdef'@15 n='0'@19"},
		{"INCRBY n -1000000000000000000", ":-1000000000000000000", "k='abcdef'@15 n='-1000000000000000000'@19"},
		{"INCRBY n -1", "-ERR out of range", ""},
		{"INCRBY n 1", ":-999999999999999999", "k='abcdef'@15 n='-999999999999999999'@19"},
	})
	empty := says(t, nil, 10, ":0", "APPEND", "k", "")
	if briefKeys(empty) != "k=''" {
		t.Error(briefKeys(empty))
	}
	says(t, empty, 10, "$", "GET", "k")
	says(t, empty, 10, "-ERR not an integer", "INCRBY", "k", "1")
	for _, word := range []string{"", "x", "01", "-0", "+1", "1000000000000000001"} {
		says(t, []impl.Key{key("k", textValue(word), 0)}, 10, "-ERR not an integer", "INCRBY", "k", "1")
		says(t, []impl.Key{key("k", textValue("1"), 0)}, 10, "-ERR not an integer", "INCRBY", "k", word)
	}
}

func TestP6AppendLimits(t *testing.T) {
	db := []impl.Key{key("k", textValue(longText(impl.MaxBulk-1)), 20)}
	longest := says(t, db, 10, ":200", "APPEND", "k", "m")
	if !sameKeys(longest, []impl.Key{key("k", textValue(longText(impl.MaxBulk)), 20)}) {
		t.Error(briefKeys(longest))
	}
	says(t, db, 10, "-ERR full", "APPEND", "k", "mm")
	says(t, longest, 10, "-ERR full", "APPEND", "k", "m")
	says(t, longest, 10, "-ERR full", "APPEND", "k", longText(impl.MaxBulk))
	says(t, longest, 10, ":200", "APPEND", "k", "")
	says(t, nil, 10, ":200", "APPEND", longText(impl.MaxBulk), longText(impl.MaxBulk))
}

func TestP6Lists(t *testing.T) {
	walk(t, nil, 10, []step{
		{"LLEN l", ":0", ""},
		{"LPOP l", "null", ""},
		{"RPOP l", "null", ""},
		{"LRANGE l 0 -1", "*", ""},
		{"LPUSH l a", ":1", "l=[a]"},
		{"LPUSH l b c", ":3", "l=[c b a]"},
		{"RPUSH l d e", ":5", "l=[c b a d e]"},
		{"LLEN l", ":5", ""},
		{"LRANGE l 0 -1", "*$c $b $a $d $e", ""},
		{"LRANGE l -2 -1", "*$d $e", ""},
		{"LRANGE l -3 3", "*$a $d", ""},
		{"LRANGE l 4 2", "*", ""},
		{"LRANGE l 5 5", "*", ""},
		{"LRANGE l 0 -6", "*", ""},
		{"LRANGE l -9 0", "*$c", ""},
		{"LRANGE l x 0", "-ERR not an integer", ""},
		{"EXPIRE l 10", ":1", "l=[c b a d e]@20"},
		{"LPOP l", "$c", "l=[b a d e]@20"},
		{"RPOP l", "$e", "l=[b a d]@20"},
		{"RPUSH l b", ":4", "l=[b a d b]@20"},
		{"LPUSH l b", ":5", "l=[b b a d b]@20"},
		{"DEL l", ":1", "none"},
		{"RPUSH l x y", ":2", "l=[x y]"},
		{"EXPIRE l 1", ":1", "l=[x y]@11"},
		{"RPOP l", "$y", "l=[x]@11"},
		{"RPOP l", "$x", "none"},
		{"RPUSH l x", ":1", "l=[x]"},
		{"LPOP l", "$x", "none"},
		{"LPUSH l x", ":1", "l=[x]"},
	})
}

// pushes pushes so many items by as few commands as there may be.
func pushes(t *testing.T, db []impl.Key, word string, n int) []impl.Key {
	t.Helper()
	for n > 0 {
		some := min(n, impl.MaxArgs-2)
		keys, reply := done(t, db, 10, append([]string{word, "k"}, slices.Repeat([]string{"i"}, some)...))
		if reply[0].Kind != impl.RsInt {
			t.Fatal(briefReply(reply))
		}
		db, n = keys, n-some
	}
	return db
}

func TestP6ListLimits(t *testing.T) {
	for _, first := range []string{"LPUSH", "RPUSH"} {
		almost := pushes(t, nil, first, impl.MaxItems-1)
		for push, pop := range map[string]string{"LPUSH": "LPOP", "RPUSH": "RPOP"} {
			says(t, almost, 10, "-ERR full", push, "k", "x", "y")
			full := says(t, almost, 10, ":20", push, "k", "x")
			says(t, full, 10, "-ERR full", push, "k", "z")
			less := says(t, full, 10, "$x", pop, "k")
			says(t, less, 10, ":20", push, "k", "z")
		}
	}
}

func TestP6Hashes(t *testing.T) {
	walk(t, nil, 10, []step{
		{"HGET h f", "null", ""},
		{"HLEN h", ":0", ""},
		{"HGETALL h", "*", ""},
		{"HDEL h f g", ":0", ""},
		{"HSET h g 1", ":1", "h={g:1}"},
		{"HSET h f 2 h 3 g 4", ":2", "h={f:2 g:4 h:3}"},
		{"HSET h i 5 i 6", ":1", "h={f:2 g:4 h:3 i:6}"},
		{"HSET h f 7 f 8", ":0", "h={f:8 g:4 h:3 i:6}"},
		{"HLEN h", ":4", ""},
		{"HGET h f", "$8", ""},
		{"HGET h F", "null", ""},
		{"HGET h ff", "null", ""},
		{"HGETALL h", "*$f $8 $g $4 $h $3 $i $6", ""},
		{"EXPIRE h 10", ":1", "h={f:8 g:4 h:3 i:6}@20"},
		{"HSET h a 0", ":1", "h={a:0 f:8 g:4 h:3 i:6}@20"},
		{"HDEL h x", ":0", ""},
		{"HDEL h f x f i", ":2", "h={a:0 g:4 h:3}@20"},
		{"HDEL h a g h a", ":3", "none"},
		{"HSET h a 0", ":1", "h={a:0}"},
		{"HDEL h a", ":1", "none"},
		{"TYPE h", "+none", ""},
	})
}

func TestP6HashLimits(t *testing.T) {
	db := []impl.Key{key("h", hashValue(manyPairs(impl.MaxItems-1)...), 0)}
	full := says(t, db, 10, ":1", "HSET", "h", "new", "v")
	says(t, db, 10, "-ERR full", "HSET", "h", "new", "v", "one", "w")
	says(t, db, 10, "-ERR full", "HSET", "h", "new", "v", "a0", "x", "one", "w")
	says(t, db, 10, ":1", "HSET", "h", "new", "v", "new", "w", "a0", "x")
	says(t, full, 10, "-ERR full", "HSET", "h", "one", "v")
	says(t, full, 10, ":0", "HSET", "h", "new", "w", "a0", "x")
	says(t, full, 10, ":20", "HLEN", "h")
	if _, reply := done(t, full, 10, []string{"HGETALL", "h"}); len(reply) != 2*impl.MaxItems+1 {
		t.Error(briefReply(reply))
	}
	longest := longText(impl.MaxBulk)
	says(t, says(t, nil, 10, ":1", "HSET", longest, longest, longest), 10, "$"+longest, "HGET", longest, longest)
}

func TestP6SortedSets(t *testing.T) {
	walk(t, nil, 10, []step{
		{"ZCARD z", ":0", ""},
		{"ZSCORE z m", "null", ""},
		{"ZRANK z m", "null", ""},
		{"ZRANGE z 0 -1", "*", ""},
		{"ZREM z m", ":0", ""},
		{"ZADD z 5 m", ":1", "z=<m:5>"},
		{"ZADD z 5 a -3 b 10 c", ":3", "z=<b:-3 a:5 m:5 c:10>"},
		{"ZADD z 7 d 1 d", ":1", "z=<b:-3 d:1 a:5 m:5 c:10>"},
		{"ZADD z 6 m 0 c", ":0", "z=<b:-3 c:0 d:1 a:5 m:6>"},
		{"ZCARD z", ":5", ""},
		{"ZSCORE z b", "$-3", ""},
		{"ZSCORE z c", "$0", ""},
		{"ZSCORE z M", "null", ""},
		{"ZRANK z b", ":0", ""},
		{"ZRANK z m", ":4", ""},
		{"ZRANK z x", "null", ""},
		{"ZRANGE z 0 -1", "*$b $c $d $a $m", ""},
		{"ZRANGE z -2 -1", "*$a $m", ""},
		{"ZRANGE z 1 2", "*$c $d", ""},
		{"ZRANGE z 3 1", "*", ""},
		{"ZRANGE z 0 x", "-ERR not an integer", ""},
		{"ZADD z 1 x 2", "-ERR wrong number of arguments", ""},
		{"ZADD z 1 x y y", "-ERR not an integer", ""},
		{"ZADD z 1000000000000000001 x", "-ERR not an integer", ""},
		{"EXPIRE z 10", ":1", "z=<b:-3 c:0 d:1 a:5 m:6>@20"},
		{"ZADD z 1000000000000000000 b -1000000000000000000 m", ":0", "z=<m:-1000000000000000000 c:0 d:1 a:5 b:1000000000000000000>@20"},
		{"ZSCORE z b", "$1000000000000000000", ""},
		{"ZREM z x", ":0", ""},
		{"ZREM z m x m a", ":2", "z=<c:0 d:1 b:1000000000000000000>@20"},
		{"ZREM z b c d", ":3", "none"},
		{"ZADD z 1 a", ":1", "z=<a:1>"},
		{"ZREM z a", ":1", "none"},
		{"TYPE z", "+none", ""},
	})
}

func TestP6SortedSetLimits(t *testing.T) {
	db := []impl.Key{key("z", zsetValue(manyRanks(impl.MaxItems-1)...), 0)}
	full := says(t, db, 10, ":1", "ZADD", "z", "1", "new")
	says(t, db, 10, "-ERR full", "ZADD", "z", "1", "new", "1", "one")
	says(t, db, 10, "-ERR not an integer", "ZADD", "z", "1", "new", "1", "one", "x", "two")
	says(t, db, 10, ":1", "ZADD", "z", "1", "new", "2", "new", "3", "a0")
	says(t, full, 10, "-ERR full", "ZADD", "z", "1", "one")
	says(t, full, 10, "-ERR not an integer", "ZADD", "z", "1", "one", "x", "two")
	says(t, full, 10, ":0", "ZADD", "z", "9", "new", "8", "a0")
	says(t, full, 10, ":20", "ZCARD", "z")
	says(t, nil, 10, ":1", "ZADD", "z", "1", longText(impl.MaxBulk))
}

// What makes a key is refused where there are MaxKeys; what is there may change.
func TestP6FullOfKeys(t *testing.T) {
	for _, line := range []string{"SET new v", "SET new v EX 5", "SETNX new v", "APPEND new v", "INCRBY new 1", "LPUSH new v", "RPUSH new v w", "HSET new f v", "ZADD new 1 m"} {
		args := strings.Fields(line)
		says(t, manyKeys(impl.MaxKeys), 10, "-ERR full", args...)
		_, reply := done(t, manyKeys(impl.MaxKeys-1), 10, args)
		if got := briefReply(reply); strings.HasPrefix(got, "-") {
			t.Errorf("%s: %s", line, got)
		}
	}
	full := manyKeys(impl.MaxKeys)
	says(t, full, 10, "+OK", "SET", "a0", "v")
	says(t, full, 10, ":2", "APPEND", "a0", "v")
	says(t, full, 10, ":2", "LPUSH", "a1", "v")
	says(t, full, 10, ":2", "RPUSH", "a1", "v")
	says(t, full, 10, ":1", "HSET", "a2", "g", "v")
	says(t, full, 10, ":1", "ZADD", "a3", "1", "n")
	says(t, full, 10, ":1", "EXPIRE", "a3", "5")
	// What asks for a key that is not there makes none.
	for _, line := range []string{"GET new", "LPOP new", "HDEL new f", "ZREM new m", "PERSIST new", "EXPIRE new 5", "DEL new"} {
		_, reply := done(t, full, 10, strings.Fields(line))
		if got := briefReply(reply); got != "null" && got != ":0" {
			t.Errorf("%s: %s", line, got)
		}
	}
}

// A key keeps its Due but where the table tells otherwise.
func TestP6DuesStay(t *testing.T) {
	for line, due := range map[string]int64{
		"APPEND t 1": 70, "INCRBY t 1": 70, "SETNX t 1": 70, "LPUSH l x": 60, "RPUSH l x": 60, "LPOP l": 60, "RPOP l": 60,
		"HSET h f 9": 50, "HSET h n 9": 50, "HDEL h f": 50, "ZADD z 1 n": 80, "ZADD z 9 b": 80, "ZREM z b": 80,
		"SET t v EX x": 70, "SET t v EX 0": 70, "SET t v PX 5": 70, "EXPIRE t x": 70, "EXPIRE t 1000000000": 70,
		"SET t v": 0, "SET l v": 0, "PERSIST z": 0, "SET h v EX 4": 14, "EXPIRE z 4": 14, "EXPIRE t 999999990": impl.MaxTime,
	} {
		args := strings.Fields(line)
		keys, _ := done(t, oneOfEach(), 10, args)
		for _, k := range keys {
			before, _ := impl.KeyOf(oneOfEach(), 10, k.Name)
			if k.Name == args[1] && k.Due != due || k.Name != args[1] && !sameKey(k, before) {
				t.Errorf("%s: %v", line, k)
			}
		}
		if len(keys) != 4 {
			t.Errorf("%s leaves %s", line, briefKeys(keys))
		}
	}
}

func TestP6SetIsGot(t *testing.T) {
	d := &dice{61}
	for range 300 {
		db, k, v := anyKeys(d), d.bytes(3), d.bytes(impl.MaxBulk)
		set := says(t, db, 10, "+OK", "SET", k, v)
		says(t, set, 10, "$"+v, "GET", k)
		says(t, set, 10, ":"+strconv.Itoa(len(v)), "STRLEN", k)
		if !sameKeys(set, storedByWords(aliveByWords(db, 10), key(k, textValue(v), 0))) {
			t.Fatalf("%q: %s", k, briefKeys(set))
		}
		f := d.bytes(3)
		set = says(t, goneByWords(db, k), 10, ":1", "HSET", k, f, v)
		says(t, set, 10, "$"+v, "HGET", k, f)
	}
}

func TestP6PushedIsPopped(t *testing.T) {
	d := &dice{62}
	for range 300 {
		db := []impl.Key{key("l", anyListOf(d, 6), 0)}
		var items []string
		for range 1 + d.below(impl.MaxArgs-2) {
			items = append(items, d.bytes(5))
		}
		many := ":" + strconv.Itoa(len(db[0].Val.Items)+len(items))
		left := says(t, db, 10, many, append([]string{"LPUSH", "l"}, items...)...)
		right := says(t, db, 10, many, append([]string{"RPUSH", "l"}, items...)...)
		for i := len(items) - 1; i >= 0; i-- {
			left = says(t, left, 10, "$"+items[i], "LPOP", "l")
			right = says(t, right, 10, "$"+items[i], "RPOP", "l")
		}
		if !sameKeys(left, db) || !sameKeys(right, db) {
			t.Fatalf("%s, %s, not %s", briefKeys(left), briefKeys(right), briefKeys(db))
		}
	}
}

// anyListOf gives a list of 1 .. most items.
func anyListOf(d *dice, most int) impl.Value {
	var items []string
	for range 1 + d.below(most) {
		items = append(items, d.bytes(5))
	}
	return listValue(items...)
}

func TestP6RankIsPlace(t *testing.T) {
	d := &dice{63}
	var db []impl.Key
	for range 200 {
		member, score := names(18)[d.below(18)], strconv.Itoa(d.below(7)-3)
		db, _ = done(t, db, 10, []string{"ZADD", "z", score, member})
		says(t, db, 10, "$"+score, "ZSCORE", "z", member)
		if d.below(3) == 0 {
			db, _ = done(t, db, 10, []string{"ZREM", "z", names(18)[d.below(18)]})
		}
		_, all := done(t, db, 10, []string{"ZRANGE", "z", "0", "-1"})
		for i, node := range all[:len(all)-1] {
			place := strconv.Itoa(i)
			says(t, db, 10, ":"+place, "ZRANK", "z", node.S)
			says(t, db, 10, "*$"+node.S, "ZRANGE", "z", place, place)
		}
	}
}

// The three ranges have just the places between their ends.
func TestP6RangesAreSlices(t *testing.T) {
	text := "abcde"
	items := strings.Split(text, "")
	var ranks []impl.Rank
	for i, m := range items {
		ranks = append(ranks, rank(m, int64(i)))
	}
	db := []impl.Key{key("l", listValue(items...), 0), key("t", textValue(text), 0), key("z", zsetValue(ranks...), 0)}
	for a := int64(-7); a <= 7; a++ {
		for b := int64(-7); b <= 7; b++ {
			from, to := strconv.FormatInt(a, 10), strconv.FormatInt(b, 10)
			var want []string
			for _, place := range placesByWords(5, a, b) {
				want = append(want, items[place])
			}
			list := "*"
			if len(want) > 0 {
				list = "*$" + strings.Join(want, " $")
			}
			says(t, db, 10, "$"+strings.Join(want, ""), "GETRANGE", "t", from, to)
			says(t, db, 10, list, "LRANGE", "l", from, to)
			says(t, db, 10, list, "ZRANGE", "z", from, to)
		}
	}
}

// anyArgs gives a command with arguments that are mostly, but not always, right.
func anyArgs(d *dice) []string {
	all := usages()
	u := all[d.below(len(all))]
	args := append([]string{u.word}, strings.Fields(u.args)...)
	for range d.below(3) {
		args = append(args, args[max(1, len(args)-2):]...)
	}
	for i := 1; i < len(args); i++ {
		if args[i] == "k" {
			args[i] = names(impl.MaxKeys + 2)[d.below(impl.MaxKeys+2)]
		} else if d.below(2) == 0 {
			args[i] = []string{"0", "1", "-1", "2", "7", "EX", "x", "y", "f", ""}[d.below(10)]
		}
	}
	return args[:min(len(args), impl.MaxArgs)]
}

func TestP6AnyCommands(t *testing.T) {
	refused, changed := 0, 0
	for seed := range uint64(20) {
		d := &dice{seed}
		db, now := anyKeys(d), int64(0)
		for range 200 {
			args := anyArgs(d)
			keys, reply := done(t, db, now, args)
			if reply[len(reply)-1].Kind == impl.RsError {
				refused++
			} else if !sameKeys(keys, db) {
				changed++
			}
			db, now = keys, now+int64(d.below(20)/19)
		}
	}
	if refused < 100 || changed < 100 {
		t.Errorf("%d refused, %d changed", refused, changed)
	}
}
