package tests

import (
	"math"
	"slices"
	"strconv"
	"strings"
	"testing"

	"loop.example/g00302/impl"
)

func sameSession(a impl.Session, b impl.Session) bool {
	return a.Rest == b.Rest && a.Multi == b.Multi && sameRequests(a.Queue, b.Queue) && a.Dirty == b.Dirty && a.Dead == b.Dead
}

// twinSession gives the same session in memory of its own.
func twinSession(s impl.Session) impl.Session {
	s.Queue = slices.Clone(s.Queue)
	for i := range s.Queue {
		s.Queue[i] = slices.Clone(s.Queue[i])
	}
	return s
}

// multi gives a session in which these lines wait.
func multi(lines ...string) impl.Session {
	s := impl.Session{Multi: true}
	for _, line := range lines {
		s.Queue = append(s.Queue, strings.Fields(line))
	}
	return s
}

func dirty(s impl.Session) impl.Session {
	s.Dirty = true
	return s
}

func resting(rest string, s impl.Session) impl.Session {
	s.Rest = rest
	return s
}

func deadSession() impl.Session {
	return impl.Session{Dead: true}
}

// briefSession tells a session in short: its flags, what waits in brackets, Rest in quotes.
func briefSession(s impl.Session) string {
	var words []string
	for flag, on := range []bool{s.Multi, s.Dirty, s.Dead} {
		if on {
			words = append(words, []string{"multi", "dirty", "dead"}[flag])
		}
	}
	for _, args := range s.Queue {
		words = append(words, "["+strings.Join(args, " ")+"]")
	}
	if s.Rest != "" {
		words = append(words, strconv.Quote(s.Rest))
	}
	if len(words) == 0 {
		return "zero"
	}
	return strings.Join(words, " ")
}

// roomySession gives the same session with spare room behind each list, and a
// way to ask whether anything was written there or in the session.
func roomySession(s impl.Session) (impl.Session, func() bool) {
	same := s
	same.Queue = append(make([][]string, 0, len(s.Queue)+3), s.Queue...)
	for i, args := range same.Queue {
		same.Queue[i] = append(make([]string, 0, len(args)+3), args...)
	}
	return same, func() bool {
		untouched := sameSession(same, s)
		for _, args := range same.Queue[len(same.Queue):cap(same.Queue)] {
			untouched = untouched && args == nil
		}
		for _, args := range same.Queue {
			untouched = untouched && spareIsZero(args)
		}
		return untouched
	}
}

// ownsItsQueue writes over one request of an answer after the other, and says
// whether those behind it stayed as they were.
func ownsItsQueue(s impl.Session) bool {
	before := twinSession(s)
	for i, args := range s.Queue {
		args = args[:cap(args)]
		for j := range args {
			args[j] = "!"
		}
		if !sameRequests(s.Queue[i+1:], before.Queue[i+1:]) {
			return false
		}
	}
	spare := s.Queue[:cap(s.Queue)]
	for i := range spare {
		spare[i] = nil
	}
	return true
}

// longestRest gives the longest bytes that wait for more: a request of the most
// and longest arguments but its last byte.
func longestRest() string {
	text := impl.RequestText(many(impl.MaxArgs, longText(impl.MaxBulk)))
	return text[:len(text)-1]
}

func rightSessions() []impl.Session {
	most := slices.Repeat([][]string{many(impl.MaxArgs, longText(impl.MaxBulk))}, impl.MaxArgs)
	return []impl.Session{
		{},
		{Queue: [][]string{}},
		{Rest: "P"},
		{Rest: "\r"},
		{Rest: "*1\r\n$4\r\nPI"},
		{Rest: strings.Repeat(" ", impl.MaxLine)},
		{Rest: "*" + strings.Repeat("1", impl.MaxLine-1)},
		{Rest: longestRest()},
		multi(),
		dirty(multi()),
		multi("GET k"),
		dirty(multi("SET k v", "DEL k")),
		// What waits need be no command that is known.
		multi("FLY", "EXEC", "MULTI", "DISCARD x", "GET"),
		{Multi: true, Queue: [][]string{{""}, {"\x00", "\r\n"}}},
		{Multi: true, Queue: most},
		resting("GET", multi("GET k")),
		resting(longestRest(), dirty(multi())),
		deadSession(),
	}
}

func wrongSessions() []impl.Session {
	tooMany := slices.Repeat([][]string{{"PING"}}, impl.MaxArgs+1)
	list := []impl.Session{
		{Dirty: true},
		{Queue: [][]string{{"PING"}}},
		{Queue: [][]string{nil}},
		{Queue: [][]string{{"PING"}}, Dirty: true},
		{Multi: true, Queue: tooMany},
		{Multi: true, Queue: [][]string{nil}},
		{Multi: true, Queue: [][]string{{"PING"}, {}}},
		{Multi: true, Queue: [][]string{{}, {"PING"}}},
		{Multi: true, Queue: [][]string{many(impl.MaxArgs+1, "a")}},
		{Multi: true, Queue: [][]string{{"PING"}, {"ECHO", longText(impl.MaxBulk + 1)}}},
		{Multi: true, Queue: [][]string{{longText(impl.MaxBulk + 1)}}},
		{Dead: true, Multi: true},
		{Dead: true, Rest: "P"},
		{Dead: true, Dirty: true},
		{Dead: true, Queue: [][]string{{"PING"}}},
		{Dead: true, Multi: true, Dirty: true, Queue: [][]string{{"PING"}}},
	}
	for _, rest := range []string{
		"\n", "\r\n", "PING\n", "PING\nP", "*0\r\n", "*0\r\nP", "*1\r\n$4\r\nPING\r\n", longestRest() + "\n",
		"*x\r\n", "*17\r\n", "*1\r\n$201\r\n", "*1\r\nx\r\n", "PING\n*x\r\n", strings.Repeat(" ", impl.MaxLine+1),
		longestRest() + strings.Repeat("m", 5000-len(longestRest())), longestRest() + strings.Repeat("m", 5001-len(longestRest())),
		strings.Repeat("m", 5000), strings.Repeat("m", 5001), strings.Repeat("*0\r\n", 1250),
	} {
		list = append(list, impl.Session{Rest: rest}, impl.Session{Rest: rest, Multi: true})
	}
	return list
}

func TestP7RightAndWrongSessions(t *testing.T) {
	for i, s := range rightSessions() {
		if !impl.SessionOk(s) {
			t.Errorf("%d is not right: %s", i, briefSession(s))
		}
	}
	for i, s := range wrongSessions() {
		if impl.SessionOk(s) {
			t.Errorf("%d is right: %s", i, briefSession(s))
		}
	}
}

func isSteering(word string) bool {
	return slices.Contains([]string{"MULTI", "EXEC", "DISCARD"}, strings.ToUpper(word))
}

// asked is Asked of right arguments, held against what holds for every request.
func asked(t *testing.T, db []impl.Key, s impl.Session, now int64, args []string) ([]impl.Key, impl.Session, []impl.Resp) {
	t.Helper()
	given, keysStay := roomy(db)
	sess, sessionStays := roomySession(s)
	words := append(make([]string, 0, len(args)+2), args...)
	keys, after, reply := impl.Asked(given, sess, now, words)
	again, afterAgain, replyAgain := impl.Asked(given, sess, now, words)
	if !sameKeys(keys, again) || !sameSession(after, afterAgain) || !sameNodes(reply, replyAgain) {
		t.Fatalf("%q: once %s, once %s", args, briefReply(reply), briefReply(replyAgain))
	}
	if !impl.DbOk(keys) || !impl.SessionOk(after) || !impl.RespOk(reply) {
		t.Fatalf("%q leaves keys, a session or a reply that is not right: %v %v %v", args, keys, after, reply)
	}
	if after.Rest != s.Rest || !sameKeys(keys, aliveByWords(keys, now)) {
		t.Fatalf("%q leaves %s and %s at %d", args, briefSession(after), briefKeys(keys), now)
	}
	waits := s.Multi && strings.ToUpper(args[0]) != "EXEC"
	if (waits || reply[len(reply)-1].Kind == impl.RsError) && !sameKeys(keys, aliveByWords(db, now)) {
		t.Fatalf("%q changes %s to %s", args, briefKeys(db), briefKeys(keys))
	}
	if !ownsItsLists(again) || !ownsItsQueue(afterAgain) || !ownsItsKids(replyAgain) {
		t.Fatalf("%q: two lists of one answer share memory", args)
	}
	if !keysStay() || !sessionStays() || !slices.Equal(words, args) || !spareIsZero(words) {
		t.Fatalf("%q writes into an argument, or shares it", args)
	}
	return keys, after, reply
}

// ownsItsKids writes over the kids of one node after the other, and says
// whether those behind it stayed as they were.
func ownsItsKids(l []impl.Resp) bool {
	for i, node := range l {
		var before []int64
		for _, other := range l[i+1:] {
			before = append(before, other.Kids...)
		}
		kids := node.Kids[:cap(node.Kids)]
		for j := range kids {
			kids[j] = -1
		}
		var after []int64
		for _, other := range l[i+1:] {
			after = append(after, other.Kids...)
		}
		if !slices.Equal(before, after) {
			return false
		}
	}
	return true
}

// turn is a request, what it says, the session and the keys then ("" for those ahead of it).
type turn struct {
	line  string
	reply string
	sess  string
	keys  string
}

// talk asks one request after the other, from these keys and this session on.
func talk(t *testing.T, db []impl.Key, s impl.Session, now int64, turns []turn) ([]impl.Key, impl.Session) {
	t.Helper()
	for _, turn := range turns {
		sess, keys := turn.sess, turn.keys
		if sess == "" {
			sess = briefSession(s)
		}
		if keys == "" {
			keys = briefKeys(db)
		}
		var reply []impl.Resp
		db, s, reply = asked(t, db, s, now, strings.Fields(turn.line))
		if got := briefReply(reply); got != turn.reply {
			t.Errorf("%s: %s, not %s", turn.line, got, turn.reply)
		}
		if got := briefSession(s); got != sess {
			t.Errorf("%s leaves %s, not %s", turn.line, got, sess)
		}
		if got := briefKeys(db); got != keys {
			t.Errorf("%s leaves %s, not %s", turn.line, got, keys)
		}
	}
	return db, s
}

func TestP7WhatWaits(t *testing.T) {
	talk(t, nil, impl.Session{}, 10, []turn{
		{"SET k 5", "+OK", "", "k='5'"},
		{"MULTI", "+OK", "multi", ""},
		{"INCRBY k 2", "+QUEUED", "multi [INCRBY k 2]", ""},
		{"GET k", "+QUEUED", "multi [INCRBY k 2] [GET k]", ""},
		{"lpush l x y", "+QUEUED", "multi [INCRBY k 2] [GET k] [lpush l x y]", ""},
		{"EXEC", "*:7 $7 :2", "zero", "k='7' l=[y x]"},
		{"GET k", "$7", "", ""},
		{"MULTI", "+OK", "multi", ""},
		{"EXEC", "*", "zero", ""},
		{"MULTI", "+OK", "multi", ""},
		{"DEL k l", "+QUEUED", "multi [DEL k l]", ""},
		{"DISCARD", "+OK", "zero", ""},
		{"EXEC", "-ERR no multi", "", ""},
		{"DISCARD", "-ERR no multi", "", ""},
		{"MULTI", "+OK", "multi", ""},
		{"DISCARD", "+OK", "zero", ""},
		{"MULTI", "+OK", "multi", ""},
		{"DEL k l", "+QUEUED", "multi [DEL k l]", ""},
		{"EXEC", "*:2", "zero", "none"},
	})
}

// What is refused when its turn comes leaves those around it as they are.
func TestP7RefusedInTurn(t *testing.T) {
	db := oneOfEach()
	queue := []string{"GET l", "INCRBY t x", "SET t v EX 0", "SET t v PX 5", "INCRBY h 1", "LRANGE l 0 -1", "HGETALL h", "KEYS", "FLUSHALL", "KEYS", "LRANGE l 0 -1", "PING", "RPUSH l z"}
	keys, s, reply := asked(t, db, multi(queue...), 10, []string{"EXEC"})
	want := "*-WRONGTYPE -ERR not an integer -ERR invalid expire -ERR syntax -WRONGTYPE *$a $b $c *$f $1 $g $2 *$h $l $t $z +OK * * +PONG :1"
	if got := briefReply(reply); got != want || briefKeys(keys) != "l=[z]" || briefSession(s) != "zero" {
		t.Errorf("%s %s %s", got, briefKeys(keys), briefSession(s))
	}
	// A right session may hold what MULTI would not have let wait.
	keys, s, reply = asked(t, db, multi("FLY", "EXEC", "MULTI", "GET", "DISCARD x", "STRLEN t"), 10, []string{"EXEC"})
	want = "*-ERR unknown command -ERR unknown command -ERR unknown command -ERR wrong number of arguments -ERR unknown command :2"
	if got := briefReply(reply); got != want || !sameKeys(keys, db) || briefSession(s) != "zero" {
		t.Errorf("%s %s %s", got, briefKeys(keys), briefSession(s))
	}
	most := multi(slices.Repeat([]string{"HGETALL h"}, impl.MaxArgs)...)
	full := []impl.Key{key("h", hashValue(manyPairs(impl.MaxItems)...), 0)}
	if _, _, reply = asked(t, full, most, 10, []string{"EXEC"}); len(reply) != impl.MaxArgs*(2*impl.MaxItems+1)+1 {
		t.Errorf("%d nodes", len(reply))
	}
}

// Each refusal, without MULTI and with it, and whether it makes a session dirty.
func TestP7Dirty(t *testing.T) {
	full := multi(slices.Repeat([]string{"PING"}, impl.MaxArgs)...)
	for _, r := range []struct {
		s     impl.Session
		line  string
		reply string
		dirty bool
	}{
		{multi(), "FLY", "-ERR unknown command", true},
		{multi("PING"), "FLY x y", "-ERR unknown command", true},
		{multi(), "GET", "-ERR wrong number of arguments", true},
		{multi(), "GET k k", "-ERR wrong number of arguments", true},
		{multi("PING"), "SET k v EX", "-ERR wrong number of arguments", true},
		{multi(), "HSET k f v g", "-ERR wrong number of arguments", true},
		{multi(), "MULTI x", "-ERR wrong number of arguments", true},
		{multi(), "EXEC x", "-ERR wrong number of arguments", true},
		{multi("SET k v"), "EXEC x y", "-ERR wrong number of arguments", true},
		{multi(), "DISCARD x", "-ERR wrong number of arguments", true},
		{full, "PING", "-ERR full", true},
		{full, "FLY", "-ERR unknown command", true},
		{full, "GET", "-ERR wrong number of arguments", true},
		{full, "exec x", "-ERR wrong number of arguments", true},
		{multi(), "MULTI", "-ERR nested", false},
		{full, "MULTI", "-ERR nested", false},
		{impl.Session{}, "MULTI x", "-ERR wrong number of arguments", false},
		{impl.Session{}, "EXEC x", "-ERR wrong number of arguments", false},
		{impl.Session{}, "DISCARD x", "-ERR wrong number of arguments", false},
		{impl.Session{}, "EXEC", "-ERR no multi", false},
		{impl.Session{}, "DISCARD", "-ERR no multi", false},
		{impl.Session{}, "FLY", "-ERR unknown command", false},
		{impl.Session{}, "GET", "-ERR wrong number of arguments", false},
		{impl.Session{}, "GET l", "-WRONGTYPE", false},
		{impl.Session{}, "INCRBY t x", "-ERR not an integer", false},
		{impl.Session{}, "SET t v PX 1", "-ERR syntax", false},
		{impl.Session{}, "SET t v EX 0", "-ERR invalid expire", false},
		{impl.Session{}, "INCRBY t 1000000000000000000", "-ERR out of range", false},
		// What would be refused only when it is done may wait.
		{multi(), "GET l", "+QUEUED", false},
		{multi(), "INCRBY t x", "+QUEUED", false},
		{multi(), "SET t v PX 1", "+QUEUED", false},
		{multi(), "SET t v EX 0", "+QUEUED", false},
		{multi(slices.Repeat([]string{"PING"}, impl.MaxArgs-1)...), "PING", "+QUEUED", false},
	} {
		for _, s := range []impl.Session{r.s, resting("GE", r.s), dirty(r.s)} {
			if s.Dirty && !s.Multi {
				continue
			}
			args := strings.Fields(r.line)
			want := twinSession(s)
			want.Dirty = s.Dirty || r.dirty
			if r.reply == "+QUEUED" {
				want.Queue = append(want.Queue, args)
			}
			keys, after, reply := asked(t, oneOfEach(), s, 10, args)
			if briefReply(reply) != r.reply || !sameSession(after, want) || !sameKeys(keys, oneOfEach()) {
				t.Errorf("%s of %s: %s, %s, %s", r.line, briefSession(s), briefReply(reply), briefSession(after), briefKeys(keys))
			}
		}
	}
}

func TestP7NothingOfADirtyOne(t *testing.T) {
	for _, line := range []string{"FLY", "GET", "EXEC x", "DISCARD x", "MULTI x"} {
		db, s := talk(t, oneOfEach(), impl.Session{Rest: "GE"}, 10, []turn{
			{"MULTI", "+OK", `multi "GE"`, ""},
			{"FLUSHALL", "+QUEUED", `multi [FLUSHALL] "GE"`, ""},
		})
		db, s, _ = asked(t, db, s, 10, strings.Fields(line))
		db, s = talk(t, db, s, 10, []turn{
			{"SET t new", "+QUEUED", `multi dirty [FLUSHALL] [SET t new] "GE"`, ""},
			{"MULTI", "-ERR nested", "", ""},
			{"EXEC", "-EXECABORT", `"GE"`, ""},
			{"EXEC", "-ERR no multi", "", ""},
			{"MULTI", "+OK", `multi "GE"`, ""},
			{"EXEC", "*", `"GE"`, ""},
		})
		if !sameKeys(db, oneOfEach()) || s.Rest != "GE" {
			t.Errorf("%s: %s %s", line, briefKeys(db), briefSession(s))
		}
	}
	talk(t, oneOfEach(), dirty(multi("FLUSHALL")), 10, []turn{{"DISCARD", "+OK", "zero", ""}, {"MULTI", "+OK", "multi", ""}, {"EXEC", "*", "zero", ""}})
}

func TestP7FullQueue(t *testing.T) {
	db, s := []impl.Key(nil), impl.Session{Multi: true}
	for i := range impl.MaxArgs {
		var reply []impl.Resp
		db, s, reply = asked(t, db, s, 10, []string{"INCRBY", "n", strconv.Itoa(i)})
		if briefReply(reply) != "+QUEUED" || len(s.Queue) != i+1 || s.Dirty {
			t.Fatalf("%d: %s %s", i, briefReply(reply), briefSession(s))
		}
	}
	keys, _, reply := asked(t, db, s, 10, []string{"EXEC"})
	if briefKeys(keys) != "n='120'" || len(reply) != impl.MaxArgs+1 {
		t.Error(briefKeys(keys), briefReply(reply))
	}
	db, s, reply = asked(t, db, s, 10, []string{"PING"})
	if briefReply(reply) != "-ERR full" || len(s.Queue) != impl.MaxArgs || !s.Dirty {
		t.Error(briefReply(reply), briefSession(s))
	}
	talk(t, db, s, 10, []turn{{"EXEC", "-EXECABORT", "zero", "none"}})
}

func TestP7Letters(t *testing.T) {
	for _, word := range []string{"multi", "Multi", "mULTI", "MULTi", "MULTI"} {
		talk(t, nil, impl.Session{}, 10, []turn{{word, "+OK", "multi", ""}, {word, "-ERR nested", "", ""}, {word + " x", "-ERR wrong number of arguments", "multi dirty", ""}})
	}
	for _, word := range []string{"exec", "Exec", "eXEC", "EXEc", "EXEC"} {
		talk(t, nil, multi("ping"), 10, []turn{{word, "*+PONG", "zero", ""}, {word, "-ERR no multi", "", ""}})
	}
	for _, word := range []string{"discard", "Discard", "dISCARd", "DISCARD"} {
		talk(t, nil, multi("ping"), 10, []turn{{word, "+OK", "zero", ""}, {word, "-ERR no multi", "", ""}})
	}
	for _, word := range []string{"", " MULTI", "MULTI ", "MULT", "MULTII", "EXE", "EXEC\x00", "EXEC\n", "DISCARDS", "multı", "\x6dulti\xff", "Dıscard", "[", "{"} {
		for _, s := range []impl.Session{{}, multi("PING")} {
			_, after, reply := asked(t, nil, s, 10, []string{word})
			if briefReply(reply) != "-ERR unknown command" || after.Dirty != s.Multi || after.Multi != s.Multi {
				t.Errorf("%q: %s %s", word, briefReply(reply), briefSession(after))
			}
		}
	}
}

// Keys whose time has come go with every request, also one that is refused.
func TestP7KeysWithTimes(t *testing.T) {
	db := []impl.Key{key("a", textValue("1"), 5), key("b", textValue("2"), 9), key("c", textValue("3"), 0)}
	for _, line := range []string{"MULTI", "EXEC", "DISCARD", "MULTI x", "FLY", "GET", "GET c", "PING"} {
		for _, s := range []impl.Session{{}, multi(), dirty(multi("FLUSHALL"))} {
			for now, want := range map[int64]string{0: "abc", 4: "abc", 5: "bc", 8: "bc", 9: "c", impl.MaxTime: "c"} {
				keys, _, _ := asked(t, db, s, now, strings.Fields(line))
				got := ""
				for _, k := range keys {
					got += k.Name
				}
				if got != want {
					t.Errorf("%s at %d: %s, not %s", line, now, got, want)
				}
			}
		}
	}
	// What waits is done at the time of EXEC.
	waits := multi("GET a", "SET n v EX 4", "TTL b", "TTL n")
	for now, want := range map[int64]string{4: "*$1 +OK :5 :4", 5: "*null +OK :4 :4", 9: "*null +OK :-2 :4", impl.MaxTime - 4: "*null +OK :-2 :4", impl.MaxTime - 3: "*null -ERR invalid expire :-2 :-2"} {
		_, _, reply := asked(t, db, waits, now, []string{"EXEC"})
		if got := briefReply(reply); got != want {
			t.Errorf("at %d: %s, not %s", now, got, want)
		}
	}
}

func TestP7AskedOfWrongArguments(t *testing.T) {
	db, ping := manyKeys(3), []string{"PING"}
	nothing := func(name string, db []impl.Key, s impl.Session, now int64, args []string) {
		t.Helper()
		if keys, after, reply := impl.Asked(db, s, now, args); len(keys) != 0 || !sameSession(after, impl.Session{}) || len(reply) != 0 {
			t.Errorf("%s: %v %v %v", name, keys, after, reply)
		}
	}
	for i, args := range [][]string{ping, {"MULTI"}, {"EXEC"}, {"DISCARD"}, {"EXEC", "x"}, {"FLY"}, {"SET", "k", "v"}} {
		for _, wrong := range wrongKeys() {
			nothing("keys", wrong, impl.Session{}, 0, args)
			nothing("keys", wrong, multi("PING"), 0, args)
		}
		for _, wrong := range wrongSessions() {
			nothing("session", db, wrong, 0, args)
		}
		for _, now := range []int64{-1, impl.MaxTime + 1, math.MinInt64, math.MaxInt64} {
			nothing("time", db, impl.Session{}, now, args)
			nothing("time", db, multi("PING"), now, args)
		}
		nothing("dead "+strconv.Itoa(i), db, deadSession(), 0, args)
	}
	for _, s := range []impl.Session{{}, multi(), dirty(multi("PING"))} {
		for _, args := range [][]string{nil, {}, many(impl.MaxArgs+1, "PING"), append([]string{"EXEC"}, names(impl.MaxArgs)...), {"ECHO", longText(impl.MaxBulk + 1)}, {longText(impl.MaxBulk + 1)}} {
			nothing("args", db, s, 0, args)
		}
	}
	for _, now := range []int64{0, impl.MaxTime} {
		talk(t, db, impl.Session{}, now, []turn{{"PING", "+PONG", "zero", ""}, {"MULTI", "+OK", "multi", ""}})
	}
	longest := longText(impl.MaxBulk)
	talk(t, db, multi(), 0, []turn{{"ECHO " + longest, "+QUEUED", "multi [ECHO " + longest + "]", ""}, {"EXEC", "*$" + longest, "zero", ""}})
	most := "EXISTS" + strings.Repeat(" a0", impl.MaxArgs-1)
	talk(t, db, multi(), 0, []turn{{most, "+QUEUED", "multi [" + most + "]", ""}, {"EXEC", "*:15", "zero", ""}})
}

// askedByWords does what the chapter says with Done alone, and gives the reply's text.
func askedByWords(db []impl.Key, s impl.Session, now int64, args []string) ([]impl.Key, impl.Session, string) {
	const count = "-ERR wrong number of arguments\r\n"
	word := strings.ToUpper(args[0])
	alive, plain := aliveByWords(db, now), impl.Session{Rest: s.Rest}
	_, trial := impl.Done(nil, now, args)
	refused := impl.RespText(trial)
	spoilt := twinSession(s)
	spoilt.Dirty = s.Multi
	switch {
	case isSteering(word) && len(args) > 1:
		return alive, spoilt, count
	case word == "MULTI" && s.Multi:
		return alive, s, "-ERR nested\r\n"
	case word == "MULTI":
		return alive, impl.Session{Rest: s.Rest, Multi: true}, "+OK\r\n"
	case isSteering(word) && !s.Multi:
		return alive, s, "-ERR no multi\r\n"
	case word == "DISCARD":
		return alive, plain, "+OK\r\n"
	case word == "EXEC" && s.Dirty:
		return alive, plain, "-EXECABORT\r\n"
	case word == "EXEC":
		text := "*" + strconv.Itoa(len(s.Queue)) + "\r\n"
		for _, waits := range s.Queue {
			var reply []impl.Resp
			alive, reply = impl.Done(alive, now, waits)
			text += impl.RespText(reply)
		}
		return alive, plain, text
	case !s.Multi:
		keys, reply := impl.Done(db, now, args)
		return keys, s, impl.RespText(reply)
	case refused == count || refused == "-ERR unknown command\r\n":
		return alive, spoilt, refused
	case len(s.Queue) == impl.MaxArgs:
		return alive, spoilt, "-ERR full\r\n"
	}
	queued := twinSession(s)
	queued.Queue = append(queued.Queue, args)
	return alive, queued, "+QUEUED\r\n"
}

// anyRequest gives a request as a client may send it, every few times one about what waits.
func anyRequest(d *dice) []string {
	switch d.below(30) {
	case 0, 1, 2, 3:
		return []string{"MULTI"}
	case 4, 5:
		return []string{"exec"}
	case 6:
		return []string{"DISCARD"}
	case 7:
		return []string{[]string{"multi", "EXEC", "DiscarD", "FLY"}[d.below(4)], "x"}
	}
	return anyArgs(d)
}

func TestP7AnyRequests(t *testing.T) {
	seen := map[string]int{}
	for seed := range uint64(20) {
		d := &dice{seed}
		db, s, now := anyKeys(d), impl.Session{Rest: "GE"}, int64(0)
		for range 200 {
			args := anyRequest(d)
			wantKeys, wantSession, wantText := askedByWords(db, s, now, args)
			keys, after, reply := asked(t, db, s, now, args)
			if text := impl.RespText(reply); text != wantText {
				t.Fatalf("%q of %s: %q, not %q", args, briefSession(s), text, wantText)
			}
			if !sameKeys(keys, wantKeys) || !sameSession(after, wantSession) {
				t.Fatalf("%q of %s leaves %s and %s", args, briefSession(s), briefSession(after), briefKeys(keys))
			}
			seen[wantText]++
			if len(s.Queue) > 1 && strings.HasPrefix(wantText, "*") {
				seen["many"]++
			}
			db, s, now = keys, after, now+int64(d.below(20)/19)
		}
	}
	for _, text := range []string{"many", "+QUEUED\r\n", "-EXECABORT\r\n", "-ERR nested\r\n", "-ERR no multi\r\n", "-ERR full\r\n"} {
		if seen[text] < 5 {
			t.Errorf("%q was seen %d times", text, seen[text])
		}
	}
}

// What is queued and done by EXEC leaves the keys and says the replies that the
// same requests leave and say one by one.
func TestP7AsIfOneByOne(t *testing.T) {
	for seed := range uint64(100) {
		d := &dice{seed}
		start, s := anyKeys(d), impl.Session{Multi: true}
		now := int64(d.below(20))
		one, waiting := aliveByWords(start, now), start
		var texts string
		for range 1 + int(seed)%(2*impl.MaxArgs) {
			args := anyArgs(d)
			var queued []impl.Resp
			waiting, s, queued = asked(t, waiting, s, now, args)
			if briefReply(queued) != "+QUEUED" {
				s.Dirty = false
				continue
			}
			var reply []impl.Resp
			one, reply = impl.Done(one, now, args)
			texts += impl.RespText(reply)
		}
		keys, after, reply := asked(t, waiting, s, now, []string{"EXEC"})
		want := "*" + strconv.Itoa(len(s.Queue)) + "\r\n" + texts
		if !sameKeys(keys, one) || impl.RespText(reply) != want || !sameSession(after, impl.Session{}) {
			t.Fatalf("%s: %s, not %s; %q, not %q", briefSession(s), briefKeys(keys), briefKeys(one), impl.RespText(reply), want)
		}
		s.Dirty = true
		if keys, _, _ := asked(t, start, s, now, []string{"EXEC"}); !sameKeys(keys, aliveByWords(start, now)) {
			t.Fatalf("%s: some of it is done", briefSession(s))
		}
	}
}

// served is Served of right arguments, held against what holds for every chunk.
func served(t *testing.T, db []impl.Key, s impl.Session, now int64, chunk string) ([]impl.Key, impl.Session, string) {
	t.Helper()
	given, keysStay := roomy(db)
	sess, sessionStays := roomySession(s)
	keys, after, said := impl.Served(given, sess, now, chunk)
	again, afterAgain, saidAgain := impl.Served(given, sess, now, chunk)
	if !sameKeys(keys, again) || !sameSession(after, afterAgain) || said != saidAgain {
		t.Fatalf("%q: once %q, once %q", chunk, said, saidAgain)
	}
	if !impl.DbOk(keys) || !impl.SessionOk(after) || !sameKeys(keys, aliveByWords(keys, now)) {
		t.Fatalf("%q leaves keys or a session that is not right: %v %v", chunk, keys, after)
	}
	if !ownsItsLists(again) || !ownsItsQueue(afterAgain) {
		t.Fatalf("%q: two lists of one answer share memory", chunk)
	}
	if !keysStay() || !sessionStays() {
		t.Fatalf("%q writes into an argument, or shares it", chunk)
	}
	return keys, after, said
}

func TestP7Served(t *testing.T) {
	const wrong = "-ERR Protocol error\r\n"
	db := []impl.Key{key("k", textValue("v"), 50)}
	for _, r := range []struct {
		s     impl.Session
		chunk string
		said  string
		after impl.Session
		keys  string
	}{
		{impl.Session{}, "", "", impl.Session{}, "k='v'@50"},
		{impl.Session{}, "\n \r\n*0\r\n", "", impl.Session{}, "k='v'@50"},
		{impl.Session{}, "PING\n", "+PONG\r\n", impl.Session{}, "k='v'@50"},
		{impl.Session{}, "PI", "", resting("PI", impl.Session{}), "k='v'@50"},
		{resting("PI", impl.Session{}), "NG\r\nGET k\nDEL", "+PONG\r\n$1\r\nv\r\n", resting("DEL", impl.Session{}), "k='v'@50"},
		{resting("PI", impl.Session{}), "", "", resting("PI", impl.Session{}), "k='v'@50"},
		{impl.Session{}, "SET k 1\nincrby k 2\n*2\r\n$3\r\nGET\r\n$1\r\nk\r\n", "+OK\r\n:3\r\n$1\r\n3\r\n", impl.Session{}, "k='3'"},
		{impl.Session{}, "FLY\nGET\nLLEN k\n", "-ERR unknown command\r\n-ERR wrong number of arguments\r\n-WRONGTYPE\r\n", impl.Session{}, "k='v'@50"},
		{impl.Session{}, "MULTI\nDEL k\n*1", "+OK\r\n+QUEUED\r\n", resting("*1", multi("DEL k")), "k='v'@50"},
		{resting("EX", multi("DEL k", "KEYS")), "EC\n", "*2\r\n:1\r\n*0\r\n", impl.Session{}, "none"},
		{resting("FL", multi("DEL k")), "Y\nEX", "-ERR unknown command\r\n", resting("EX", dirty(multi("DEL k"))), "k='v'@50"},
		{resting("EX", dirty(multi("DEL k"))), "EC\nEXEC\n", "-EXECABORT\r\n-ERR no multi\r\n", impl.Session{}, "k='v'@50"},
		{multi("DEL k"), "DISCARD\nGET k\n", "+OK\r\n$1\r\nv\r\n", impl.Session{}, "k='v'@50"},
		{impl.Session{}, "*x\r\n", wrong, deadSession(), "k='v'@50"},
		{impl.Session{}, "DEL k\n*17\r\nSET k w\nPING\n", ":1\r\n" + wrong, deadSession(), "none"},
		{resting("*1\r\n$1\r\na", impl.Session{}), "bc\r\nPING\n", wrong, deadSession(), "k='v'@50"},
		{resting("*1\r\n", multi("DEL k")), "x\r\nEXEC\n", wrong, deadSession(), "k='v'@50"},
		{dirty(multi("DEL k")), "PING\nEXEC x\n*-1\r\n", "+QUEUED\r\n-ERR wrong number of arguments\r\n" + wrong, deadSession(), "k='v'@50"},
		{multi("DEL k"), "EXEC\n*-1\r\n", "*1\r\n:1\r\n" + wrong, deadSession(), "none"},
		{deadSession(), "", "", deadSession(), "k='v'@50"},
		{deadSession(), "DEL k\n", "", deadSession(), "k='v'@50"},
		{deadSession(), "*x\r\n", "", deadSession(), "k='v'@50"},
		{deadSession(), strings.Repeat("\n", 2000), "", deadSession(), "k='v'@50"},
	} {
		keys, after, said := served(t, db, r.s, 10, r.chunk)
		if said != r.said || !sameSession(after, r.after) || briefKeys(keys) != r.keys {
			t.Errorf("%q of %s: %q, %s, %s", r.chunk, briefSession(r.s), said, briefSession(after), briefKeys(keys))
		}
		// Keys whose time has come go, whatever is asked.
		if keys, _, _ := served(t, []impl.Key{key("late", textValue("v"), 10)}, r.s, 10, r.chunk); strings.Contains(briefKeys(keys), "late") {
			t.Errorf("%q of %s leaves %s", r.chunk, briefSession(r.s), briefKeys(keys))
		}
	}
}

func TestP7ServedLimits(t *testing.T) {
	db := manyKeys(3)
	for _, r := range []struct {
		piece string
		said  string
	}{{"\n", ""}, {"*0\r\n", ""}, {"PING\n", "+PONG\r\n"}, {"F\n", "-ERR unknown command\r\n"}, {"DBSIZE \n", ":3\r\n"}} {
		n := 2000 / len(r.piece)
		keys, after, said := served(t, db, impl.Session{}, 0, strings.Repeat(r.piece, n))
		if !sameKeys(keys, db) || !sameSession(after, impl.Session{}) || said != strings.Repeat(r.said, n) {
			t.Errorf("%d times %q: %d bytes, %s", n, r.piece, len(said), briefSession(after))
		}
	}
	text := longestRest() + "\n"
	s, said := impl.Session{}, ""
	for _, chunk := range []string{text[:1400], text[1400 : len(text)-1], text[len(text)-1:]} {
		_, s, said = served(t, db, s, 0, chunk)
	}
	if said != "-ERR unknown command\r\n" || !sameSession(s, impl.Session{}) {
		t.Errorf("%q %s", said, briefSession(s))
	}
	_, s, said = served(t, db, resting(longestRest(), impl.Session{}), 0, "\n"+strings.Repeat("\n", 1994)+"PING\n")
	if said != "-ERR unknown command\r\n+PONG\r\n" || !sameSession(s, impl.Session{}) {
		t.Errorf("%q %s", said, briefSession(s))
	}
}

func TestP7ServedOfWrongArguments(t *testing.T) {
	db := manyKeys(3)
	nothing := func(name string, db []impl.Key, s impl.Session, now int64, chunk string) {
		t.Helper()
		if keys, after, said := impl.Served(db, s, now, chunk); len(keys) != 0 || !sameSession(after, impl.Session{}) || said != "" {
			t.Errorf("%s: %v %v %q", name, keys, after, said)
		}
	}
	for _, chunk := range []string{"", "PING\n", "P", "*x\r\n", "MULTI\n"} {
		for _, wrong := range wrongKeys() {
			nothing("keys", wrong, impl.Session{}, 0, chunk)
			nothing("keys", wrong, deadSession(), 0, chunk)
		}
		for _, wrong := range wrongSessions() {
			nothing("session", db, wrong, 0, chunk)
		}
		for _, now := range []int64{-1, impl.MaxTime + 1, math.MinInt64, math.MaxInt64} {
			nothing("time", db, impl.Session{}, now, chunk)
			nothing("time", db, deadSession(), now, chunk)
		}
	}
	for _, s := range []impl.Session{{}, multi("PING"), deadSession()} {
		for _, piece := range []string{"\n", "P", "*x\r\n"} {
			nothing("chunk", db, s, 0, strings.Repeat(piece, 2001)[:2001])
		}
	}
	for _, now := range []int64{0, impl.MaxTime} {
		if keys, _, said := served(t, db, impl.Session{}, now, "PING\n"); said != "+PONG\r\n" || !sameKeys(keys, db) {
			t.Errorf("at %d: %q", now, said)
		}
	}
}

// servedAlike holds the second half of promise 7 against one text: cut anywhere
// it leaves and says the same.
func servedAlike(t *testing.T, db []impl.Key, s impl.Session, now int64, text string) {
	t.Helper()
	keys, after, said := served(t, db, s, now, text)
	for i := range len(text) + 1 {
		k, between, first := impl.Served(db, s, now, text[:i])
		k, last, second := impl.Served(k, between, now, text[i:])
		if !sameKeys(k, keys) || !sameSession(last, after) || first+second != said {
			t.Fatalf("%q of %s cut at %d: %q and %q, %s, %s", text, briefSession(s), i, first, second, briefSession(last), briefKeys(k))
		}
	}
}

// anyBytes gives what a client may send: requests in both forms, sometimes wrong bytes.
func anyBytes(d *dice, pieces int) string {
	var text strings.Builder
	for range d.below(pieces + 1) {
		args := anyRequest(d)
		switch d.below(12) {
		case 0:
			text.WriteString(d.bytes(4))
		case 1:
			text.WriteString("\r\n*0\r\n")
		case 2, 3, 4, 5, 6:
			text.WriteString(impl.RequestText(args))
		default:
			text.WriteString(strings.Join(args, " ") + "\r\n")
		}
	}
	return text.String()
}

func anySession(d *dice) impl.Session {
	var s impl.Session
	if d.below(2) == 0 {
		s.Multi, s.Dirty = true, d.below(4) == 0
		for range d.below(5) {
			s.Queue = append(s.Queue, anyArgs(d))
		}
	}
	rest := []string{"", "", "P", "*2\r\n$3\r\nGET\r\n$", "EXE", "\r", "*"}
	s.Rest = rest[d.below(len(rest))]
	if d.below(20) == 0 {
		return deadSession()
	}
	return s
}

func TestP7TwoPieces(t *testing.T) {
	ended := 0
	for seed := range uint64(150) {
		d := &dice{seed}
		db, s, now := anyKeys(d), anySession(d), int64(d.below(20))
		text := anyBytes(d, 8)
		servedAlike(t, db, s, now, text)
		if _, after, _ := impl.Served(db, s, now, text); after.Dead && !s.Dead {
			ended++
		}
	}
	if ended < 10 {
		t.Errorf("%d sessions were ended by wrong bytes", ended)
	}
	servedAlike(t, nil, impl.Session{}, 0, "SET k 1\nMULTI\nINCRBY k 2\n*2\r\n$3\r\nGET\r\n$1\r\nk\r\nEXEC\r\nGET k\nQ")
	servedAlike(t, manyKeys(2), impl.Session{}, 0, "PING\n"+strings.Repeat(" ", impl.MaxLine+5)+"\nFLUSHALL\n")
	servedAlike(t, manyKeys(2), multi("FLUSHALL"), 0, "*1\r\n$4\r\nEXECx\r\nEXEC\n")
	servedAlike(t, manyKeys(2), multi("FLUSHALL"), 0, "\nEXEC\n*1\r\n$-1\r\nPING\n*x\r\n")
}

// Bytes are served as the requests that Fed tells of them are asked.
func TestP7ServedIsAsked(t *testing.T) {
	for seed := range uint64(150) {
		d := &dice{seed + 700}
		db, s, now := anyKeys(d), anySession(d), int64(d.below(20))
		chunk := anyBytes(d, 12)
		if s.Dead || len(chunk) > 2000 {
			continue
		}
		keys, want, text := aliveByWords(db, now), s, ""
		list, left, ok := impl.Fed(s.Rest, chunk)
		for _, args := range list {
			var reply string
			keys, want, reply = askedByWords(keys, want, now, args)
			text += reply
		}
		want.Rest = left
		if !ok {
			want, text = deadSession(), text+"-ERR Protocol error\r\n"
		}
		got, after, said := served(t, db, s, now, chunk)
		if !sameKeys(got, keys) || !sameSession(after, want) || said != text {
			t.Fatalf("%q of %s: %q, not %q; %s, not %s", chunk, briefSession(s), said, text, briefSession(after), briefSession(want))
		}
	}
}

// Whatever came, a dead session is the zero one but for that, and stays so.
func TestP7DeadStaysDead(t *testing.T) {
	for _, s := range rightSessions() {
		if s.Dead {
			continue
		}
		// Any of the rests is wrong with so many bytes of this kind behind it.
		_, after, said := served(t, manyKeys(2), s, 0, strings.Repeat("*x\r\n", 500))
		if !sameSession(after, deadSession()) || !strings.HasSuffix(said, "-ERR Protocol error\r\n") {
			t.Errorf("%s: %q, %s", briefSession(s), said, briefSession(after))
		}
		for _, chunk := range []string{"", "PING\n", "FLUSHALL\n*x\r\n"} {
			if keys, still, said := served(t, manyKeys(2), after, 0, chunk); said != "" || !sameSession(still, deadSession()) || len(keys) != 2 {
				t.Errorf("%q: %q, %s", chunk, said, briefSession(still))
			}
		}
	}
}
