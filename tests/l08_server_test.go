package tests

import (
	"math"
	"runtime"
	"slices"
	"strconv"
	"strings"
	"sync"
	"testing"
	"time"

	"loop.example/g00302/impl"
)

func sameClient(a impl.Client, b impl.Client) bool {
	return a.Id == b.Id && sameSession(a.Sess, b.Sess)
}

func sameServer(a impl.Server, b impl.Server) bool {
	return sameKeys(a.Db, b.Db) && a.Now == b.Now && slices.EqualFunc(a.Clients, b.Clients, sameClient)
}

// twinServer gives the same server in memory of its own.
func twinServer(s impl.Server) impl.Server {
	s.Db, s.Clients = twin(s.Db), slices.Clone(s.Clients)
	for i := range s.Clients {
		s.Clients[i].Sess = twinSession(s.Clients[i].Sess)
	}
	return s
}

func briefServer(s impl.Server) string {
	text := strconv.FormatInt(s.Now, 10) + ": " + briefKeys(s.Db)
	for _, c := range s.Clients {
		text += "; " + strconv.FormatInt(c.Id, 10) + " " + briefSession(c.Sess)
	}
	return text
}

// roomyServer gives the same server with spare room behind each list, and a way
// to ask whether anything was written there or in the server.
func roomyServer(s impl.Server) (impl.Server, func() bool) {
	db, keysStay := roomy(s.Db)
	clients := append(make([]impl.Client, 0, len(s.Clients)+3), s.Clients...)
	var sessionsStay []func() bool
	for i, c := range clients {
		sess, stays := roomySession(c.Sess)
		clients[i].Sess = sess
		sessionsStay = append(sessionsStay, stays)
	}
	same := impl.Server{Db: db, Now: s.Now, Clients: clients}
	return same, func() bool {
		untouched := sameServer(same, s) && keysStay()
		for _, c := range clients[len(clients):cap(clients)] {
			untouched = untouched && sameClient(c, impl.Client{})
		}
		for _, stays := range sessionsStay {
			untouched = untouched && stays()
		}
		return untouched
	}
}

// ownsItsParts writes over one list of a server after the other, and says
// whether those behind it stayed as they were.
func ownsItsParts(s impl.Server) bool {
	before := twinServer(s)
	if !ownsItsLists(s.Db) || !slices.EqualFunc(s.Clients, before.Clients, sameClient) {
		return false
	}
	for i, c := range s.Clients {
		if !ownsItsQueue(c.Sess) || !slices.EqualFunc(s.Clients[i+1:], before.Clients[i+1:], sameClient) {
			return false
		}
	}
	spare := s.Clients[:cap(s.Clients)]
	for i := range spare {
		spare[i] = impl.Client{Id: -1}
	}
	return true
}

func client(id int64, s impl.Session) impl.Client {
	return impl.Client{Id: id, Sess: s}
}

// fullServer has as many clients as there may be, of all sorts.
func fullServer() impl.Server {
	return impl.Server{Db: oneOfEach(), Now: 10, Clients: []impl.Client{
		client(1, impl.Session{}), client(2, resting("GE", multi("DEL h", "KEYS"))), client(3, deadSession()), client(500, dirty(multi("FLUSHALL"))), client(1000, resting("*1\r\n", impl.Session{})),
	}}
}

func open(id int64) impl.Event {
	return impl.Event{Kind: impl.EvOpen, Id: id}
}

func shut(id int64) impl.Event {
	return impl.Event{Kind: impl.EvClose, Id: id}
}

func send(id int64, text string) impl.Event {
	return impl.Event{Kind: impl.EvChunk, Id: id, Text: text}
}

func tick(n int64) impl.Event {
	return impl.Event{Kind: impl.EvTick, N: n}
}

func rightServers() []impl.Server {
	zero := impl.Session{}
	list := []impl.Server{
		{},
		{Db: []impl.Key{}, Clients: []impl.Client{}},
		{Now: impl.MaxTime},
		{Db: manyKeys(impl.MaxKeys)},
		// A key may lie there though its time has come.
		{Db: []impl.Key{key("a", textValue(""), 5)}, Now: 9},
		{Clients: []impl.Client{client(1, zero)}},
		{Clients: []impl.Client{client(1000, zero)}},
		{Clients: []impl.Client{client(1, zero), client(2, zero), client(3, zero), client(4, zero), client(5, zero)}},
		fullServer(),
	}
	for _, s := range rightSessions() {
		list = append(list, impl.Server{Clients: []impl.Client{client(7, s)}})
	}
	return list
}

func wrongServers() []impl.Server {
	zero := impl.Session{}
	list := []impl.Server{
		{Now: -1},
		{Now: impl.MaxTime + 1},
		{Now: math.MinInt64},
		{Now: math.MaxInt64},
		{Clients: []impl.Client{{}}},
		{Clients: []impl.Client{client(0, zero)}},
		{Clients: []impl.Client{client(-1, zero)}},
		{Clients: []impl.Client{client(1001, zero)}},
		{Clients: []impl.Client{client(math.MinInt64, zero), client(1, zero)}},
		{Clients: []impl.Client{client(1, zero), client(math.MaxInt64, zero)}},
		{Clients: []impl.Client{client(1, zero), client(1, zero)}},
		{Clients: []impl.Client{client(2, zero), client(1, zero)}},
		{Clients: []impl.Client{client(1, zero), client(3, zero), client(2, zero)}},
		{Clients: []impl.Client{client(1, zero), client(2, zero), client(3, zero), client(4, zero), client(5, zero), client(6, zero)}},
	}
	for _, db := range wrongKeys() {
		list = append(list, impl.Server{Db: db})
	}
	for _, s := range wrongSessions() {
		list = append(list, impl.Server{Clients: []impl.Client{client(1, zero), client(2, s)}})
	}
	return list
}

func TestP8RightAndWrongServers(t *testing.T) {
	for i, s := range rightServers() {
		if !impl.ServerOk(s) {
			t.Errorf("%d is not right: %s", i, briefServer(s))
		}
		// No events change nothing.
		if same, outs := ran(t, s, nil); !sameServer(same, s) || len(outs) != 0 {
			t.Errorf("%d: %s", i, briefServer(same))
		}
	}
	for i, s := range wrongServers() {
		if impl.ServerOk(s) {
			t.Errorf("%d is right: %s", i, briefServer(s))
		}
		for _, e := range []impl.Event{open(9), shut(1), send(1, "PING\n"), tick(1), tick(0), {}} {
			if after, said, ok := impl.Happened(s, e); ok || said != "" || !sameServer(after, impl.Server{}) {
				t.Errorf("%d, %v: %s %q", i, e, briefServer(after), said)
			}
			if after, outs := impl.Ran(s, []impl.Event{e, e}); len(outs) != 0 || !sameServer(after, impl.Server{}) {
				t.Errorf("%d, %v: %s %v", i, e, briefServer(after), outs)
			}
		}
		if after, outs := impl.Ran(s, nil); len(outs) != 0 || !sameServer(after, impl.Server{}) {
			t.Errorf("%d: %s %v", i, briefServer(after), outs)
		}
	}
}

// happened is Happened of a right server, held against what holds for every event.
func happened(t *testing.T, s impl.Server, e impl.Event) (impl.Server, string, bool) {
	t.Helper()
	given, stays := roomyServer(s)
	after, said, ok := impl.Happened(given, e)
	again, saidAgain, okAgain := impl.Happened(given, e)
	if !sameServer(after, again) || said != saidAgain || ok != okAgain {
		t.Fatalf("%v: once %q, once %q", e, said, saidAgain)
	}
	if !impl.ServerOk(after) {
		t.Fatalf("%v leaves a server that is not right: %s", e, briefServer(after))
	}
	if !ok && (said != "" || !sameServer(after, s)) {
		t.Fatalf("%v is refused and leaves %s", e, briefServer(after))
	}
	if !slices.EqualFunc(others(after, e.Id), others(s, e.Id), sameClient) {
		t.Fatalf("%v of %s leaves %s", e, briefServer(s), briefServer(after))
	}
	if !ownsItsParts(again) {
		t.Fatalf("%v: two lists of one answer share memory", e)
	}
	if !stays() {
		t.Fatalf("%v writes into an argument, or shares it", e)
	}
	return after, said, ok
}

// others gives the clients but the one with that Id.
func others(s impl.Server, id int64) []impl.Client {
	var list []impl.Client
	for _, c := range s.Clients {
		if c.Id != id {
			list = append(list, c)
		}
	}
	return list
}

// ran is Ran of right arguments, held against Happened one by one.
func ran(t *testing.T, s impl.Server, list []impl.Event) (impl.Server, []impl.Out) {
	t.Helper()
	given, stays := roomyServer(s)
	events := append(make([]impl.Event, 0, len(list)+3), list...)
	after, outs := impl.Ran(given, events)
	again, outsAgain := impl.Ran(given, events)
	if !sameServer(after, again) || !slices.Equal(outs, outsAgain) {
		t.Fatalf("%v: once %v, once %v", list, outs, outsAgain)
	}
	one, said := s, []impl.Out(nil)
	for _, e := range list {
		var text string
		one, text, _ = impl.Happened(one, e)
		if text != "" {
			said = append(said, impl.Out{Id: e.Id, Text: text})
		}
	}
	if !sameServer(after, one) || !slices.Equal(outs, said) {
		t.Fatalf("%v: %s and %v, one by one %s and %v", list, briefServer(after), outs, briefServer(one), said)
	}
	if !ownsItsParts(again) {
		t.Fatalf("%v: two lists of one answer share memory", list)
	}
	if !stays() || !slices.Equal(events, list) || !spareIsZero(events) {
		t.Fatalf("%v writes into an argument, or shares it", list)
	}
	return after, outs
}

func TestP8Events(t *testing.T) {
	s := impl.Server{}
	for _, r := range []struct {
		e     impl.Event
		said  string
		after string
	}{
		{open(2), "", "0: none; 2 zero"},
		{open(1), "", "0: none; 1 zero; 2 zero"},
		{open(1000), "", "0: none; 1 zero; 2 zero; 1000 zero"},
		{send(1, "SET k v EX 5\nSET l w\nGE"), "+OK\r\n+OK\r\n", `0: k='v'@5 l='w'; 1 "GE"; 2 zero; 1000 zero`},
		{send(2, "MULTI\nDEL l\n"), "+OK\r\n+QUEUED\r\n", `0: k='v'@5 l='w'; 1 "GE"; 2 multi [DEL l]; 1000 zero`},
		{send(1000, ""), "", `0: k='v'@5 l='w'; 1 "GE"; 2 multi [DEL l]; 1000 zero`},
		{send(1000, "*x\r\n"), "-ERR Protocol error\r\n", `0: k='v'@5 l='w'; 1 "GE"; 2 multi [DEL l]; 1000 dead`},
		{tick(0), "", `0: k='v'@5 l='w'; 1 "GE"; 2 multi [DEL l]; 1000 dead`},
		{tick(4), "", `4: k='v'@5 l='w'; 1 "GE"; 2 multi [DEL l]; 1000 dead`},
		{send(1, "T k\nGET l\nGE"), "$1\r\nv\r\n$1\r\nw\r\n", `4: k='v'@5 l='w'; 1 "GE"; 2 multi [DEL l]; 1000 dead`},
		{send(1000, "PING\n"), "", `4: k='v'@5 l='w'; 1 "GE"; 2 multi [DEL l]; 1000 dead`},
		{shut(1000), "", `4: k='v'@5 l='w'; 1 "GE"; 2 multi [DEL l]`},
		{open(1000), "", `4: k='v'@5 l='w'; 1 "GE"; 2 multi [DEL l]; 1000 zero`},
		{send(1000, "PING\n"), "+PONG\r\n", `4: k='v'@5 l='w'; 1 "GE"; 2 multi [DEL l]; 1000 zero`},
		{tick(1), "", `5: l='w'; 1 "GE"; 2 multi [DEL l]; 1000 zero`},
		{send(1, "T k\n"), "$-1\r\n", `5: l='w'; 1 zero; 2 multi [DEL l]; 1000 zero`},
		{send(2, "EXEC\n"), "*1\r\n:1\r\n", `5: none; 1 zero; 2 zero; 1000 zero`},
		{send(1000, "EXISTS k l\n"), ":0\r\n", `5: none; 1 zero; 2 zero; 1000 zero`},
		{shut(1), "", `5: none; 2 zero; 1000 zero`},
		{shut(2), "", `5: none; 1000 zero`},
		{shut(1000), "", `5: none`},
	} {
		after, said, ok := happened(t, s, r.e)
		if !ok || said != r.said || briefServer(after) != r.after {
			t.Errorf("%v: %q, %s, not %s", r.e, said, briefServer(after), r.after)
		}
		s = after
	}
}

// refusedEvents are none of the events of fullServer.
func refusedEvents() []impl.Event {
	return []impl.Event{
		{}, {Kind: -1}, {Kind: 5}, {Kind: 5, Id: 1}, {Kind: math.MinInt64}, {Kind: math.MaxInt64}, {Id: 1, Text: "PING\n"}, {N: 1},
		open(0), open(-1), open(1001), open(math.MinInt64), open(math.MaxInt64), open(1), open(1000), open(4),
		{Kind: impl.EvOpen},
		shut(0), shut(-1), shut(4), shut(999), shut(1001), shut(math.MaxInt64),
		{Kind: impl.EvClose, Id: 1, Text: "x"}, {Kind: impl.EvClose, Id: 1, N: 1}, {Kind: impl.EvClose, Id: 1, N: -1},
		send(0, "PING\n"), send(-1, ""), send(4, "PING\n"), send(1001, "PING\n"), send(1, strings.Repeat("\n", 2001)), send(3, strings.Repeat("\n", 2001)),
		{Kind: impl.EvChunk, Id: 1, Text: "PING\n", N: 1}, {Kind: impl.EvChunk, Id: 1, N: -1}, {Kind: impl.EvChunk, Text: "PING\n"},
		tick(-1), tick(impl.MaxTime + 1), tick(math.MinInt64), tick(math.MaxInt64),
		{Kind: impl.EvTick, Id: 1}, {Kind: impl.EvTick, Id: 1, N: 5}, {Kind: impl.EvTick, N: 5, Text: "x"}, {Kind: impl.EvTick, Text: "\x00"},
	}
}

func TestP8NoEvents(t *testing.T) {
	// The key that is late goes only with an event that asks for keys.
	s := fullServer()
	s.Db = storedByWords(s.Db, key("late", textValue("x"), 10))
	for _, e := range refusedEvents() {
		if after, said, ok := happened(t, s, e); ok || said != "" || !sameServer(after, s) {
			t.Errorf("%v: %q, %s", e, said, briefServer(after))
		}
		if after, outs := ran(t, s, []impl.Event{e, e}); len(outs) != 0 || !sameServer(after, s) {
			t.Errorf("%v: %v, %s", e, outs, briefServer(after))
		}
	}
	// With room only what an event says of itself is in its way.
	for _, e := range []impl.Event{{Kind: impl.EvOpen, Id: 4, Text: "x"}, {Kind: impl.EvOpen, Id: 4, N: 1}, {Kind: impl.EvOpen, Id: 4, N: -1}, open(0), open(1001), open(-4)} {
		if after, _, ok := happened(t, impl.Server{}, e); ok || len(after.Clients) != 0 {
			t.Errorf("%v: %s", e, briefServer(after))
		}
	}
	after, outs := ran(t, s, append(refusedEvents(), send(1, "PING\n")))
	if len(outs) != 1 || outs[0] != (impl.Out{Id: 1, Text: "+PONG\r\n"}) || !slices.EqualFunc(after.Clients, s.Clients, sameClient) {
		t.Errorf("%v, %s", outs, briefServer(after))
	}
}

func TestP8Opening(t *testing.T) {
	var s impl.Server
	for i, id := range []int64{1000, 1, 7, 3, 999} {
		after, said, ok := happened(t, s, open(id))
		if !ok || said != "" || len(after.Clients) != i+1 {
			t.Fatalf("%d: %s", id, briefServer(after))
		}
		s = after
		if _, _, ok := happened(t, s, open(id)); ok {
			t.Errorf("%d twice", id)
		}
	}
	if briefServer(s) != "0: none; 1 zero; 3 zero; 7 zero; 999 zero; 1000 zero" {
		t.Error(briefServer(s))
	}
	for _, id := range []int64{2, 500, 998} {
		if _, _, ok := happened(t, s, open(id)); ok {
			t.Errorf("%d has no room", id)
		}
		s, _, _ := happened(t, s, shut(7))
		if after, _, ok := happened(t, s, open(id)); !ok || len(after.Clients) != impl.MaxSessions {
			t.Errorf("%d has room", id)
		}
	}
}

// Who comes anew has nothing of the one that went.
func TestP8Closing(t *testing.T) {
	s := fullServer()
	for _, c := range s.Clients {
		gone, said, ok := happened(t, s, shut(c.Id))
		if !ok || said != "" || len(gone.Clients) != len(s.Clients)-1 || !sameKeys(gone.Db, s.Db) || gone.Now != s.Now {
			t.Errorf("%d: %s", c.Id, briefServer(gone))
		}
		if _, _, ok := happened(t, gone, shut(c.Id)); ok {
			t.Errorf("%d twice", c.Id)
		}
		if _, _, ok := happened(t, gone, send(c.Id, "PING\n")); ok {
			t.Errorf("%d is still there", c.Id)
		}
		back, _, ok := happened(t, gone, open(c.Id))
		if !ok || len(others(back, c.Id)) != len(s.Clients)-1 {
			t.Errorf("%d: %s", c.Id, briefServer(back))
		}
		if _, said, _ := happened(t, back, send(c.Id, "EXEC\nPING\n")); said != "-ERR no multi\r\n+PONG\r\n" {
			t.Errorf("%d: %q", c.Id, said)
		}
	}
}

func TestP8ChunkLimits(t *testing.T) {
	s := fullServer()
	most := strings.Repeat("PING\n", 400)
	if after, said, ok := happened(t, s, send(1, most)); !ok || said != strings.Repeat("+PONG\r\n", 400) || !sameServer(after, s) {
		t.Errorf("%v %d bytes, %s", ok, len(said), briefServer(after))
	}
	if _, said, ok := happened(t, s, send(1, most+"\n")); ok || said != "" {
		t.Errorf("%d bytes", len(said))
	}
	// The one that is dead is served, though nothing is said.
	if after, said, ok := happened(t, s, send(3, most)); !ok || said != "" || !sameServer(after, s) {
		t.Errorf("%v %q, %s", ok, said, briefServer(after))
	}
}

func TestP8Ticks(t *testing.T) {
	v := textValue("")
	db := []impl.Key{key("a", v, 5), key("b", v, 6), key("c", v, 0), key("d", v, impl.MaxTime), key("e", v, 2)}
	for _, r := range []struct {
		now, n, then int64
		names        string
	}{
		{0, 0, 0, "abcde"}, {0, 1, 1, "abcde"}, {0, 2, 2, "abcd"}, {2, 0, 2, "abcd"}, {4, 0, 4, "abcd"}, {4, 1, 5, "bcd"}, {4, 2, 6, "cd"}, {6, 0, 6, "cd"},
		{0, impl.MaxTime - 1, impl.MaxTime - 1, "cd"}, {0, impl.MaxTime, impl.MaxTime, "c"}, {1, impl.MaxTime - 1, impl.MaxTime, "c"}, {1, impl.MaxTime, impl.MaxTime, "c"},
		{impl.MaxTime - 1, 0, impl.MaxTime - 1, "cd"}, {impl.MaxTime - 1, 1, impl.MaxTime, "c"}, {impl.MaxTime - 1, 2, impl.MaxTime, "c"},
		{impl.MaxTime, 0, impl.MaxTime, "c"}, {impl.MaxTime, 1, impl.MaxTime, "c"}, {impl.MaxTime, impl.MaxTime, impl.MaxTime, "c"},
	} {
		s := impl.Server{Db: db, Now: r.now, Clients: fullServer().Clients}
		after, said, ok := happened(t, s, tick(r.n))
		got := ""
		for _, k := range after.Db {
			got += k.Name
		}
		if !ok || said != "" || after.Now != r.then || got != r.names || len(after.Clients) != impl.MaxSessions {
			t.Errorf("%d and %d: %d %s", r.now, r.n, after.Now, got)
		}
	}
	// Who comes and goes leaves a key that is late where it lies; who sends does not.
	late := impl.Server{Db: []impl.Key{key("a", v, 5)}, Now: 5, Clients: []impl.Client{client(1, impl.Session{})}}
	for _, e := range []impl.Event{open(2), shut(1)} {
		if after, _, ok := happened(t, late, e); !ok || len(after.Db) != 1 {
			t.Errorf("%v: %s", e, briefServer(after))
		}
	}
	for _, e := range []impl.Event{send(1, ""), send(1, "PING\n"), tick(0)} {
		if after, _, ok := happened(t, late, e); !ok || len(after.Db) != 0 {
			t.Errorf("%v: %s", e, briefServer(after))
		}
	}
}

// A key's time comes between two events, also while bytes or requests wait.
func TestP8TimeBetween(t *testing.T) {
	start := []impl.Event{open(1), open(2), send(1, "SET k v EX 5\n"), send(2, "MULTI\nGET k\nTTL k\nEX")}
	for n, want := range map[int64]string{0: "*2\r\n$1\r\nv\r\n:5\r\n", 4: "*2\r\n$1\r\nv\r\n:1\r\n", 5: "*2\r\n$-1\r\n:-2\r\n", 6: "*2\r\n$-1\r\n:-2\r\n"} {
		after, outs := ran(t, impl.Server{}, append(slices.Clone(start), tick(n), send(2, "EC\n"), send(1, "DBSIZE\n")))
		size := ":1\r\n"
		if n >= 5 {
			size = ":0\r\n"
		}
		wants := []impl.Out{{Id: 1, Text: "+OK\r\n"}, {Id: 2, Text: "+OK\r\n+QUEUED\r\n+QUEUED\r\n"}, {Id: 2, Text: want}, {Id: 1, Text: size}}
		if !slices.Equal(outs, wants) || after.Now != n {
			t.Errorf("after %d: %v", n, outs)
		}
	}
}

// What one client lets wait is done on the keys as others left them.
func TestP8WaitingAmongOthers(t *testing.T) {
	after, outs := ran(t, impl.Server{}, []impl.Event{
		open(1), open(2), send(1, "SET n 1\nMULTI\nINCRBY n 1\n"), send(2, "INCRBY n 10\nMULTI\nDEL n\nFLY\n"), send(1, "INCRBY n 1\nEXEC\n"), send(2, "EXEC\nGET n\n"),
	})
	want := []impl.Out{
		{Id: 1, Text: "+OK\r\n+OK\r\n+QUEUED\r\n"}, {Id: 2, Text: ":11\r\n+OK\r\n+QUEUED\r\n-ERR unknown command\r\n"},
		{Id: 1, Text: "+QUEUED\r\n*2\r\n:12\r\n:13\r\n"}, {Id: 2, Text: "-EXECABORT\r\n$2\r\n13\r\n"},
	}
	if !slices.Equal(outs, want) || briefServer(after) != "0: n='13'; 1 zero; 2 zero" {
		t.Errorf("%v, %s", outs, briefServer(after))
	}
}

func TestP8ManyEvents(t *testing.T) {
	s := impl.Server{Clients: []impl.Client{client(1, impl.Session{})}}
	pings := slices.Repeat([]impl.Event{send(1, "INCRBY n 1\n")}, impl.MaxEvents)
	after, outs := ran(t, s, pings)
	if len(outs) != impl.MaxEvents || outs[impl.MaxEvents-1] != (impl.Out{Id: 1, Text: ":60\r\n"}) || briefKeys(after.Db) != "n='60'" {
		t.Errorf("%d, %s", len(outs), briefServer(after))
	}
	for _, one := range []impl.Event{pings[0], tick(0), {}} {
		if after, outs := impl.Ran(s, append(slices.Clone(pings), one)); len(outs) != 0 || !sameServer(after, impl.Server{}) {
			t.Errorf("one too many: %v, %s", outs, briefServer(after))
		}
	}
	if after, outs := impl.Ran(s, make([]impl.Event, impl.MaxEvents+1)); len(outs) != 0 || !sameServer(after, impl.Server{}) {
		t.Errorf("%v, %s", outs, briefServer(after))
	}
	if after, outs := ran(t, s, make([]impl.Event, impl.MaxEvents)); len(outs) != 0 || !sameServer(after, s) {
		t.Errorf("%v, %s", outs, briefServer(after))
	}
}

// anyEvent gives an event of a few Ids, now and then one that is none.
func anyEvent(d *dice) impl.Event {
	id := int64(1 + d.below(7))
	switch d.below(10) {
	case 0, 1:
		return open(id)
	case 2:
		return shut(id)
	case 3:
		return tick(int64(d.below(4)))
	case 4:
		wrong := refusedEvents()
		return wrong[d.below(len(wrong))]
	}
	text := anyBytes(d, 6)
	return send(id, text[:min(len(text), 2000)])
}

func TestP8OthersStay(t *testing.T) {
	said, refused := 0, 0
	for seed := range uint64(15) {
		d := &dice{seed}
		s := impl.Server{Db: anyKeys(d), Clients: fullServer().Clients}
		for range 120 {
			e := anyEvent(d)
			after, text, ok := happened(t, s, e)
			if !ok {
				refused++
			} else if text != "" {
				said++
			}
			wantByWords(t, s, e, after, text, ok)
			s = after
		}
	}
	if said < 100 || refused < 100 {
		t.Errorf("%d said, %d refused", said, refused)
	}
}

// wantByWords holds an event's answer against what the chapter says of its kind.
func wantByWords(t *testing.T, s impl.Server, e impl.Event, after impl.Server, said string, ok bool) {
	t.Helper()
	place := slices.IndexFunc(s.Clients, func(c impl.Client) bool { return c.Id == e.Id })
	want, text, is := twinServer(s), "", false
	switch {
	case e.Kind == impl.EvOpen && e == open(e.Id):
		is = place < 0 && e.Id >= 1 && e.Id <= 1000 && len(s.Clients) < impl.MaxSessions
		if is {
			want.Clients = append(want.Clients, client(e.Id, impl.Session{}))
			slices.SortFunc(want.Clients, func(a impl.Client, b impl.Client) int { return int(a.Id - b.Id) })
		}
	case e.Kind == impl.EvClose && e == shut(e.Id):
		is = place >= 0
		want.Clients = others(want, e.Id)
	case e.Kind == impl.EvChunk && e == send(e.Id, e.Text):
		is = place >= 0 && len(e.Text) <= 2000
		if is {
			want.Db, want.Clients[place].Sess, text = impl.Served(s.Db, s.Clients[place].Sess, s.Now, e.Text)
		}
	case e.Kind == impl.EvTick && e == tick(e.N):
		is = e.N >= 0 && e.N <= impl.MaxTime
		if is {
			want.Now = min(impl.MaxTime, s.Now+e.N)
			want.Db = aliveByWords(want.Db, want.Now)
		}
	}
	if ok != is || said != text || !sameServer(after, want) {
		t.Fatalf("%v of %s: %v %q %s, not %v %q %s", e, briefServer(s), ok, said, briefServer(after), is, text, briefServer(want))
	}
}

func TestP8TwoPieces(t *testing.T) {
	for seed := range uint64(40) {
		d := &dice{seed + 800}
		s := impl.Server{Db: anyKeys(d), Now: int64(d.below(5)), Clients: fullServer().Clients[:d.below(6)]}
		var list []impl.Event
		for range d.below(impl.MaxEvents + 1) {
			list = append(list, anyEvent(d))
		}
		whole, outs := ran(t, s, list)
		for i := range len(list) + 1 {
			between, first := impl.Ran(s, list[:i])
			after, second := impl.Ran(between, list[i:])
			if !sameServer(after, whole) || !slices.Equal(append(first, second...), outs) {
				t.Fatalf("%v cut at %d: %s, not %s", list, i, briefServer(after), briefServer(whole))
			}
		}
	}
}

// A chunk cut at every place into two events says the same, whatever happens
// to others in between.
func TestP8ChunkCutAnywhere(t *testing.T) {
	text := "PING\nMULTI\nSET k 1\n*3\r\n$6\r\nINCRBY\r\n$1\r\nk\r\n$1\r\n4\r\nEXEC\nGET k\n*1\r\n$4\r\nPINGx\r\nGET k\n"
	start, _ := ran(t, impl.Server{}, []impl.Event{open(1), open(2), send(2, "MULTI\nPI")})
	whole, outs := ran(t, start, []impl.Event{send(1, text)})
	if len(outs) != 1 || outs[0].Text != "+PONG\r\n+OK\r\n+QUEUED\r\n+QUEUED\r\n*2\r\n+OK\r\n:5\r\n$1\r\n5\r\n-ERR Protocol error\r\n" {
		t.Fatalf("%v", outs)
	}
	for i := range len(text) + 1 {
		after, outs := ran(t, start, []impl.Event{send(1, text[:i]), send(2, ""), tick(0), open(3), shut(3), send(1, text[i:])})
		said := ""
		for _, o := range outs {
			said += o.Text
			if o.Id != 1 || o.Text == "" {
				t.Errorf("cut at %d: %v", i, o)
			}
		}
		if said != "+PONG\r\n+OK\r\n+QUEUED\r\n+QUEUED\r\n*2\r\n+OK\r\n:5\r\n$1\r\n5\r\n-ERR Protocol error\r\n" || !sameServer(after, whole) {
			t.Errorf("cut at %d: %q, %s", i, said, briefServer(after))
		}
	}
}

// No goroutine of a call is left when many calls have answered.
func TestP8AllAreJoined(t *testing.T) {
	before := runtime.NumGoroutine()
	for range 300 {
		impl.Ran(fullServer(), []impl.Event{send(1, "PING\n"), shut(2), open(2), send(2, "MULTI\n"), {}, open(9), shut(1000)})
		impl.Happened(fullServer(), send(3, "PING\n"))
		impl.Happened(fullServer(), impl.Event{})
	}
	// One that has told its end may take a moment to be counted out.
	for range 100 {
		if runtime.NumGoroutine() <= before {
			return
		}
		time.Sleep(10 * time.Millisecond)
	}
	t.Errorf("%d goroutines, %d ahead", runtime.NumGoroutine(), before)
}

// Calls at one time, on one server, answer as each alone.
func TestP11ServerSharedByCallers(t *testing.T) {
	d := &dice{1100}
	s := fullServer()
	var list []impl.Event
	for range impl.MaxEvents {
		list = append(list, anyEvent(d))
	}
	want, wantOuts := ran(t, s, list)
	var wait sync.WaitGroup
	wrong := make([]bool, 16)
	for i := range wrong {
		wait.Add(1)
		go func() {
			defer wait.Done()
			after, outs := impl.Ran(s, list)
			one, _, _ := impl.Happened(s, send(1, "FLUSHALL\n"))
			wrong[i] = !sameServer(after, want) || !slices.Equal(outs, wantOuts) || len(one.Db) != 0
		}()
	}
	wait.Wait()
	if slices.Contains(wrong, true) || !sameServer(s, fullServer()) {
		t.Error("calls at one time are not alike")
	}
}
