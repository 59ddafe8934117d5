package tests

import (
	"slices"
	"strings"
	"testing"

	"loop.example/g00302/impl"
)

func simple(s string) impl.Resp     { return impl.Resp{Kind: impl.RsSimple, S: s} }
func failure(s string) impl.Resp    { return impl.Resp{Kind: impl.RsError, S: s} }
func number(n int64) impl.Resp      { return impl.Resp{Kind: impl.RsInt, N: n} }
func bulk(s string) impl.Resp       { return impl.Resp{Kind: impl.RsBulk, S: s} }
func null() impl.Resp               { return impl.Resp{Kind: impl.RsNull} }
func array(kids ...int64) impl.Resp { return impl.Resp{Kind: impl.RsArray, Kids: kids} }

// flat gives so many nodes: leaves, and an array of them all.
func flat(nodes int) []impl.Resp {
	var l []impl.Resp
	var kids []int64
	for i := range nodes - 1 {
		l = append(l, number(int64(i)))
		kids = append(kids, int64(i))
	}
	return append(l, array(kids...))
}

// tower gives nodes of which each is the only kid of the next.
func tower(nodes int, top impl.Resp) []impl.Resp {
	l := []impl.Resp{top}
	for i := range nodes - 1 {
		l = append(l, array(int64(i)))
	}
	return l
}

type replyRow struct {
	nodes []impl.Resp
	text  string
}

func rightReplies() []replyRow {
	longest := strings.Repeat("m", impl.MaxBulk)
	return []replyRow{
		{[]impl.Resp{simple("")}, "+\r\n"},
		{[]impl.Resp{simple("OK")}, "+OK\r\n"},
		{[]impl.Resp{simple(" ~+-:$*")}, "+ ~+-:$*\r\n"},
		{[]impl.Resp{simple(longest)}, "+" + longest + "\r\n"},
		{[]impl.Resp{failure("")}, "-\r\n"},
		{[]impl.Resp{failure("ERR no")}, "-ERR no\r\n"},
		{[]impl.Resp{failure(longest)}, "-" + longest + "\r\n"},
		{[]impl.Resp{number(0)}, ":0\r\n"},
		{[]impl.Resp{number(-10)}, ":-10\r\n"},
		{[]impl.Resp{number(impl.MaxNum)}, ":1000000000000000000\r\n"},
		{[]impl.Resp{number(-impl.MaxNum)}, ":-1000000000000000000\r\n"},
		{[]impl.Resp{bulk("")}, "$0\r\n\r\n"},
		{[]impl.Resp{bulk("-1")}, "$2\r\n-1\r\n"},
		{[]impl.Resp{bulk("\r\n\x00\xff\r\n")}, "$6\r\n\r\n\x00\xff\r\n\r\n"},
		{[]impl.Resp{bulk(longest)}, "$200\r\n" + longest + "\r\n"},
		{[]impl.Resp{null()}, "$-1\r\n"},
		{[]impl.Resp{array()}, "*0\r\n"},
		{[]impl.Resp{{Kind: impl.RsArray, Kids: []int64{}}}, "*0\r\n"},
		{[]impl.Resp{number(1), array(0)}, "*1\r\n:1\r\n"},
		{[]impl.Resp{array(), array(), array(0, 1)}, "*2\r\n*0\r\n*0\r\n"},
		{[]impl.Resp{simple("a"), null(), array(1), bulk("b"), failure("c"), array(3, 4), array(0, 2, 5)}, "*3\r\n+a\r\n*1\r\n$-1\r\n*2\r\n$1\r\nb\r\n-c\r\n"},
		{tower(impl.MaxDeep, bulk("x")), "*1\r\n*1\r\n*1\r\n$1\r\nx\r\n"},
		{tower(impl.MaxDeep, array()), "*1\r\n*1\r\n*1\r\n*0\r\n"},
	}
}

// comesBack holds promise 1 against one right reply.
func comesBack(t *testing.T, l []impl.Resp) {
	t.Helper()
	text := impl.RespText(l)
	if !impl.RespOk(l) || text == "" {
		t.Fatalf("not right: %v", l)
	}
	for _, tail := range tails() {
		back, used, code := impl.ReadResp(text + tail)
		if code != impl.RdDone || used != int64(len(text)) || !sameNodes(back, l) {
			t.Fatalf("%q and %q behind: %v %d %d", text, tail, back, used, code)
		}
	}
	for i := range text {
		back, used, code := impl.ReadResp(text[:i])
		if code != impl.RdMore || used != 0 || back != nil {
			t.Fatalf("%q: %v %d %d", text[:i], back, used, code)
		}
	}
}

func TestP1RightReplies(t *testing.T) {
	for _, r := range rightReplies() {
		if got := impl.RespText(r.nodes); got != r.text {
			t.Errorf("%v: %q, not %q", r.nodes, got, r.text)
		}
		comesBack(t, r.nodes)
	}
}

func TestP1MostNodes(t *testing.T) {
	comesBack(t, flat(impl.MaxNodes))
	if l := flat(impl.MaxNodes + 1); impl.RespOk(l) || impl.RespText(l) != "" {
		t.Error("one node too many is right")
	}
}

// grown adds a reply of any shape, with at most deep nodes on a path.
func grown(d *dice, l []impl.Resp, deep int) []impl.Resp {
	switch kind := d.below(6) + 1; {
	case kind == impl.RsArray && deep > 1:
		var kids []int64
		for range d.below(5) {
			l = grown(d, l, deep-1)
			kids = append(kids, int64(len(l)-1))
		}
		return append(l, array(kids...))
	case kind == impl.RsArray:
		return append(l, array())
	case kind == impl.RsSimple:
		return append(l, simple(d.plain(9)))
	case kind == impl.RsError:
		return append(l, failure(d.plain(9)))
	case kind == impl.RsInt:
		return append(l, number(int64(d.below(2000)-1000)))
	case kind == impl.RsBulk:
		return append(l, bulk(d.bytes(12)))
	}
	return append(l, null())
}

func TestP1RepliesOfAnyShape(t *testing.T) {
	d := &dice{state: 1}
	for range 600 {
		comesBack(t, grown(d, nil, impl.MaxDeep))
	}
}

func TestP1WrongReplies(t *testing.T) {
	over := strings.Repeat("m", impl.MaxBulk+1)
	for name, l := range map[string][]impl.Resp{
		"none":                   nil,
		"kind 0":                 {{}},
		"kind 7":                 {{Kind: 7}},
		"kind below 0":           {{Kind: -1}},
		"long simple":            {simple(over)},
		"long error":             {failure(over)},
		"long bulk":              {bulk(over)},
		"byte 31":                {simple("a\x1f")},
		"byte 127":               {failure("\x7f")},
		"byte 13":                {simple("\r")},
		"byte 200":               {failure("\xc8")},
		"great":                  {number(impl.MaxNum + 1)},
		"small":                  {number(-impl.MaxNum - 1)},
		"simple with N":          {{Kind: impl.RsSimple, N: 1}},
		"simple with kids":       {null(), {Kind: impl.RsSimple, Kids: []int64{0}}},
		"error with N":           {{Kind: impl.RsError, N: -1}},
		"error with kids":        {null(), {Kind: impl.RsError, Kids: []int64{0}}},
		"number with text":       {{Kind: impl.RsInt, N: 1, S: "1"}},
		"number with kids":       {null(), {Kind: impl.RsInt, Kids: []int64{0}}},
		"bulk with N":            {{Kind: impl.RsBulk, N: 1, S: "a"}},
		"bulk with kids":         {null(), {Kind: impl.RsBulk, Kids: []int64{0}}},
		"null with N":            {{Kind: impl.RsNull, N: -1}},
		"null with text":         {{Kind: impl.RsNull, S: "-1"}},
		"null with kids":         {null(), {Kind: impl.RsNull, Kids: []int64{0}}},
		"array with N":           {{Kind: impl.RsArray, N: 1}},
		"array with text":        {{Kind: impl.RsArray, S: "a"}},
		"wrong kid":              {{Kind: impl.RsSimple, N: 1}, array(0)},
		"two wholes":             {null(), array()},
		"a kid not taken":        {null(), null(), array(1)},
		"last kid not taken":     {null(), null(), array(0)},
		"kids out of order":      {null(), null(), array(1, 0)},
		"a kid twice":            {null(), array(0, 0)},
		"kid of itself":          {array(0)},
		"kid far off":            {null(), array(5)},
		"kid below 0":            {null(), array(-1)},
		"kid that is a grandkid": {null(), array(0), array(0)},
		"kid of two":             {null(), array(0), array(0, 1)},
		"whole ahead":            {array(1), null()},
		"kids behind":            {null(), array(0, 2), null()},
		"deep leaf":              tower(impl.MaxDeep+1, null()),
		"deep array":             tower(impl.MaxDeep+1, array()),
		"deep in the first kid":  append(tower(impl.MaxDeep, null()), null(), array(3, 4)),
	} {
		if impl.RespOk(l) || impl.RespText(l) != "" {
			t.Errorf("%s: %v is right, %q", name, l, impl.RespText(l))
		}
	}
}

func TestP1CodesAtTheVeryByte(t *testing.T) {
	most := strings.Repeat("m", impl.MaxLine)
	longest := strings.Repeat("m", impl.MaxBulk)
	deep := "*1\r\n*1\r\n*1\r\n"
	for _, r := range []struct {
		s    string
		code int64
	}{
		{"", impl.RdMore}, {"\r", impl.RdMore}, {"\n", impl.RdMore}, {"\r\n", impl.RdBad}, {"?", impl.RdMore}, {"?\r\n", impl.RdBad},
		{most, impl.RdMore}, {most + "m", impl.RdBad}, {most + "\r", impl.RdBad}, {most + "\r\n", impl.RdBad}, {most[1:] + "\r", impl.RdMore},
		{"*1\r\n" + most, impl.RdMore}, {"*1\r\n" + most + "m", impl.RdBad},
		{"+" + longest + "m", impl.RdMore}, {"+" + longest + "m\r\n", impl.RdBad}, {"-" + longest + "m\r\n", impl.RdBad},
		{"+\x1f\r\n", impl.RdBad}, {"-\x7f\r\n", impl.RdBad}, {"+a\rb\r\n", impl.RdBad}, {"+a\nb\r\n", impl.RdBad}, {"+a\r\r\n", impl.RdBad}, {"+a\n", impl.RdMore},
		{":\r\n", impl.RdBad}, {":-\r\n", impl.RdBad}, {":+1\r\n", impl.RdBad}, {":00\r\n", impl.RdBad}, {":-01\r\n", impl.RdBad}, {":-0\r\n", impl.RdBad}, {": 1\r\n", impl.RdBad}, {":1 \r\n", impl.RdBad}, {":1_0\r\n", impl.RdBad}, {":0x1\r\n", impl.RdBad},
		{":1000000000000000001\r\n", impl.RdBad}, {":-1000000000000000001\r\n", impl.RdBad}, {":18446744073709551617\r\n", impl.RdBad},
		{"$\r\n", impl.RdBad}, {"$-2\r\n", impl.RdBad}, {"$-0\r\n", impl.RdBad}, {"$01\r\na\r\n", impl.RdBad}, {"$x\r\n", impl.RdBad}, {"$200\r\n", impl.RdMore}, {"$201\r\n", impl.RdBad},
		{"$1\r\n", impl.RdMore}, {"$1\r\na", impl.RdMore}, {"$1\r\nab", impl.RdMore}, {"$1\r\nabc", impl.RdBad}, {"$1\r\na\rc", impl.RdBad}, {"$1\r\na\n\r\n", impl.RdBad}, {"$0\r\nx", impl.RdMore}, {"$0\r\nxy", impl.RdBad}, {"$1\r\na\r\n", impl.RdDone},
		{"*\r\n", impl.RdBad}, {"*-1\r\n", impl.RdBad}, {"*01\r\n", impl.RdBad}, {"*1000\r\n", impl.RdMore}, {"*1001\r\n", impl.RdBad}, {"*2\r\n:1\r\n", impl.RdMore}, {"*2\r\n:1\r\nx\r\n", impl.RdBad}, {"*2\r\nx\r\n:1\r\n", impl.RdBad},
		{deep, impl.RdMore}, {deep + "*0\r\n", impl.RdDone}, {deep + "*1\r\n", impl.RdMore}, {deep + "*1\r\n+a\r", impl.RdMore}, {deep + "*1\r\n+a\r\n", impl.RdBad}, {deep + "*1\r\n*0\r\n", impl.RdBad}, {deep + "*1\r\n$5\r\n", impl.RdBad},
	} {
		l, used, code := impl.ReadResp(r.s)
		if code != r.code || code != impl.RdDone && (l != nil || used != 0) {
			t.Errorf("%q: %v %d %d, not %d", r.s, l, used, code, r.code)
		}
	}
}

// The reply above MaxNodes is wrong only when its last byte is there.
func TestP1RepliesReadToTheirEnds(t *testing.T) {
	leaf := "$1\r\na\r\n"
	leaves := func(n int) string { return strings.Repeat(leaf, n) }
	two := "*2\r\n*999\r\n" + leaves(impl.MaxNodes-1) // 1000 replies, one array still open
	for i, r := range []struct {
		s    string
		code int64
	}{
		{"*999\r\n" + leaves(999), impl.RdDone},
		{"*1000\r\n" + leaves(999), impl.RdMore},
		{"*1000\r\n" + leaves(999) + leaf[:len(leaf)-1], impl.RdMore},
		{"*1000\r\n" + leaves(1000), impl.RdBad},
		{two, impl.RdMore},
		{two + leaf[:len(leaf)-1], impl.RdMore},
		{two + leaf, impl.RdBad},
		{two + "*1\r\n", impl.RdMore},
		{two + "*0\r\n", impl.RdBad},
		{two + "*1\r\n:1\r", impl.RdMore},
		{two + "*1\r\n:1\r\n", impl.RdBad},
		{"*1\r\n*998\r\n" + leaves(998), impl.RdDone},
		{"*1\r\n*999\r\n" + leaves(999), impl.RdBad},
		{"*1\r\n*999\r\n" + leaves(998), impl.RdMore},
	} {
		if _, _, code := impl.ReadResp(r.s); code != r.code {
			t.Errorf("%d: %d, not %d", i, code, r.code)
		}
	}
}

// What is read is a right reply whose text stands there, and nothing else is:
// done and bad stay so, whatever comes behind.
func TestP1EveryShortText(t *testing.T) {
	pieces := []string{"\r\n", "\r", "\n", "+", "-", ":", "$", "*", "0", "1", "2", "a"}
	everyText(pieces, 5, func(s string) {
		l, used, code := impl.ReadResp(s)
		switch code {
		case impl.RdDone:
			if !impl.RespOk(l) || impl.RespText(l) != s[:used] {
				t.Errorf("%q: %v %d", s, l, used)
			}
		case impl.RdMore, impl.RdBad:
			if l != nil || used != 0 {
				t.Errorf("%q: %v %d with %d", s, l, used, code)
			}
		default:
			t.Errorf("%q: code %d", s, code)
		}
		if code == impl.RdMore {
			return
		}
		more, further, same := impl.ReadResp(s + "\r\n$1\r\na\r\n")
		if same != code || further != used || !sameNodes(more, l) {
			t.Errorf("%q: %d, with more behind %d", s, code, same)
		}
	})
}

func TestP1RepliesShareNothing(t *testing.T) {
	room := append(tower(3, bulk("x")), null(), null())
	kids := []int64{0, 7, 7}
	room[1].Kids = kids[:1]
	l := room[:3]
	first := impl.RespText(l)
	if !impl.RespOk(l) || impl.RespText(l) != first || !slices.Equal(kids, []int64{0, 7, 7}) || room[3].Kind != impl.RsNull || room[4].Kind != impl.RsNull {
		t.Error("an argument was written into")
	}
	text := "*3\r\n*2\r\n:1\r\n:2\r\n*1\r\n:3\r\n*2\r\n:4\r\n:5\r\n"
	a, _, _ := impl.ReadResp(text)
	b, _, _ := impl.ReadResp(text)
	want := []int64{2, 4, 7}
	for _, node := range a[:8] {
		for i := range node.Kids[:cap(node.Kids)] {
			node.Kids[:cap(node.Kids)][i] = -9
		}
	}
	if !slices.Equal(a[8].Kids, want) || !impl.RespOk(b) {
		t.Error("lists of answers share memory")
	}
}
