package tests

import (
	"slices"
	"strings"
	"testing"

	"loop.example/g00302/impl"
)

func many(n int, arg string) []string {
	return slices.Repeat([]string{arg}, n)
}

type requestRow struct {
	args []string
	text string
}

func rightRequests() []requestRow {
	longest := strings.Repeat("m", impl.MaxBulk)
	return []requestRow{
		{nil, "*0\r\n"},
		{[]string{}, "*0\r\n"},
		{[]string{""}, "*1\r\n$0\r\n\r\n"},
		{[]string{"PING"}, "*1\r\n$4\r\nPING\r\n"},
		{[]string{"SET", "k", "\r\n\x00\xff $1"}, "*3\r\n$3\r\nSET\r\n$1\r\nk\r\n$7\r\n\r\n\x00\xff $1\r\n"},
		{[]string{longest, "a"}, "*2\r\n$200\r\n" + longest + "\r\n$1\r\na\r\n"},
		{many(impl.MaxArgs, "b"), "*16\r\n" + strings.Repeat("$1\r\nb\r\n", impl.MaxArgs)},
	}
}

// requestBack holds the first half of promise 2 against the arguments of one request.
func requestBack(t *testing.T, args []string) {
	t.Helper()
	text := impl.RequestText(args)
	wholeRequest(t, text, args)
}

// wholeRequest asks that text is just one request, of these arguments.
func wholeRequest(t *testing.T, text string, args []string) {
	t.Helper()
	for _, tail := range tails() {
		back, used, code := impl.ReadRequest(text + tail)
		if code != impl.RdDone || used != int64(len(text)) || !slices.Equal(back, args) {
			t.Fatalf("%q and %q behind: %q %d %d", text, tail, back, used, code)
		}
	}
	for i := range text {
		back, used, code := impl.ReadRequest(text[:i])
		if code != impl.RdMore || used != 0 || back != nil {
			t.Fatalf("%q: %q %d %d", text[:i], back, used, code)
		}
	}
}

func TestP2RightRequests(t *testing.T) {
	for _, r := range rightRequests() {
		if got := impl.RequestText(r.args); got != r.text {
			t.Errorf("%q: %q, not %q", r.args, got, r.text)
		}
		requestBack(t, r.args)
	}
	requestBack(t, many(impl.MaxArgs, strings.Repeat("m", impl.MaxBulk)))
}

func TestP2RequestsOfAnyShape(t *testing.T) {
	d := &dice{state: 2}
	for range 300 {
		var args []string
		for range d.below(impl.MaxArgs + 1) {
			args = append(args, d.bytes(12))
		}
		requestBack(t, args)
	}
}

func TestP2WrongArguments(t *testing.T) {
	over := strings.Repeat("m", impl.MaxBulk+1)
	for _, args := range [][]string{many(impl.MaxArgs+1, "a"), many(impl.MaxArgs+1, ""), {over}, {"a", over}, {over, "a"}} {
		if got := impl.RequestText(args); got != "" {
			t.Errorf("%q: %q", args, got)
		}
	}
}

func TestP2TypedRequests(t *testing.T) {
	longest := strings.Repeat("m", impl.MaxBulk)
	for _, r := range []requestRow{
		{nil, "\n"},
		{nil, "\r\n"},
		{nil, " \t \r\n"},
		{[]string{"PING"}, "PING\n"},
		{[]string{"PING"}, "PING\r\n"},
		{[]string{"get", "k"}, " \tget\t k \t\r\n"},
		{[]string{"a\r"}, "a\r\r\n"},
		{[]string{"\r", "a"}, "\r a\n"},
		{[]string{"a\vb\fc\u00a0d\u0085"}, "a\vb\fc\u00a0d\u0085\n"},
		{[]string{"\xff\x00", "\xc2"}, "\xff\x00 \xc2\n"},
		{[]string{"*1"}, " *1\n"},
		{[]string{"$1"}, "$1\r\n"},
		{[]string{"a*"}, "a*\n"},
		{[]string{longest}, longest + "\n"},
		{many(impl.MaxArgs, "a"), strings.Repeat("a ", impl.MaxArgs) + "\n"},
		{[]string{"a"}, "a" + strings.Repeat(" ", impl.MaxLine-1) + "\n"},
		{[]string{"a"}, "a" + strings.Repeat(" ", impl.MaxLine-2) + "\r\n"},
	} {
		wholeRequest(t, r.text, r.args)
	}
}

func TestP2CodesAtTheVeryByte(t *testing.T) {
	most := strings.Repeat("m ", impl.MaxLine/2)
	blanks := strings.Repeat(" ", impl.MaxLine)
	longest := strings.Repeat("m", impl.MaxBulk)
	ones := "*" + strings.Repeat("1", impl.MaxLine-1)
	for _, r := range []struct {
		s    string
		code int64
	}{
		{"", impl.RdMore}, {"a", impl.RdMore}, {"\r", impl.RdMore},
		{blanks, impl.RdMore}, {blanks + " ", impl.RdBad}, {blanks + "\r", impl.RdBad}, {blanks + "\n", impl.RdDone}, {blanks + " \n", impl.RdBad}, {blanks + "\r\n", impl.RdBad}, {blanks[1:] + "\r\n", impl.RdDone},
		{most, impl.RdMore}, {most + "\n", impl.RdBad},
		{longest + "m", impl.RdMore}, {longest + "m\n", impl.RdBad}, {longest + " m\n", impl.RdDone}, {"a " + longest + "m\n", impl.RdBad}, {longest + "\r\r\n", impl.RdBad},
		{strings.Repeat("a ", impl.MaxArgs) + "a", impl.RdMore}, {strings.Repeat("a ", impl.MaxArgs) + "a\n", impl.RdBad},
		{"*", impl.RdMore}, {"*\n", impl.RdMore}, {"*\r\n", impl.RdBad}, {"*1\n", impl.RdMore}, {"*-1\r\n", impl.RdBad}, {"*-0\r\n", impl.RdBad}, {"*+1\r\n", impl.RdBad}, {"*01\r\n", impl.RdBad}, {"* 1\r\n", impl.RdBad}, {"*1 \r\n", impl.RdBad}, {"*16\r\n", impl.RdMore}, {"*17\r\n", impl.RdBad}, {"*17\r", impl.RdMore},
		{ones, impl.RdMore}, {ones + "1", impl.RdBad}, {ones + "\r", impl.RdBad}, {ones + "\r\n", impl.RdBad}, {ones[1:], impl.RdMore},
		{"*1\r\n", impl.RdMore}, {"*1\r\n" + blanks, impl.RdMore}, {"*1\r\n" + blanks + " ", impl.RdBad},
		{"*1\r\n\r\n", impl.RdBad}, {"*1\r\n:1\r\n", impl.RdBad}, {"*1\r\n+a\r\n", impl.RdBad}, {"*1\r\n*0\r\n", impl.RdBad}, {"*1\r\n$\r\n", impl.RdBad}, {"*1\r\n$-1\r\n", impl.RdBad}, {"*1\r\n$00\r\n", impl.RdBad}, {"*1\r\n$x\r\n", impl.RdBad}, {"*1\r\n$200\r\n", impl.RdMore}, {"*1\r\n$201\r\n", impl.RdBad}, {"*1\r\n$201\r", impl.RdMore},
		{"*1\r\n$1\r\na", impl.RdMore}, {"*1\r\n$1\r\nab", impl.RdMore}, {"*1\r\n$1\r\nabc", impl.RdBad}, {"*1\r\n$1\r\na\rc", impl.RdBad}, {"*1\r\n$1\r\na\nc", impl.RdBad}, {"*1\r\n$0\r\nx", impl.RdMore}, {"*1\r\n$0\r\nxy", impl.RdBad}, {"*1\r\n$1\r\na\r\n", impl.RdDone},
		{"*2\r\n$1\r\na\r\n", impl.RdMore}, {"*2\r\n$1\r\na\r\nb\n", impl.RdMore}, {"*2\r\n$1\r\na\r\nb\r\n", impl.RdBad}, {"*2\r\n$1\r\nab\r\n", impl.RdBad},
	} {
		args, used, code := impl.ReadRequest(r.s)
		if code != r.code || code != impl.RdDone && (args != nil || used != 0) {
			t.Errorf("%q: %q %d %d, not %d", r.s, args, used, code, r.code)
		}
	}
}

func TestP2Fed(t *testing.T) {
	for _, r := range []struct {
		rest, chunk string
		list        [][]string
		left        string
		ok          bool
	}{
		{"", "", nil, "", true},
		{"", "PI", nil, "PI", true},
		{"PI", "", nil, "PI", true},
		{"PI", "NG\n", [][]string{{"PING"}}, "", true},
		{"PING\n", "", [][]string{{"PING"}}, "", true},
		{"", "\n \r\n*0\r\n", nil, "", true},
		{"*0\r\na\n*1", "\r\n$1\r\nb\r\n\nc d\ne", [][]string{{"a"}, {"b"}, {"c", "d"}}, "e", true},
		{"*1\r\n$0\r\n\r", "\n", [][]string{{""}}, "", true},
		{"*1\r", "\n", nil, "*1\r\n", true},
		{"", "*x\r\n", nil, "", false},
		{"a\n*", "17\r\nb\n", [][]string{{"a"}}, "", false},
		{"a\n\nb\n*1\r\n$1\r\nc", "dd\r\ne\n", [][]string{{"a"}, {"b"}}, "", false},
		{strings.Repeat("a", impl.MaxLine), "", nil, strings.Repeat("a", impl.MaxLine), true},
		{strings.Repeat("a", impl.MaxLine), "b", nil, "", false},
	} {
		list, left, ok := impl.Fed(r.rest, r.chunk)
		if !sameRequests(list, r.list) || left != r.left || ok != r.ok {
			t.Errorf("%q %q: %q %q %v", r.rest, r.chunk, list, left, ok)
		}
	}
}

// samePieces holds the second half of promise 2 against one text: cut anywhere,
// fed as two arguments or in two calls.
func samePieces(t *testing.T, text string) {
	t.Helper()
	list, left, ok := impl.Fed("", text)
	for i := range len(text) + 1 {
		l, rest, fine := impl.Fed(text[:i], text[i:])
		if !sameRequests(l, list) || rest != left || fine != ok {
			t.Fatalf("%q cut at %d: %q %q %v", text, i, l, rest, fine)
		}
		l, rest, fine = impl.Fed("", text[:i])
		if fine {
			var behind [][]string
			behind, rest, fine = impl.Fed(rest, text[i:])
			l = append(l, behind...)
		}
		if !sameRequests(l, list) || rest != left || fine != ok {
			t.Fatalf("%q in two calls, cut at %d: %q %q %v", text, i, l, rest, fine)
		}
	}
}

func TestP2TwoPieces(t *testing.T) {
	d := &dice{state: 3}
	for range 300 {
		var text strings.Builder
		for range d.below(6) {
			switch d.below(8) {
			case 0:
				text.WriteString(d.bytes(6))
			case 1:
				text.WriteString("\r\n")
			case 2:
				text.WriteString("get " + d.plain(5) + "\n")
			case 3:
				text.WriteString("*0\r\n")
			default:
				text.WriteString(impl.RequestText([]string{d.bytes(4), d.bytes(9)}))
			}
		}
		samePieces(t, text.String())
	}
	samePieces(t, "a\n"+strings.Repeat("b", impl.MaxLine+5))
	samePieces(t, "a\n*"+strings.Repeat("1", impl.MaxLine+5)+"\r\n")
	samePieces(t, strings.Repeat(" ", impl.MaxLine)+"\n"+strings.Repeat(" ", impl.MaxLine)+"\r\nPING\n")
}

// Done and bad stay so, whatever comes behind, and cuts change nothing.
func TestP2EveryShortText(t *testing.T) {
	pieces := []string{"\r\n", "\r", "\n", "*", "$", "-", "0", "1", " ", "a"}
	everyText(pieces, 5, func(s string) {
		args, used, code := impl.ReadRequest(s)
		if code != impl.RdDone && (args != nil || used != 0) || code < impl.RdDone || code > impl.RdBad {
			t.Errorf("%q: %q %d %d", s, args, used, code)
		}
		if code == impl.RdMore {
			return
		}
		more, further, same := impl.ReadRequest(s + "\r\na\n")
		if same != code || further != used || !slices.Equal(more, args) {
			t.Errorf("%q: %d, with more behind %d", s, code, same)
		}
	})
	everyText(pieces, 4, func(s string) { samePieces(t, s) })
}

func TestP2RequestsShareNothing(t *testing.T) {
	room := []string{"SET", "k", "v", "x", "y"}
	args := room[:3]
	if first := impl.RequestText(args); impl.RequestText(args) != first || !slices.Equal(room, []string{"SET", "k", "v", "x", "y"}) {
		t.Error("an argument was written into")
	}
	list, _, _ := impl.Fed("a b\nc d e\n", "*2\r\n$1\r\nf\r\n$1\r\ng\r\n")
	for i := range list[:2] {
		spare := list[i][:cap(list[i])]
		for j := range spare {
			spare[j] = "-"
		}
	}
	if len(list) != 3 || !slices.Equal(list[2], []string{"f", "g"}) {
		t.Errorf("lists of one answer share memory: %q", list)
	}
}
