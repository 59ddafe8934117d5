package tests

import (
	"fmt"
	"regexp"
	"slices"
	"strconv"
	"strings"
	"testing"

	"loop.example/g00302/impl"
)

// escapeByWords tells how one byte is escaped, as chapter 10 has it.
func escapeByWords(b byte) string {
	switch {
	case b == '\\':
		return `\\`
	case b == 13:
		return `\r`
	case b == 10:
		return `\n`
	case b >= 32 && b <= 126:
		return string(rune(b))
	}
	return fmt.Sprintf(`\x%02x`, b)
}

func escapedByWords(s string) string {
	var text strings.Builder
	for i := range len(s) {
		text.WriteString(escapeByWords(s[i]))
	}
	return text.String()
}

// escapes: the bytes from 14 on, and those ahead of 14 but 10 and 13, have two
// digits; of the plain ones only \ is written in another way than as it is.
var (
	oneEscape = regexp.MustCompile(`[ -\[\]-~]|\\\\|\\r|\\n|\\x(0[0-9bcef]|1[0-9a-f]|7f|[89a-f][0-9a-f])`)
	escapes   = regexp.MustCompile(`\A(` + oneEscape.String() + `)*\z`)
)

// unescapedByWords reads what escapes lets through.
func unescapedByWords(s string) (string, bool) {
	if !escapes.MatchString(s) {
		return "", false
	}
	text := oneEscape.ReplaceAllStringFunc(s, func(one string) string {
		switch {
		case one == `\\`:
			return `\`
		case one == `\r`:
			return "\r"
		case one == `\n`:
			return "\n"
		case len(one) == 4:
			b, _ := strconv.ParseUint(one[2:], 16, 8)
			return string([]byte{byte(b)})
		}
		return one
	})
	return text, true
}

// escapedBack holds promise 10 against one text.
func escapedBack(t *testing.T, s string) {
	t.Helper()
	text := impl.Escaped(s)
	if text != escapedByWords(s) || text != impl.Escaped(s) {
		t.Fatalf("%q: escaped %q", s, text)
	}
	if back, ok := impl.Unescaped(text); !ok || back != s {
		t.Fatalf("%q: %q and back %q %v", s, text, back, ok)
	}
}

// unescapes holds a text, escaped or not, against the document's words.
func unescapes(t *testing.T, s string) bool {
	t.Helper()
	want, wantOk := unescapedByWords(s)
	got, ok := impl.Unescaped(s)
	if again, againOk := impl.Unescaped(s); got != want || ok != wantOk || again != got || againOk != ok {
		t.Fatalf("%q: %q %v, not %q %v", s, got, ok, want, wantOk)
	}
	if ok && impl.Escaped(got) != s {
		t.Fatalf("%q: %q is escaped otherwise", s, got)
	}
	return ok
}

func TestP10Escaped(t *testing.T) {
	for _, r := range [][2]string{
		{"", ""},
		{"PING", "PING"},
		{" a  b ", " a  b "},
		{"~ !\"'", "~ !\"'"},
		{"a\r\nb\n", `a\r\nb\n`},
		{`\`, `\\`},
		{`\\`, `\\\\`},
		{`\n`, `\\n`},
		{`\x00`, `\\x00`},
		{"\\\n", `\\\n`},
		{"\x00\x01\t\x1f", `\x00\x01\x09\x1f`},
		{"\x7e\x7f\x80\xff", `~\x7f\x80\xff`},
		{"\x0b\x0c\x0e", `\x0b\x0c\x0e`},
		{"\xc3\xa4", `\xc3\xa4`},
		{"\xab\xcd\xef", `\xab\xcd\xef`},
	} {
		if got := impl.Escaped(r[0]); got != r[1] {
			t.Errorf("%q: %q, not %q", r[0], got, r[1])
		}
		if got, ok := impl.Unescaped(r[1]); !ok || got != r[0] {
			t.Errorf("%q: %q %v, not %q", r[1], got, ok, r[0])
		}
	}
}

func TestP10NotEscaped(t *testing.T) {
	for _, s := range []string{
		`\`, `a\`, `\\\`, `\n\`, `\q`, `\R`, `\N`, `\X00`, `\0`, `\t`, `\"`, `\ `, `\\\q`, `\xx`,
		`\x`, `\x0`, `a\x`, `a\x1`, `\x0 `, `\x0g`, `\xg0`, `\x-1`, `\x+1`, `\x 1`, `\x1_`, `\x\\`, `\x\x00`,
		`\x0A`, `\x0a`, `\x0d`, `\x0D`, `\xFF`, `\xfF`, `\xFf`, `\x0B`, `\x7F`, `\xaB`,
		`\x20`, `\x41`, `\x5c`, `\x5b`, `\x5d`, `\x7e`, `\x30`,
		"\n", "\r", "\t", "\x00", "\x1f", "\x7f", "\x80", "\xff", "a\nb", "a\r", "\\\n", "\\x0\n", "ä", `\n` + "\n",
	} {
		if got, ok := impl.Unescaped(s); ok || got != "" {
			t.Errorf("%q: %q %v", s, got, ok)
		}
		for _, beside := range []string{"a", `\\`, `\r`, `\n`, `\xff`} {
			if got, ok := impl.Unescaped(beside + s); ok || got != "" {
				t.Errorf("%q behind %q: %q %v", s, beside, got, ok)
			}
		}
	}
	// What stands behind may make an escape whole, or not.
	for _, r := range [][2]string{{`\` + `\`, "\\"}, {`\` + "r", "\r"}, {`\` + "n", "\n"}, {`\x0` + "0", "\x00"}, {`\x` + "ff", "\xff"}} {
		if got, ok := impl.Unescaped(r[0]); !ok || got != r[1] {
			t.Errorf("%q: %q %v", r[0], got, ok)
		}
	}
}

func TestP10EveryByte(t *testing.T) {
	for a := range 256 {
		escapedBack(t, string([]byte{byte(a)}))
		unescapes(t, string([]byte{byte(a)}))
		unescapes(t, string([]byte{'\\', byte(a)}))
		unescapes(t, string([]byte{'\\', 'x', byte(a)}))
		for b := range 256 {
			escapedBack(t, string([]byte{byte(a), byte(b)}))
			unescapes(t, string([]byte{byte(a), byte(b)}))
			unescapes(t, string([]byte{'\\', 'x', byte(a), byte(b)}))
		}
	}
}

func TestP10EveryShortText(t *testing.T) {
	right, wrong := 0, 0
	everyText([]string{`\`, "x", "r", "n", "0", "a", "d", "5", "c", "F", " ", "\n"}, 5, func(s string) {
		if unescapes(t, s) {
			right++
		} else {
			wrong++
		}
	})
	if right == 0 || wrong == 0 {
		t.Error(right, wrong)
	}
}

func TestP10AnyTexts(t *testing.T) {
	d := &dice{10}
	for _, most := range []int{3, 20, 300, 3 * impl.MaxLines} {
		for range 100 {
			s := d.bytes(most)
			escapedBack(t, s)
			unescapes(t, s)
			cut := impl.Escaped(s)
			unescapes(t, cut[:d.below(len(cut)+1)])
			unescapes(t, cut[d.below(len(cut)+1):])
		}
	}
}

// lines ends each line by a line feed.
func lines(l ...string) string {
	text := ""
	for _, line := range l {
		text += line + "\n"
	}
	return text
}

// row is a line of a script and what is said to it; "" where nothing is.
type row struct {
	line string
	said string
}

// runs asks a script twice, and that each line of what it says is ended.
func runs(t *testing.T, text string) string {
	t.Helper()
	said := impl.RunScript(text)
	if again := impl.RunScript(text); again != said {
		t.Fatalf("%q: %q and %q", text, said, again)
	}
	if said != "" && !strings.HasSuffix(said, "\n") {
		t.Fatalf("%q: %q is not ended", text, said)
	}
	return said
}

// plays runs rows as one script, and asks what is said so far at each of them.
func plays(t *testing.T, rows []row) {
	t.Helper()
	text, want := "", ""
	for _, r := range rows {
		text += r.line + "\n"
		if r.said != "" {
			want += r.said + "\n"
		}
		if got := runs(t, text); got != want {
			t.Fatalf("behind %q: %q, not %q", r.line, got, want)
		}
	}
}

func TestP10Scripts(t *testing.T) {
	plays(t, []row{
		{"keys", "keys 0"},
		{"need", "need 0"},
		{"open 7", "> "},
		{`send 7 SET k v EX 5\n`, `> +OK\r\n`},
		{`send 7 RPUSH l a b\r\nLLEN l\n`, `> :2\r\n:2\r\n`},
		{"keys", "keys 0 k:string l:list"},
		{"need", "need 11"},
		{"tick 4", "> "},
		{`send 7 TTL k\n`, `> :1\r\n`},
		{"keys", "keys 4 k:string l:list"},
		{"tick 1", "> "},
		{"keys", "keys 5 l:list"},
		{"need", "need 7"},
		{`send 7 GET k\nZADD z 5 m\nHSET h f v\n`, `> $-1\r\n:1\r\n:1\r\n`},
		{"keys", "keys 5 h:hash l:list z:zset"},
		{"need", "need 21"},
		{"close 7", "> "},
		{`send 7 PING\n`, "> no"},
		{"close 7", "> no"},
		{"keys", "keys 5 h:hash l:list z:zset"},
	})
}

func TestP10SeveralClients(t *testing.T) {
	plays(t, []row{
		{"open 1", "> "},
		{"open 2", "> "},
		{"open 3", "> "},
		{`send 1 *3\r\n$3\r\nSET\r\n$1\r\nk\r\n$`, "> "},
		{`send 2 MULTI\nINCRBY n 4\n`, `> +OK\r\n+QUEUED\r\n`},
		{"keys", "keys 0"},
		{`send 1 3\r\na\n`, "> "},
		{`send 3 INCRBY n 1\n`, `> :1\r\n`},
		{"keys", "keys 0 n:string"},
		{`send 2 GET n\nEX`, `> +QUEUED\r\n`},
		{`send 1 b\r\nGET k\n`, `> +OK\r\n$3\r\na\nb\r\n`},
		{"need", "need 10"},
		{`send 2 EC\n`, `> *2\r\n:5\r\n$1\r\n5\r\n`},
		{`send 3 MULTI\nFLY\nDEL n k\nEXEC\n`, `> +OK\r\n-ERR unknown command\r\n+QUEUED\r\n-EXECABORT\r\n`},
		{`send 3 *x\r\n`, `> -ERR Protocol error\r\n`},
		{`send 3 PING\n`, "> "},
		{"close 3", "> "},
		{"open 3", "> "},
		{`send 3 PING\n`, `> +PONG\r\n`},
		{"close 2", "> "},
		{"send 2 ", "> no"},
		{"keys", "keys 0 k:string n:string"},
		{`send 1 FLUSHALL\n`, `> +OK\r\n`},
		{"keys", "keys 0"},
		{"need", "need 0"},
	})
}

// TestP10BytesInPieces: a request cut at any byte is served just as whole.
func TestP10BytesInPieces(t *testing.T) {
	whole := impl.RequestText([]string{"SET", "a\\\x00b", "\r\n"}) + "GET a\\\x00b\n" + impl.RequestText([]string{"KEYS"})
	want := `+OK\r\n$2\r\n\r\n\r\n*1\r\n$4\r\na\\\x00b\r\n`
	for cut := range len(whole) + 1 {
		said := runs(t, lines("open 9", "send 9 "+impl.Escaped(whole[:cut]), "send 9 "+impl.Escaped(whole[cut:]), "keys"))
		l := strings.Split(said, "\n")
		if len(l) != 5 || l[0] != "> " || l[3] != `keys 0 a\\\x00b:string` {
			t.Fatalf("%d: %q", cut, said)
		}
		if strings.TrimPrefix(l[1], "> ")+strings.TrimPrefix(l[2], "> ") != want {
			t.Fatalf("%d: %q and %q", cut, l[1], l[2])
		}
	}
}

func TestP10KeyNames(t *testing.T) {
	plays(t, []row{
		{"open 1", "> "},
		{`send 1 *3\r\n$3\r\nSET\r\n$0\r\n\r\n$0\r\n\r\n`, `> +OK\r\n`},
		{"keys", "keys 0 :string"},
		{`send 1 *3\r\n$5\r\nRPUSH\r\n$4\r\na b:\r\n$0\r\n\r\n`, `> :1\r\n`},
		{`send 1 *3\r\n$3\r\nSET\r\n$5\r\n\r\n\\\x00\xff\r\n$0\r\n\r\n`, `> +OK\r\n`},
		{"keys", `keys 0 :string \r\n\\\x00\xff:string a b::list`},
		{"need", "need 9"},
	})
}

func TestP10TextBehindTheSecondBlank(t *testing.T) {
	plays(t, []row{
		{"open 1", "> "},
		{"send 1 ", "> "},
		{"send 1  ", "> "},
		{`send 1   PING  \n`, `> +PONG\r\n`},
		{`send 1 ECHO a`, "> "},
		{"send 1  ", "> "},
		{"send 1 ", "> "},
		{`send 1 \n`, `> $1\r\na\r\n`},
		{`send 1 ECHO a`, "> "},
		{"send 1 ", "> "},
		{`send 1 b\n`, `> $2\r\nab\r\n`},
		{`send 1 *2\r\n$4\r\nECHO\r\n$3\r\n`, "> "},
		{"send 1    ", "> "},
		{`send 1 \r\n`, `> $3\r\n   \r\n`},
		{`send 1 ECHO\x09open\x091\n`, `> -ERR wrong number of arguments\r\n`},
		{`send 1 ECHO \\n\n`, `> $2\r\n\\n\r\n`},
		{`send 1 ECHO \xff\x00\n`, `> $2\r\n\xff\x00\r\n`},
		{`send 1 ECHO a\r\r\n`, `> $2\r\na\r\r\n`},
		{"send 1 keys", "> "},
		{"keys", "keys 0"},
		{`send 1 \n`, `> *0\r\n`},
		{"send 1 send 1 x", "> "},
		{`send 1 \n`, `> -ERR unknown command\r\n`},
		{"send 2 ", "> no"},
	})
}

func TestP10LinesThatSayNothing(t *testing.T) {
	for _, text := range []string{"", "\n", " \n", "     \n", "\n\n \n", strings.Repeat("\n", impl.MaxScript), strings.Repeat(" \n", impl.MaxScript), strings.Repeat(" ", impl.MaxLines-1) + "\n"} {
		if got := runs(t, text); got != "" {
			t.Errorf("%q: %q", text, got)
		}
	}
	plays(t, []row{{"", ""}, {"open 1", "> "}, {" ", ""}, {"", ""}, {"open 1", "> no"}, {strings.Repeat(" ", 99), ""}, {"keys", "keys 0"}, {"", ""}})
}

func TestP10TooLong(t *testing.T) {
	full := strings.Repeat("need\n", impl.MaxScript)
	most := lines("open 1", "send 1 "+strings.Repeat("x", 1990))
	most += strings.Repeat(" ", impl.MaxLines-len(most)-6) + "\nkeys\n"
	for _, r := range []struct {
		text string
		long bool
	}{
		{full, false}, {full + "need\n", true}, {full + "\n", true}, {full + " ", true}, {full[:len(full)-1], true}, {full + "n", true},
		{strings.Repeat("\n", impl.MaxScript), false}, {strings.Repeat("\n", impl.MaxScript+1), true}, {strings.Repeat("\n", impl.MaxLines), true},
		{most, false}, {" " + most, true}, {most + "\n", true}, {most[1:], false}, {most[:len(most)-1], true},
		{strings.Repeat("x", impl.MaxLines-1) + "\n", false}, {strings.Repeat("x", impl.MaxLines) + "\n", true}, {strings.Repeat("x", impl.MaxLines), true},
		{strings.Repeat(" ", impl.MaxLines-1) + "\n", false}, {strings.Repeat(" ", impl.MaxLines) + "\n", true},
		{"keys", true}, {" ", true}, {"keys\n ", true}, {"keys\nkeys", true}, {"keys\r", true}, {"x", true}, {"keys\nopen 1", true}, {"\n\nopen 1", true},
		{strings.Repeat(full, 1000), true},
	} {
		if got := runs(t, r.text); (got == "too long\n") != r.long || strings.Contains(got, "long") != r.long {
			t.Errorf("%d bytes, %d lines: %.50q", len(r.text), strings.Count(r.text, "\n"), got)
		}
	}
	if got := runs(t, full); got != strings.Repeat("need 0\n", impl.MaxScript) {
		t.Errorf("%q", got)
	}
	if got := runs(t, most); len(most) != impl.MaxLines || got != lines("> ", `> -ERR Protocol error\r\n`, "keys 0") {
		t.Errorf("%d: %q", len(most), got)
	}
}

func TestP10Numbers(t *testing.T) {
	for _, n := range []string{"0", "1001", "1000000000", "1000000001", "999999999999999999", "1000000000000000000", "4294967297"} {
		for _, line := range []string{"open " + n, "close " + n, "send " + n + " ", "send " + n + ` PING\n`} {
			plays(t, []row{{"open 1", "> "}, {line, "> no"}, {`send 1 PING\n`, `> +PONG\r\n`}})
		}
	}
	for _, n := range []string{
		"", "-1", "-0", "+1", "+0", "00", "01", "001", "0000", "1000000000000000001", "9223372036854775807", "9223372036854775808", "18446744073709551617", strings.Repeat("9", 50),
		"-1000000000000000000", "-1000000000000000001", "x", "1x", "x1", "0x1", "1_0", "1.0", "1e0", ".", "-", "+", "\t1", "1\t", "1\r", "\x001", "1\x00", "\xef\xbc\x91", "one",
	} {
		for _, line := range []string{"open " + n, "close " + n, "tick " + n, "send " + n + " ", "send " + n + ` PING\n`} {
			plays(t, []row{{"open 1", "> "}, {line, "what"}, {`send 1 PING\n`, `> +PONG\r\n`}, {"keys", "keys 0"}})
		}
	}
}

func TestP10Ids(t *testing.T) {
	plays(t, []row{
		{"close 1", "> no"},
		{"open 1", "> "},
		{"open 1000", "> "},
		{"open 0", "> no"},
		{"open 1001", "> no"},
		{"open 1", "> no"},
		{"open 5", "> "},
		{"open 3", "> "},
		{"open 999", "> "},
		{"open 4", "> no"},
		{`send 4 PING\n`, "> no"},
		{`send 999 PING\n`, `> +PONG\r\n`},
		{`send 1000 PING\n`, `> +PONG\r\n`},
		{"close 4", "> no"},
		{"close 0", "> no"},
		{"close 1001", "> no"},
		{"close 5", "> "},
		{"open 4", "> "},
		{"open 5", "> no"},
		{`send 4 PING\n`, `> +PONG\r\n`},
		{`send 5 PING\n`, "> no"},
	})
}

func TestP10Ticks(t *testing.T) {
	most := strconv.Itoa(impl.MaxTime)
	plays(t, []row{
		{"open 1", "> "},
		{`send 1 SET a 1 EX 1\nSET m 1 EX ` + most + `\nSET n 1\n`, `> +OK\r\n+OK\r\n+OK\r\n`},
		{"tick 0", "> "},
		{"keys", "keys 0 a:string m:string n:string"},
		{"tick 1000000001", "> no"},
		{"tick 1000000000000000000", "> no"},
		{"tick 1000000000000000001", "what"},
		{"keys", "keys 0 a:string m:string n:string"},
		{"tick 999999999", "> "},
		{"keys", "keys 999999999 m:string n:string"},
		{"tick 0", "> "},
		{"keys", "keys 999999999 m:string n:string"},
		{"need", "need 8"},
		{"tick 1", "> "},
		{"keys", "keys 1000000000 n:string"},
		{"tick 1", "> "},
		{"tick " + most, "> "},
		{"keys", "keys 1000000000 n:string"},
		{`send 1 SET o 1 EX 1\n`, `> -ERR invalid expire\r\n`},
	})
	plays(t, []row{{"tick " + most, "> "}, {"keys", "keys " + most}})
	plays(t, []row{{"tick 7", "> "}, {"tick " + most, "> "}, {"keys", "keys " + most}})
}

func TestP10LongestChunks(t *testing.T) {
	just := strings.Repeat(strings.Repeat(" ", 199)+`\n`, 10)
	plays(t, []row{
		{"open 1", "> "},
		{"send 1 PI", "> "},
		{"send 1 " + just, `> -ERR unknown command\r\n`},
		{"keys", "keys 0"},
	})
	plays(t, []row{
		{"open 1", "> "},
		{"send 1 PI", "> "},
		{"send 1 " + just + "x", "> no"},
		{`send 1 NG\n`, `> +PONG\r\n`},
	})
	many := strings.Repeat(`\n`, 1980)
	plays(t, []row{{"open 1", "> "}, {"send 1 " + many, "> "}, {`send 1 PING\n`, `> +PONG\r\n`}})
}

// wrongLines are lines to which "what" is said, whoever is there.
func wrongLines() []string {
	list := []string{
		"x", "fly", "what", ">", "> no", "#", "too long", "say 1", "sendto 1 x", "openx 1", "open1", "xopen 1", "keyss", "key", "needs",
		"OPEN 1", "Open 1", "CLOSE 1", "TICK 1", "SEND 1 x", "Send 1 x", "KEYS", "Keys", "NEED", "neeD", "PING", `PING\n`,
		"open", "close", "tick", "send", "send 1", "send x",
		"open ", "close ", "tick ", "send ", "keys ", "need ", "keys  ", "need  ",
		"open 1 ", "close 1 ", "tick 1 ", "open 1  ", "open 1 2", "close 1 1", "tick 1 2", "tick 1 2 3", "open 1 x", "keys 1", "need 1", "keys keys", "need 0 0", "keys  x",
		"open  1", "close  1", "tick  1", "send  1 x", "send  1", "send  1 ", "send   x", "open   1",
		" open 1", " close 1", " tick 1", " send 1 x", " keys", " need", "  keys", " x",
		"open\t1", "\tkeys", "keys\t", "\t", " \t", "\tsend 1 x", "send\t1 x", "send 1\tx", "tick\t1",
		"keys\r", "open 1\r", "\r", " \r", "need\x00", "\x00", "\xff", "\xa0", "\v", "\\n", `\x20`,
		"send x y", "send -1 x", "send 01 x", "send +1 x", "send 1,x", "send 1x y", `send \x31 x`, `open \x31`,
	}
	for _, text := range []string{
		`\`, `PING\`, `PING\n\`, `\q`, `\x`, `\x0`, `\x1`, `\x0A`, `\xFF`, `\xfF`, `\x0a`, `\x0d`, `\x5c`, `\x41`, `\x20`, `\x7e`, `\X00`, `\N`, `\R`, `\0`, `\ `, ` \`,
		"\t", "PING\r", "\x00", "\x1f", "\x7f", "\x80", "\xff", "ä", "PING\\n\r",
	} {
		list = append(list, "send 1 "+text)
	}
	return list
}

func TestP10WrongLines(t *testing.T) {
	for _, line := range wrongLines() {
		plays(t, []row{{line, "what"}, {"keys", "keys 0"}, {"need", "need 0"}, {"open 1", "> "}})
		plays(t, []row{
			{"tick 3", "> "},
			{"open 1", "> "},
			{`send 1 SET k v\nGE`, `> +OK\r\n`},
			{line, "what"},
			{`send 1 T k\n`, `> $1\r\nv\r\n`},
			{line, "what"},
			{"open 1", "> no"},
			{"open 2", "> "},
			{"keys", "keys 3 k:string"},
			{"need", "need 4"},
		})
	}
}

// A wrong TEXT or a word too many is told ahead of a client that is not there.
func TestP10WhatAheadOfNo(t *testing.T) {
	plays(t, []row{
		{`send 1 \q`, "what"},
		{`send 0 \`, "what"},
		{"send 1 x", "> no"},
		{"close 1 ", "what"},
		{"close 1", "> no"},
		{"tick 1000000001 ", "what"},
		{"tick 1000000001", "> no"},
	})
}

// The forms of the lines that chapter 10's table has, a line feed left off.
var (
	numbered = regexp.MustCompile(`\A(open|close|tick) (0|[1-9][0-9]*)\z`)
	sending  = regexp.MustCompile(`(?s)\Asend (0|[1-9][0-9]*) (.*)\z`)
	blanks   = regexp.MustCompile(`\A *\z`)
)

// numberByWords gives the number of digits that have no noughts ahead.
func numberByWords(digits string) (int64, bool) {
	if len(digits) > 19 || len(digits) == 19 && digits > "1000000000000000000" {
		return 0, false
	}
	n, err := strconv.ParseInt(digits, 10, 64)
	return n, err == nil
}

// eventByWords gives the event that a line asks for.
func eventByWords(line string) (impl.Event, bool) {
	if f := numbered.FindStringSubmatch(line); f != nil {
		n, ok := numberByWords(f[2])
		return map[string]impl.Event{"open": open(n), "close": shut(n), "tick": tick(n)}[f[1]], ok
	}
	if f := sending.FindStringSubmatch(line); f != nil {
		n, ok := numberByWords(f[1])
		text, escaped := unescapedByWords(f[2])
		return send(n, text), ok && escaped
	}
	return impl.Event{}, false
}

// lineByWords gives the server behind a line, and what is said to it.
func lineByWords(s impl.Server, line string) (impl.Server, string) {
	if blanks.MatchString(line) {
		return s, ""
	}
	if line == "keys" {
		said := "keys " + strconv.FormatInt(s.Now, 10)
		for _, k := range s.Db {
			said += " " + escapedByWords(k.Name) + ":" + []string{"none", "string", "list", "hash", "zset"}[k.Val.Kind]
		}
		return s, said + "\n"
	}
	if line == "need" {
		return s, "need " + strconv.FormatInt(needByWords(s.Db), 10) + "\n"
	}
	e, ok := eventByWords(line)
	if !ok {
		return s, "what\n"
	}
	after, outs := impl.Ran(s, []impl.Event{e})
	_, _, took := impl.Happened(s, e)
	if !took {
		return s, "> no\n"
	}
	said := "> "
	for _, o := range outs {
		said += escapedByWords(o.Text)
	}
	return after, said + "\n"
}

// scriptByWords tells what is said to each line of a script that is none too long.
func scriptByWords(script []string) []string {
	var s impl.Server
	var list []string
	for _, line := range script {
		after, said := lineByWords(s, line)
		list = append(list, said)
		s = after
	}
	return list
}

// anyLine gives a line of a script, mostly of a client that may be there.
func anyLine(d *dice) string {
	id := strconv.Itoa(1 + d.below(4))
	switch d.below(16) {
	case 0, 1:
		return "open " + id
	case 2:
		return "close " + id
	case 3:
		return "tick " + strconv.Itoa(d.below(4))
	case 4:
		return "keys"
	case 5:
		return "need"
	case 6:
		return strings.Repeat(" ", d.below(3))
	case 7:
		wrong := wrongLines()
		return wrong[d.below(len(wrong))]
	case 8:
		waits := impl.RequestText(anyArgs(d)) + impl.RequestText(anyArgs(d))
		return "send " + id + " MULTI\\n" + impl.Escaped(waits) + []string{"", "EX", "EXEC\\n"}[d.below(3)]
	case 9, 10:
		return "send " + id + " EXEC\\n"
	case 11, 12:
		return "send " + id + " " + impl.Escaped(impl.RequestText(anyArgs(d))+"KEYS\n")
	}
	return "send " + id + " " + impl.Escaped(anyBytes(d, 3))
}

// bent gives a line with one byte changed, put in or left out.
func bent(d *dice, line string) string {
	at := d.below(len(line) + 1)
	behind := min(at+d.below(2), len(line))
	if d.below(4) == 0 {
		return line[:at] + line[behind:]
	}
	more := " 0-1x\\rnA\tk\x00\r"
	return line[:at] + string(more[d.below(len(more))]) + line[behind:]
}

// anyScript gives lines that are not too many, nor of too many bytes.
func anyScript(d *dice) []string {
	script := []string{"open 1", "open " + strconv.Itoa(1+d.below(4))}
	for range d.below(impl.MaxScript - 1) {
		line := anyLine(d)
		if d.below(6) == 0 {
			line = bent(d, line)
		}
		if len(lines(script...))+len(line)+1 > impl.MaxLines {
			break
		}
		script = append(script, line)
	}
	return script
}

func TestP10AnyScripts(t *testing.T) {
	usual := []string{"> \n", "> no\n", "what\n", "keys ", "keys 3 ", ":string", ":list", ":hash", ":zset", "need ", "+OK", ":1", "+QUEUED", "EXECABORT", `> *2\r\n`, `+QUEUED\r\n*2\r\n`, "Protocol"}
	seen := map[string]int{}
	for seed := range uint64(1500) {
		script := anyScript(&dice{seed})
		said := scriptByWords(script)
		if got, want := runs(t, lines(script...)), strings.Join(said, ""); got != want {
			t.Fatalf("%q: %q, not %q", script, got, want)
		}
		for _, one := range said {
			for _, part := range usual {
				if strings.Contains(one, part) {
					seen[part]++
				}
			}
		}
	}
	for _, part := range usual {
		if seen[part] < 10 {
			t.Errorf("%q is said %d times only", part, seen[part])
		}
	}
}

// TestP10StaysSaid: what is said to the first lines begins what is said to all,
// whatever the others are, until there are too many.
func TestP10StaysSaid(t *testing.T) {
	for seed := range uint64(40) {
		d := &dice{seed + 1000}
		script := anyScript(d)
		whole := runs(t, lines(script...))
		for n := range script {
			first := runs(t, lines(script[:n]...))
			if !strings.HasPrefix(whole, first) {
				t.Fatalf("%q: %q, of %d lines %q", script, whole, n, first)
			}
			other := append(slices.Clone(script[:n]), anyLine(d), anyLine(d))
			if got := runs(t, lines(other...)); len(other) <= impl.MaxScript && len(lines(other...)) <= impl.MaxLines && !strings.HasPrefix(got, first) {
				t.Fatalf("%q: %q, of %d lines %q", other, got, n, first)
			}
		}
	}
}

// TestP10AskingChangesNothing: lines that ask, say nothing or are none may stand
// anywhere; to all others the same is said.
func TestP10AskingChangesNothing(t *testing.T) {
	for seed := range uint64(30) {
		d := &dice{seed + 2000}
		script := anyScript(d)
		script = script[:min(len(script), impl.MaxScript/2-1)]
		said := scriptByWords(script)
		for at := range len(script) + 1 {
			for _, line := range []string{"keys", "need", " ", wrongLines()[d.below(len(wrongLines()))]} {
				more := slices.Insert(slices.Clone(script), at, line)
				if len(lines(more...)) > impl.MaxLines {
					continue
				}
				ahead, behind := strings.Join(said[:at], ""), strings.Join(said[at:], "")
				got := runs(t, lines(more...))
				between, ok := strings.CutSuffix(strings.TrimPrefix(got, ahead), behind)
				if !strings.HasPrefix(got, ahead) || !ok || (between == "") != (line == " ") || strings.Count(between, "\n") > 1 {
					t.Fatalf("%q at %d of %q: %q", line, at, script, got)
				}
			}
		}
	}
}

// Asking at every place, with nothing else to be seen of it.
func TestP10AskingEverywhere(t *testing.T) {
	for seed := range uint64(60) {
		script := anyScript(&dice{seed + 3000})
		script = script[:min(len(script), impl.MaxScript/2)]
		var asked []string
		for _, line := range script {
			asked = append(asked, line, "keys")
		}
		if len(lines(asked...)) > impl.MaxLines {
			continue
		}
		got := runs(t, lines(asked...))
		want := ""
		var s impl.Server
		for _, line := range script {
			after, said := lineByWords(s, line)
			_, keys := lineByWords(after, "keys")
			want += said + keys
			s = after
		}
		if got != want {
			t.Fatalf("%q: %q, not %q", script, got, want)
		}
	}
}
