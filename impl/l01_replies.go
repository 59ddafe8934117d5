package impl

import (
	"strconv"
	"strings"
)

const (
	RsSimple = 1
	RsError  = 2
	RsInt    = 3
	RsBulk   = 4
	RsNull   = 5
	RsArray  = 6
	MaxBulk  = 200
	MaxNodes = 1000
	MaxDeep  = 4
	RdDone   = 0
	RdMore   = 1
	RdBad    = 2
	MaxNum   = 1000000000000000000
)

const lineEnd = "\r\n"

type Resp struct {
	Kind int64
	N    int64
	S    string
	Kids []int64
}

func RespOk(l []Resp) bool {
	if len(l) == 0 || len(l) > MaxNodes {
		return false
	}
	var trees []tree
	for i, node := range l {
		if !nodeOk(node) {
			return false
		}
		first := len(trees) - len(node.Kids)
		if first < 0 || !areKids(trees[first:], node.Kids) {
			return false
		}
		deep := 1 + deepest(trees[first:])
		if deep > MaxDeep {
			return false
		}
		trees = append(trees[:first], tree{int64(i), deep})
	}
	return len(trees) == 1
}

// tree is a node that no later one has claimed as its kid yet, and how many
// nodes the longest path from it down has. The ones still unclaimed, kept in
// order, make one look over the list enough.
type tree struct {
	root int64
	deep int
}

func areKids(trees []tree, kids []int64) bool {
	for i, t := range trees {
		if t.root != kids[i] {
			return false
		}
	}
	return true
}

func deepest(trees []tree) int {
	most := 0
	for _, t := range trees {
		most = max(most, t.deep)
	}
	return most
}

// nodeOk looks at a node's own fields; where it stands is not asked here.
func nodeOk(node Resp) bool {
	noN, noS, noKids := node.N == 0, node.S == "", len(node.Kids) == 0
	switch node.Kind {
	case RsSimple, RsError:
		return noN && noKids && wordsOk(node.S)
	case RsInt:
		return noS && noKids && numberOk(node.N)
	case RsBulk:
		return noN && noKids && len(node.S) <= MaxBulk
	case RsNull:
		return noN && noS && noKids
	case RsArray:
		return noN && noS
	}
	return false
}

// wordsOk says whether s may stand in a line of its own: plain bytes only, so
// that it can't end the line early.
func wordsOk(s string) bool {
	if len(s) > MaxBulk {
		return false
	}
	for _, b := range []byte(s) {
		if !isPlain(b) {
			return false
		}
	}
	return true
}

func isPlain(b byte) bool {
	return b >= 32 && b <= 126
}

func numberOk(n int64) bool {
	return n >= -MaxNum && n <= MaxNum
}

func RespText(l []Resp) string {
	if !RespOk(l) {
		return ""
	}
	var out strings.Builder
	writeReply(&out, l, l[len(l)-1])
	return out.String()
}

func writeReply(out *strings.Builder, l []Resp, node Resp) {
	switch node.Kind {
	case RsSimple:
		writeLine(out, "+", node.S)
	case RsError:
		writeLine(out, "-", node.S)
	case RsInt:
		writeLine(out, ":", strconv.FormatInt(node.N, 10))
	case RsBulk:
		writeBulk(out, node.S)
	case RsNull:
		writeLine(out, "$", "-1")
	case RsArray:
		writeLine(out, "*", strconv.Itoa(len(node.Kids)))
		for _, kid := range node.Kids {
			writeReply(out, l, l[kid])
		}
	}
}

func writeLine(out *strings.Builder, mark string, text string) {
	out.WriteString(mark)
	out.WriteString(text)
	out.WriteString(lineEnd)
}

func writeBulk(out *strings.Builder, s string) {
	writeLine(out, "$", strconv.Itoa(len(s)))
	writeLine(out, "", s)
}

func ReadResp(s string) ([]Resp, int64, int64) {
	r := &replyReader{reader: reader{text: s}}
	code := attempt(func() { r.reply(0) })
	if code != RdDone {
		return nil, 0, code
	}
	return r.nodes, int64(r.at), RdDone
}

// stop is what a reader panics with where it can't go on: the code to answer.
type stop int64

func giveUp(code int64) {
	panic(stop(code))
}

// attempt turns a reader's giving up into the code it gave up with. Any other
// panic would be a fault of the program, which the assertion lets through.
func attempt(read func()) (code int64) {
	defer func() {
		if why := recover(); why != nil {
			code = int64(why.(stop))
		}
	}()
	read()
	return RdDone
}

// reader goes over a text from the front; at is the first byte not yet read.
// What it hands out is copied, so that no answer keeps the text alive.
type reader struct {
	text string
	at   int
}

func (r *reader) line() string {
	left := r.text[r.at:]
	n := strings.Index(left, lineEnd)
	if n < 0 && len(left) > MaxLine {
		giveUp(RdBad)
	}
	if n < 0 {
		giveUp(RdMore)
	}
	r.at += n + len(lineEnd)
	return strings.Clone(left[:n])
}

// some reads n bytes and the line end behind them. Too few bytes are told
// ahead of wrong ones: only when all are there is the end looked at.
func (r *reader) some(n int) string {
	left := r.text[r.at:]
	whole := n + len(lineEnd)
	if len(left) < whole {
		giveUp(RdMore)
	}
	if left[n:whole] != lineEnd {
		giveUp(RdBad)
	}
	r.at += whole
	return strings.Clone(left[:n])
}

// numberOf gives the number in decimal that s is, or gives up.
func numberOf(s string) int64 {
	n, ok := decimal(s)
	if !ok {
		giveUp(RdBad)
	}
	return n
}

// countOf gives the number 0 .. most that s is, or gives up.
func countOf(s string, most int64) int {
	n := numberOf(s)
	if n < 0 || n > most {
		giveUp(RdBad)
	}
	return int(n)
}

// decimal takes a text only if it is the one way to write its number, which
// leaves out noughts and a + ahead, and -0.
func decimal(s string) (int64, bool) {
	n, err := strconv.ParseInt(s, 10, 64)
	if err != nil || !numberOk(n) || strconv.FormatInt(n, 10) != s {
		return 0, false
	}
	return n, true
}

// replyReader keeps the replies that are read to their ends, kids ahead of
// their array.
type replyReader struct {
	reader
	nodes []Resp
}

// reply reads one reply with so many arrays around it, and tells its place.
func (r *replyReader) reply(around int) int64 {
	line := r.line()
	if line == "" || around > MaxDeep-1 {
		giveUp(RdBad)
	}
	node := r.node(line[0], line[1:], around)
	if len(r.nodes) == MaxNodes {
		giveUp(RdBad)
	}
	r.nodes = append(r.nodes, node)
	return int64(len(r.nodes) - 1)
}

func (r *replyReader) node(mark byte, text string, around int) Resp {
	switch mark {
	case '+':
		return Resp{Kind: RsSimple, S: wordsOf(text)}
	case '-':
		return Resp{Kind: RsError, S: wordsOf(text)}
	case ':':
		return Resp{Kind: RsInt, N: numberOf(text)}
	case '$':
		if text == "-1" {
			return Resp{Kind: RsNull}
		}
		return Resp{Kind: RsBulk, S: r.some(countOf(text, MaxBulk))}
	case '*':
		return Resp{Kind: RsArray, Kids: r.kids(countOf(text, MaxNodes), around+1)}
	}
	giveUp(RdBad)
	return Resp{}
}

func wordsOf(s string) string {
	if !wordsOk(s) {
		giveUp(RdBad)
	}
	return s
}

func (r *replyReader) kids(n int, around int) []int64 {
	var kids []int64
	for range n {
		kids = append(kids, r.reply(around))
	}
	return kids
}
