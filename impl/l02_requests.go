package impl

import (
	"strconv"
	"strings"
)

const (
	MaxArgs = 16
	MaxLine = 300
)

func RequestText(args []string) string {
	if !argsOk(args) {
		return ""
	}
	var out strings.Builder
	writeLine(&out, "*", strconv.Itoa(len(args)))
	for _, arg := range args {
		writeBulk(&out, arg)
	}
	return out.String()
}

func argsOk(args []string) bool {
	return len(args) <= MaxArgs && bulksOk(args)
}

func bulksOk(texts []string) bool {
	for _, text := range texts {
		if len(text) > MaxBulk {
			return false
		}
	}
	return true
}

func ReadRequest(s string) ([]string, int64, int64) {
	r := &reader{text: s}
	var args []string
	code := attempt(func() { args = r.request() })
	if code != RdDone {
		return nil, 0, code
	}
	return args, int64(r.at), RdDone
}

func (r *reader) request() []string {
	left := r.text[r.at:]
	if left == "" {
		giveUp(RdMore)
	}
	if left[0] == '*' {
		return r.bulks()
	}
	return r.words()
}

// bulks reads a request whose arguments come with their lengths.
func (r *reader) bulks() []string {
	var args []string
	for range r.marked('*', MaxArgs) {
		args = append(args, r.some(r.marked('$', MaxBulk)))
	}
	return args
}

// marked reads a line of that mark and a number 0 .. most.
func (r *reader) marked(mark byte, most int64) int {
	line := r.line()
	if line == "" || line[0] != mark {
		giveUp(RdBad)
	}
	return countOf(line[1:], most)
}

// words reads a request that somebody typed as one line. That one ends at a
// line feed, with or without the byte 13 ahead that chapter 1 asks for.
func (r *reader) words() []string {
	left := r.text[r.at:]
	n := strings.IndexByte(left, '\n')
	if n > MaxLine || n < 0 && len(left) > MaxLine {
		giveUp(RdBad)
	}
	if n < 0 {
		giveUp(RdMore)
	}
	line := strings.TrimSuffix(left[:n], "\r")
	args := strings.FieldsFunc(strings.Clone(line), isGap)
	if !argsOk(args) {
		giveUp(RdBad)
	}
	r.at += n + 1
	return args
}

func isGap(c rune) bool {
	return c == ' ' || c == '\t'
}

func Fed(rest string, chunk string) ([][]string, string, bool) {
	f := &feed{left: rest + chunk}
	var list [][]string
	for args := range f.requests {
		list = append(list, args)
	}
	if f.code == RdBad {
		return list, "", false
	}
	return list, strings.Clone(f.left), true
}

// feed is what is left of the bytes that came, and how the last reading of
// them ended.
type feed struct {
	left string
	code int64
}

// requests tells the requests one by one, to be ranged over, until one is not
// whole or wrong. Those without arguments ask for nothing and are passed over.
func (f *feed) requests(yield func([]string) bool) {
	for {
		args, used, code := ReadRequest(f.left)
		f.code = code
		if code != RdDone {
			return
		}
		f.left = f.left[used:]
		if len(args) > 0 && !yield(args) {
			return
		}
	}
}
