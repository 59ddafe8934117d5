package tests

import (
	"slices"
	"strings"

	"loop.example/g00302/impl"
)

// dice is a source of numbers that is the same in every run.
type dice struct {
	state uint64
}

// below gives a number 0 .. n - 1.
func (d *dice) below(n int) int {
	d.state = d.state*6364136223846793005 + 1442695040888963407
	return int(d.state>>33) % n
}

// bytes gives a text of at most most bytes, line ends more often than by chance.
func (d *dice) bytes(most int) string {
	out := make([]byte, d.below(most+1))
	for i := range out {
		out[i] = byte(d.below(256))
		if d.below(4) == 0 {
			out[i] = "\r\n$*"[d.below(4)]
		}
	}
	return string(out)
}

// plain gives a text of at most most plain bytes.
func (d *dice) plain(most int) string {
	out := make([]byte, d.below(most+1))
	for i := range out {
		out[i] = byte(32 + d.below(95))
	}
	return string(out)
}

// tails are what may stand behind a whole thing without a difference.
func tails() []string {
	return []string{"", "x", "\r", "\n", "\r\n", "$", "*1\r\n", "+OK\r\n", "\x00\xff", strings.Repeat("z", impl.MaxLine+1)}
}

func sameNodes(a []impl.Resp, b []impl.Resp) bool {
	return slices.EqualFunc(a, b, func(x impl.Resp, y impl.Resp) bool {
		return x.Kind == y.Kind && x.N == y.N && x.S == y.S && slices.Equal(x.Kids, y.Kids)
	})
}

func sameRequests(a [][]string, b [][]string) bool {
	return slices.EqualFunc(a, b, slices.Equal[[]string])
}

// everyText calls ask with each text that at most most of the pieces make.
func everyText(pieces []string, most int, ask func(string)) {
	var grow func(text string, left int)
	grow = func(text string, left int) {
		ask(text)
		if left == 0 {
			return
		}
		for _, p := range pieces {
			grow(text+p, left-1)
		}
	}
	grow("", most)
}
