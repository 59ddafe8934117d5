package tests

import (
	"math"
	"slices"
	"sort"
	"strconv"
	"strings"
	"testing"

	"loop.example/g00302/impl"
)

func textValue(s string) impl.Value { return impl.Value{Kind: impl.VlText, Text: s} }

func listValue(items ...string) impl.Value { return impl.Value{Kind: impl.VlList, Items: items} }

func hashValue(pairs ...impl.Pair) impl.Value { return impl.Value{Kind: impl.VlHash, Pairs: pairs} }

func zsetValue(ranks ...impl.Rank) impl.Value { return impl.Value{Kind: impl.VlZset, Ranks: ranks} }

func pair(name string, text string) impl.Pair { return impl.Pair{Name: name, Text: text} }

func rank(member string, score int64) impl.Rank { return impl.Rank{Member: member, Score: score} }

func longText(n int) string { return strings.Repeat("m", n) }

func sameValue(a impl.Value, b impl.Value) bool {
	return a.Kind == b.Kind && a.Text == b.Text && slices.Equal(a.Items, b.Items) && slices.Equal(a.Pairs, b.Pairs) && slices.Equal(a.Ranks, b.Ranks)
}

// names gives so many texts that rise.
func names(n int) []string {
	var list []string
	for i := range n {
		list = append(list, string([]byte{'a' + byte(i/10), '0' + byte(i%10)}))
	}
	return list
}

func manyPairs(n int) []impl.Pair {
	var list []impl.Pair
	for _, name := range names(n) {
		list = append(list, pair(name, ""))
	}
	return list
}

func manyRanks(n int) []impl.Rank {
	var list []impl.Rank
	for i, name := range names(n) {
		list = append(list, rank(name, int64(i/2)))
	}
	return list
}

// framed gives the texts as values tell them, each behind its length.
func framed(kind string, texts ...string) string {
	for _, s := range texts {
		kind += string([]byte{byte(len(s) / 256), byte(len(s) % 256)}) + s
	}
	return kind
}

type valueRow struct {
	value impl.Value
	bytes string
}

func rightValues() []valueRow {
	longest := longText(impl.MaxBulk)
	return []valueRow{
		{textValue(""), "1\x00\x00"},
		{textValue("abc"), "1\x00\x03abc"},
		{textValue("\x00\r\n\xff"), "1\x00\x04\x00\r\n\xff"},
		{textValue(longest), "1\x00\xc8" + longest},
		{listValue(""), "2\x00\x00"},
		{listValue("b", "a", "b"), "2\x00\x01b\x00\x01a\x00\x01b"},
		{listValue(longest, ""), "2\x00\xc8" + longest + "\x00\x00"},
		{listValue(names(impl.MaxItems)...), framed("2", names(impl.MaxItems)...)},
		{hashValue(pair("", "")), "3\x00\x00\x00\x00"},
		{hashValue(pair("", "x"), pair("a", "x"), pair("a\x00", ""), pair("b", "")), "3\x00\x00\x00\x01x\x00\x01a\x00\x01x\x00\x02a\x00\x00\x00\x00\x01b\x00\x00"},
		{hashValue(pair(longest, longest)), framed("3", longest, longest)},
		{hashValue(pair("B", ""), pair("a", ""), pair("\xff", "")), framed("3", "B", "", "a", "", "\xff", "")},
		{hashValue(manyPairs(impl.MaxItems)...), ""},
		{zsetValue(rank("", 0)), "4\x00\x00\x00\x010"},
		{zsetValue(rank("b", -2), rank("a", 1), rank("c", 1), rank("", 10)), framed("4", "b", "-2", "a", "1", "c", "1", "", "10")},
		{zsetValue(rank("y", -impl.MaxNum), rank("x", impl.MaxNum)), framed("4", "y", "-1000000000000000000", "x", "1000000000000000000")},
		{zsetValue(rank(longest, 5)), framed("4", longest, "5")},
		{zsetValue(manyRanks(impl.MaxItems)...), ""},
	}
}

// valueComesBack holds promise 4 against one right value.
func valueComesBack(t *testing.T, v impl.Value) {
	t.Helper()
	s := impl.ValueBytes(v)
	if !impl.ValueOk(v) || s == "" {
		t.Fatalf("not right: %v", v)
	}
	back, ok := impl.ReadValue(s)
	if !ok || !sameValue(back, v) {
		t.Fatalf("%q: %v, not %v", s, back, v)
	}
}

func TestP4RightValues(t *testing.T) {
	for _, r := range rightValues() {
		if s := impl.ValueBytes(r.value); r.bytes != "" && s != r.bytes {
			t.Errorf("%v: %q, not %q", r.value, s, r.bytes)
		}
		valueComesBack(t, r.value)
	}
}

func wrongValues() []impl.Value {
	tooLong := longText(impl.MaxBulk + 1)
	return []impl.Value{
		{},
		{Kind: 5},
		{Kind: -1},
		{Kind: 5, Text: "a"},
		{Kind: impl.VlText + 256, Text: "a"},
		{Kind: math.MaxInt64},
		{Kind: math.MinInt64},
		textValue(tooLong),
		listValue(),
		listValue(tooLong),
		listValue("a", tooLong),
		listValue(names(impl.MaxItems + 1)...),
		hashValue(),
		hashValue(pair(tooLong, "")),
		hashValue(pair("", tooLong)),
		hashValue(pair("a", ""), pair("b", tooLong)),
		hashValue(pair("a", ""), pair("a", "")),
		hashValue(pair("a", "x"), pair("a", "y")),
		hashValue(pair("b", ""), pair("a", "")),
		hashValue(pair("ab", ""), pair("a", "")),
		hashValue(pair("\xff", ""), pair("a", "")),
		hashValue(pair("a", ""), pair("c", ""), pair("b", "")),
		hashValue(manyPairs(impl.MaxItems + 1)...),
		zsetValue(),
		zsetValue(rank(tooLong, 0)),
		zsetValue(rank("a", impl.MaxNum+1)),
		zsetValue(rank("a", -impl.MaxNum-1)),
		zsetValue(rank("a", math.MinInt64), rank("b", math.MaxInt64)),
		zsetValue(rank("a", 1), rank("a", 1)),
		zsetValue(rank("a", 1), rank("a", 2)),
		zsetValue(rank("a", 1), rank("b", 2), rank("a", 3)),
		zsetValue(rank("a", 2), rank("b", 1)),
		zsetValue(rank("b", 1), rank("a", 1)),
		zsetValue(rank("a", 10), rank("b", 9)),
		zsetValue(rank("a", 1), rank("b", -1)),
		zsetValue(manyRanks(impl.MaxItems + 1)...),
		{Kind: impl.VlText, Text: "a", Items: []string{""}},
		{Kind: impl.VlText, Text: "a", Pairs: []impl.Pair{{}}},
		{Kind: impl.VlText, Text: "a", Ranks: []impl.Rank{{}}},
		{Kind: impl.VlList, Items: []string{"a"}, Text: "a"},
		{Kind: impl.VlList, Items: []string{"a"}, Pairs: []impl.Pair{{}}},
		{Kind: impl.VlList, Items: []string{"a"}, Ranks: []impl.Rank{{}}},
		{Kind: impl.VlHash, Pairs: []impl.Pair{{}}, Text: "a"},
		{Kind: impl.VlHash, Pairs: []impl.Pair{{}}, Items: []string{""}},
		{Kind: impl.VlHash, Pairs: []impl.Pair{{}}, Ranks: []impl.Rank{{}}},
		{Kind: impl.VlZset, Ranks: []impl.Rank{{}}, Text: "a"},
		{Kind: impl.VlZset, Ranks: []impl.Rank{{}}, Items: []string{""}},
		{Kind: impl.VlZset, Ranks: []impl.Rank{{}}, Pairs: []impl.Pair{{}}},
	}
}

func TestP4WrongValues(t *testing.T) {
	for i, v := range wrongValues() {
		if impl.ValueOk(v) || impl.ValueBytes(v) != "" {
			t.Errorf("%d is right: %v", i, v)
		}
	}
	empty := impl.Value{Kind: impl.VlText, Items: []string{}, Pairs: []impl.Pair{}, Ranks: []impl.Rank{}}
	if impl.ValueBytes(empty) != "1\x00\x00" {
		t.Error("empty lists are not as none")
	}
}

func TestP4WrongBytes(t *testing.T) {
	tooLong := longText(impl.MaxBulk + 1)
	for _, s := range []string{
		"", "1", "2", "3", "4", "0\x00\x00", "5\x00\x00", "1\x00", "\x01\x00\x00", " 1\x00\x00",
		"1\x00\x00\x00", "1\x00\x00\x00\x00", "1\x00\x02a", "1\x01\x00", "1\xff\xff", "1\x00\x01",
		"2\x00", "2\x00\x01", "2\x00\x01a\x00", "2\x00\x01ab",
		"3\x00\x00", "3\x00\x01a\x00\x01b\x00\x01c",
		framed("1", tooLong), framed("2", tooLong), framed("3", tooLong, ""), framed("3", "", tooLong), framed("4", tooLong, "1"),
		framed("1", longText(256)), framed("1", longText(65535)),
		framed("2", names(impl.MaxItems+1)...),
		framed("3", names(2*impl.MaxItems+2)...),
		framed("3", "b", "", "a", ""), framed("3", "a", "", "a", ""),
		framed("4", "a"), framed("4", "a", ""), framed("4", "a", "-"), framed("4", "a", "-0"), framed("4", "a", "01"), framed("4", "a", "+1"),
		framed("4", "a", " 1"), framed("4", "a", "1.0"), framed("4", "a", "1000000000000000001"), framed("4", "a", "-1000000000000000001"),
		framed("4", "a", "9223372036854775808"), framed("4", "a", "1", "b"), framed("4", "a", "1", "b", "0"), framed("4", "a", "1", "a", "2"), framed("4", "b", "1", "a", "1"),
		strings.Repeat("2\x00\x00", 5000),
	} {
		if v, ok := impl.ReadValue(s); ok || !sameValue(v, impl.Value{}) {
			t.Errorf("%q: %v", s, v)
		}
	}
	if _, ok := impl.ReadValue("2" + noughts(2*impl.MaxItems)); !ok {
		t.Error("so many empty items are no value")
	}
}

// Whatever is read is told by the same bytes again: there is one way alone.
func TestP4EveryShortText(t *testing.T) {
	read := 0
	everyText([]string{"1", "2", "3", "4", "\x00", "\x01", "-"}, 6, func(s string) {
		v, ok := impl.ReadValue(s)
		if ok && (!impl.ValueOk(v) || impl.ValueBytes(v) != s) {
			t.Fatalf("%q: %v", s, v)
		}
		if ok {
			read++
		}
	})
	if read == 0 {
		t.Error("none is read")
	}
}

// anyValue gives a right value of any kind.
func anyValue(d *dice) impl.Value {
	n := 1 + d.below(impl.MaxItems)
	switch d.below(4) + 1 {
	case impl.VlText:
		return textValue(d.bytes(impl.MaxBulk))
	case impl.VlList:
		var items []string
		for range n {
			items = append(items, d.bytes(20))
		}
		return listValue(items...)
	case impl.VlHash:
		pairs := manyPairs(n)
		for i := range pairs {
			pairs[i].Text = d.bytes(20)
		}
		return hashValue(pairs...)
	}
	var ranks []impl.Rank
	for range n {
		ranks, _ = impl.Ranked(ranks, d.bytes(2), int64(d.below(5)-2))
	}
	return zsetValue(ranks...)
}

func TestP4AnyValues(t *testing.T) {
	d := &dice{4}
	for range 500 {
		v := anyValue(d)
		valueComesBack(t, v)
		s := impl.ValueBytes(v)
		if _, ok := impl.ReadValue(s + "\x00"); ok {
			t.Fatalf("%q with a byte behind", s)
		}
		if _, ok := impl.ReadValue(s[:len(s)-1]); ok {
			t.Fatalf("%q without its last byte", s)
		}
	}
}

func TestP4Numbers(t *testing.T) {
	for _, n := range []int64{0, 1, -1, 9, 10, -10, 123456789, impl.MaxNum - 1, impl.MaxNum, 1 - impl.MaxNum, -impl.MaxNum} {
		s := strconv.FormatInt(n, 10)
		if got, ok := impl.IntOf(s); !ok || got != n {
			t.Errorf("%s: %d %v", s, got, ok)
		}
	}
	for _, s := range []string{"", "-", "+", "+1", "-0", "00", "01", "-01", " 1", "1 ", "1\n", "\x001", "1_0", "0x1", "1e3", "1.0", "--1", "a", "١", "1000000000000000001", "-1000000000000000001", "9223372036854775807", "-9223372036854775808", "99999999999999999999", strings.Repeat("9", 400)} {
		if n, ok := impl.IntOf(s); ok || n != 0 {
			t.Errorf("%q: %d", s, n)
		}
	}
}

// placesByWords tells which of n places lie between two ends.
func placesByWords(n int64, from int64, to int64) []int64 {
	var list []int64
	for i := range n {
		behindFrom := from >= 0 && i >= from || from < 0 && i-n >= from
		aheadOfTo := to >= 0 && i <= to || to < 0 && i-n <= to
		if behindFrom && aheadOfTo {
			list = append(list, i)
		}
	}
	return list
}

func TestP4Slices(t *testing.T) {
	for n := int64(0); n <= 5; n++ {
		for from := int64(-7); from <= 7; from++ {
			for to := int64(-7); to <= 7; to++ {
				want := [2]int64{}
				if l := placesByWords(n, from, to); len(l) > 0 {
					want = [2]int64{l[0], l[len(l)-1] + 1}
				}
				if a, b := impl.SliceOf(n, from, to); a != want[0] || b != want[1] {
					t.Errorf("%d of %d to %d: %d %d, not %v", n, from, to, a, b, want)
				}
			}
		}
	}
}

func TestP4SliceLimits(t *testing.T) {
	const m = impl.MaxNum
	for _, r := range [][5]int64{
		{5, -m, m, 0, 5},
		{5, -m - 1, m, 0, 0},
		{5, -m, m + 1, 0, 0},
		{5, m, m, 0, 0},
		{5, -m, -m, 0, 0},
		{5, 0, -m - 1, 0, 0},
		{5, m + 1, -1, 0, 0},
		{5, math.MinInt64, math.MaxInt64, 0, 0},
		{5, math.MinInt64, 4, 0, 0},
		{5, 0, math.MaxInt64, 0, 0},
		{m, 0, -1, 0, m},
		{m, -m, m, 0, m},
		{m, -1, m, m - 1, m},
		{m, m - 1, m - 1, m - 1, m},
		{m, m, m, 0, 0},
		{m, 0, -m, 0, 1},
		{m + 1, 0, -1, 0, 0},
		{math.MaxInt64, 0, -1, 0, 0},
		{-1, 0, -1, 0, 0},
		{-1, 0, 0, 0, 0},
		{math.MinInt64, -1, 0, 0, 0},
	} {
		if a, b := impl.SliceOf(r[0], r[1], r[2]); a != r[3] || b != r[4] {
			t.Errorf("%v: %d %d", r, a, b)
		}
	}
}

// rankedByWords does it by a map, which has each member once.
func rankedByWords(l []impl.Rank, member string, score int64) []impl.Rank {
	scores := map[string]int64{}
	for _, r := range l {
		scores[r.Member] = r.Score
	}
	scores[member] = score
	var list []impl.Rank
	for m, s := range scores {
		list = append(list, rank(m, s))
	}
	sort.Slice(list, func(i int, j int) bool {
		a, b := list[i], list[j]
		return a.Score < b.Score || a.Score == b.Score && a.Member < b.Member
	})
	return list
}

func TestP4Ranked(t *testing.T) {
	for seed := range uint64(30) {
		d := &dice{seed}
		var l []impl.Rank
		for range 60 {
			member, score := names(25)[d.below(25)], int64(d.below(7)-3)
			want := rankedByWords(l, member, score)
			got, ok := impl.Ranked(l, member, score)
			if ok != (len(want) <= impl.MaxItems) {
				t.Fatalf("%d ranks: %v", len(want), ok)
			}
			if !ok {
				if got != nil {
					t.Fatalf("refused, but %v", got)
				}
				continue
			}
			if !slices.Equal(got, want) || !impl.ValueOk(zsetValue(got...)) {
				t.Fatalf("%v, not %v", got, want)
			}
			l = got
		}
	}
}

func TestP4RankedLimits(t *testing.T) {
	full := manyRanks(impl.MaxItems)
	longest := longText(impl.MaxBulk)
	for i, r := range []struct {
		list   []impl.Rank
		member string
		score  int64
		ok     bool
	}{
		{nil, "", 0, true},
		{[]impl.Rank{}, "a", impl.MaxNum, true},
		{nil, "a", -impl.MaxNum, true},
		{nil, longest, 0, true},
		{full, full[0].Member, 100, true},
		{full, full[7].Member, full[7].Score, true},
		{full[1:], "new", 0, true},
		{full, "new", 0, false},
		{nil, longest + "m", 0, false},
		{nil, "a", impl.MaxNum + 1, false},
		{nil, "a", -impl.MaxNum - 1, false},
		{full, full[0].Member, math.MaxInt64, false},
		{manyRanks(impl.MaxItems + 1), "a0", 0, false},
		{[]impl.Rank{rank("a", impl.MaxNum+1)}, "a", 0, false},
		{[]impl.Rank{rank(longest+"m", 1)}, longest + "m", 0, false},
		{[]impl.Rank{rank("b", 1), rank("a", 1)}, "a", 0, false},
		{[]impl.Rank{rank("a", 2), rank("b", 1)}, "a", 0, false},
		{[]impl.Rank{rank("a", 1), rank("a", 2)}, "a", 0, false},
	} {
		got, ok := impl.Ranked(r.list, r.member, r.score)
		if ok != r.ok || !ok && got != nil {
			t.Errorf("%d: %v %v", i, got, ok)
		}
		if ok && !slices.Equal(got, rankedByWords(r.list, r.member, r.score)) {
			t.Errorf("%d: %v", i, got)
		}
	}
}

func TestP4ArgumentsStay(t *testing.T) {
	list := append(make([]impl.Rank, 0, 6), rank("a", 1), rank("b", 2))
	spare := list[:6]
	before := slices.Clone(spare)
	for _, r := range []impl.Rank{rank("a", 3), rank("b", 2), rank("c", 0)} {
		got, ok := impl.Ranked(list, r.Member, r.Score)
		if !ok || !slices.Equal(spare, before) {
			t.Fatalf("written: %v", spare)
		}
		for i := range got {
			got[i] = rank("z", 9)
		}
		if !slices.Equal(spare, before) {
			t.Fatalf("shared: %v", spare)
		}
	}
	for _, r := range rightValues() {
		twin, _ := impl.ReadValue(impl.ValueBytes(r.value))
		impl.ValueOk(r.value)
		if !sameValue(r.value, twin) {
			t.Errorf("written: %v", r.value)
		}
	}
}
