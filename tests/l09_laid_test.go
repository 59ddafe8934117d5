package tests

import (
	"math"
	"slices"
	"strconv"
	"testing"

	"loop.example/g00302/impl"
)

// bytesByWords tells a right value's bytes from its fields, as chapter 4 has it.
func bytesByWords(v impl.Value) string {
	texts := slices.Clone(v.Items)
	if v.Kind == impl.VlText {
		texts = []string{v.Text}
	}
	for _, p := range v.Pairs {
		texts = append(texts, p.Name, p.Text)
	}
	for _, r := range v.Ranks {
		texts = append(texts, r.Member, strconv.FormatInt(r.Score, 10))
	}
	return framed(strconv.FormatInt(v.Kind, 10), texts...)
}

func needByWords(db []impl.Key) int64 {
	need := 0
	for _, k := range db {
		need += len(bytesByWords(k.Val))
	}
	return int64(need)
}

// laidByWords tells the heap and the entries of keys for which size has room:
// a new heap has one gap, so each value lies right behind the one ahead.
func laidByWords(size int64, db []impl.Key) (impl.Heap, []impl.Entry) {
	h := impl.Heap{}
	var list []impl.Entry
	for i, k := range db {
		s := bytesByWords(k.Val)
		h.Cells = append(h.Cells, live(int64(len(h.Data)), int64(len(s)), 1))
		h.Data += s
		list = append(list, entry(k.Name, int64(i), 1, k.Due))
	}
	h.Data += noughts(int(size) - len(h.Data))
	return h, list
}

func entry(name string, cell int64, gen int64, due int64) impl.Entry {
	return impl.Entry{Name: name, At: impl.Ref{Cell: cell, Gen: gen}, Due: due}
}

// need is NeedOf, asked twice, of keys with spare room behind their lists.
func need(t *testing.T, db []impl.Key) int64 {
	t.Helper()
	given, untouched := roomy(db)
	n := impl.NeedOf(given)
	if again := impl.NeedOf(given); again != n || !untouched() {
		t.Fatalf("%d and %d, or an argument is written", n, again)
	}
	return n
}

// laid is Laid, asked twice; it asks that one answer shares nothing with the
// keys nor with the other answer, and that a refusal has nothing beside it.
func laid(t *testing.T, size int64, db []impl.Key) (impl.Heap, []impl.Entry, bool) {
	t.Helper()
	given, untouched := roomy(db)
	spoilt, gone, once := impl.Laid(size, given)
	h, list, ok := impl.Laid(size, given)
	if once != ok || !sameHeap(spoilt, h) || !slices.Equal(gone, list) {
		t.Fatalf("%d: two answers", size)
	}
	was, wasList := impl.Heap{Data: h.Data, Cells: slices.Clone(h.Cells)}, slices.Clone(list)
	for i := range spoilt.Cells[:cap(spoilt.Cells)] {
		spoilt.Cells[:cap(spoilt.Cells)][i] = live(9, 9, 9)
	}
	for i := range gone[:cap(gone)] {
		gone[:cap(gone)][i] = entry("!", 9, 9, -1)
	}
	if !untouched() || !sameHeap(h, was) || !slices.Equal(list, wasList) {
		t.Fatalf("%d: an argument is written, or memory is shared", size)
	}
	if !ok && (!noHeap(h) || len(list) != 0) {
		t.Fatalf("%d: beside false: %v %v", size, h, list)
	}
	return h, list, ok
}

// dbOf is DbOf, asked twice; it asks the same of it.
func dbOf(t *testing.T, h impl.Heap, list []impl.Entry) ([]impl.Key, bool) {
	t.Helper()
	cells := append(make([]impl.Cell, 0, len(h.Cells)+3), h.Cells...)
	given := append(make([]impl.Entry, 0, len(list)+3), list...)
	spoilt, once := impl.DbOf(impl.Heap{Data: h.Data, Cells: cells}, given)
	db, ok := impl.DbOf(impl.Heap{Data: h.Data, Cells: cells}, given)
	if once != ok || !sameKeys(spoilt, db) {
		t.Fatalf("two answers: %v %v", spoilt, db)
	}
	was := twin(db)
	if !ownsItsLists(spoilt) || !sameKeys(db, was) {
		t.Fatal("lists share memory")
	}
	if !slices.Equal(cells, h.Cells) || !spareIsZero(cells) || !slices.Equal(given, list) || !spareIsZero(given) {
		t.Fatal("an argument is written")
	}
	if !ok && len(db) != 0 {
		t.Fatalf("beside false: %v", db)
	}
	return db, ok
}

func pack(t *testing.T, h impl.Heap) impl.Heap {
	t.Helper()
	p, ok := impl.Packed(h)
	if !ok {
		t.Fatalf("not packed: %v", h)
	}
	return p
}

// back asks that the entries of h tell of just these keys.
func back(t *testing.T, h impl.Heap, list []impl.Entry, want []impl.Key) {
	t.Helper()
	if db, ok := dbOf(t, h, list); !ok || !sameKeys(db, want) {
		t.Fatalf("%s, not %s (%v)", briefKeys(db), briefKeys(want), ok)
	}
}

// nowhere asks that the entries of h, and of h packed, tell of no keys.
func nowhere(t *testing.T, h impl.Heap, list []impl.Entry) {
	t.Helper()
	if db, ok := dbOf(t, h, list); ok {
		t.Fatalf("%v: %s", list, briefKeys(db))
	}
	if db, ok := dbOf(t, pack(t, h), list); ok {
		t.Fatalf("%v, packed: %s", list, briefKeys(db))
	}
}

// comeBack holds promise 9 against right keys and one size.
func comeBack(t *testing.T, size int64, db []impl.Key) {
	t.Helper()
	h, list, ok := laid(t, size, db)
	fits := size >= needByWords(db) && size <= impl.MaxHeap
	if ok != fits {
		t.Fatalf("%s into %d: %v", briefKeys(db), size, ok)
	}
	if !ok {
		return
	}
	wantHeap, wantList := laidByWords(size, db)
	if !sameHeap(h, wantHeap) || !slices.Equal(list, wantList) || !impl.HeapOk(h) {
		t.Fatalf("%s into %d: %v %v", briefKeys(db), size, h, list)
	}
	if impl.Room(h) != size-needByWords(db) {
		t.Fatalf("%s into %d: room for %d", briefKeys(db), size, impl.Room(h))
	}
	back(t, h, list, db)
	back(t, pack(t, h), list, db)
}

// aboutNeed asks the sizes at which keys just don't and just do come back.
func aboutNeed(t *testing.T, db []impl.Key) {
	t.Helper()
	n := needByWords(db)
	if got := need(t, db); got != n {
		t.Fatalf("%s need %d, not %d", briefKeys(db), got, n)
	}
	for _, size := range []int64{0, n - 1, n, n + 1, impl.MaxHeap} {
		comeBack(t, size, db)
	}
}

func TestP9Keys(t *testing.T) {
	db := []impl.Key{
		key("h", hashValue(pair("f", "v"), pair("g", "")), 7),
		key("l", listValue("a", "b"), 0),
		key("t", textValue("xyz"), 0),
		key("u", textValue(""), impl.MaxTime),
		key("z", zsetValue(rank("m", -5)), 1),
	}
	if n := need(t, db); n != 12+7+6+3+8 {
		t.Errorf("they need %d", n)
	}
	h, list, ok := laid(t, 40, db)
	if want := "3\x00\x01f\x00\x01v\x00\x01g\x00\x00" + "2\x00\x01a\x00\x01b" + "1\x00\x03xyz" + "1\x00\x00" + "4\x00\x01m\x00\x02-5"; !ok || h.Data != want+noughts(40-len(want)) {
		t.Errorf("%q %v", h.Data, ok)
	}
	if !slices.Equal(h.Cells, []impl.Cell{live(0, 12, 1), live(12, 7, 1), live(19, 6, 1), live(25, 3, 1), live(28, 8, 1)}) {
		t.Errorf("%v", h.Cells)
	}
	if !slices.Equal(list, []impl.Entry{entry("h", 0, 1, 7), entry("l", 1, 1, 0), entry("t", 2, 1, 0), entry("u", 3, 1, impl.MaxTime), entry("z", 4, 1, 1)}) {
		t.Errorf("%v", list)
	}
	back(t, h, list, db)
	back(t, pack(t, h), list, db)
	aboutNeed(t, db)
}

func TestP9EachKind(t *testing.T) {
	longest := longText(impl.MaxBulk)
	for _, r := range rightValues() {
		for _, due := range []int64{0, 1, impl.MaxTime} {
			aboutNeed(t, []impl.Key{key("", r.value, due)})
			aboutNeed(t, []impl.Key{key("a", r.value, due), key(longest, r.value, 0)})
		}
	}
	aboutNeed(t, oneOfEach())
}

func TestP9EverySize(t *testing.T) {
	db := oneOfEach()
	for size := int64(-3); size <= needByWords(db)+3; size++ {
		comeBack(t, size, db)
	}
}

func TestP9NoKeys(t *testing.T) {
	for _, none := range [][]impl.Key{nil, {}} {
		if n := need(t, none); n != 0 {
			t.Errorf("none need %d", n)
		}
		for _, size := range []int64{0, 1, impl.MaxHeap} {
			comeBack(t, size, none)
		}
	}
	back(t, impl.Heap{}, nil, nil)
	back(t, impl.Heap{}, []impl.Entry{}, nil)
	back(t, heap("a\x00", live(0, 1, 1)), nil, nil)
}

func TestP9RefusedSizes(t *testing.T) {
	for _, size := range []int64{-1, impl.MaxHeap + 1, math.MinInt64, math.MaxInt64, 1 << 32} {
		for _, db := range [][]impl.Key{nil, oneOfEach(), manyKeys(impl.MaxKeys)} {
			if _, _, ok := laid(t, size, db); ok {
				t.Errorf("%d of %s", size, briefKeys(db))
			}
		}
	}
}

// needing gives MaxKeys texts that together need just so many bytes.
func needing(n int) []impl.Key {
	var db []impl.Key
	for i, name := range names(impl.MaxKeys) {
		here := n / (impl.MaxKeys - i)
		db = append(db, key(name, textValue(longText(here-3)), 0))
		n -= here
	}
	return db
}

func TestP9GreatestHeap(t *testing.T) {
	just := needing(impl.MaxHeap)
	if n := need(t, just); n != impl.MaxHeap {
		t.Fatalf("they need %d", n)
	}
	comeBack(t, impl.MaxHeap, just)
	comeBack(t, impl.MaxHeap-1, just)
	over := needing(impl.MaxHeap + 1)
	if n := need(t, over); n != impl.MaxHeap+1 {
		t.Fatalf("they need %d", n)
	}
	comeBack(t, impl.MaxHeap, over)
	comeBack(t, impl.MaxHeap+1, over)
}

// greatest gives a hash of so many pairs of the longest texts.
func greatest(n int) impl.Value {
	var pairs []impl.Pair
	for _, name := range names(n) {
		pairs = append(pairs, pair(name+longText(impl.MaxBulk-2), longText(impl.MaxBulk)))
	}
	return hashValue(pairs...)
}

func TestP9MoreThanAnyHeap(t *testing.T) {
	one := []impl.Key{key("k", greatest(impl.MaxItems), 0)}
	if n := need(t, one); n != 1+20*404 {
		t.Errorf("one needs %d", n)
	}
	comeBack(t, impl.MaxHeap, one)
	var all []impl.Key
	for _, name := range names(impl.MaxKeys) {
		all = append(all, key(name, greatest(impl.MaxItems), 0))
	}
	if n := need(t, all); n != 20*(1+20*404) {
		t.Errorf("all need %d", n)
	}
	comeBack(t, impl.MaxHeap, all)
	// The last one alone finds no room: nothing is told of those ahead of it.
	last := []impl.Key{key("a", textValue("x"), 0), key("b", greatest(7), 0), key("c", greatest(1), 0)}
	comeBack(t, impl.MaxHeap, last)
	comeBack(t, impl.MaxHeap, last[:2])
	// Nor does one that would find room stand in for one that finds none.
	first := []impl.Key{key("a", greatest(8), 0), key("b", textValue("x"), 0)}
	comeBack(t, impl.MaxHeap, first)
}

func TestP9ManyKeys(t *testing.T) {
	for n := range impl.MaxKeys + 1 {
		aboutNeed(t, manyKeys(n))
	}
	over := manyKeys(impl.MaxKeys + 1)
	if n := need(t, over); n != -1 {
		t.Errorf("one too many need %d", n)
	}
	if _, _, ok := laid(t, impl.MaxHeap, over); ok {
		t.Error("one too many is laid")
	}
}

func TestP9ManyItems(t *testing.T) {
	n := impl.MaxItems
	aboutNeed(t, []impl.Key{
		key("h", hashValue(manyPairs(n)...), 0),
		key("l", listValue(names(n)...), 4),
		key("z", zsetValue(manyRanks(n)...), 0),
	})
	aboutNeed(t, []impl.Key{key("e", listValue(slices.Repeat([]string{""}, n)...), 0), key("t", textValue(""), 0)})
}

func TestP9WrongKeys(t *testing.T) {
	for i, db := range wrongKeys() {
		if n := need(t, db); n != -1 {
			t.Errorf("%d needs %d", i, n)
		}
		for _, size := range []int64{-1, 0, 100, impl.MaxHeap, impl.MaxHeap + 1} {
			if _, _, ok := laid(t, size, db); ok {
				t.Errorf("%d is laid into %d", i, size)
			}
		}
	}
}

func TestP9WrongHeaps(t *testing.T) {
	for i, h := range wrongHeaps() {
		for _, list := range [][]impl.Entry{nil, {}, {entry("a", 0, 1, 0)}, {entry("a", 1, 1, 0)}} {
			if db, ok := dbOf(t, h, list); ok {
				t.Errorf("%d: %v", i, db)
			}
		}
	}
	db := oneOfEach()
	h, list, _ := laid(t, 100, db)
	back(t, h, list, db)
	for i, spoilt := range []impl.Heap{
		{Data: h.Data[:99] + "x", Cells: h.Cells},
		{Data: h.Data + noughts(impl.MaxHeap-99), Cells: h.Cells},
		{Data: h.Data, Cells: append(slices.Clone(h.Cells), dead(0))},
		{Data: h.Data, Cells: append(slices.Clone(h.Cells), h.Cells[0])},
		{Data: h.Data, Cells: append(slices.Clone(h.Cells), live(100, 1, 1))},
		{Data: h.Data, Cells: slices.Concat(h.Cells, slices.Repeat([]impl.Cell{dead(1)}, impl.MaxCells+1-len(h.Cells)))},
	} {
		if db, ok := dbOf(t, spoilt, list); ok {
			t.Errorf("%d: %s", i, briefKeys(db))
		}
	}
	back(t, impl.Heap{Data: h.Data + noughts(impl.MaxHeap-100), Cells: h.Cells}, list, db)
	back(t, impl.Heap{Data: h.Data, Cells: slices.Concat(h.Cells, slices.Repeat([]impl.Cell{dead(1)}, impl.MaxCells-len(h.Cells)))}, list, db)
}

func TestP9NeverPut(t *testing.T) {
	db := oneOfEach()
	h, list, _ := laid(t, 100, db)
	n := int64(len(db))
	for i, e := range list {
		for _, r := range []impl.Ref{
			{}, {Cell: n, Gen: 1}, {Cell: n}, {Cell: -1, Gen: 1}, {Cell: math.MaxInt64, Gen: 1}, {Cell: math.MinInt64, Gen: 1}, {Cell: 1 << 32, Gen: 1},
			{Cell: e.At.Cell}, {Cell: e.At.Cell, Gen: 2}, {Cell: e.At.Cell, Gen: -1}, {Cell: e.At.Cell, Gen: math.MaxInt64}, {Cell: e.At.Cell, Gen: 1 + 1<<32},
		} {
			wrong := slices.Clone(list)
			wrong[i].At = r
			nowhere(t, h, wrong)
			nowhere(t, h, []impl.Entry{wrong[i]})
		}
	}
	nowhere(t, impl.Heap{}, []impl.Entry{entry("a", 0, 1, 0)})
	nowhere(t, impl.Heap{}, []impl.Entry{{}})
	nowhere(t, newHeap(t, impl.MaxHeap), []impl.Entry{entry("a", 0, 1, 0)})
}

func TestP9Dropped(t *testing.T) {
	db := oneOfEach()
	h, list, _ := laid(t, needByWords(db), db)
	for i, e := range list {
		less := drop(t, h, e.At)
		nowhere(t, less, list)
		nowhere(t, less, list[i:i+1])
		others := slices.Delete(slices.Clone(list), i, i+1)
		rest := slices.Delete(twin(db), i, i+1)
		back(t, less, others, rest)
		back(t, pack(t, less), others, rest)
		used(t, less, list, db, i)
	}
}

// used asks what comes of the cell of the i-th entry when it is used anew.
func used(t *testing.T, h impl.Heap, list []impl.Entry, db []impl.Key, i int) {
	t.Helper()
	h, at := put(t, pack(t, h), impl.ValueBytes(textValue("")))
	if at.Cell != list[i].At.Cell || at.Gen != 2 {
		t.Fatalf("%v: its cell is not used anew: %v", list[i], at)
	}
	nowhere(t, h, list)
	nowhere(t, h, list[i:i+1])
	list, db = slices.Clone(list), twin(db)
	list[i].At, db[i].Val = at, textValue("")
	back(t, h, list, db)
	back(t, pack(t, h), list, db)
}

func TestP9BytesOfNoValue(t *testing.T) {
	tooLong := longText(impl.MaxBulk + 1)
	right := impl.ValueBytes(textValue("r"))
	for _, text := range []string{
		"\x00", "1", "1\x00", "1\x00\x01", "1\x00\x01aa", "1\x00\x01a\x00", "1\x00\x01a\x00\x00", "0\x00\x01a", "5\x00\x01a", "x", "\x01\x00\x01a", "\x00\x00\x01a",
		"2", "2\x00", "2\x00\x02a", "3", "3\x00\x01a", "3\x00\x01b\x00\x00\x00\x01a\x00\x00", "3\x00\x01a\x00\x00\x00\x01a\x00\x00",
		"4", "4\x00\x01m", "4\x00\x01m\x00\x00", "4\x00\x01m\x00\x0201", "4\x00\x01m\x00\x02+1", "4\x00\x01m\x00\x02-0", "4\x00\x01m\x00\x01x",
		framed("4", "m", "1000000000000000001"), framed("4", "b", "1", "a", "1"), framed("4", "a", "1", "a", "2"),
		framed("1", tooLong), framed("2", tooLong), framed("3", "a", tooLong), framed("4", tooLong, "1"),
		framed("2", names(impl.MaxItems+1)...), right + right, noughts(3),
	} {
		h, a := put(t, newHeap(t, impl.MaxHeap), right)
		h, b := put(t, h, text)
		ok, wrong := impl.Entry{Name: "a", At: a}, impl.Entry{Name: "b", At: b}
		back(t, h, []impl.Entry{ok}, []impl.Key{key("a", textValue("r"), 0)})
		nowhere(t, h, []impl.Entry{wrong})
		nowhere(t, h, []impl.Entry{ok, wrong})
		nowhere(t, h, []impl.Entry{wrong, {Name: "c", At: a}})
	}
}

func TestP9EntriesOfWrongKeys(t *testing.T) {
	db := []impl.Key{key("b", textValue("1"), 0), key("d", listValue("x"), 5), key("f", textValue("3"), 0)}
	h, list, _ := laid(t, 100, db)
	back(t, h, list, db)
	tooLong := longText(impl.MaxBulk + 1)
	for _, name := range []string{"", "a", "b", "f", "f\x00", "g", "\xff", "D", "d" + tooLong, tooLong} {
		wrong := slices.Clone(list)
		wrong[1].Name = name
		nowhere(t, h, wrong)
	}
	for _, name := range []string{"b\x00", "bb", "c", "e", "dd", "e\xff", "d" + longText(impl.MaxBulk-1)} {
		right, want := slices.Clone(list), twin(db)
		right[1].Name, want[1].Name = name, name
		back(t, h, right, want)
	}
	for i := range list {
		for _, due := range []int64{-1, impl.MaxTime + 1, math.MinInt64, math.MaxInt64} {
			wrong := slices.Clone(list)
			wrong[i].Due = due
			nowhere(t, h, wrong)
			nowhere(t, h, wrong[i:i+1])
		}
		for _, due := range []int64{0, 1, impl.MaxTime} {
			right, want := slices.Clone(list), twin(db)
			right[i].Due, want[i].Due = due, due
			back(t, h, right, want)
		}
	}
	nowhere(t, h, []impl.Entry{list[1], list[0]})
	nowhere(t, h, []impl.Entry{list[0], list[0]})
	nowhere(t, h, []impl.Entry{{Name: tooLong, At: list[0].At}})
	back(t, h, []impl.Entry{{Name: tooLong[1:], At: list[0].At}}, []impl.Key{key(tooLong[1:], textValue("1"), 0)})
}

func TestP9ManyEntries(t *testing.T) {
	h := newHeap(t, 1000)
	var list []impl.Entry
	var db []impl.Key
	for i, name := range names(impl.MaxCells) {
		v := []impl.Value{textValue(name), listValue(name)}[i%2]
		var at impl.Ref
		h, at = put(t, h, impl.ValueBytes(v))
		list = append(list, impl.Entry{Name: name, At: at, Due: int64(i)})
		db = append(db, key(name, v, int64(i)))
	}
	for n := range list {
		if n <= impl.MaxKeys {
			back(t, h, list[:n], db[:n])
		} else {
			nowhere(t, h, list[:n])
		}
	}
	nowhere(t, h, list)
	back(t, h, list[impl.MaxKeys:], db[impl.MaxKeys:])
}

// TestP9OnePlaceTwice: entries of one place are keys with one value each.
func TestP9OnePlaceTwice(t *testing.T) {
	for _, r := range rightValues() {
		h, at := put(t, newHeap(t, impl.MaxHeap), impl.ValueBytes(r.value))
		var list []impl.Entry
		var db []impl.Key
		for _, name := range names(impl.MaxKeys + 1) {
			list = append(list, impl.Entry{Name: name, At: at})
			db = append(db, key(name, r.value, 0))
		}
		back(t, h, list[:impl.MaxKeys], db[:impl.MaxKeys])
		back(t, h, list[:1], db[:1])
		nowhere(t, h, list)
	}
}

// TestP9OtherHeaps: entries lead to cells in any order, of any Gen, among
// bytes that are no values and gaps.
func TestP9OtherHeaps(t *testing.T) {
	h := heap("\x00x1\x00\x01b\x00\x002\x00\x00\x00", live(8, 3, 6), dead(9), live(1, 1, 1), live(2, 4, lastGen))
	list := []impl.Entry{entry("a", 3, lastGen, 2), entry("b", 0, 6, 0), entry("c", 3, lastGen, 0)}
	db := []impl.Key{key("a", textValue("b"), 2), key("b", listValue(""), 0), key("c", textValue("b"), 0)}
	back(t, h, list, db)
	back(t, pack(t, h), list, db)
	nowhere(t, h, append(slices.Clone(list), entry("d", 1, 9, 0)))
	nowhere(t, h, append(slices.Clone(list), entry("d", 2, 1, 0)))
}

// TestP9AnyKeys: keys of each kind are laid, some are dropped and others put
// where there is room, packed or not; those that are left come back.
func TestP9AnyKeys(t *testing.T) {
	d := &dice{9}
	for range 150 {
		db := anyKeys(d)
		aboutNeed(t, db)
		size := min(needByWords(db)+int64(d.below(40)), impl.MaxHeap)
		h, list, ok := laid(t, size, db)
		if !ok {
			continue
		}
		for range 12 {
			h, list, db = changed(t, d, h, list, db)
			back(t, h, list, db)
			back(t, pack(t, h), list, db)
		}
	}
}

// changed gives a key of db another value, packs the heap, or does nothing.
func changed(t *testing.T, d *dice, h impl.Heap, list []impl.Entry, db []impl.Key) (impl.Heap, []impl.Entry, []impl.Key) {
	t.Helper()
	if d.below(3) == 0 {
		return pack(t, h), list, db
	}
	if len(db) == 0 {
		return h, list, db
	}
	i, v := d.below(len(db)), anyValue(d)
	less := drop(t, h, list[i].At)
	nowhere(t, less, list)
	more, at, ok := impl.Put(less, impl.ValueBytes(v))
	if !ok {
		return h, list, db
	}
	nowhere(t, more, list)
	list, db = slices.Clone(list), twin(db)
	list[i].At, db[i].Val = at, v
	return more, list, db
}

// TestP11Laid: the same arguments give the same answers, whatever was asked
// between, and stay as they were, spare room and all.
func TestP11Laid(t *testing.T) {
	db, untouched := roomy(oneOfEach())
	h, list, ok := impl.Laid(200, db)
	first, _ := impl.DbOf(h, list)
	was, wasList := impl.Heap{Data: h.Data, Cells: slices.Clone(h.Cells)}, slices.Clone(list)
	for _, other := range wrongKeys() {
		impl.NeedOf(other)
		impl.Laid(-1, other)
		impl.DbOf(h, list[1:])
		again, againList, againOk := impl.Laid(200, db)
		if !ok || !againOk || !sameHeap(again, h) || !slices.Equal(againList, list) {
			t.Fatal("laid another way")
		}
		if got, ok := impl.DbOf(h, list); !ok || !sameKeys(got, first) || impl.NeedOf(db) != needByWords(db) {
			t.Fatal("read another way")
		}
	}
	if !untouched() || !sameHeap(h, was) || !slices.Equal(list, wasList) {
		t.Error("an argument is written")
	}
}
