package tests

import (
	"math"
	"slices"
	"strings"
	"testing"

	"loop.example/g00302/impl"
)

const lastGen = 1000000000

func live(at int64, long int64, gen int64) impl.Cell {
	return impl.Cell{At: at, Len: long, Gen: gen, Live: true}
}

func dead(gen int64) impl.Cell { return impl.Cell{Gen: gen} }

func heap(data string, cells ...impl.Cell) impl.Heap { return impl.Heap{Data: data, Cells: cells} }

func noughts(n int) string { return strings.Repeat("\x00", n) }

func sameHeap(a impl.Heap, b impl.Heap) bool {
	return a.Data == b.Data && slices.Equal(a.Cells, b.Cells)
}

func noHeap(h impl.Heap) bool { return sameHeap(h, impl.Heap{}) }

// singles gives so many live cells of one byte each, one behind the other.
func singles(n int) impl.Heap {
	h := impl.Heap{Data: strings.Repeat("s", n)}
	for i := range n {
		h.Cells = append(h.Cells, live(int64(i), 1, 1))
	}
	return h
}

// newHeap gives a heap of so many bytes.
func newHeap(t *testing.T, size int64) impl.Heap {
	t.Helper()
	h, ok := impl.HeapNew(size)
	if !ok {
		t.Fatalf("no heap of %d", size)
	}
	return h
}

// put is Put where it must be true.
func put(t *testing.T, h impl.Heap, text string) (impl.Heap, impl.Ref) {
	t.Helper()
	h, r, ok := impl.Put(h, text)
	if !ok {
		t.Fatalf("%q is not put", text)
	}
	return h, r
}

// drop is Drop where it must be true.
func drop(t *testing.T, h impl.Heap, r impl.Ref) impl.Heap {
	t.Helper()
	h, ok := impl.Drop(h, r)
	if !ok {
		t.Fatalf("%v is not dropped", r)
	}
	return h
}

func TestP3New(t *testing.T) {
	for _, size := range []int64{0, 1, 2, 10, impl.MaxHeap - 1, impl.MaxHeap} {
		h, ok := impl.HeapNew(size)
		if !ok || h.Data != noughts(int(size)) || len(h.Cells) != 0 {
			t.Errorf("%d: %q %v", size, h.Data, ok)
		}
		if !impl.HeapOk(h) || impl.Room(h) != size || impl.Gap(h) != size {
			t.Errorf("%d: %d %d", size, impl.Room(h), impl.Gap(h))
		}
	}
	for _, size := range []int64{-1, impl.MaxHeap + 1, math.MinInt64, math.MaxInt64, 1 << 32} {
		if h, ok := impl.HeapNew(size); ok || !noHeap(h) {
			t.Errorf("%d: %v %v", size, h, ok)
		}
	}
}

func TestP3RightHeaps(t *testing.T) {
	for i, r := range []struct {
		heap      impl.Heap
		room, gap int64
	}{
		{heap(""), 0, 0},
		{heap("\x00"), 1, 1},
		{heap("", dead(1)), 0, 0},
		{heap("\x00", dead(lastGen), dead(1)), 1, 1},
		{heap("a", live(0, 1, 1)), 0, 0},
		{heap("\x00", live(0, 1, lastGen)), 0, 0},
		{heap("ab", live(1, 1, 3), live(0, 1, 2)), 0, 0},
		{heap("a\x00b", live(0, 1, 1), dead(7), live(2, 1, 1)), 1, 1},
		{heap("\x00a\x00\x00b\x00\x00", live(4, 1, 1), live(1, 1, 1)), 5, 2},
		{heap("\x00\x00\x00ab\x00\x00", live(3, 2, 1)), 5, 3},
		{heap("\x00\x00\x00\x00", live(1, 2, 1)), 2, 1},
		{heap(strings.Repeat("z", impl.MaxHeap), live(0, impl.MaxHeap, 1)), 0, 0},
		{singles(impl.MaxCells), 0, 0},
	} {
		if !impl.HeapOk(r.heap) || impl.Room(r.heap) != r.room || impl.Gap(r.heap) != r.gap {
			t.Errorf("%d: %v %d %d", i, impl.HeapOk(r.heap), impl.Room(r.heap), impl.Gap(r.heap))
		}
	}
}

func wrongHeaps() []impl.Heap {
	return []impl.Heap{
		heap("x"),
		heap("\x00x"),
		heap("ab", live(0, 1, 1)),
		heap("ab", live(1, 1, 1)),
		heap("a", dead(1)),
		heap(noughts(impl.MaxHeap + 1)),
		heap(strings.Repeat("z", impl.MaxHeap+1), live(0, impl.MaxHeap+1, 1)),
		singles(impl.MaxCells + 1),
		{Data: "\x00", Cells: slices.Repeat([]impl.Cell{dead(1)}, impl.MaxCells+1)},
		heap("a", live(0, 1, 0)),
		heap("a", live(0, 1, -1)),
		heap("a", live(0, 1, lastGen+1)),
		heap("a", live(0, 1, math.MinInt64)),
		heap("\x00", dead(0)),
		heap("\x00", dead(lastGen+1)),
		heap("\x00", impl.Cell{}),
		heap("\x00", impl.Cell{At: 1, Gen: 1}),
		heap("\x00", impl.Cell{Len: 1, Gen: 1}),
		heap("\x00", impl.Cell{At: -1, Gen: 1}),
		heap("a", live(0, 1, 1), impl.Cell{At: 0, Len: 1, Gen: 1}),
		heap("a", live(0, 0, 1)),
		heap("\x00", live(0, 0, 1)),
		heap("\x00", live(0, -1, 1)),
		heap("\x00\x00", live(2, -1, 1)),
		heap("a", live(0, 2, 1)),
		heap("a", live(1, 1, 1)),
		heap("a", live(-1, 1, 1)),
		heap("a", live(-1, 2, 1)),
		heap("", live(0, 1, 1)),
		heap("", live(0, 0, 1)),
		heap("ab", live(0, 2, 1), live(0, 2, 1)),
		heap("ab", live(0, 2, 1), live(1, 1, 1)),
		heap("ab", live(1, 1, 1), live(0, 2, 1)),
		heap("abc", live(0, 2, 1), dead(1), live(1, 2, 1)),
		heap("a", live(math.MaxInt64, 1, 1)),
		heap("\x00", live(math.MaxInt64, 1, 1)),
		heap("\x00", live(1, math.MaxInt64, 1)),
		heap("\x00", live(math.MaxInt64, math.MaxInt64, 1)),
		heap("a", live(0, math.MaxInt64, 1)),
		heap("a", live(math.MaxInt64, math.MaxInt64, 1)),
		heap("a", live(math.MinInt64, 1, 1)),
		heap("a", live(math.MinInt64, math.MaxInt64, 1)),
		heap("a", live(0, math.MinInt64, 1)),
	}
}

func TestP3WrongHeaps(t *testing.T) {
	for i, h := range wrongHeaps() {
		if impl.HeapOk(h) || impl.Room(h) != -1 || impl.Gap(h) != -1 {
			t.Errorf("%d is right: %d %d", i, impl.Room(h), impl.Gap(h))
		}
		for _, text := range []string{"", "a", "\x00"} {
			if n, r, ok := impl.Put(h, text); ok || r != (impl.Ref{}) || !noHeap(n) {
				t.Errorf("%d: put %q: %v %v", i, text, n, r)
			}
		}
		for cell := int64(0); cell < 3; cell++ {
			r := impl.Ref{Cell: cell, Gen: 1}
			if s, ok := impl.Get(h, r); ok || s != "" {
				t.Errorf("%d: got %q", i, s)
			}
			if n, ok := impl.Drop(h, r); ok || !noHeap(n) {
				t.Errorf("%d: dropped: %v", i, n)
			}
		}
		if n, ok := impl.Packed(h); ok || !noHeap(n) {
			t.Errorf("%d: packed: %v", i, n)
		}
	}
}

// rightByWords says what the document does of a right heap, in its own order.
func rightByWords(h impl.Heap) bool {
	owners := make([]int, len(h.Data))
	for _, c := range h.Cells {
		if c.Gen < 1 || c.Gen > lastGen || !c.Live && (c.At != 0 || c.Len != 0) {
			return false
		}
		if c.Live && (c.Len < 1 || c.At < 0 || c.At+c.Len > int64(len(h.Data))) {
			return false
		}
		for i := range c.Len {
			owners[c.At+i]++
		}
	}
	for i, n := range owners {
		if n > 1 || n == 0 && h.Data[i] != 0 {
			return false
		}
	}
	return true
}

// smallCells are cells with each At and Len about the ends of three bytes.
func smallCells() []impl.Cell {
	var cells []impl.Cell
	for at := int64(-1); at <= 3; at++ {
		for long := int64(-1); long <= 3; long++ {
			cells = append(cells, live(at, long, 1), impl.Cell{At: at, Len: long, Gen: 1})
		}
	}
	return append(cells, live(0, 1, 0), dead(0))
}

func TestP3EverySmallHeap(t *testing.T) {
	rights := 0
	everyText([]string{"\x00", "a"}, 3, func(data string) {
		for _, a := range smallCells() {
			for _, b := range smallCells() {
				h := heap(data, a, b)
				if impl.HeapOk(h) != rightByWords(h) {
					t.Fatalf("%q: %v", data, h.Cells)
				}
				if impl.HeapOk(h) {
					rights++
				}
			}
		}
	})
	if rights == 0 {
		t.Error("none is right")
	}
}

func TestP3PutAtFirstGap(t *testing.T) {
	h := heap("\x00a\x00\x00b\x00\x00\x00", live(4, 1, 1), live(1, 1, 1))
	for _, r := range []struct{ text, data string }{
		{"x", "xa\x00\x00b\x00\x00\x00"},
		{"\x00", "\x00a\x00\x00b\x00\x00\x00"},
		{"xy", "\x00axyb\x00\x00\x00"},
		{"xyz", "\x00a\x00\x00bxyz"},
	} {
		n, ref := put(t, h, r.text)
		if n.Data != r.data || ref != (impl.Ref{Cell: 2, Gen: 1}) || len(n.Cells) != 3 {
			t.Errorf("%q: %q %v %v", r.text, n.Data, ref, n.Cells)
		}
		if !slices.Equal(n.Cells[:2], h.Cells) || !impl.HeapOk(n) {
			t.Errorf("%q: %v", r.text, n.Cells)
		}
		if s, ok := impl.Get(n, ref); !ok || s != r.text {
			t.Errorf("%q: got %q", r.text, s)
		}
	}
	for _, text := range []string{"", "wxyz", strings.Repeat("w", impl.MaxHeap+1)} {
		if n, ref, ok := impl.Put(h, text); ok || ref != (impl.Ref{}) || !noHeap(n) {
			t.Errorf("%q: %v %v", text, n, ref)
		}
	}
}

func TestP3PutAll(t *testing.T) {
	text := strings.Repeat("m", impl.MaxHeap)
	h := newHeap(t, impl.MaxHeap)
	if _, _, ok := impl.Put(h, text+"m"); ok {
		t.Error("one byte too many is put")
	}
	h, r := put(t, h, text)
	if s, ok := impl.Get(h, r); !ok || s != text || impl.Room(h) != 0 || impl.Gap(h) != 0 {
		t.Error("the greatest text does not lie there")
	}
	if _, _, ok := impl.Put(h, "m"); ok {
		t.Error("put into a full heap")
	}
	if _, _, ok := impl.Put(impl.Heap{}, "m"); ok {
		t.Error("put into no bytes")
	}
}

func TestP3CellsAnew(t *testing.T) {
	h := newHeap(t, 10)
	h, a := put(t, h, "a")
	h, b := put(t, h, "b")
	h, c := put(t, h, "c")
	h = drop(t, drop(t, h, c), b)
	h, again := put(t, h, "bb")
	if again != (impl.Ref{Cell: 1, Gen: 2}) || h.Data != "abb"+noughts(7) {
		t.Errorf("%v %q", again, h.Data)
	}
	for _, old := range []impl.Ref{b, c, {Cell: 1, Gen: 0}, {Cell: 1, Gen: 3}, {Cell: 2, Gen: 2}, {Cell: 3, Gen: 1}, {Cell: 3}, {Cell: -1, Gen: 1}, {Cell: math.MaxInt64, Gen: 1}, {Cell: math.MinInt64, Gen: 1}, {Cell: 1 << 32, Gen: 1}} {
		if s, ok := impl.Get(h, old); ok || s != "" {
			t.Errorf("%v: got %q", old, s)
		}
		if n, ok := impl.Drop(h, old); ok || !noHeap(n) {
			t.Errorf("%v: dropped: %v", old, n)
		}
	}
	if s, ok := impl.Get(h, a); !ok || s != "a" {
		t.Errorf("got %q", s)
	}
	if s, ok := impl.Get(h, again); !ok || s != "bb" {
		t.Errorf("got %q", s)
	}
}

func TestP3DropLeavesNoughts(t *testing.T) {
	h := heap("abcd", live(2, 2, 5), live(0, 2, 9))
	h = drop(t, h, impl.Ref{Cell: 0, Gen: 5})
	if !sameHeap(h, heap("ab\x00\x00", dead(5), live(0, 2, 9))) {
		t.Errorf("%q %v", h.Data, h.Cells)
	}
	h = drop(t, h, impl.Ref{Cell: 1, Gen: 9})
	if !sameHeap(h, heap(noughts(4), dead(5), dead(9))) {
		t.Errorf("%q %v", h.Data, h.Cells)
	}
}

func TestP3LastGen(t *testing.T) {
	h := heap("\x00\x00\x00", dead(lastGen), dead(lastGen-1))
	h, r := put(t, h, "x")
	if r != (impl.Ref{Cell: 1, Gen: lastGen}) {
		t.Errorf("%v", r)
	}
	h = drop(t, h, r)
	if !sameHeap(h, heap("\x00\x00\x00", dead(lastGen), dead(lastGen))) {
		t.Errorf("%v", h)
	}
	h, r = put(t, h, "y")
	if r != (impl.Ref{Cell: 2, Gen: 1}) {
		t.Errorf("%v", r)
	}
}

func TestP3MostCells(t *testing.T) {
	h := newHeap(t, impl.MaxCells+2)
	var refs []impl.Ref
	for i := range int64(impl.MaxCells) {
		var r impl.Ref
		h, r = put(t, h, "s")
		if r != (impl.Ref{Cell: i, Gen: 1}) {
			t.Fatalf("%d: %v", i, r)
		}
		refs = append(refs, r)
	}
	if n, r, ok := impl.Put(h, "s"); ok || r != (impl.Ref{}) || !noHeap(n) {
		t.Error("one cell too many is put")
	}
	h = drop(t, h, refs[impl.MaxCells-1])
	h, r := put(t, h, "sss")
	if r != (impl.Ref{Cell: impl.MaxCells - 1, Gen: 2}) {
		t.Errorf("%v", r)
	}
	spent := impl.Heap{Data: "\x00", Cells: slices.Repeat([]impl.Cell{dead(lastGen)}, impl.MaxCells)}
	if _, _, ok := impl.Put(spent, "s"); ok {
		t.Error("put though no cell can be used anew")
	}
	spent.Cells = spent.Cells[1:]
	if _, r, ok := impl.Put(spent, "s"); !ok || r != (impl.Ref{Cell: impl.MaxCells - 1, Gen: 1}) {
		t.Error("the last cell is not made")
	}
}

func TestP3Packed(t *testing.T) {
	for i, r := range []struct{ from, to impl.Heap }{
		{heap(""), heap("")},
		{heap("\x00\x00", dead(3)), heap("\x00\x00", dead(3))},
		{heap("ab", live(0, 2, 1)), heap("ab", live(0, 2, 1))},
		{heap("\x00ab", live(1, 2, 4)), heap("ab\x00", live(0, 2, 4))},
		{heap("\x00a\x00bcd\x00e\x00", live(7, 1, 1), dead(2), live(3, 3, 3), live(1, 1, 4)), heap("abcde"+noughts(4), live(4, 1, 1), dead(2), live(1, 3, 3), live(0, 1, 4))},
		{heap("\x00\x00\x00\x00", live(2, 1, 1), live(3, 1, 1)), heap("\x00\x00\x00\x00", live(0, 1, 1), live(1, 1, 1))},
	} {
		if p, ok := impl.Packed(r.from); !ok || !sameHeap(p, r.to) {
			t.Errorf("%d: %q %v", i, p.Data, p.Cells)
		}
	}
}

// keeper is what should lie in a heap: told beside it, by what was done.
type keeper struct {
	heap impl.Heap
	refs []impl.Ref
	text map[impl.Ref]string
	old  []impl.Ref
}

// holds asks promise 3 of the heap as it is now.
func (k *keeper) holds(t *testing.T) {
	t.Helper()
	room := int64(len(k.heap.Data))
	for _, r := range k.refs {
		if s, ok := impl.Get(k.heap, r); !ok || s != k.text[r] {
			t.Fatalf("%v: %q, not %q", r, s, k.text[r])
		}
		room -= int64(len(k.text[r]))
	}
	for _, r := range k.old {
		if s, ok := impl.Get(k.heap, r); ok {
			t.Fatalf("%v: %q was dropped", r, s)
		}
	}
	if !impl.HeapOk(k.heap) || impl.Room(k.heap) != room {
		t.Fatalf("room %d, not %d", impl.Room(k.heap), room)
	}
}

func (k *keeper) hasCell() bool {
	return len(k.heap.Cells) < impl.MaxCells || len(k.refs) < impl.MaxCells
}

func (k *keeper) put(t *testing.T, text string) {
	t.Helper()
	fits := text != "" && int64(len(text)) <= impl.Gap(k.heap) && k.hasCell()
	h, r, ok := impl.Put(k.heap, text)
	if ok != fits {
		t.Fatalf("%d bytes into a gap of %d: %v", len(text), impl.Gap(k.heap), ok)
	}
	if ok {
		k.heap, k.text[r] = h, text
		k.refs = append(k.refs, r)
	}
}

func (k *keeper) drop(t *testing.T, i int) {
	t.Helper()
	k.old = append(k.old, k.refs[i])
	k.heap = drop(t, k.heap, k.refs[i])
	k.refs = slices.Delete(k.refs, i, i+1)
}

func (k *keeper) pack(t *testing.T) {
	t.Helper()
	room := impl.Room(k.heap)
	h, ok := impl.Packed(k.heap)
	if !ok || impl.Gap(h) != room || impl.Room(h) != room {
		t.Fatalf("packed: %d of %d", impl.Gap(h), room)
	}
	k.heap = h
}

func TestP3ManySteps(t *testing.T) {
	for seed := range uint64(20) {
		d := &dice{seed}
		k := &keeper{heap: newHeap(t, int64(d.below(400))), text: map[impl.Ref]string{}}
		for range 300 {
			switch n := d.below(10); {
			case n < 6:
				k.put(t, d.bytes(30))
			case n < 9 && len(k.refs) > 0:
				k.drop(t, d.below(len(k.refs)))
			case n == 9:
				k.pack(t)
			}
			k.holds(t)
		}
	}
}

func TestP3ArgumentsStay(t *testing.T) {
	cells := make([]impl.Cell, 2, 8)
	cells[0], cells[1] = live(2, 1, 1), dead(4)
	spare := cells[:8]
	h := impl.Heap{Data: "\x00\x00a\x00", Cells: cells}
	before := slices.Clone(spare)
	put1, r, _ := impl.Put(h, "xy")
	put2, _, _ := impl.Put(put1, "z")
	dropped, _ := impl.Drop(h, impl.Ref{Cell: 0, Gen: 1})
	packed, _ := impl.Packed(h)
	impl.Room(h)
	impl.Gap(h)
	impl.Get(h, r)
	if !slices.Equal(spare, before) || h.Data != "\x00\x00a\x00" {
		t.Errorf("written: %v", spare)
	}
	for i, n := range []impl.Heap{put1, put2, dropped, packed} {
		for j := range n.Cells {
			n.Cells[j] = live(9, 9, 9)
		}
		if !slices.Equal(spare, before) {
			t.Errorf("%d shares its cells: %v", i, spare)
		}
	}
}
