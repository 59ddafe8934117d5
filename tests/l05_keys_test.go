package tests

import (
	"math"
	"slices"
	"sort"
	"testing"

	"loop.example/g00302/impl"
)

func key(name string, v impl.Value, due int64) impl.Key {
	return impl.Key{Name: name, Val: v, Due: due}
}

// manyKeys gives so many keys by rising name, of all kinds in turn.
func manyKeys(n int) []impl.Key {
	kinds := []impl.Value{textValue("t"), listValue("i"), hashValue(pair("f", "v")), zsetValue(rank("m", 1))}
	var db []impl.Key
	for i, name := range names(n) {
		db = append(db, key(name, kinds[i%len(kinds)], 0))
	}
	return db
}

func sameKey(a impl.Key, b impl.Key) bool {
	return a.Name == b.Name && sameValue(a.Val, b.Val) && a.Due == b.Due
}

func sameKeys(a []impl.Key, b []impl.Key) bool {
	return slices.EqualFunc(a, b, sameKey)
}

// twin gives the same keys in memory of their own.
func twin(db []impl.Key) []impl.Key {
	list := slices.Clone(db)
	for i := range list {
		v := &list[i].Val
		v.Items, v.Pairs, v.Ranks = slices.Clone(v.Items), slices.Clone(v.Pairs), slices.Clone(v.Ranks)
	}
	return list
}

// anyKeys gives right keys, most of them with a Due 1 .. 20.
func anyKeys(d *dice) []impl.Key {
	var db []impl.Key
	for _, name := range names(impl.MaxKeys) {
		if d.below(3) == 0 {
			db = append(db, key(name, anyValue(d), int64(d.below(21))))
		}
	}
	return db
}

func TestP5RightKeys(t *testing.T) {
	longest := longText(impl.MaxBulk)
	v := textValue("")
	for i, db := range [][]impl.Key{
		nil,
		{},
		{key("", v, 0)},
		{key(longest, v, 0)},
		{key("a", v, 1)},
		{key("a", v, impl.MaxTime)},
		{key("", v, 0), key("B", v, 3), key("a", v, 2), key("a\x00", v, 2), key("aa", v, 0), key("b", v, 1), key("\xff", v, 0)},
		manyKeys(impl.MaxKeys),
	} {
		if !impl.DbOk(db) {
			t.Errorf("%d is not right: %v", i, db)
		}
	}
	for _, r := range rightValues() {
		if !impl.DbOk([]impl.Key{key("a", r.value, 0)}) {
			t.Errorf("not right: %v", r.value)
		}
	}
}

func wrongKeys() [][]impl.Key {
	v := textValue("")
	list := [][]impl.Key{
		{{}},
		{{Name: "a"}},
		{key(longText(impl.MaxBulk+1), v, 0)},
		{key("a", v, -1)},
		{key("a", v, impl.MaxTime+1)},
		{key("a", v, math.MinInt64)},
		{key("a", v, math.MaxInt64)},
		{key("a", v, 0), key("a", v, 0)},
		{key("a", v, 0), key("a", listValue("x"), 5)},
		{key("b", v, 0), key("a", v, 0)},
		{key("aa", v, 0), key("a", v, 0)},
		{key("\xff", v, 0), key("a", v, 0)},
		{key("a", v, 0), key("c", v, 0), key("b", v, 0)},
		{key("a", v, 0), key("b", v, 0), key("c", v, -1)},
		{key("a", v, 0), {Name: "b"}, key("c", v, 0)},
		manyKeys(impl.MaxKeys + 1),
	}
	for _, wrong := range wrongValues() {
		list = append(list, []impl.Key{key("a", wrong, 0)})
	}
	return list
}

func TestP5WrongKeys(t *testing.T) {
	for i, db := range wrongKeys() {
		if impl.DbOk(db) {
			t.Errorf("%d is right: %v", i, db)
		}
		if l := impl.Alive(db, 0); len(l) != 0 {
			t.Errorf("%d is alive: %v", i, l)
		}
		if k, ok := impl.KeyOf(db, 0, "a"); ok || !sameKey(k, impl.Key{}) {
			t.Errorf("%d: %v", i, k)
		}
		if l, ok := impl.Stored(db, key("a", textValue(""), 0)); ok || len(l) != 0 {
			t.Errorf("%d is stored: %v", i, l)
		}
		if l, ok := impl.Gone(db, "a"); ok || len(l) != 0 {
			t.Errorf("%d is gone: %v", i, l)
		}
	}
}

// aliveByWords holds each key's Due against now.
func aliveByWords(db []impl.Key, now int64) []impl.Key {
	var list []impl.Key
	for _, k := range db {
		if k.Due == 0 || k.Due > now {
			list = append(list, k)
		}
	}
	return list
}

func TestP5Alive(t *testing.T) {
	v := listValue("x", "y")
	db := []impl.Key{key("a", v, 5), key("b", v, 0), key("c", v, 1), key("d", v, 6), key("e", v, impl.MaxTime)}
	for now, want := range map[int64]string{
		math.MinInt64: "abcde", -1: "abcde", 0: "abcde", 1: "abde", 4: "abde", 5: "bde", 6: "be",
		impl.MaxTime - 1: "be", impl.MaxTime: "b", impl.MaxTime + 1: "b", math.MaxInt64: "b",
	} {
		got := ""
		for _, k := range impl.Alive(db, now) {
			got += k.Name
		}
		if got != want {
			t.Errorf("at %d: %s, not %s", now, got, want)
		}
		if l := impl.Alive(db, now); !sameKeys(l, aliveByWords(db, now)) {
			t.Errorf("at %d: %v", now, l)
		}
	}
	if len(impl.Alive(nil, 0)) != 0 {
		t.Error("none has some")
	}
}

func TestP5KeyOf(t *testing.T) {
	db := []impl.Key{key("", textValue("x"), 0), key("a", zsetValue(rank("m", 2)), 5), key("ab", textValue(""), 9)}
	for _, k := range db {
		for now := int64(-1); now <= 10; now++ {
			got, ok := impl.KeyOf(db, now, k.Name)
			there := k.Due == 0 || now < k.Due
			if ok != there || ok && !sameKey(got, k) || !ok && !sameKey(got, impl.Key{}) {
				t.Errorf("%q at %d: %v %v", k.Name, now, got, ok)
			}
		}
	}
	for _, name := range []string{"A", "b", "a\x00", "abc", longText(impl.MaxBulk + 1)} {
		if k, ok := impl.KeyOf(db, 0, name); ok || !sameKey(k, impl.Key{}) {
			t.Errorf("%q: %v", name, k)
		}
	}
}

// storedByWords does it by taking the old one out and sorting.
func storedByWords(db []impl.Key, k impl.Key) []impl.Key {
	list := append(goneByWords(db, k.Name), k)
	sort.Slice(list, func(i int, j int) bool { return list[i].Name < list[j].Name })
	return list
}

func goneByWords(db []impl.Key, name string) []impl.Key {
	var list []impl.Key
	for _, k := range db {
		if k.Name != name {
			list = append(list, k)
		}
	}
	return list
}

// storedIsThere holds promise 5 against one key that may be stored.
func storedIsThere(t *testing.T, db []impl.Key, k impl.Key) []impl.Key {
	t.Helper()
	got, ok := impl.Stored(db, k)
	if !ok || !impl.DbOk(got) || !sameKeys(got, storedByWords(db, k)) {
		t.Fatalf("%v with %v: %v %v", db, k, got, ok)
	}
	if back, ok := impl.KeyOf(got, k.Due-1, k.Name); !ok || !sameKey(back, k) {
		t.Fatalf("%v: %v", k, back)
	}
	if back, ok := impl.KeyOf(got, k.Due, k.Name); ok != (k.Due == 0) {
		t.Fatalf("%v when its time has come: %v", k, back)
	}
	return got
}

func TestP5Stored(t *testing.T) {
	longest := longText(impl.MaxBulk)
	db := []impl.Key{key("b", textValue("1"), 7), key("d", listValue("x"), 0), key("f", hashValue(pair("f", "v")), 3)}
	for _, name := range []string{"", "a", "b", "b\x00", "c", "d", "e", "f", "g", "\xff", longest} {
		for _, r := range rightValues() {
			for _, due := range []int64{0, 1, impl.MaxTime} {
				storedIsThere(t, db, key(name, r.value, due))
			}
		}
	}
	storedIsThere(t, nil, key("a", textValue(""), 0))
}

func TestP5StoredLimits(t *testing.T) {
	full := manyKeys(impl.MaxKeys)
	v := textValue("")
	storedIsThere(t, full[1:], key("new", v, 0))
	for _, k := range full {
		storedIsThere(t, full, key(k.Name, v, 4))
	}
	wrong := []impl.Key{
		{}, {Name: "a0"}, key(longText(impl.MaxBulk+1), v, 0), key("a0", v, -1), key("a0", v, impl.MaxTime+1), key("a0", v, math.MinInt64),
	}
	for _, w := range wrongValues() {
		wrong = append(wrong, key("a0", w, 0))
	}
	for i, k := range wrong {
		for _, db := range [][]impl.Key{nil, full[:3], full} {
			if l, ok := impl.Stored(db, k); ok || len(l) != 0 {
				t.Errorf("%d is stored: %v", i, l)
			}
		}
	}
	if l, ok := impl.Stored(full, key("new", v, 0)); ok || len(l) != 0 {
		t.Errorf("one too many: %v", l)
	}
}

func TestP5Gone(t *testing.T) {
	for _, n := range []int{1, 2, 3, impl.MaxKeys} {
		db := manyKeys(n)
		for _, k := range db {
			got, ok := impl.Gone(db, k.Name)
			if !ok || !sameKeys(got, goneByWords(db, k.Name)) {
				t.Errorf("%q of %d: %v %v", k.Name, n, got, ok)
			}
			if again, ok := impl.Gone(got, k.Name); ok || len(again) != 0 {
				t.Errorf("%q twice: %v", k.Name, again)
			}
		}
	}
	for _, name := range []string{"", "a", "a00", "A0", longText(impl.MaxBulk + 1)} {
		if l, ok := impl.Gone(manyKeys(3), name); ok || len(l) != 0 {
			t.Errorf("%q: %v", name, l)
		}
	}
	if _, ok := impl.Gone(nil, ""); ok {
		t.Error("gone of none")
	}
	// A key whose time has come is there to be taken away all the same.
	if l, ok := impl.Gone([]impl.Key{key("a", textValue(""), 1)}, "a"); !ok || len(l) != 0 {
		t.Error("late", l)
	}
}

func TestP5AnyKeys(t *testing.T) {
	d := &dice{5}
	var db []impl.Key
	for range 600 {
		name := names(30)[d.below(30)]
		k := key(name, anyValue(d), int64(d.below(4)))
		_, there := impl.KeyOf(db, -1, name)
		switch {
		case d.below(3) == 0:
			got, ok := impl.Gone(db, name)
			if ok != there || ok && !sameKeys(got, goneByWords(db, name)) {
				t.Fatalf("%q of %v: %v", name, db, got)
			}
			if ok {
				db = got
			}
		case len(db) == impl.MaxKeys && !there:
			if _, ok := impl.Stored(db, k); ok {
				t.Fatalf("%d and one more", len(db))
			}
		default:
			db = storedIsThere(t, db, k)
		}
	}
}

// spoil writes over all lists of these keys, and the spare room behind them.
func spoil(db []impl.Key) {
	db = db[:cap(db)]
	for i := range db {
		v := &db[i].Val
		for j := range v.Items[:cap(v.Items)] {
			v.Items[:cap(v.Items)][j] = "!"
		}
		for j := range v.Pairs[:cap(v.Pairs)] {
			v.Pairs[:cap(v.Pairs)][j] = pair("!", "!")
		}
		for j := range v.Ranks[:cap(v.Ranks)] {
			v.Ranks[:cap(v.Ranks)][j] = rank("!", -1)
		}
		db[i] = impl.Key{Name: "!"}
	}
}

// roomy gives the same keys with spare room behind each list, and a way to ask
// whether anything was written there or in the keys.
func roomy(db []impl.Key) ([]impl.Key, func() bool) {
	list := append(make([]impl.Key, 0, len(db)+3), twin(db)...)
	for i := range list {
		v := &list[i].Val
		v.Items = append(make([]string, 0, len(v.Items)+3), v.Items...)
		v.Pairs = append(make([]impl.Pair, 0, len(v.Pairs)+3), v.Pairs...)
		v.Ranks = append(make([]impl.Rank, 0, len(v.Ranks)+3), v.Ranks...)
	}
	return list, func() bool {
		untouched := sameKeys(list, db)
		for _, k := range list[len(list):cap(list)] {
			untouched = untouched && sameKey(k, impl.Key{})
		}
		for _, k := range list {
			v := k.Val
			untouched = untouched && spareIsZero(v.Items) && spareIsZero(v.Pairs) && spareIsZero(v.Ranks)
		}
		return untouched
	}
}

func spareIsZero[T comparable](l []T) bool {
	var zero T
	for _, x := range l[len(l):cap(l)] {
		if x != zero {
			return false
		}
	}
	return true
}

// ownsItsLists writes over one key of an answer after the other, and says
// whether those behind it stayed as they were.
func ownsItsLists(answer []impl.Key) bool {
	before := twin(answer)
	for i := range answer {
		spoil(answer[i : i+1 : i+1])
		if !sameKeys(answer[i+1:], before[i+1:]) {
			return false
		}
	}
	return true
}

func TestP5ArgumentsStay(t *testing.T) {
	d := &dice{55}
	for range 60 {
		db, untouched := roomy(anyKeys(d))
		k := key(names(20)[d.below(20)], anyValue(d), 3)
		more := []impl.Key{k}
		wasMore := twin(more)
		stored, _ := impl.Stored(db, more[0])
		gone, _ := impl.Gone(db, k.Name)
		one, _ := impl.KeyOf(db, 0, k.Name)
		for _, answer := range [][]impl.Key{impl.Alive(db, 9), stored, gone, {one}} {
			if !ownsItsLists(answer) {
				t.Fatal("two lists of one answer share memory")
			}
			spoil(answer)
			if !untouched() || !sameKeys(more, wasMore) {
				t.Fatal("an argument is written, or shared")
			}
		}
	}
}
