package tests

import (
	"fmt"
	"go/ast"
	"go/parser"
	"go/token"
	"path/filepath"
	"reflect"
	"slices"
	"strings"
	"sync"
	"testing"

	"loop.example/g00302/impl"
)

// wholeProgram gives all functions that the document lists, by their names.
func wholeProgram() map[string]any {
	return map[string]any{
		"RespOk": impl.RespOk, "RespText": impl.RespText, "ReadResp": impl.ReadResp,
		"RequestText": impl.RequestText, "ReadRequest": impl.ReadRequest, "Fed": impl.Fed,
		"HeapNew": impl.HeapNew, "HeapOk": impl.HeapOk, "Room": impl.Room, "Gap": impl.Gap, "Put": impl.Put, "Get": impl.Get, "Drop": impl.Drop, "Packed": impl.Packed,
		"ValueOk": impl.ValueOk, "ValueBytes": impl.ValueBytes, "ReadValue": impl.ReadValue, "IntOf": impl.IntOf, "SliceOf": impl.SliceOf, "Ranked": impl.Ranked,
		"DbOk": impl.DbOk, "Alive": impl.Alive, "KeyOf": impl.KeyOf, "Stored": impl.Stored, "Gone": impl.Gone,
		"Done":      impl.Done,
		"SessionOk": impl.SessionOk, "Asked": impl.Asked, "Served": impl.Served,
		"ServerOk": impl.ServerOk, "Happened": impl.Happened, "Ran": impl.Ran,
		"NeedOf": impl.NeedOf, "Laid": impl.Laid, "DbOf": impl.DbOf,
		"Escaped": impl.Escaped, "Unescaped": impl.Unescaped, "RunScript": impl.RunScript,
	}
}

func TestP11NoneIsLeftOut(t *testing.T) {
	files, err := filepath.Glob("../impl/*.go")
	if err != nil || len(files) == 0 {
		t.Fatal(files, err)
	}
	count := 0
	for _, name := range files {
		f, err := parser.ParseFile(token.NewFileSet(), name, nil, 0)
		if err != nil {
			t.Fatal(err)
		}
		for _, d := range f.Decls {
			fn, ok := d.(*ast.FuncDecl)
			if !ok || fn.Recv != nil || !fn.Name.IsExported() {
				continue
			}
			count++
			if wholeProgram()[fn.Name.Name] == nil {
				t.Errorf("%s is not asked", fn.Name.Name)
			}
		}
	}
	if count != len(wholeProgram()) {
		t.Errorf("%d functions", count)
	}
}

// pool gives arguments by their types, right ones more often than wrong ones.
type pool map[reflect.Type][]any

func (p pool) add(list ...any) {
	for _, x := range list {
		p[reflect.TypeOf(x)] = append(p[reflect.TypeOf(x)], x)
	}
}

func wholePool(d *dice) pool {
	p := pool{}
	p.add(int64(0), int64(1), int64(2), int64(5), int64(-1), int64(100), int64(3000), int64(-2), int64(impl.MaxTime), int64(impl.MaxNum+1))
	p.add("", "a0", "a1", "b", "PING\n", "MULTI\nSET k v\n", "EXEC\n", "12", "-3", "-03", `a\n\x00`, `\q`, "*2\r\n+a\r\n*1\r\n:1\r\nx", "*1\r\n$4\r\nKEYS\r\nGET a\nx", "*x\r\n")
	p.add(lines("open 1", `send 1 SET k v\n`, "keys", "need"), lines("open 1", "fly", "tick 3", "close 1"), "keys")
	p.add([]string(nil), []string{"KEYS"}, []string{"get", "a0"}, []string{"MULTI"}, []string{"EXEC"}, []string{"RPUSH", "l", "a", "b"}, []string{"HSET", "h", "f", "v", "g", "w"}, []string{"FLY"}, []string{"LRANGE", "b", "0", "-1"}, make([]string, impl.MaxArgs+1))
	p.add([]impl.Resp{simple("a"), null(), array(1), array(0, 2)}, []impl.Resp{number(1), array(0)}, []impl.Resp{bulk("\x00")}, []impl.Resp{array(0)}, []impl.Resp(nil))
	p.add(impl.Ref{Cell: 0, Gen: 1}, impl.Ref{Cell: 1, Gen: 1}, impl.Ref{Cell: 2, Gen: 1}, impl.Ref{Cell: 9, Gen: 1}, impl.Ref{})
	p.add([]impl.Rank(nil), manyRanks(3), manyRanks(impl.MaxItems), []impl.Rank{rank("b", 1), rank("a", 1)})
	p.add(impl.Session{}, resting("PI", impl.Session{}), multi("SET k v", "RPUSH l a b", "KEYS"), dirty(multi("GET a")), deadSession(), impl.Session{Dirty: true})
	p.add(fullServer(), impl.Server{}, impl.Server{Now: -1}, impl.Event{}, open(9), open(1), shut(1), shut(3), tick(5), send(1, "KEYS\nGE"), send(2, "MULTI\nHGETALL h\nEXEC\n"))
	p.add([]impl.Event(nil), []impl.Event{open(9), shut(1), open(1), send(1, "SET k v EX 3\nKEYS\n"), tick(3), send(2, "KEYS\n")}, make([]impl.Event, impl.MaxEvents+1))
	for _, db := range [][]impl.Key{nil, oneOfEach(), manyKeys(3), manyKeys(impl.MaxKeys), anyKeys(d), anyKeys(d), wrongKeys()[0]} {
		p.add(db)
		h, list, _ := impl.Laid(impl.MaxHeap, db)
		p.add(h, list)
		for _, k := range db {
			p.add(k, k.Val, k.Name, impl.ValueBytes(k.Val))
		}
	}
	p.add(heap("a\x00b", live(0, 1, 1), dead(3), live(2, 1, 1)), wrongHeaps()[0], wrongValues()[0])
	return p
}

// drawn gives arguments for a function, each with spare room behind its lists.
func (p pool) drawn(d *dice, fn reflect.Type) []reflect.Value {
	var args []reflect.Value
	for i := range fn.NumIn() {
		list := p[fn.In(i)]
		args = append(args, roomyTwin(reflect.ValueOf(list[d.below(len(list))])))
	}
	return args
}

// roomyTwin gives the same value in memory of its own, with three zero elements
// behind each list.
func roomyTwin(v reflect.Value) reflect.Value {
	same := reflect.New(v.Type()).Elem()
	same.Set(v)
	switch v.Kind() {
	case reflect.Struct:
		for i := range v.NumField() {
			same.Field(i).Set(roomyTwin(v.Field(i)))
		}
	case reflect.Slice:
		same.Set(reflect.MakeSlice(v.Type(), v.Len(), v.Len()+3))
		for i := range v.Len() {
			same.Index(i).Set(roomyTwin(v.Index(i)))
		}
	}
	return same
}

// alike compares two values; lists also as far as their spare room goes, if that is asked.
func alike(a reflect.Value, b reflect.Value, spare bool) bool {
	switch a.Kind() {
	case reflect.Struct:
		for i := range a.NumField() {
			if !alike(a.Field(i), b.Field(i), spare) {
				return false
			}
		}
		return true
	case reflect.Slice:
		if a.Len() != b.Len() || spare && a.Cap() != b.Cap() {
			return false
		}
		if spare {
			a, b = a.Slice(0, a.Cap()), b.Slice(0, b.Cap())
		}
		for i := range a.Len() {
			if !alike(a.Index(i), b.Index(i), spare) {
				return false
			}
		}
		return true
	}
	return a.Equal(b)
}

func allAlike(a []reflect.Value, b []reflect.Value, spare bool) bool {
	return slices.EqualFunc(a, b, func(x reflect.Value, y reflect.Value) bool { return alike(x, y, spare) })
}

// stretch is the memory of one list, its spare room too.
type stretch struct {
	from uintptr
	to   uintptr
}

// memory gives the stretches of all lists in v.
func memory(v reflect.Value) []stretch {
	var list []stretch
	switch v.Kind() {
	case reflect.Struct:
		for i := range v.NumField() {
			list = append(list, memory(v.Field(i))...)
		}
	case reflect.Slice:
		if v.Cap() > 0 {
			list = append(list, stretch{v.Pointer(), v.Pointer() + uintptr(v.Cap())*v.Type().Elem().Size()})
		}
		for i := range v.Len() {
			list = append(list, memory(v.Index(i))...)
		}
	}
	return list
}

// apart says whether no two lists, of all these values, share memory.
func apart(values ...reflect.Value) bool {
	var list []stretch
	for _, v := range values {
		list = append(list, memory(v)...)
	}
	slices.SortFunc(list, func(a stretch, b stretch) int { return int(int64(a.from) - int64(b.from)) })
	for i := 1; i < len(list); i++ {
		if list[i].from < list[i-1].to {
			return false
		}
	}
	return true
}

// calling is a call with its arguments, and what was answered to it at first.
type calling struct {
	name   string
	args   []reflect.Value
	before []reflect.Value
	answer []reflect.Value
}

func (c calling) again() []reflect.Value {
	return reflect.ValueOf(wholeProgram()[c.name]).Call(c.args)
}

func (c calling) String() string {
	var words []string
	for _, arg := range c.args {
		words = append(words, fmt.Sprintf("%#v", arg))
	}
	return c.name + "(" + strings.Join(words, ", ") + ")"
}

// manyCalls gives calls of each function, with what is answered to each.
func manyCalls(d *dice, each int) []calling {
	var list []calling
	p := wholePool(d)
	names := []string{}
	for name := range wholeProgram() {
		names = append(names, name)
	}
	slices.Sort(names)
	for _, name := range names {
		for range each {
			c := calling{name: name, args: p.drawn(d, reflect.TypeOf(wholeProgram()[name]))}
			for _, arg := range c.args {
				c.before = append(c.before, roomyTwin(arg))
			}
			c.answer = c.again()
			list = append(list, c)
		}
	}
	return list
}

func TestP11WholeProgram(t *testing.T) {
	several := map[string]int{}
	first := map[string][]reflect.Value{}
	calls := manyCalls(&dice{11}, 150)
	for _, c := range calls {
		if !allAlike(c.args, c.before, true) {
			t.Fatalf("an argument is written: %v", c)
		}
		again := c.again()
		if !allAlike(again, c.answer, false) || !allAlike(c.args, c.before, true) {
			t.Fatalf("two answers, or an argument is written: %v", c)
		}
		if !apart(slices.Concat(c.args, c.answer, again)...) {
			t.Fatalf("memory is shared: %v", c)
		}
		if first[c.name] == nil {
			first[c.name] = c.answer
		}
		if !allAlike(first[c.name], c.answer, false) {
			several[c.name]++
		}
	}
	for name := range wholeProgram() {
		if several[name] < 5 {
			t.Errorf("%s: hardly more than one answer (%d)", name, several[name])
		}
	}
}

// Whatever was asked ahead, from the last call to the first, and by several at
// one time with the same arguments: the answers are those of the first time.
func TestP11InAnyOrder(t *testing.T) {
	calls := manyCalls(&dice{12}, 40)
	slices.Reverse(calls)
	var wait sync.WaitGroup
	wrong := make([]string, 8)
	for i := range wrong {
		wait.Add(1)
		go func() {
			defer wait.Done()
			for j := range calls {
				c := calls[(j+i*len(calls)/8)%len(calls)]
				if !allAlike(c.again(), c.answer, false) {
					wrong[i] = c.String()
				}
			}
		}()
	}
	wait.Wait()
	for _, c := range calls {
		if !allAlike(c.args, c.before, true) {
			t.Fatalf("an argument is written: %v", c)
		}
	}
	for _, w := range wrong {
		if w != "" {
			t.Error(w)
		}
	}
}
