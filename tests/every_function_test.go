package tests

import (
	"cmp"
	"fmt"
	"go/ast"
	"go/parser"
	"go/token"
	"maps"
	"math/rand"
	"path/filepath"
	"reflect"
	"slices"
	"strings"
	"sync"
	"testing"

	"loop.example/g00354/impl"
)

// everyFunction are all that the twenty layers hand out, layer by layer.
func everyFunction() map[string]any {
	return map[string]any{
		"In": impl.In, "With": impl.With, "Without": impl.Without, "First": impl.First, "Full": impl.Full, "Runs": impl.Runs,
		"BlocksOk": impl.BlocksOk, "NewBlocks": impl.NewBlocks, "Put": impl.Put, "Differ": impl.Differ, "Chosen": impl.Chosen,
		"DiskOk": impl.DiskOk, "NewDisk": impl.NewDisk, "Written": impl.Written, "Flushed": impl.Flushed, "Loose": impl.Loose, "Lost": impl.Lost,
		"Check": impl.Check, "Framed": impl.Framed, "Frames": impl.Frames, "Last": impl.Last,
		"RecordOk": impl.RecordOk, "ShowRecord": impl.ShowRecord, "ReadRecord": impl.ReadRecord, "Noted": impl.Noted, "Recalled": impl.Recalled,
		"CmdOk": impl.CmdOk, "ShowCmd": impl.ShowCmd, "ReadCmd": impl.ReadCmd, "Changes": impl.Changes,
		"KindOk": impl.KindOk, "Bars": impl.Bars, "ForAll": impl.ForAll, "Allowed": impl.Allowed,
		"HoldingOk": impl.HoldingOk, "NewHolding": impl.NewHolding, "Registered": impl.Registered, "Holds": impl.Holds, "May": impl.May,
		"Register": impl.Register, "Reserve": impl.Reserve, "Release": impl.Release, "Clear": impl.Clear, "Preempt": impl.Preempt,
		"KeysOf": impl.KeysOf, "HolderOf": impl.HolderOf, "ShowHolding": impl.ShowHolding, "ReadHolding": impl.ReadHolding,
		"DidDisk": impl.DidDisk, "Reads": impl.Reads, "Writes": impl.Writes,
		"StoreOk": impl.StoreOk, "NewStore": impl.NewStore, "DidStore": impl.DidStore, "Power": impl.Power, "Alike": impl.Alike,
		"CopierOk": impl.CopierOk, "NewCopier": impl.NewCopier, "Marked": impl.Marked, "Next": impl.Next, "Acked": impl.Acked, "Again": impl.Again, "Clean": impl.Clean,
		"SinkOk": impl.SinkOk, "NewSink": impl.NewSink, "Fits": impl.Fits, "Received": impl.Received,
		"NodeOk": impl.NodeOk, "NewNode": impl.NewNode, "Asked": impl.Asked, "Told": impl.Told, "Heard": impl.Heard, "Fallen": impl.Fallen, "Risen": impl.Risen,
		"PostOk": impl.PostOk, "Posted": impl.Posted, "Taken": impl.Taken, "Twice": impl.Twice,
		"PairOk": impl.PairOk, "NewPair": impl.NewPair, "Happen": impl.Happen, "Owners": impl.Owners,
		"Replayed": impl.Replayed, "Owned": impl.Owned, "Agreed": impl.Agreed,
		"Calm": impl.Calm, "Moved": impl.Moved, "OwnerOf": impl.OwnerOf,
		"Bench": impl.Bench,
	}
}

// No function is handed out that is not among them.
func TestEveryFunctionIsThere(t *testing.T) {
	files, _ := filepath.Glob("../impl/*.go")
	names := []string{}
	for _, name := range files {
		file, wrong := parser.ParseFile(token.NewFileSet(), name, nil, 0)
		if wrong != nil {
			t.Fatal(wrong)
		}
		for _, one := range file.Decls {
			if f, is := one.(*ast.FuncDecl); is && f.Recv == nil && f.Name.IsExported() {
				names = append(names, f.Name.Name)
			}
		}
	}
	slices.Sort(names)
	if there := slices.Sorted(maps.Keys(everyFunction())); !slices.Equal(there, names) || len(files) != 20 {
		t.Errorf("%d layers hand out %v, and here are %v", len(files), names, there)
	}
}

// A drawnCall is a function with arguments, in memory of their own.
type drawnCall struct {
	name  string
	f     reflect.Value
	given []reflect.Value
}

func (c drawnCall) String() string { return fmt.Sprintf("%s(%.4000s)", c.name, showValues(c.given)) }

func showValues(values []reflect.Value) string {
	words := []string{}
	for _, v := range values {
		words = append(words, fmt.Sprintf("%+v", v))
	}
	return strings.Join(words, ", ")
}

// answers tells also what the function panics with.
func (c drawnCall) answers() (answers []reflect.Value, panics any) {
	defer func() { panics = recover() }()
	return c.f.Call(c.given), nil
}

// The name of a function tells what its texts are about, and half of them are drawn so.
func (d drawer) textFor(name string) (text string, is bool) {
	switch name {
	case "Frames", "Last", "Noted", "Recalled":
		return thrownNode(d.source).Log + thrownNode(d.source).Log, true
	case "ReadRecord":
		return impl.ShowRecord(thrownRecord(d.source)), true
	case "ReadCmd", "Asked":
		return bytesOf(thrownStoreCmd(d.source)), true
	case "ReadHolding":
		return impl.ShowHolding(thrownHolding(d.source)), true
	case "Bench":
		return d.lines(), true
	}
	return "", false
}

// call draws the arguments of a function. Now and then all lists of numbers that are alike are one.
func (d drawer) call(name string, f any) drawnCall {
	c, ahead := drawnCall{name: name, f: reflect.ValueOf(f)}, []any{}
	for k := range c.f.Type().NumIn() {
		v := d.argument(c.f.Type().In(k), ahead)
		if text, is := d.textFor(name); is && v.Kind() == reflect.String && d.oneIn(2) {
			v = reflect.ValueOf(text)
		}
		ahead = append(ahead, v.Interface())
	}
	memory := memoryCopy{spare: drawnSpare}
	if d.oneIn(4) {
		memory.alike = map[string]reflect.Value{}
	}
	for _, one := range ahead {
		c.given = append(c.given, memory.of(reflect.ValueOf(one)))
	}
	return c
}

func sameMemories(a, b []reflect.Value, behind bool) bool {
	return slices.EqualFunc(a, b, func(a, b reflect.Value) bool { return sameMemory(a, b, behind) })
}

func stretchesOfAll(values []reflect.Value) []stretch {
	list := []stretch{}
	for _, v := range values {
		list = append(list, stretchesOf(v)...)
	}
	return list
}

// shares tells what an answer has in common with an argument, or one list of it with another one.
func shares(given, answers []reflect.Value) string {
	old, fresh := stretchesOfAll(given), stretchesOfAll(answers)
	for _, s := range fresh {
		for _, other := range old {
			if s.meets(other) {
				return "an answer shares memory with an argument"
			}
		}
	}
	lists := slices.DeleteFunc(fresh, func(s stretch) bool { return s.isText })
	slices.SortFunc(lists, func(a, b stretch) int { return cmp.Compare(a.from, b.from) })
	for k := range max(0, len(lists)-1) {
		if lists[k].meets(lists[k+1]) {
			return "two lists of one answer share memory"
		}
	}
	return ""
}

func copiedAll(values []reflect.Value, copy func(reflect.Value) reflect.Value) []reflect.Value {
	list := []reflect.Value{}
	for _, v := range values {
		list = append(list, copy(v))
	}
	return list
}

// wrong tells what promise 21 does not find in a call: that it answers, leaves its arguments, answers new memory, and answers the same once more.
func (c drawnCall) wrong() (answers []reflect.Value, wrong string) {
	given := copiedAll(c.given, roomyCopied)
	first, panics := c.answers()
	if panics != nil {
		return nil, fmt.Sprint("panics: ", panics)
	}
	answers = copiedAll(first, copied)
	if !sameMemories(c.given, given, true) {
		return answers, "changes an argument, or what lies behind it"
	}
	if wrong := shares(c.given, first); wrong != "" {
		return answers, wrong
	}
	for _, v := range first {
		spoilMemory(v)
	}
	again, panics := c.answers()
	switch {
	case !sameMemories(c.given, given, true):
		return answers, "an argument is changed as an answer is written over, or by a second call"
	case panics != nil || !sameMemories(again, answers, false):
		return answers, "another answer to the same, the second time"
	}
	return answers, ""
}

// How often each function is called with what is drawn, unless it takes long.
const drawnCalls = 1500

var slowCalls = map[string]int{
	"Bench": 300, "Calm": 300, "Moved": 200, "Happen": 600, "Agreed": 600, "Replayed": 600, "Owned": 600, "OwnerOf": 600, "Owners": 600, "PairOk": 600,
	"Told": 800, "Heard": 800, "Asked": 800,
}

// Promise 21, over the whole program: each function answers at arguments drawn at random, none panics, answers are new memory, arguments stay.
func TestEveryFunctionAtDrawnArguments(t *testing.T) {
	for k, name := range slices.Sorted(maps.Keys(everyFunction())) {
		t.Run(name, func(t *testing.T) {
			t.Parallel()
			d, f, did := drawer{rand.New(rand.NewSource(int64(k)))}, everyFunction()[name], map[string]int{}
			calls := drawnCalls
			if slow, is := slowCalls[name]; is {
				calls = slow
			}
			for range calls {
				c := d.call(name, f)
				answers, wrong := c.wrong()
				if wrong != "" {
					t.Fatalf("%v: %s", c, wrong)
				}
				did[showValues(answers)]++
			}
			if most := slices.Max(slices.Collect(maps.Values(did))); most > calls-5 && name != "NewHolding" {
				t.Errorf("%d of %d calls are answered alike", most, calls)
			}
		})
	}
}

// Promise 21: calls at once, of the same arguments, too, are answered as one by one, and neither writes into what another one reads.
func TestEveryFunctionAtOnce(t *testing.T) {
	for k, name := range slices.Sorted(maps.Keys(everyFunction())) {
		d, f := drawer{rand.New(rand.NewSource(int64(k)))}, everyFunction()[name]
		for range 8 {
			c := d.call(name, f)
			want, _ := c.answers()
			var all sync.WaitGroup
			for range 4 {
				all.Go(func() {
					if got, panics := c.answers(); panics != nil || !sameMemories(got, want, false) {
						t.Errorf("%v is answered by something else at once", c)
					}
				})
			}
			all.Wait()
		}
	}
}
