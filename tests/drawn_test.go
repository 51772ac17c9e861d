package tests

import (
	"fmt"
	"math"
	"math/rand"
	"reflect"
	"strings"
	"unsafe"

	"loop.example/g00354/impl"
)

// A drawer draws arguments of any type of the program at random: right ones, those with something turned, zero ones.
type drawer struct{ source *rand.Rand }

func (d drawer) oneIn(n int) bool { return d.source.Intn(n) == 0 }

// The limits of the document, each of which is drawn with its neighbours, and the ends of int64.
var drawnEdges = []int64{-1 << 32, 0, 4, 8, 20, 40, 100, 200, 255, 300, 2000, 9999, 20000, 40000, 65535, 100000, 999999999, 1000000000, 1 << 32}

func (d drawer) number() int64 {
	switch d.source.Intn(8) {
	case 0:
		return []int64{math.MinInt64, math.MinInt64 + 1, math.MaxInt64 - 1, math.MaxInt64, int64(d.source.Uint64())}[d.source.Intn(5)]
	case 1:
		return drawnEdges[d.source.Intn(len(drawnEdges))] + d.source.Int63n(3) - 1
	}
	return d.source.Int63n(10)
}

func (d drawer) bytes(n int) string {
	bytes := make([]byte, n)
	d.source.Read(bytes)
	return string(bytes)
}

// A drawn text is one that some function of the program reads, or about as long as a text may be.
func (d drawer) text() string {
	n := thrownNode(d.source)
	texts := []func() string{
		func() string { return d.bytes(d.source.Intn(30)) },
		func() string { return bytesOf(thrownStoreCmd(d.source)) },
		func() string { return notCmdBytes[d.source.Intn(len(notCmdBytes))].bytes },
		func() string { return impl.ShowRecord(n.Record) },
		func() string { return impl.ShowHolding(thrownHolding(d.source)) },
		func() string { return n.Log + thrownNode(d.source).Log },
		func() string { return framedByHand(frameTexts()[d.source.Intn(len(frameTexts()))]) + n.Log },
		func() string { return paddedLog(39999-d.source.Intn(60), n.Record) },
		func() string { return strings.Repeat(framedByHand(""), 1997+d.source.Intn(5)) },
		func() string {
			return strings.Repeat("x", []int{19, 299, 19999, 39999}[d.source.Intn(4)]+d.source.Intn(3))
		},
		func() string { return d.lines() },
		func() string { return strings.Repeat("post\n", 198+d.source.Intn(4)) },
	}
	text := texts[d.source.Intn(len(texts))]()
	if at := d.source.Intn(len(text) + 1); d.oneIn(4) {
		return []string{text[:at], text[at:], text[:at] + d.bytes(1) + text[at:], text[:at] + "\n" + text[at:], text + text[:at]}[d.source.Intn(5)]
	}
	return text
}

func (d drawer) lines() string {
	r, m := newBenchRow(map[string]int{}), thrownHistoryMood(d.source)
	for range d.source.Intn(20) {
		r.goesOn(d.source, m)
	}
	return r.text()
}

func (d drawer) list() []int64 {
	list := make([]int64, d.source.Intn(10))
	for k := range list {
		list[k] = []int64{0, 1, 2, 9999, d.number()}[d.source.Intn(5)]
	}
	return list
}

// A drawn pair is one that something happened to from a new one on, or one that was thrown together.
func (d drawer) pair() impl.Pair {
	if d.oneIn(2) {
		return thrownPair(d.source)
	}
	r, m := newHistoryRow(1+d.source.Int63n(8), map[string]int{}), thrownHistoryMood(d.source)
	for range d.source.Intn(60) {
		r.p, _, _ = impl.Happen(r.p, r.thrownAct(d.source, m))
	}
	return r.p
}

func (d drawer) events() []impl.Event {
	if d.oneIn(4) {
		return eventsOf([]int{3, 299, 300, 301, 500}[d.source.Intn(5)])
	}
	return thrownHistory(d.source, d.source.Intn(30)).list
}

// about draws one of this type that has to do with one that was drawn ahead: the same, a number that is in it or next to it, a letter to it, what may happen to it.
func (d drawer) about(of reflect.Type, one any) (about any, is bool) {
	switch one := one.(type) {
	case impl.Node:
		if of == reflect.TypeFor[impl.Msg]() && nodeOkByHand(one) {
			return thrownMsg(d.source, one), true
		}
	case impl.Pair:
		if of == reflect.TypeFor[impl.Act]() && pairOkByHand(one) {
			return thrownActOf(d.source, one), true
		}
	}
	if v := reflect.ValueOf(one); of == v.Type() {
		return one, d.oneIn(2)
	}
	if of == reflect.TypeFor[int64]() && d.oneIn(2) {
		leaves := leavesOf(reflect.ValueOf(one))
		if leaf := leaves[d.source.Intn(len(leaves))]; leaf.Kind() == reflect.Int64 {
			return leaf.Int() + []int64{0, 0, 1, -1}[d.source.Intn(4)], true
		}
	}
	return nil, false
}

// fitting draws one of this type that is right, as a rule.
func (d drawer) fitting(of reflect.Type, ahead []any) any {
	for _, one := range ahead {
		if about, is := d.about(of, one); is {
			return about
		}
	}
	switch reflect.New(of).Interface().(type) {
	case *int64:
		return d.number()
	case *bool:
		return d.oneIn(2)
	case *string:
		return d.text()
	case *[]int64:
		return d.list()
	case *impl.Disk:
		return thrownDisk(d.source)
	case *impl.Record:
		return thrownRecord(d.source)
	case *impl.Cmd:
		return thrownStoreCmd(d.source)
	case *impl.Holding:
		return thrownHolding(d.source)
	case *impl.Store:
		return storeOf(thrownDisk(d.source), thrownHolding(d.source))
	case *impl.Copier:
		return thrownCopier(d.source)
	case *impl.Sink:
		return thrownSink(d.source)
	case *impl.Node:
		return thrownNode(d.source)
	case *impl.Msg:
		return thrownPostMsg(d.source, true)
	case *[]impl.Msg:
		return thrownPost(d.source, []int{0, 1, 3, 39, 40, 41}[d.source.Intn(6)], d.oneIn(3))
	case *impl.Pair:
		return d.pair()
	case *impl.Act:
		return thrownActOf(d.source, thrownPair(d.source))
	case *[]impl.Event:
		return d.events()
	}
	panic("nothing is drawn of the type " + of.String())
}

// argument draws one with something turned now and then, and the zero value, too.
func (d drawer) argument(of reflect.Type, ahead []any) reflect.Value {
	v := reflect.New(of).Elem()
	if d.oneIn(16) {
		return v
	}
	v.Set(reflect.ValueOf(d.fitting(of, ahead)))
	if !d.oneIn(3) {
		return v
	}
	v = copied(v)
	leaves := leavesOf(v)
	d.turns(leaves[d.source.Intn(len(leaves))])
	return v
}

// leavesOf are all numbers, flags, texts and lists of it.
func leavesOf(v reflect.Value) []reflect.Value {
	leaves := []reflect.Value{}
	switch v.Kind() {
	case reflect.Struct:
		for k := range v.NumField() {
			leaves = append(leaves, leavesOf(v.Field(k))...)
		}
		return leaves
	case reflect.Slice:
		for k := range v.Len() {
			leaves = append(leaves, leavesOf(v.Index(k))...)
		}
	}
	return append(leaves, v)
}

func (d drawer) turns(leaf reflect.Value) {
	switch leaf.Kind() {
	case reflect.Int64:
		leaf.SetInt(d.number())
	case reflect.Bool:
		leaf.SetBool(!leaf.Bool())
	case reflect.String:
		leaf.SetString(d.text())
	case reflect.Slice:
		was, n := leaf.Len(), []int{0, leaf.Len() - 1, leaf.Len() + 1, 2 * leaf.Len(), 9, 41, 301}[d.source.Intn(7)]
		list := reflect.MakeSlice(leaf.Type(), max(0, n), max(0, n))
		for k := range list.Len() {
			if was > 0 {
				list.Index(k).Set(leaf.Index(k % was))
			}
		}
		leaf.Set(list)
	}
}

const drawnSpare = 3

// A memoryCopy copies into new memory: each list is one of its own, with something behind it, or it is one with those that are alike.
type memoryCopy struct {
	spare int
	alike map[string]reflect.Value
}

func copied(v reflect.Value) reflect.Value { return memoryCopy{}.of(v) }

func roomyCopied(v reflect.Value) reflect.Value { return memoryCopy{spare: drawnSpare}.of(v) }

func (c memoryCopy) of(v reflect.Value) reflect.Value {
	to := reflect.New(v.Type()).Elem()
	switch v.Kind() {
	case reflect.Struct:
		for k := range v.NumField() {
			to.Field(k).Set(c.of(v.Field(k)))
		}
	case reflect.String:
		to.SetString(strings.Clone(v.String()))
	case reflect.Slice:
		to.Set(c.list(v))
	default:
		to.Set(v)
	}
	return to
}

func (c memoryCopy) list(v reflect.Value) reflect.Value {
	numbers, areNumbers := v.Interface().([]int64)
	if one, is := c.alike[listName(numbers)]; is && areNumbers {
		return one
	}
	list := reflect.MakeSlice(v.Type(), v.Len()+c.spare, v.Len()+c.spare)
	for k := range v.Len() {
		list.Index(k).Set(c.of(v.Index(k)))
	}
	for k := v.Len(); k < list.Len(); k++ {
		for _, leaf := range leavesOf(list.Index(k)) {
			writeOver(leaf)
		}
	}
	list = list.Slice(0, v.Len())
	if c.alike != nil && areNumbers {
		c.alike[listName(numbers)] = list
	}
	return list
}

func listName(numbers []int64) string { return fmt.Sprint(numbers) }

func writeOver(leaf reflect.Value) {
	switch leaf.Kind() {
	case reflect.Int64:
		leaf.SetInt(-77)
	case reflect.Bool:
		leaf.SetBool(true)
	case reflect.String:
		leaf.SetString("spoilt")
	}
}

// spoilMemory writes over all lists of an answer, and over the room behind them.
func spoilMemory(v reflect.Value) {
	switch v.Kind() {
	case reflect.Struct:
		for k := range v.NumField() {
			spoilMemory(v.Field(k))
		}
	case reflect.Slice:
		whole := v.Slice(0, v.Cap())
		for k := range whole.Len() {
			spoilMemory(whole.Index(k))
			for _, leaf := range leavesOf(whole.Index(k)) {
				writeOver(leaf)
			}
		}
	}
}

// sameMemory looks behind the lists, too. An empty list and nil are the same.
func sameMemory(a, b reflect.Value, behind bool) bool {
	switch a.Kind() {
	case reflect.Struct:
		for k := range a.NumField() {
			if !sameMemory(a.Field(k), b.Field(k), behind) {
				return false
			}
		}
		return true
	case reflect.Slice:
		if a.Len() != b.Len() {
			return false
		}
		if behind {
			a, b = a.Slice(0, a.Cap()), b.Slice(0, b.Cap())
		}
		for k := range a.Len() {
			if k >= b.Len() || !sameMemory(a.Index(k), b.Index(k), behind) {
				return false
			}
		}
		return true
	}
	return a.Interface() == b.Interface()
}

// A stretch is memory that a list takes, with the room behind it, or a text.
type stretch struct {
	from, to uintptr
	isText   bool
}

func (s stretch) meets(other stretch) bool { return s.from < other.to && other.from < s.to }

// stretchesOf passes over texts of one byte: such a text is never made new.
func stretchesOf(v reflect.Value) []stretch {
	list := []stretch{}
	switch v.Kind() {
	case reflect.Struct:
		for k := range v.NumField() {
			list = append(list, stretchesOf(v.Field(k))...)
		}
	case reflect.Slice:
		if size := uintptr(v.Cap()) * v.Type().Elem().Size(); size > 0 {
			list = append(list, stretch{v.Pointer(), v.Pointer() + size, false})
		}
		for k := range v.Len() {
			list = append(list, stretchesOf(v.Index(k))...)
		}
	case reflect.String:
		if text := v.String(); len(text) > 1 {
			from := uintptr(unsafe.Pointer(unsafe.StringData(text)))
			list = append(list, stretch{from, from + uintptr(len(text)), true})
		}
	}
	return list
}
