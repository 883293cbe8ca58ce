package tests

import (
	"fmt"
	"reflect"
	"testing"
)

const spareRoom = 3

// same holds two values against each other, field by field; an empty list and nil are the same.
func same[T any](a T, b T) bool {
	return unlike(a, b) == ""
}

// unlike tells where the first two fields stand that are not the same, and these.
func unlike[T any](a T, b T) string {
	return unlikeValues(reflect.ValueOf(a), reflect.ValueOf(b), false, "")
}

// sameToTheEnd is same, and asks of the room behind each list, too.
func sameToTheEnd[T any](a T, b T) bool {
	return unlikeValues(reflect.ValueOf(a), reflect.ValueOf(b), true, "") == ""
}

func unlikeValues(a reflect.Value, b reflect.Value, toTheEnd bool, where string) string {
	switch a.Kind() {
	case reflect.Struct:
		for i := range a.NumField() {
			if told := unlikeValues(a.Field(i), b.Field(i), toTheEnd, where+"."+a.Type().Field(i).Name); told != "" {
				return told
			}
		}
		return ""
	case reflect.Slice:
		if a.Len() == b.Len() && a.Cap() == b.Cap() && toTheEnd {
			a, b = a.Slice(0, a.Cap()), b.Slice(0, b.Cap())
		}
		for i := range min(a.Len(), b.Len()) {
			if told := unlikeValues(a.Index(i), b.Index(i), toTheEnd, fmt.Sprintf("%s[%d]", where, i)); told != "" {
				return told
			}
		}
		if a.Len() != b.Len() || toTheEnd && a.Cap() != b.Cap() {
			return fmt.Sprintf("%s has %d and %d", where, a.Len(), b.Len())
		}
		return ""
	case reflect.Float64:
		if alike(a.Float(), b.Float()) {
			return ""
		}
		return fmt.Sprintf("%s is %x and %x", where, a.Float(), b.Float())
	}
	if a.Equal(b) {
		return ""
	}
	return fmt.Sprintf("%s is %s and %s", where, brief(a), brief(b))
}

// brief tells a value for a message.
func brief(v any) string {
	told := fmt.Sprintf("%+v", v)
	return told[:min(len(told), 500)]
}

// spacious is a copy that shares nothing, with marked room behind each list, to see whether somebody writes there.
func spacious[T any](v T) T {
	return spaciousValue(reflect.ValueOf(v)).Interface().(T)
}

func spaciousValue(v reflect.Value) reflect.Value {
	switch v.Kind() {
	case reflect.Struct:
		copied := reflect.New(v.Type()).Elem()
		for i := range v.NumField() {
			copied.Field(i).Set(spaciousValue(v.Field(i)))
		}
		return copied
	case reflect.Slice:
		copied := reflect.MakeSlice(v.Type(), v.Len()+spareRoom, v.Len()+spareRoom)
		for i := range copied.Len() {
			if i < v.Len() {
				copied.Index(i).Set(spaciousValue(v.Index(i)))
			} else {
				mark(copied.Index(i))
			}
		}
		return copied.Slice(0, v.Len())
	}
	return v
}

func mark(v reflect.Value) {
	switch v.Kind() {
	case reflect.Struct:
		for i := range v.NumField() {
			mark(v.Field(i))
		}
	case reflect.String:
		v.SetString("mark")
	case reflect.Bool:
		v.SetBool(true)
	case reflect.Int64:
		v.SetInt(77)
	case reflect.Uint8:
		v.SetUint(77)
	case reflect.Float64:
		v.SetFloat(77)
	}
}

// markAll writes over all lists of an answer with the room behind them.
func markAll(v reflect.Value) {
	switch v.Kind() {
	case reflect.Struct:
		for i := range v.NumField() {
			markAll(v.Field(i))
		}
	case reflect.Slice:
		for i := range v.Cap() {
			item := v.Slice(0, v.Cap()).Index(i)
			markAll(item)
			mark(item)
		}
	}
}

// A span is the memory of a list with the room behind it.
type span struct {
	from, to uintptr
	where    string
}

func spansOf(v reflect.Value, where string) []span {
	var spans []span
	switch v.Kind() {
	case reflect.Struct:
		for i := range v.NumField() {
			spans = append(spans, spansOf(v.Field(i), where+"."+v.Type().Field(i).Name)...)
		}
	case reflect.Slice:
		if size := uintptr(v.Cap()) * v.Type().Elem().Size(); size > 0 {
			spans = append(spans, span{from: v.Pointer(), to: v.Pointer() + size, where: where})
		}
		for i := range v.Len() {
			spans = append(spans, spansOf(v.Index(i), fmt.Sprintf("%s[%d]", where, i))...)
		}
	}
	return spans
}

// sharings tells what lists of the answer share memory, with one of an argument or among each other.
func sharings(answer any, arguments ...any) []string {
	var others []reflect.Value
	for _, a := range arguments {
		others = append(others, reflect.ValueOf(a))
	}
	return sharingsOf([]reflect.Value{reflect.ValueOf(answer)}, others)
}

// sharingsOf is sharings of an answer of several values.
func sharingsOf(answer []reflect.Value, arguments []reflect.Value) []string {
	var own, all []span
	for _, a := range answer {
		own = append(own, spansOf(a, "answer")...)
	}
	all = append(all, own...)
	for i, a := range arguments {
		all = append(all, spansOf(a, fmt.Sprintf("argument %d", i))...)
	}
	var told []string
	for i, one := range own {
		for _, other := range all[i+1:] {
			if one.from < other.to && other.from < one.to {
				told = append(told, one.where+" with "+other.where)
			}
		}
	}
	return told
}

func expectOwnMemory(t *testing.T, what string, answer any, arguments ...any) {
	t.Helper()
	for _, shared := range sharings(answer, arguments...) {
		t.Errorf("%s: memory is shared: %s", what, shared)
	}
}

// The helpers themselves: they see a list that is shared, one that is written to, and room that is.
func TestMemoryHelpers(t *testing.T) {
	type part struct {
		Names []string
		Good  bool
	}
	type whole struct {
		Parts []part
		Bytes []byte
	}
	w := whole{Parts: []part{{Names: []string{"a", "b"}}, {}}, Bytes: []byte("xyz")}
	one, two := spacious(w), spacious(w)
	if !same(one, w) || sameToTheEnd(one, w) || !sameToTheEnd(one, two) || !same(whole{}, whole{Parts: []part{}}) || same(w, whole{}) {
		t.Error("copies", one, two)
	}
	two.Parts[0].Names = append(two.Parts[0].Names, "c")
	if sameToTheEnd(one, two) || same(one, two) {
		t.Error("one more", one, two)
	}
	two.Parts[0].Names = two.Parts[0].Names[:2]
	if sameToTheEnd(one, two) || !same(one, two) {
		t.Error("written behind it", one, two)
	}
	for _, shared := range []whole{{Parts: one.Parts[:1]}, {Parts: []part{{Names: one.Parts[0].Names[:1]}}}, {Bytes: one.Bytes[1:1]}} {
		if len(sharings(shared, one)) == 0 {
			t.Error("it shares memory", shared)
		}
	}
	if names := []string{"a", "b", "c"}; len(sharings(whole{Parts: []part{{Names: names[:1]}, {Names: names[2:]}}})) == 0 || len(sharings(whole{Parts: []part{{Names: names[:1:1]}, {Names: names[2:]}}})) != 0 {
		t.Error("two lists of one answer")
	}
	expectOwnMemory(t, "copies", one, two, w)
	marked := spacious(w)
	markAll(reflect.ValueOf(marked))
	if !same(marked, whole{Parts: []part{{Names: []string{"mark", "mark"}, Good: true}, {Good: true}}, Bytes: []byte{77, 77, 77}}) || !same(one, w) {
		t.Error("marked", marked)
	}
	numbers := []float64{noNumber, minusZero}
	if !same(numbers, []float64{unlikeNaNs()[2], minusZero}) || same(numbers, []float64{noNumber, 0}) || same(numbers, []float64{0, minusZero}) {
		t.Error("numbers", numbers)
	}
}
