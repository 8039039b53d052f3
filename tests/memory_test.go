package tests

import (
	"fmt"
	"reflect"
	"slices"
	"testing"
	"unsafe"
)

// span is a piece of memory, with what lies in it.
type span struct {
	from, to uintptr
	what     string
}

func eachField(v reflect.Value, do func(reflect.Value)) {
	switch v.Kind() {
	case reflect.Struct:
		for i := range v.NumField() {
			do(v.Field(i))
		}
	case reflect.Slice, reflect.Array:
		for i := range v.Len() {
			do(v.Index(i))
		}
	}
}

// listSpans are the pieces in which the lists of v lie, with the room behind them.
func listSpans(v reflect.Value, out *[]span) {
	if v.Kind() == reflect.Slice && v.Cap() > 0 {
		from := uintptr(v.UnsafePointer())
		*out = append(*out, span{from, from + uintptr(v.Cap())*v.Type().Elem().Size(), v.Type().String()})
	}
	eachField(v, func(f reflect.Value) { listSpans(f, out) })
}

// textSpans are the pieces in which the texts of v lie. (Those of one byte lie in a table that Go has for all of them.)
func textSpans(v reflect.Value, out *[]span) {
	if v.Kind() == reflect.String && v.Len() > 1 {
		from := uintptr(unsafe.Pointer(unsafe.StringData(v.String())))
		*out = append(*out, span{from, from + uintptr(v.Len()), v.String()})
	}
	eachField(v, func(f reflect.Value) { textSpans(f, out) })
}

// overlap is a piece that shares memory with another one, if there is one.
func overlap(spans []span) (span, bool) {
	slices.SortFunc(spans, func(a, b span) int { return int(int64(a.from) - int64(b.from)) })
	for i := 1; i < len(spans); i++ {
		if spans[i].from < spans[i-1].to {
			return spans[i], true
		}
	}
	return span{}, false
}

// checkNewMemory: no two lists of the answer share memory, and none of its lists and texts lies where an argument does. (Texts that lie in the program itself are neither's.)
func checkNewMemory(t *testing.T, answer any, args ...any) {
	t.Helper()
	var lists []span
	listSpans(reflect.ValueOf(answer), &lists)
	if s, found := overlap(slices.Clone(lists)); found {
		t.Errorf("two lists of an answer share memory: a %s", s.what)
	}
	var texts []span
	textSpans(reflect.ValueOf(answer), &texts)
	for _, arg := range args {
		var argLists, argTexts []span
		listSpans(reflect.ValueOf(arg), &argLists)
		textSpans(reflect.ValueOf(arg), &argTexts)
		if s, found := meet(lists, argLists); found {
			t.Errorf("an answer shares a list with an argument: a %s", s.what)
		}
		if s, found := meet(texts, argTexts); found {
			t.Errorf("an answer shares a text with an argument: %q", s.what)
		}
	}
}

// meet is a piece of a that has memory of a piece of b, if there is one.
func meet(a, b []span) (span, bool) {
	b = slices.Clone(b)
	slices.SortFunc(b, func(x, y span) int { return int(int64(x.from) - int64(y.from)) })
	for _, s := range a {
		at, _ := slices.BinarySearchFunc(b, s.from, func(x span, from uintptr) int {
			if x.to <= from {
				return -1
			}
			return 1
		})
		if at < len(b) && b[at].from < s.to {
			return s, true
		}
	}
	return span{}, false
}

// junk fills v with what no test has anywhere else.
func junk(v reflect.Value) {
	switch v.Kind() {
	case reflect.Int64:
		v.SetInt(-770077)
	case reflect.String:
		v.SetString("spare room")
	case reflect.Uint8:
		v.SetUint(0xa7)
	default:
		eachField(v, junk)
	}
}

func roomyValue(v reflect.Value) reflect.Value {
	out := reflect.New(v.Type()).Elem()
	out.Set(v)
	switch v.Kind() {
	case reflect.String:
		out.SetString(string([]byte(v.String())))
	case reflect.Struct:
		for i := range v.NumField() {
			out.Field(i).Set(roomyValue(v.Field(i)))
		}
	case reflect.Slice:
		whole := reflect.MakeSlice(v.Type(), v.Len()+2, v.Len()+2)
		for i := range whole.Len() {
			if i < v.Len() {
				whole.Index(i).Set(roomyValue(v.Index(i)))
			} else {
				junk(whole.Index(i))
			}
		}
		out.Set(whole.Slice(0, v.Len()))
	}
	return out
}

// roomy is v again, in memory of its own, with junk in the room behind each list.
func roomy[T any](v T) T { return roomyValue(reflect.ValueOf(v)).Interface().(T) }

func toldValue(v reflect.Value, out *[]byte) {
	switch v.Kind() {
	case reflect.Slice:
		*out = fmt.Appendf(*out, "[%d ", v.Len())
		v = v.Slice(0, v.Cap())
		eachField(v, func(f reflect.Value) { toldValue(f, out) })
		*out = append(*out, ']')
	case reflect.Struct:
		*out = append(*out, '{')
		eachField(v, func(f reflect.Value) { toldValue(f, out) })
		*out = append(*out, '}')
	default:
		*out = fmt.Appendf(*out, "%#v ", v.Interface())
	}
}

// told is all that v has, the room behind its lists too: by it a change is seen.
func told(v any) string {
	var out []byte
	toldValue(reflect.ValueOf(v), &out)
	return string(out)
}

// same: an empty list and nil are the same value.
func same(a, b any) bool { return sameValue(reflect.ValueOf(a), reflect.ValueOf(b)) }

func sameValue(a, b reflect.Value) bool {
	switch a.Kind() {
	case reflect.Slice:
		if a.Len() != b.Len() {
			return false
		}
		for i := range a.Len() {
			if !sameValue(a.Index(i), b.Index(i)) {
				return false
			}
		}
		return true
	case reflect.Struct:
		for i := range a.NumField() {
			if !sameValue(a.Field(i), b.Field(i)) {
				return false
			}
		}
		return true
	}
	return a.Equal(b)
}
