package tests

import (
	"fmt"
	"reflect"
	"strings"
	"testing"
	"unsafe"
)

// withSpare is a list with room behind its end, and something in that room, so that a write there shows.
func withSpare[T any](noise T, items ...T) []T {
	list := append(make([]T, 0, len(items)+2), items...)
	return append(list, noise, noise)[:len(items)]
}

// whole tells a value with all that stands behind the ends of its lists.
func whole(v any) string {
	var out strings.Builder
	tellWhole(&out, reflect.ValueOf(v))
	return out.String()
}

func tellWhole(out *strings.Builder, v reflect.Value) {
	switch v.Kind() {
	case reflect.Slice:
		fmt.Fprintf(out, "%d of [", v.Len())
		for i, all := 0, v.Slice3(0, v.Cap(), v.Cap()); i < all.Len(); i++ {
			tellWhole(out, all.Index(i))
		}
		out.WriteString("]")
	case reflect.Struct:
		out.WriteString("{")
		for i := range v.NumField() {
			tellWhole(out, v.Field(i))
		}
		out.WriteString("}")
	default:
		fmt.Fprintf(out, "%#v ", v.Interface())
	}
}

// region is a piece of memory that a list or a text stands in, its spare room with it.
type region struct {
	start, end uintptr
	list       bool
}

func regionsOf(v reflect.Value) []region {
	var out []region
	switch v.Kind() {
	case reflect.String:
		if s := v.String(); s != "" {
			start := uintptr(unsafe.Pointer(unsafe.StringData(s)))
			out = append(out, region{start: start, end: start + uintptr(len(s))})
		}
	case reflect.Slice:
		if v.Cap() > 0 {
			start := v.Pointer()
			out = append(out, region{start: start, end: start + uintptr(v.Cap())*v.Type().Elem().Size(), list: true})
		}
		for i := range v.Len() {
			out = append(out, regionsOf(v.Index(i))...)
		}
	case reflect.Struct:
		for i := range v.NumField() {
			out = append(out, regionsOf(v.Field(i))...)
		}
	}
	return out
}

func overlap(a, b region) bool {
	return a.start < b.end && b.start < a.end
}

// checkFresh: an answer shares no memory with an argument, and no two lists of it share any.
func checkFresh(t *testing.T, what string, answers []any, arguments ...any) {
	t.Helper()
	var fresh []region
	for _, answer := range answers {
		fresh = append(fresh, regionsOf(reflect.ValueOf(answer))...)
	}
	for _, argument := range arguments {
		for _, old := range regionsOf(reflect.ValueOf(argument)) {
			for _, a := range fresh {
				if overlap(a, old) {
					t.Fatalf("%s: the answer shares memory with an argument", what)
				}
			}
		}
	}
	for i, a := range fresh {
		for _, b := range fresh[:i] {
			if a.list && b.list && overlap(a, b) {
				t.Fatalf("%s: two lists of the answer share memory", what)
			}
		}
	}
}

// tidied is a value with nil for each empty list, as these two are the same.
func tidied[T any](v T) T {
	tidyLists(reflect.ValueOf(&v).Elem())
	return v
}

func tidyLists(v reflect.Value) {
	switch v.Kind() {
	case reflect.Slice:
		if v.Len() == 0 {
			v.SetZero()
			return
		}
		fresh := reflect.MakeSlice(v.Type(), v.Len(), v.Len())
		reflect.Copy(fresh, v)
		v.Set(fresh)
		for i := range v.Len() {
			tidyLists(v.Index(i))
		}
	case reflect.Struct:
		for i := range v.NumField() {
			tidyLists(v.Field(i))
		}
	}
}

func same[T any](a, b T) bool {
	return reflect.DeepEqual(tidied(a), tidied(b))
}
