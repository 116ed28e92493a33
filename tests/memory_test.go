package tests

import (
	"reflect"
	"testing"
	"unsafe"
)

// span is the memory of a list, with the room behind its items, or of a text.
type span struct {
	from, end uintptr
	what      string
}

func (s span) meets(o span) bool {
	return s.from < o.end && o.from < s.end
}

// spansOf tells the memory of all lists in x, and that of all its texts.
func spansOf(x any, what string) (lists []span, texts []span) {
	var walk func(v reflect.Value, what string)
	walk = func(v reflect.Value, what string) {
		switch v.Kind() {
		case reflect.Struct:
			for i := range v.NumField() {
				walk(v.Field(i), what+"."+v.Type().Field(i).Name)
			}
		case reflect.Slice:
			size := uintptr(v.Cap()) * v.Type().Elem().Size()
			lists = append(lists, span{v.Pointer(), v.Pointer() + size, what})
			for i := range v.Len() {
				walk(v.Index(i), what+"[]")
			}
		case reflect.String:
			from := uintptr(unsafe.Pointer(unsafe.StringData(v.String())))
			texts = append(texts, span{from, from + uintptr(v.Len()), what})
		}
	}
	walk(reflect.ValueOf(x), what)
	return lists, texts
}

// checkMemory checks that no two lists in all of these share memory, be they of one answer or of several.
func checkMemory(t *testing.T, answers ...any) {
	t.Helper()
	var all []span
	for _, x := range answers {
		lists, _ := spansOf(x, "answer")
		all = append(all, lists...)
	}
	for i, s := range all {
		for _, o := range all[:i] {
			if s.meets(o) {
				t.Errorf("%s shares memory with %s", s.what, o.what)
			}
		}
	}
}

// checkTexts checks that no text in an answer keeps the memory of the text that was handed in.
func checkTexts(t *testing.T, answer any, text string) {
	t.Helper()
	_, given := spansOf(text, "text")
	_, texts := spansOf(answer, "answer")
	for _, s := range texts {
		if s.meets(given[0]) {
			t.Errorf("%s shares memory with the text", s.what)
		}
	}
}
