package tests

import (
	"bytes"
	"fmt"
	"reflect"
	"testing"
)

const filler = 0xee

// roomy lays b at the front of a longer array, so that a write behind its
// length is seen.
func roomy(b []byte) []byte {
	all := bytes.Repeat([]byte{filler}, len(b)+64)
	copy(all, b)
	return all[:len(b)]
}

// checkUntouched fails if what roomy made of want is no longer that, its spare
// room with it.
func checkUntouched(t *testing.T, got, want []byte) {
	t.Helper()
	if !bytes.Equal(got, want) {
		t.Fatalf("the argument became % x, was % x", got, want)
	}
	for i, x := range got[len(got):cap(got)] {
		if x != filler {
			t.Fatalf("byte %d of the room behind the argument became %x", i, x)
		}
	}
}

// spoil overwrites all memory that b can reach: what shares any of it changes.
func spoil(b []byte) {
	b = b[:cap(b)]
	for i := range b {
		b[i] = ^b[i]
	}
}

// joined is written here anew, so that the tests do not lean on the program.
func joined(parts ...[]byte) []byte {
	out := []byte{}
	for _, p := range parts {
		out = append(out, p...)
	}
	return out
}

// roomyOf copies v so that every list in it, at any depth and empty ones too,
// has room behind its length, filled with what no function may read.
func roomyOf[T any](v T) T {
	out := reflect.New(reflect.TypeFor[T]()).Elem()
	out.Set(roomyValue(reflect.ValueOf(v)))
	return out.Interface().(T)
}

func roomyValue(v reflect.Value) reflect.Value {
	switch v.Kind() {
	case reflect.Struct:
		out := reflect.New(v.Type()).Elem()
		for i := range v.NumField() {
			out.Field(i).Set(roomyValue(v.Field(i)))
		}
		return out
	case reflect.Slice:
		out := reflect.MakeSlice(v.Type(), v.Len()+2, v.Len()+2)
		for i := range out.Len() {
			if i < v.Len() {
				out.Index(i).Set(roomyValue(v.Index(i)))
			} else {
				out.Index(i).Set(fillerOf(v.Type().Elem()))
			}
		}
		return out.Slice(0, v.Len())
	}
	return v
}

func fillerOf(t reflect.Type) reflect.Value {
	out := reflect.New(t).Elem()
	switch t.Kind() {
	case reflect.Uint8:
		out.SetUint(filler)
	case reflect.Int:
		out.SetInt(-77)
	case reflect.Bool:
		out.SetBool(true)
	case reflect.Struct:
		for i := range t.NumField() {
			if t.Field(i).Type.Kind() != reflect.Slice {
				out.Field(i).Set(fillerOf(t.Field(i).Type))
			} else if t.Field(i).Type.Elem().Kind() == reflect.Uint8 {
				out.Field(i).SetBytes([]byte{filler})
			}
		}
	}
	return out
}

// wholeOf is a copy of v in which every list has what lies behind its length.
func wholeOf(v any) any { return wholeValue(reflect.ValueOf(v)).Interface() }

func wholeValue(v reflect.Value) reflect.Value {
	out := reflect.New(v.Type()).Elem()
	switch v.Kind() {
	case reflect.Struct:
		for i := range v.NumField() {
			out.Field(i).Set(wholeValue(v.Field(i)))
		}
		return out
	case reflect.Slice:
		for i := range v.Cap() {
			out = reflect.Append(out, wholeValue(v.Slice(0, v.Cap()).Index(i)))
		}
		return out
	}
	return v
}

// span is the memory of a list, the room behind its length with it.
type span struct{ from, to uintptr }

func spansOf(v any) []span { return addSpans(nil, reflect.ValueOf(v)) }

func addSpans(l []span, v reflect.Value) []span {
	switch v.Kind() {
	case reflect.Struct:
		for i := range v.NumField() {
			l = addSpans(l, v.Field(i))
		}
	case reflect.Slice:
		if size := uintptr(v.Cap()) * v.Type().Elem().Size(); size > 0 {
			l = append(l, span{v.Pointer(), v.Pointer() + size})
		}
		for i := range v.Len() {
			l = addSpans(l, v.Index(i))
		}
	}
	return l
}

// checkNewMemory fails if two lists of the answer share memory, or if one
// shares some with an argument.
func checkNewMemory(t *testing.T, answer any, arguments ...any) {
	t.Helper()
	mine := spansOf(answer)
	var others []span
	for _, a := range arguments {
		others = append(others, spansOf(a)...)
	}
	for i, a := range mine {
		for _, b := range mine[:i] {
			if a.from < b.to && b.from < a.to {
				t.Fatalf("two lists of the answer %v share memory", answer)
			}
		}
		for _, b := range others {
			if a.from < b.to && b.from < a.to {
				t.Fatalf("the answer %v shares memory with an argument", answer)
			}
		}
	}
}

// shown is the same text for the same values, nil and empty lists being the
// same.
func shown(v any) string { return fmt.Sprint(v) }

func checkShown(t *testing.T, what string, got, want any) {
	t.Helper()
	if shown(got) != shown(want) {
		t.Fatalf("%s: got %s; want %s", what, shown(got), shown(want))
	}
}
