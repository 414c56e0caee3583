package tests

import (
	"reflect"
	"runtime"
	"slices"
	"strings"
	"testing"
	"unsafe"
)

// The functions of this file call functions of the program with every argument in memory of its
// own, and check at each call what promise 29 asks for: that the function returns, modifies no
// argument, shares no memory, returns the same results again, and returns zero results where it
// fails.

// in lists the arguments of a call, and out its results.
func in(args ...any) []any     { return args }
func out(results ...any) []any { return results }

// check calls f and compares the results with what is expected. A nil slice and an empty one are
// equivalent.
func check(t *testing.T, f any, args []any, want []any) {
	t.Helper()
	got := call(t, f, args...)
	if len(got) != len(want) {
		t.Fatalf("%s has %d results, not %d", nameOf(f), len(got), len(want))
	}
	for i := range got {
		if !same(reflect.ValueOf(got[i]), reflect.ValueOf(want[i])) {
			t.Errorf("%s(%+v) = %+v instead of %+v", nameOf(f), args, got, want)
			return
		}
	}
}

// checkFails calls f, which must fail with zero results.
func checkFails(t *testing.T, f any, args ...any) {
	t.Helper()
	got := call(t, f, args...)
	if got[len(got)-1] != false {
		t.Errorf("%s(%+v) = %+v instead of a failure", nameOf(f), args, got)
	}
}

// call calls f twice and returns its results; all the results of a call that fails are zero.
func call(t *testing.T, f any, args ...any) []any {
	t.Helper()
	first, second := callOnce(t, f, args), callOnce(t, f, args)
	for i := range first {
		if !same(reflect.ValueOf(first[i]), reflect.ValueOf(second[i])) {
			t.Errorf("%s(%+v) = %+v, and then %+v", nameOf(f), args, first, second)
		}
	}
	if first[len(first)-1] == false {
		for i, r := range first {
			if !isZero(reflect.ValueOf(r)) {
				t.Errorf("%s(%+v) fails, but its result %d is %+v", nameOf(f), args, i, r)
			}
		}
	}
	return first
}

func callOnce(t *testing.T, f any, args []any) []any {
	t.Helper()
	defer func() {
		if p := recover(); p != nil {
			t.Fatalf("%s(%+v) panics: %v", nameOf(f), args, p)
		}
	}()
	given := make([]reflect.Value, len(args))
	kept := make([]reflect.Value, len(args))
	var argSpans []span
	for i, a := range args {
		given[i], kept[i] = guarded(reflect.ValueOf(a)), guarded(reflect.ValueOf(a))
		argSpans = appendSpans(argSpans, given[i])
	}
	values := reflect.ValueOf(f).Call(given)
	for i := range given {
		if !sameMemory(given[i], kept[i]) {
			t.Errorf("%s(%+v) modifies its argument %d to %+v", nameOf(f), args, i, given[i])
		}
	}
	results := make([]any, len(values))
	var spans []span
	for i, v := range values {
		results[i] = v.Interface()
		spans = appendSpans(spans, v)
	}
	for i, s := range spans {
		for _, a := range argSpans {
			if s.meets(a) {
				t.Errorf("%s(%+v) returns memory of an argument: %+v", nameOf(f), args, results)
			}
		}
		for _, r := range spans[:i] {
			if s.meets(r) && !s.text && !r.text {
				t.Errorf("%s(%+v) returns two slices that share memory: %+v", nameOf(f), args, results)
			}
		}
	}
	return results
}

func nameOf(f any) string {
	name := runtime.FuncForPC(reflect.ValueOf(f).Pointer()).Name()
	return name[strings.LastIndexByte(name, '.')+1:]
}

// span is the memory of a slice, up to its capacity, or of a string.
type span struct {
	from uintptr
	to   uintptr
	text bool
}

func (s span) meets(r span) bool { return s.from < r.to && r.from < s.to }

func appendSpans(spans []span, v reflect.Value) []span {
	switch v.Kind() {
	case reflect.String:
		at := uintptr(unsafe.Pointer(unsafe.StringData(v.String())))
		spans = append(spans, span{at, at + uintptr(v.Len()), true})
	case reflect.Slice:
		at := v.Pointer()
		spans = append(spans, span{at, at + uintptr(v.Cap())*v.Type().Elem().Size(), false})
		for i := range v.Len() {
			spans = appendSpans(spans, v.Index(i))
		}
	case reflect.Struct:
		for i := range v.NumField() {
			spans = appendSpans(spans, v.Field(i))
		}
	}
	return spans
}

// guarded copies a value: every string into bytes of its own, and every slice into a larger one
// whose elements beyond the length are not zero.
func guarded(v reflect.Value) reflect.Value {
	c := reflect.New(v.Type()).Elem()
	switch v.Kind() {
	case reflect.String:
		s, _ := volatile(v.String())
		c.SetString(s)
	case reflect.Slice:
		whole := reflect.MakeSlice(v.Type(), v.Len()+2, v.Len()+2)
		for i := range v.Len() + 2 {
			if i < v.Len() {
				whole.Index(i).Set(guarded(v.Index(i)))
			} else {
				whole.Index(i).Set(filled(v.Type().Elem()))
			}
		}
		c.Set(whole.Slice(0, v.Len()))
	case reflect.Struct:
		for i := range v.NumField() {
			c.Field(i).Set(guarded(v.Field(i)))
		}
	default:
		c.Set(v)
	}
	return c
}

// filled returns a value of a type that is not zero.
func filled(kind reflect.Type) reflect.Value {
	v := reflect.New(kind).Elem()
	switch kind.Kind() {
	case reflect.Int:
		v.SetInt(3)
	case reflect.String:
		v.SetString("beyond")
	case reflect.Bool:
		v.SetBool(true)
	case reflect.Uint8:
		v.SetUint(3)
	case reflect.Slice:
		v.Set(reflect.Append(v, filled(kind.Elem())))
	case reflect.Struct:
		for i := range v.NumField() {
			v.Field(i).Set(filled(kind.Field(i).Type))
		}
	}
	return v
}

// same compares two values; a nil slice and an empty one are equivalent.
func same(a reflect.Value, b reflect.Value) bool {
	if a.Type() != b.Type() {
		return false
	}
	switch a.Kind() {
	case reflect.Slice:
		if a.Len() != b.Len() {
			return false
		}
		for i := range a.Len() {
			if !same(a.Index(i), b.Index(i)) {
				return false
			}
		}
		return true
	case reflect.Struct:
		for i := range a.NumField() {
			if !same(a.Field(i), b.Field(i)) {
				return false
			}
		}
		return true
	}
	return a.Interface() == b.Interface()
}

// sameMemory is like same, but compares also the elements of slices beyond their lengths.
func sameMemory(a reflect.Value, b reflect.Value) bool {
	switch a.Kind() {
	case reflect.Slice:
		if a.Len() != b.Len() || a.Cap() != b.Cap() {
			return false
		}
		a, b = a.Slice(0, a.Cap()), b.Slice(0, b.Cap())
		for i := range a.Len() {
			if !sameMemory(a.Index(i), b.Index(i)) {
				return false
			}
		}
		return true
	case reflect.Struct:
		for i := range a.NumField() {
			if !sameMemory(a.Field(i), b.Field(i)) {
				return false
			}
		}
		return true
	}
	return a.Interface() == b.Interface()
}

func isZero(v reflect.Value) bool {
	switch v.Kind() {
	case reflect.Slice:
		return v.Len() == 0
	case reflect.Struct:
		for i := range v.NumField() {
			if !isZero(v.Field(i)) {
				return false
			}
		}
		return true
	}
	return v.IsZero()
}

// candidates lists, for every type, the arguments with which sweep calls functions.
type candidates map[reflect.Type][]any

func (c candidates) add(values ...any) {
	for _, v := range values {
		kind := reflect.TypeOf(v)
		c[kind] = append(c[kind], v)
	}
}

// sweep calls f with all combinations of candidates, or with an even sample of at most limit of
// them if there are more, and checks what promise 29 asks for. Arguments for which mustFail
// reports true must fail.
func sweep(t *testing.T, f any, c candidates, limit int, mustFail func(args []any) bool) {
	t.Helper()
	kind := reflect.TypeOf(f)
	total := 1
	for i := range kind.NumIn() {
		total *= len(c[kind.In(i)])
	}
	if total == 0 {
		t.Fatalf("no arguments for %s", nameOf(f))
	}
	// A step without a common factor with the total meets every candidate, not only the first ones.
	step := max(1, total/limit)
	for step > 1 && gcd(step, total) != 1 {
		step++
	}
	for k := range min(total, limit) {
		rest := k * step % total
		args := make([]any, kind.NumIn())
		for i := range args {
			list := c[kind.In(i)]
			args[i] = list[rest%len(list)]
			rest /= len(list)
		}
		results := call(t, f, args...)
		if mustFail(args) && slices.Contains(results, any(true)) {
			t.Errorf("%s(%+v) = %+v instead of a failure", nameOf(f), args, results)
		}
	}
}

func gcd(a int, b int) int {
	for b != 0 {
		a, b = b, a%b
	}
	return a
}
