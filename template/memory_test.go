package template_test

import (
	"reflect"
	"slices"
	"testing"
)

// plain is x without lists that are empty but not nil: both are lists without elements.
func plain[T any](x T) T {
	v := reflect.New(reflect.TypeOf(&x).Elem()).Elem()
	v.Set(copied(reflect.ValueOf(&x).Elem()))
	return v.Interface().(T)
}

// copied is v in memory of its own, what lies behind the lengths of its lists, too; lists without elements are nil.
func copied(v reflect.Value) reflect.Value {
	c := reflect.New(v.Type()).Elem()
	switch v.Kind() {
	case reflect.Slice:
		if v.Len() == 0 {
			return c
		}
		all := v.Slice3(0, v.Cap(), v.Cap())
		c.Set(reflect.MakeSlice(v.Type(), v.Cap(), v.Cap()))
		for i := range v.Cap() {
			c.Index(i).Set(copied(all.Index(i)))
		}
		c.Set(c.Slice(0, v.Len()))
	case reflect.Struct:
		for i := range v.NumField() {
			c.Field(i).Set(copied(v.Field(i)))
		}
	default:
		c.Set(v)
	}
	return c
}

// same is whether a and b are the same, but for lists without elements.
func same[T any](a, b T) bool {
	return reflect.DeepEqual(plain(a), plain(b))
}

// extent is where a list lies, with what is behind its length.
type extent struct{ from, to uintptr }

// extents is where all lists of v lie, in order of nothing.
func extents(v reflect.Value, l []extent) []extent {
	switch v.Kind() {
	case reflect.Slice:
		if v.Cap() > 0 && v.Type().Elem().Size() > 0 {
			p := v.Pointer()
			l = append(l, extent{p, p + uintptr(v.Cap())*v.Type().Elem().Size()})
		}
		for i := range v.Len() {
			l = extents(v.Index(i), l)
		}
	case reflect.Struct:
		for i := range v.NumField() {
			l = extents(v.Field(i), l)
		}
	}
	return l
}

// apart is whether no two lists of the answers share memory, and none of them any with an argument.
func apart(answers, args []any) bool {
	var own, other []extent
	for _, x := range answers {
		own = extents(reflect.ValueOf(x), own)
	}
	for _, x := range args {
		other = extents(reflect.ValueOf(x), other)
	}
	slices.SortFunc(own, func(a, b extent) int {
		if a.from < b.from {
			return -1
		}
		return 1
	})
	for i, x := range own {
		if i > 0 && own[i-1].to > x.from {
			return false
		}
		for _, y := range other {
			if x.from < y.to && y.from < x.to {
				return false
			}
		}
	}
	return true
}

// widened is v with room behind each of its lists, in which there is something.
func widened(v reflect.Value) reflect.Value {
	c := reflect.New(v.Type()).Elem()
	switch v.Kind() {
	case reflect.Slice:
		n := v.Len()
		c.Set(reflect.MakeSlice(v.Type(), n+3, n+3))
		for i := range n {
			c.Index(i).Set(widened(v.Index(i)))
		}
		for i := n; i < n+3; i++ {
			c.Index(i).Set(marked(v.Type().Elem()))
		}
		c.Set(c.Slice(0, n))
	case reflect.Struct:
		for i := range v.NumField() {
			c.Field(i).Set(widened(v.Field(i)))
		}
	default:
		c.Set(v)
	}
	return c
}

// marked is something of a type that is not its zero value.
func marked(t reflect.Type) reflect.Value {
	v := reflect.New(t).Elem()
	switch t.Kind() {
	case reflect.Struct:
		v.Field(0).Set(marked(t.Field(0).Type))
	case reflect.Array:
		v.Index(0).Set(marked(t.Elem()))
	case reflect.Uint8, reflect.Uint32, reflect.Uint64:
		v.SetUint(77)
	case reflect.Int64, reflect.Int:
		v.SetInt(77)
	}
	return v
}

// kept is whether do, which is handed roomy copies of the arguments, left them as they were, and answers what shares nothing; told twice it tells the same.
func kept(t *testing.T, what string, args []any, do func(args []any) []any) {
	t.Helper()
	var in []any
	for _, x := range args {
		in = append(in, widened(reflect.ValueOf(x)).Interface())
	}
	var was []any
	for _, x := range in {
		was = append(was, copied(reflect.ValueOf(x)).Interface())
	}
	answers := do(in)
	for i := range in {
		if !sameBehind(reflect.ValueOf(in[i]), reflect.ValueOf(was[i])) {
			t.Error(what, "changed argument", i)
		}
	}
	if !apart(answers, in) {
		t.Error(what, "shares memory")
	}
	again := do(in)
	for i := range answers {
		if !reflect.DeepEqual(copied(reflect.ValueOf(answers[i])).Interface(), copied(reflect.ValueOf(again[i])).Interface()) {
			t.Error(what, "told another answer when asked again", i)
		}
	}
}

// sameBehind is whether a and b are the same, with what is behind the lengths of their lists; lists without elements have nothing there.
func sameBehind(a, b reflect.Value) bool {
	switch a.Kind() {
	case reflect.Slice:
		if a.Len() != b.Len() {
			return false
		}
		if a.Len() == 0 {
			return true
		}
		a, b = a.Slice(0, a.Cap()), b.Slice(0, b.Cap())
		for i := range a.Len() {
			if !sameBehind(a.Index(i), b.Index(i)) {
				return false
			}
		}
		return true
	case reflect.Struct:
		for i := range a.NumField() {
			if !sameBehind(a.Field(i), b.Field(i)) {
				return false
			}
		}
		return true
	}
	return reflect.DeepEqual(a.Interface(), b.Interface())
}
