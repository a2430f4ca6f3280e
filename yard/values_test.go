package yard_test

import (
	"reflect"
	"testing"

	"thatch/api"
)

// What can be done with values of any type.

// copied is a value with copies of all its lists.
func copied[T any](x T) T {
	return copyOf(reflect.ValueOf(&x).Elem()).Interface().(T)
}

func copyOf(v reflect.Value) reflect.Value {
	c := reflect.New(v.Type()).Elem()
	c.Set(v)
	switch v.Kind() {
	case reflect.Slice:
		if v.IsNil() {
			return c
		}
		c.Set(reflect.MakeSlice(v.Type(), v.Len(), v.Len()))
		for i := range v.Len() {
			c.Index(i).Set(copyOf(v.Index(i)))
		}
	case reflect.Struct:
		for i := range v.NumField() {
			c.Field(i).Set(copyOf(v.Field(i)))
		}
	}
	return c
}

// same reports whether two values are equal. A nil list is an empty one.
func same(a, b any) bool { return isSame(reflect.ValueOf(a), reflect.ValueOf(b)) }

func isSame(a, b reflect.Value) bool {
	if a.Type() != b.Type() {
		return false
	}
	switch a.Kind() {
	case reflect.Slice:
		if a.Len() != b.Len() {
			return false
		}
		for i := range a.Len() {
			if !isSame(a.Index(i), b.Index(i)) {
				return false
			}
		}
		return true
	case reflect.Struct:
		for i := range a.NumField() {
			if !isSame(a.Field(i), b.Field(i)) {
				return false
			}
		}
		return true
	default:
		return a.Interface() == b.Interface()
	}
}

// isNothing reports whether a value is the zero value of its type. An empty list is.
func isNothing(x any) bool {
	v := reflect.ValueOf(x)
	return isSame(v, reflect.Zero(v.Type()))
}

// room is the memory of a list, from one address up to another one.
type room struct{ from, to uintptr }

// rooms returns the memory of all lists in a value, with what they have room for.
func rooms(v reflect.Value) []room {
	var list []room
	switch v.Kind() {
	case reflect.Slice:
		if size := uintptr(v.Cap()) * v.Type().Elem().Size(); size > 0 {
			list = append(list, room{v.Pointer(), v.Pointer() + size})
		}
		for i := range v.Len() {
			list = append(list, rooms(v.Index(i))...)
		}
	case reflect.Struct:
		for i := range v.NumField() {
			list = append(list, rooms(v.Field(i))...)
		}
	}
	return list
}

// shareNothing makes sure that no two lists in some values have memory in common.
func shareNothing(t *testing.T, values ...any) {
	t.Helper()
	var all []room
	for _, x := range values {
		for _, r := range rooms(reflect.ValueOf(x)) {
			for _, o := range all {
				if r.from < o.to && o.from < r.to {
					t.Fatalf("shared memory: %T %v", x, x)
				}
			}
			all = append(all, r)
		}
	}
}

func TestValues(t *testing.T) {
	p := api.Paper{Numbers: list(1, 2), Plan: [][]int{list(3)}, Sites: nil}
	c := copied(p)
	if !same(p, c) {
		t.Error(c)
	}
	shareNothing(t, p, c)
	c.Sites = list()
	if !same(p, c) || isNothing(c) || !isNothing(list()) || !isNothing(api.Paper{Plan: [][]int{}}) {
		t.Error(c)
	}
	c.Plan[0][0] = 4
	if same(p, c) || p.Plan[0][0] != 3 || same(1, "1") {
		t.Error(p, c)
	}
}
