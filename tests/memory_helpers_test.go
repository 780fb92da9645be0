package tests

import (
	"fmt"
	"reflect"
	"slices"
	"strings"

	"loop.example/g01135/impl"
)

// The functions of this file look at the results of any function of the program: whether it
// failed, and in what memory its results and its arguments lie.

func resultsOf(results ...any) []any { return results }

func failed(results []any) bool { return results[len(results)-1] == false }

// areZero tells whether all results but the last one are zero values.
func areZero(results []any) bool {
	for _, result := range results[:len(results)-1] {
		if !sameText(result, reflect.Zero(reflect.TypeOf(result))) {
			return false
		}
	}
	return true
}

// roomy returns a copy of a list that has room behind its end, which a function could write to.
func roomy[T any](list []T, rest T) []T {
	room := append(slices.Clone(list), rest, rest, rest)
	return room[:len(list):len(room)]
}

func roomySample(s impl.Sample) impl.Sample {
	points := [][]int{}
	for _, x := range s.Points {
		points = append(points, roomy(x, 77))
	}
	return impl.Sample{Points: roomy(points, []int{78}), Labels: roomy(s.Labels, 79)}
}

// span is the memory of a slice, from its first byte to that behind its room.
type span struct{ from, to uintptr }

// walk calls a function for each slice of a value, with its elements up to its room.
func walk(v reflect.Value, visit func(v reflect.Value)) {
	switch v.Kind() {
	case reflect.Slice:
		v = v.Slice(0, v.Cap())
		visit(v)
		for i := range v.Len() {
			walk(v.Index(i), visit)
		}
	case reflect.Struct:
		for i := range v.NumField() {
			walk(v.Field(i), visit)
		}
	}
}

func spansOf(values ...any) []span {
	list := []span{}
	for _, value := range values {
		walk(reflect.ValueOf(value), func(v reflect.Value) {
			if v.Cap() > 0 {
				list = append(list, span{v.Pointer(), v.Pointer() + uintptr(v.Cap())*v.Type().Elem().Size()})
			}
		})
	}
	return list
}

// pictureOf returns a text of all slices of arguments, with what stands in their room.
func pictureOf(arguments []any) string {
	text := strings.Builder{}
	for _, value := range arguments {
		walk(reflect.ValueOf(value), func(v reflect.Value) { fmt.Fprint(&text, v.Len(), v, ";") })
	}
	return text.String() + fmt.Sprint(arguments)
}

// overwrite puts other numbers into all slices of results.
func overwrite(results []any) {
	for _, result := range results {
		walk(reflect.ValueOf(result), func(v reflect.Value) {
			for i := range v.Len() {
				overwriteNumbers(v.Index(i))
			}
		})
	}
}

// overwriteNumbers puts another number into a number, and into all those of an array.
func overwriteNumbers(v reflect.Value) {
	switch v.Kind() {
	case reflect.Int:
		v.SetInt(-55)
	case reflect.Array:
		for i := range v.Len() {
			overwriteNumbers(v.Index(i))
		}
	}
}

// sharesMemory tells whether two slices of results, or one of results and one of arguments, lie
// in the same memory.
func sharesMemory(results []any, arguments []any) bool {
	own, others := spansOf(results...), spansOf(arguments...)
	for i, a := range own {
		for _, b := range slices.Concat(own[:i], others) {
			if a.from < b.to && b.from < a.to {
				return true
			}
		}
	}
	return false
}
