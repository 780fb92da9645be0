package tests

import (
	"fmt"
	"math/rand"
	"reflect"
	"slices"
	"testing"
)

// contract says of a function of the program for which arguments it fails. The arguments that
// valid and draw return have room behind their lists, which the function must not touch.
type contract struct {
	name   string
	f      any
	valid  []any                    // arguments for which it does not fail
	wrong  [][]any                  // for each argument values with which it fails, whatever the others are
	misfit [][]any                  // whole lists of arguments that are valid one by one, but not together
	draw   func(r *rand.Rand) []any // any arguments, mostly valid ones
}

// values returns the values as a list of any, in which each keeps its type.
func values[T any](list ...T) []any {
	all := []any{}
	for _, value := range list {
		all = append(all, value)
	}
	return all
}

// callWith calls a function with arguments of its types, and returns its results.
func callWith(f any, arguments []any) []any {
	in := []reflect.Value{}
	for _, argument := range arguments {
		in = append(in, reflect.ValueOf(argument))
	}
	results := []any{}
	for _, result := range reflect.ValueOf(f).Call(in) {
		results = append(results, result.Interface())
	}
	return results
}

// checkCall calls a function twice, and checks that it returns, the same both times, that it
// changes no argument, that its results lie in memory of their own, and that they are zero
// values if it fails. It returns whether the function did not fail.
func checkCall(t *testing.T, name string, f any, arguments []any) bool {
	t.Helper()
	done := false
	before := pictureOf(arguments)
	mustReturn(t, name, func() {
		results := callWith(f, arguments)
		text := fmt.Sprint(results)
		done = !failed(results)
		if !done && !areZero(results) {
			t.Errorf("%s fails with %.200s", name, text)
		}
		if sharesMemory(results, arguments) {
			t.Errorf("%s shares memory: %.200s", name, text)
		}
		overwrite(results)
		if pictureOf(arguments) != before {
			t.Errorf("%s changes its arguments %.200v", name, arguments)
		}
		if again := fmt.Sprint(callWith(f, arguments)); again != text {
			t.Errorf("%s gives %.200s, and then %.200s", name, text, again)
		}
	})
	return done
}

// checkContract checks that a function does not fail for its valid arguments, and that it does
// for each wrong one beside them, and for each misfit.
func checkContract(t *testing.T, c contract) {
	if !checkCall(t, c.name, c.f, c.valid) {
		t.Errorf("%s fails for %.200v", c.name, c.valid)
	}
	if len(c.wrong) != len(c.valid) {
		t.Errorf("%s has %d arguments, and %d lists of wrong ones", c.name, len(c.valid), len(c.wrong))
	}
	for i, list := range c.wrong {
		for _, value := range list {
			arguments := slices.Clone(c.valid)
			arguments[i] = value
			if checkCall(t, c.name, c.f, arguments) {
				t.Errorf("%s takes its argument %d: %.200v", c.name, i, value)
			}
		}
	}
	for _, arguments := range c.misfit {
		if checkCall(t, c.name, c.f, arguments) {
			t.Errorf("%s takes %.200v", c.name, arguments)
		}
	}
}

// checkDraws calls a function with many drawn arguments, of which some are made wrong, and
// checks that a part of these calls fails and another one does not.
func checkDraws(t *testing.T, c contract, seed int64, times int) {
	r := rand.New(rand.NewSource(seed))
	done := 0
	for range times {
		arguments := c.draw(r)
		if i := r.Intn(len(arguments)); r.Intn(4) == 0 && len(c.wrong[i]) > 0 {
			arguments[i] = c.wrong[i][r.Intn(len(c.wrong[i]))]
		}
		if checkCall(t, c.name, c.f, arguments) {
			done++
		}
	}
	if done < times/10 || done > times-times/10 {
		t.Errorf("%s was done %d times of %d", c.name, done, times)
	}
}
