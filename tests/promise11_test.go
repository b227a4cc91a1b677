package tests

import (
	"fmt"
	"reflect"
	"slices"
	"strings"
	"testing"

	"loop.example/g01198/impl"
)

// Promise 11: every function accepts all arguments without panicking and
// modifies none of them.

// chapter1 are the functions of chapter 1 by their names.
func chapter1() map[string]any {
	return map[string]any{
		"IsWord":        impl.IsWord,
		"RangeOf":       impl.RangeOf,
		"FitNumber":     impl.FitNumber,
		"AddIn":         impl.AddIn,
		"LessIn":        impl.LessIn,
		"TimesIn":       impl.TimesIn,
		"RoundShift":    impl.RoundShift,
		"RestOfShift":   impl.RestOfShift,
		"IsSignal":      impl.IsSignal,
		"FitSignal":     impl.FitSignal,
		"CountUnfit":    impl.CountUnfit,
		"SumOfSignal":   impl.SumOfSignal,
		"EnergyOf":      impl.EnergyOf,
		"PeakOf":        impl.PeakOf,
		"AddSignals":    impl.AddSignals,
		"ScaleSignal":   impl.ScaleSignal,
		"DelaySignal":   impl.DelaySignal,
		"DifferencesOf": impl.DifferencesOf,
		"RunningSums":   impl.RunningSums,
		"SignalText":    impl.SignalText,
		"ParseSignal":   impl.ParseSignal,
	}
}

// argumentsOf are the values that a parameter of a type is tried with.
func argumentsOf(t *testing.T, kind reflect.Type) []any {
	switch reflect.Zero(kind).Interface().(type) {
	case int:
		return []any{minInt, -impl.MaxNumber - 1, -impl.MaxSample, -8, -1, 0, 1, 2, 7, 20, 21, 64, 65, impl.MaxNumber, maxInt}
	case []int:
		lists := []any{}
		for _, s := range slices.Concat(goodSignals(), badSignals()) {
			lists = append(lists, s)
		}
		return lists
	case string:
		return []any{"", "-", "3,-1,4", "100001", "-0", ",", "\xff", strings.Repeat("1,", 1000), strings.Repeat("7", 1000)}
	case impl.Word:
		words := []any{impl.Word{Bits: 2}, impl.Word{Bits: 4, Wrap: true}, impl.Word{Bits: 16}, impl.Word{Bits: 16, Wrap: true}}
		for _, w := range badWords {
			words = append(words, w)
		}
		return words
	}
	t.Fatal("no arguments of", kind)
	return nil
}

// combinations calls visit with each list of one value for each parameter.
func combinations(choices [][]any, visit func([]any)) {
	chosen := make([]any, len(choices))
	var choose func(i int)
	choose = func(i int) {
		if i == len(choices) {
			visit(chosen)
			return
		}
		for _, v := range choices[i] {
			chosen[i] = v
			choose(i + 1)
		}
	}
	choose(0)
}

const spare = 70
const mark = 424242

// withRoom copies a list and puts marks into the room behind its length.
func withRoom(s []int) []int {
	return slices.Concat(s, repeat(mark, spare))[:len(s)]
}

func overwrite(s []int) {
	s = s[:cap(s)]
	for i := range s {
		s[i] = -mark
	}
}

// callOnce calls f with copies of the arguments, and returns a text of the
// results and how the call broke the promise, if it did.
func callOnce(f reflect.Value, arguments []any) (results string, broken string) {
	defer func() {
		if p := recover(); p != nil {
			broken = fmt.Sprint("panic: ", p)
		}
	}()
	in := make([]reflect.Value, len(arguments))
	for i, a := range arguments {
		if s, ok := a.([]int); ok && s != nil {
			a = withRoom(s)
		}
		in[i] = reflect.ValueOf(a)
	}
	out := f.Call(in)
	for _, o := range out {
		results += fmt.Sprint(o.Interface(), " ")
	}
	broken = brokenBy(in, arguments, "changed argument")
	if broken == "" && !zeroIfFailed(out) {
		broken = "a failed call with a result: " + results
	}
	for _, o := range out {
		if s, ok := o.Interface().([]int); ok {
			overwrite(s)
		}
	}
	if broken == "" {
		broken = brokenBy(in, arguments, "memory shared with argument")
	}
	return results, broken
}

func brokenBy(in []reflect.Value, arguments []any, what string) string {
	for i, a := range arguments {
		before, ok := a.([]int)
		if !ok || before == nil {
			continue
		}
		now := in[i].Interface().([]int)
		if !slices.Equal(now[:len(now)+spare], slices.Concat(before, repeat(mark, spare))) {
			return fmt.Sprint(what, " ", i)
		}
	}
	return ""
}

func zeroIfFailed(out []reflect.Value) bool {
	if out[len(out)-1].Bool() {
		return true
	}
	for _, o := range out {
		if !o.IsZero() && !(o.Kind() == reflect.Slice && o.Len() == 0) {
			return false
		}
	}
	return true
}

func TestPromise11Chapter1(t *testing.T) {
	for name, function := range chapter1() {
		t.Run(name, func(t *testing.T) {
			f := reflect.ValueOf(function)
			choices := make([][]any, f.Type().NumIn())
			for i := range choices {
				choices[i] = argumentsOf(t, f.Type().In(i))
			}
			combinations(choices, func(arguments []any) {
				first, broken := callOnce(f, arguments)
				if broken != "" {
					t.Errorf("%s%v: %s", name, arguments, broken)
				}
				if again, _ := callOnce(f, arguments); again != first {
					t.Errorf("%s%v: first %s, then %s", name, arguments, first, again)
				}
			})
		})
	}
}

// The same list twice: a function must not write into one by the other.
func TestPromise11SameSignalTwice(t *testing.T) {
	s := withRoom([]int{3, -1, 4})
	list, ok := impl.AddSignals(s, s)
	wantList(t, "sum", list, ok, []int{6, -2, 8})
	list, ok = impl.AddSignals(s[:1], s)
	wantList(t, "sum", list, ok, []int{6, -1, 4})
	wantList(t, "argument", s, true, []int{3, -1, 4})
}
