package tests

import (
	"fmt"
	"reflect"
	"runtime"
	"slices"
	"strings"
	"testing"
	"time"

	"loop.example/g01198/impl"
)

// Promise 11: every function accepts all arguments without panicking and
// modifies none of them.

// chapter1 are the functions of chapter 1 by their names.
func chapter1() map[string]any {
	return map[string]any{
		"IsWord":        impl.IsWord,
		"RangeOf":       impl.RangeOf,
		"FitNumber":     impl.FitNumber,
		"AddIn":         impl.AddIn,
		"LessIn":        impl.LessIn,
		"TimesIn":       impl.TimesIn,
		"RoundShift":    impl.RoundShift,
		"RestOfShift":   impl.RestOfShift,
		"IsSignal":      impl.IsSignal,
		"FitSignal":     impl.FitSignal,
		"CountUnfit":    impl.CountUnfit,
		"SumOfSignal":   impl.SumOfSignal,
		"EnergyOf":      impl.EnergyOf,
		"PeakOf":        impl.PeakOf,
		"AddSignals":    impl.AddSignals,
		"ScaleSignal":   impl.ScaleSignal,
		"DelaySignal":   impl.DelaySignal,
		"DifferencesOf": impl.DifferencesOf,
		"RunningSums":   impl.RunningSums,
		"SignalText":    impl.SignalText,
		"ParseSignal":   impl.ParseSignal,
	}
}

// chapter2 are the functions of chapter 2 by their names.
func chapter2() map[string]any {
	return map[string]any{
		"IsWeights":      impl.IsWeights,
		"FilterSignal":   impl.FilterSignal,
		"FilterShort":    impl.FilterShort,
		"FilterInWord":   impl.FilterInWord,
		"FilterAtEnd":    impl.FilterAtEnd,
		"TimesWeights":   impl.TimesWeights,
		"PowerWeights":   impl.PowerWeights,
		"DivideWeights":  impl.DivideWeights,
		"GainOf":         impl.GainOf,
		"GainAtHalf":     impl.GainAtHalf,
		"SizeGain":       impl.SizeGain,
		"IsSymmetric":    impl.IsSymmetric,
		"IsMirrored":     impl.IsMirrored,
		"BackWeights":    impl.BackWeights,
		"FoldedProducts": impl.FoldedProducts,
		"InverseAnswer":  impl.InverseAnswer,
		"BitsNeeded":     impl.BitsNeeded,
		"SpreadWeights":  impl.SpreadWeights,
	}
}

// chapter3 are the functions of chapter 3 by their names.
func chapter3() map[string]any {
	return map[string]any{
		"IsFirst":       impl.IsFirst,
		"FirstStep":     impl.FirstStep,
		"RunFirst":      impl.RunFirst,
		"ImpulseOf":     impl.ImpulseOf,
		"CountFits":     impl.CountFits,
		"FirstPeriod":   impl.FirstPeriod,
		"RestsOf":       impl.RestsOf,
		"CyclesOfFirst": impl.CyclesOfFirst,
		"DeadBand":      impl.DeadBand,
		"IsShrinking":   impl.IsShrinking,
		"GainOfFirst":   impl.GainOfFirst,
		"ExactFirst":    impl.ExactFirst,
		"ErrorBound":    impl.ErrorBound,
		"NumbersBefore": impl.NumbersBefore,
	}
}

// chapter4 are the functions of chapter 4 by their names.
func chapter4() map[string]any {
	return map[string]any{
		"IsSecond":       impl.IsSecond,
		"SecondStep":     impl.SecondStep,
		"RunSecond":      impl.RunSecond,
		"CountPairFits":  impl.CountPairFits,
		"PairPeriod":     impl.PairPeriod,
		"CycleOfPair":    impl.CycleOfPair,
		"PairCycles":     impl.PairCycles,
		"CountLasting":   impl.CountLasting,
		"PairBand":       impl.PairBand,
		"IsInTriangle":   impl.IsInTriangle,
		"RootsOf":        impl.RootsOf,
		"ExactSecond":    impl.ExactSecond,
		"PairsBefore":    impl.PairsBefore,
		"IsTurnable":     impl.IsTurnable,
		"SecondOfFirsts": impl.SecondOfFirsts,
	}
}

// chapter5 are the functions of chapter 5 by their names.
func chapter5() map[string]any {
	return map[string]any{
		"IsScaled":         impl.IsScaled,
		"OneBits":          impl.OneBits,
		"StatesOfBits":     impl.StatesOfBits,
		"SumGap":           impl.SumGap,
		"ConstantBits":     impl.ConstantBits,
		"PeriodOfConstant": impl.PeriodOfConstant,
		"OnesInPeriod":     impl.OnesInPeriod,
		"ConstantsOf":      impl.ConstantsOf,
		"IsBalancedList":   impl.IsBalancedList,
		"MovingSums":       impl.MovingSums,
		"RunsOf":           impl.RunsOf,
		"ShapeSignal":      impl.ShapeSignal,
		"ShapeErrors":      impl.ShapeErrors,
		"ShapedSums":       impl.ShapedSums,
		"GreatestShapeGap": impl.GreatestShapeGap,
		"TwoBits":          impl.TwoBits,
		"TwoStates":        impl.TwoStates,
	}
}

// chapter6 are the functions of chapter 6 by their names.
func chapter6() map[string]any {
	return map[string]any{
		"BoxAnswer":    impl.BoxAnswer,
		"CombGain":     impl.CombGain,
		"BitsForComb":  impl.BitsForComb,
		"DropSamples":  impl.DropSamples,
		"StuffZeros":   impl.StuffZeros,
		"ExactComb":    impl.ExactComb,
		"WrappedComb":  impl.WrappedComb,
		"WrappedSums":  impl.WrappedSums,
		"WrappedCombs": impl.WrappedCombs,
		"CountWraps":   impl.CountWraps,
		"ExactRise":    impl.ExactRise,
		"WrappedRise":  impl.WrappedRise,
		"LeastBits":    impl.LeastBits,
		"MeanBlocks":   impl.MeanBlocks,
		"BoxDroop":     impl.BoxDroop,
	}
}

// chapter7 are the functions of chapter 7 by their names.
func chapter7() map[string]any {
	return map[string]any{
		"AreParts":       impl.AreParts,
		"RunChain":       impl.RunChain,
		"ChainSignals":   impl.ChainSignals,
		"PeaksInside":    impl.PeaksInside,
		"FirstChainFit":  impl.FirstChainFit,
		"ExactChain":     impl.ExactChain,
		"ShiftOfChain":   impl.ShiftOfChain,
		"ChainError":     impl.ChainError,
		"OrderParts":     impl.OrderParts,
		"OrderError":     impl.OrderError,
		"BestOrder":      impl.BestOrder,
		"CountOutputs":   impl.CountOutputs,
		"WeightsOfChain": impl.WeightsOfChain,
		"ChainText":      impl.ChainText,
	}
}

// chapter8 are the functions of chapter 8 by their names.
func chapter8() map[string]any {
	return map[string]any{
		"LengthAfter":      impl.LengthAfter,
		"SourceOf":         impl.SourceOf,
		"HoldSamples":      impl.HoldSamples,
		"NearSamples":      impl.NearSamples,
		"LineSamples":      impl.LineSamples,
		"LinesOfSame":      impl.LinesOfSame,
		"PhasesOf":         impl.PhasesOf,
		"JoinPhases":       impl.JoinPhases,
		"UpFilterDown":     impl.UpFilterDown,
		"ByPhases":         impl.ByPhases,
		"ProductsDirect":   impl.ProductsDirect,
		"ProductsByPhases": impl.ProductsByPhases,
		"LeastRatio":       impl.LeastRatio,
		"DownFilter":       impl.DownFilter,
		"UpFilter":         impl.UpFilter,
		"TwoBands":         impl.TwoBands,
		"JoinBands":        impl.JoinBands,
	}
}

// chapter9 are the functions of chapter 9 by their names.
func chapter9() map[string]any {
	return map[string]any{
		"FourTone":      impl.FourTone,
		"FourPowers":    impl.FourPowers,
		"SixTone":       impl.SixTone,
		"SixPowers":     impl.SixPowers,
		"ToneOfPart":    impl.ToneOfPart,
		"ToneStates":    impl.ToneStates,
		"TonePower":     impl.TonePower,
		"StrongestPart": impl.StrongestPart,
		"StepBits":      impl.StepBits,
		"StepsOfBits":   impl.StepsOfBits,
		"StepValues":    impl.StepValues,
		"StepGaps":      impl.StepGaps,
		"GreatestGap":   impl.GreatestGap,
		"FixedBits":     impl.FixedBits,
		"FixedValues":   impl.FixedValues,
	}
}

// chapter10 are the functions of chapter 10 by their names.
func chapter10() map[string]any {
	return map[string]any{
		"FirstDesk":   impl.FirstDesk,
		"IsDesk":      impl.IsDesk,
		"DeskLine":    impl.DeskLine,
		"RunScript":   impl.RunScript,
		"DeskAfter":   impl.DeskAfter,
		"FailedLines": impl.FailedLines,
	}
}

// argumentsOf are the values that a parameter of a type is tried with.
func argumentsOf(t *testing.T, kind reflect.Type) []any {
	switch reflect.Zero(kind).Interface().(type) {
	case int:
		return []any{minInt, -impl.MaxNumber - 1, -impl.MaxSample, -8, -1, 0, 1, 2, 3, impl.MaxStages, impl.MaxStages + 1, 6, 7, impl.MaxRate, impl.MaxRate + 1, 20, 21, impl.MaxLong, impl.MaxLong + 1, 64, 65, impl.MaxBitList, impl.MaxScale, impl.MaxScale + 1, impl.MaxStep, impl.MaxStep + 1, impl.MaxNumber, maxInt}
	case []int:
		lists := []any{}
		for _, s := range slices.Concat(goodSignals(), badSignals(), goodWeights(), badWeights(), goodBits(), badBits(), someOrders()) {
			lists = append(lists, s)
		}
		return lists
	case [][]int:
		phases := []any{}
		for _, lists := range somePhases() {
			phases = append(phases, lists)
		}
		return phases
	case string:
		texts := []any{"", "-", "3,-1,4", "100001", "-0", ",", "\xff", strings.Repeat("1,", 1000), strings.Repeat("7", 1000)}
		for _, text := range slices.Concat(someLines(), someScripts()) {
			texts = append(texts, text)
		}
		return texts
	case impl.Desk:
		desks := []any{}
		for _, d := range slices.Concat(goodDesks(), badDesks()) {
			desks = append(desks, d)
		}
		return desks
	case impl.Word:
		words := []any{impl.Word{Bits: 2}, impl.Word{Bits: 4, Wrap: true}, impl.Word{Bits: 16}, impl.Word{Bits: 16, Wrap: true}}
		for _, w := range badWords {
			words = append(words, w)
		}
		return words
	case impl.First:
		filters := []any{impl.First{}}
		for _, f := range slices.Concat(someFirsts(), badFirsts()) {
			filters = append(filters, f)
		}
		return filters
	case []impl.First:
		chains := []any{}
		for _, parts := range someChains() {
			chains = append(chains, parts)
		}
		return chains
	case impl.Second:
		filters := []any{impl.Second{}}
		for _, f := range slices.Concat(someSeconds(), badSeconds()) {
			filters = append(filters, f)
		}
		return filters
	}
	t.Fatal("no arguments of", kind)
	return nil
}

// someFirsts are few filters that meet each limit, some with long cycles.
func someFirsts() []impl.First {
	return []impl.First{
		first(1, 1, impl.RoundDown, hold(4)),
		first(-3, 2, impl.RoundNear, hold(5)),
		first(0, 0, impl.RoundZero, wrap(2)),
		first(3, 0, impl.RoundDown, wrap(8)),
		first(1024, 10, impl.RoundNear, wrap(impl.MaxScan)),
		first(-1024, 0, impl.RoundDown, hold(impl.MaxScan+1)),
		first(1023, 10, impl.RoundZero, hold(16)),
		first(-1024, 10, impl.RoundNear, wrap(16)),
	}
}

// someSeconds are few filters that meet each limit, some with many or long cycles.
func someSeconds() []impl.Second {
	return []impl.Second{
		second(0, -2, 1, impl.RoundDown, wrap(4)),
		second(1, 1, 0, impl.RoundZero, wrap(2)),
		second(-3, 2, 2, impl.RoundNear, hold(5)),
		second(1024, -1024, 10, impl.RoundNear, wrap(impl.MaxPairBits)),
		second(0, 1, 0, impl.RoundDown, hold(impl.MaxPairBits)),
		second(-1024, 1024, 0, impl.RoundDown, hold(impl.MaxPairBits+1)),
		second(5, 3, 0, impl.RoundZero, wrap(10)),
		second(1023, 1, 10, impl.RoundZero, hold(11)),
		second(-1024, -1024, 10, impl.RoundNear, wrap(16)),
	}
}

// someChains are few parts that meet each limit, and few lists that are none.
func someChains() [][]impl.First {
	bad := first(1, 11, impl.RoundDown, hold(4))
	many := slices.Repeat(someFirsts()[:1], impl.MaxParts)
	return [][]impl.First{
		nil,
		{},
		exampleParts(impl.RoundDown),
		chain(none(wrap(4))),
		chain(sums(hold(8)), none(hold(4)), halving(1)),
		someFirsts()[:impl.MaxParts],
		someFirsts()[impl.MaxParts:],
		many,
		append(many, many[0]),
		{{}},
		chain(bad, many[0]),
		chain(many[0], bad, many[0]),
		chain(many[0], many[0], many[0], bad),
	}
}

// someOrders are orders of parts, and some that are none.
func someOrders() [][]int {
	return [][]int{{0, 1}, {1, 0}, {2, 0, 1}, {0, 1, 2, 3}, {1, 0, 3, 2}, {3, 2, 1, 0}, {0, 0}, {1, 2}, {-1, 0}, {0, 1, 2, 4}, {0, 1, 2, 3, 4}}
}

// somePhases are phases of weights, and some that are none.
func somePhases() [][][]int {
	ones := slices.Repeat([][]int{{1}}, impl.MaxRatio)
	return [][][]int{
		nil,
		{},
		{nil},
		{{}, {}},
		{{1, 3}, {2}},
		{{1}, {2}, {}, nil},
		{{1}, {2, 3}},
		{repeat(1000, impl.MaxWeights)},
		{repeat(1, impl.MaxWeights+1)},
		{repeat(1, 5), repeat(-1, 5)},
		{repeat(1, impl.MaxSignal+1)},
		{{1001}},
		{{impl.MaxSample + 1}, {minInt}},
		{{maxInt, 1}, {2}},
		ones,
		append([][]int{{1, 1}}, ones[1:]...),
		append([][]int{{1}}, ones...),
		make([][]int, impl.MaxRatio),
		make([][]int, 1000),
	}
}

// someLines are lines of the table with words at and past each limit, and lines
// that are none.
func someLines() []string {
	lines := append(goodLines(), " ", "fly", "show ", " show", "show\n", "word 17 wrap", "word 4 wraps", "signal -", "weigh -", strings.Repeat("x", impl.MaxScript), strings.Repeat("x", impl.MaxScript+1), strings.Repeat(" ", impl.MaxScript))
	for _, name := range commands() {
		for _, number := range []string{"0", "1", "2", "8", "10", "11", "64", "4096", "999999", "1000000", "-1", "-999999", "-9223372036854775808", ""} {
			line := strings.Join(otherWords(name, spokenLines()[name].kinds, number), " ")
			if !slices.Contains(lines, line) {
				lines = append(lines, line)
			}
		}
	}
	return lines
}

// someScripts meet each limit, and some are none.
func someScripts() []string {
	return []string{
		"\n",
		"\n\n",
		scriptOf(goodLines()),
		scriptOf(goodLines()) + "show",
		scriptOf(someLines()[:40]),
		strings.Repeat("sums\n", impl.MaxLines),
		strings.Repeat("sums\n", impl.MaxLines+1),
		strings.Repeat("hold 2 1\nsix\n", impl.MaxLines/2),
		padded(impl.MaxScript),
		padded(impl.MaxScript + 1),
		strings.Repeat("\n", impl.MaxScript),
		strings.Repeat("\xff", impl.MaxScript-1) + "\n",
		strings.Repeat("show\n", 100000),
	}
}

// fewArgumentsOf are so few that a function with many parameters can be tried
// with all combinations.
func fewArgumentsOf(t *testing.T, kind reflect.Type) []any {
	switch reflect.Zero(kind).Interface().(type) {
	case int:
		return []any{minInt, -1, 0, 1, 2, 3, impl.MaxStages, 6, 7, impl.MaxRate, impl.MaxRate + 1, 20, 21, impl.MaxLong, maxInt}
	case []int:
		return []any{[]int(nil), []int{}, []int{3, -1, 4}, []int{-1000, 1}, repeat(1, impl.MaxWeights), repeat(1, impl.MaxWeights+1), repeat(-5, impl.MaxSignal), repeat(0, impl.MaxSignal+1), []int{impl.MaxSample}, []int{1, maxInt}, []int{minInt}}
	case impl.Word:
		return []any{impl.Word{Bits: 2}, impl.Word{Bits: 4, Wrap: true}, impl.Word{Bits: 16}, impl.Word{}, impl.Word{Bits: maxInt}}
	case impl.Second:
		return []any{second(0, -2, 1, impl.RoundDown, wrap(4)), second(1, 1, 1, impl.RoundNear, hold(10)), second(-3, 2, 1, impl.RoundZero, wrap(impl.MaxPairBits)), second(1, -1, 1, impl.RoundDown, hold(16)), impl.Second{}, second(1025, 0, 0, impl.RoundDown, hold(4))}
	}
	t.Fatal("no arguments of", kind)
	return nil
}

// choicesOf are the arguments for each parameter of a function.
func choicesOf(t *testing.T, f reflect.Type) [][]any {
	choices := make([][]any, f.NumIn())
	for i := range choices {
		if f.NumIn() > 3 {
			choices[i] = fewArgumentsOf(t, f.In(i))
		} else {
			choices[i] = argumentsOf(t, f.In(i))
		}
	}
	return choices
}

// combinations calls visit with each list of one value for each parameter.
func combinations(choices [][]any, visit func([]any)) {
	chosen := make([]any, len(choices))
	var choose func(i int)
	choose = func(i int) {
		if i == len(choices) {
			visit(chosen)
			return
		}
		for _, v := range choices[i] {
			chosen[i] = v
			choose(i + 1)
		}
	}
	choose(0)
}

const spare = 210
const mark = 424242

var partMark = impl.First{A: mark}

// withRoom copies a list and puts marks into the room behind its length.
func withRoom(s []int) []int {
	return withMarks(s, mark)
}

func withMarks[T any](s []T, mark T) []T {
	return slices.Concat(s, slices.Repeat([]T{mark}, spare))[:len(s)]
}

func overwrite[T any](s []T, x T) {
	s = s[:cap(s)]
	for i := range s {
		s[i] = x
	}
}

// isChanged reports whether a list withMarks is another one now, or its marks are.
func isChanged[T comparable](now []T, before []T, mark T) bool {
	return !slices.Equal(now[:len(before)+spare], withMarks(before, mark)[:len(before)+spare])
}

// withRooms copies lists and puts marks into the room behind each of them, and
// behind all.
func withRooms(lists [][]int) [][]int {
	rooms := withMarks(lists, []int{mark})
	for i, list := range rooms {
		if list != nil {
			rooms[i] = withRoom(list)
		}
	}
	return rooms
}

// areChanged reports whether lists withRooms are other ones now, or their marks are.
func areChanged(now [][]int, before [][]int) bool {
	for i, list := range before {
		if list == nil && now[i] != nil || list != nil && isChanged(now[i], list, mark) {
			return true
		}
	}
	return slices.ContainsFunc(now[len(before):len(before)+spare], func(list []int) bool {
		return !slices.Equal(list, []int{mark})
	})
}

// callOnce calls f with copies of the arguments, and returns a text of the
// results and how the call broke the promise, if it did.
func callOnce(f reflect.Value, arguments []any) (results string, broken string) {
	defer func() {
		if p := recover(); p != nil {
			broken = fmt.Sprint("panic: ", p)
		}
	}()
	in := make([]reflect.Value, len(arguments))
	for i, a := range arguments {
		switch s := a.(type) {
		case []int:
			if s != nil {
				a = withRoom(s)
			}
		case []impl.First:
			if s != nil {
				a = withMarks(s, partMark)
			}
		case [][]int:
			if s != nil {
				a = withRooms(s)
			}
		case impl.Desk:
			if s.Signal != nil {
				a = impl.Desk{Signal: withRoom(s.Signal), Word: s.Word}
			}
		}
		in[i] = reflect.ValueOf(a)
	}
	out := f.Call(in)
	for _, o := range out {
		results += fmt.Sprint(o.Interface(), " ")
	}
	broken = brokenBy(in, arguments, "changed argument")
	if broken == "" && !zeroIfFailed(out) {
		broken = "a failed call with a result: " + results
	}
	var lists [][]int
	for _, o := range out {
		switch s := o.Interface().(type) {
		case []int:
			lists = append(lists, s)
		case []impl.First:
			overwrite(s, impl.First{A: -mark})
		case [][]int:
			lists = append(lists, s...)
			overwrite(s, []int{-mark})
		case impl.Desk:
			lists = append(lists, s.Signal)
		}
	}
	if broken == "" {
		broken = sharedBy(lists)
	}
	if broken == "" {
		broken = brokenBy(in, arguments, "memory shared with argument")
	}
	return results, broken
}

// sharedBy overwrites each list, with the room behind it, and tells whether
// this changes another one.
func sharedBy(lists [][]int) string {
	for i, list := range lists {
		overwrite(list, -mark-i)
		for j, other := range lists {
			if j != i && slices.Contains(other, -mark-i) {
				return fmt.Sprint("lists share memory: ", i, " ", j)
			}
		}
	}
	return ""
}

func brokenBy(in []reflect.Value, arguments []any, what string) string {
	for i, a := range arguments {
		changed := false
		switch before := a.(type) {
		case []int:
			changed = before != nil && isChanged(in[i].Interface().([]int), before, mark)
		case []impl.First:
			changed = before != nil && isChanged(in[i].Interface().([]impl.First), before, partMark)
		case [][]int:
			changed = before != nil && areChanged(in[i].Interface().([][]int), before)
		case impl.Desk:
			changed = before.Signal != nil && isChanged(in[i].Interface().(impl.Desk).Signal, before.Signal, mark)
		}
		if changed {
			return fmt.Sprint(what, " ", i)
		}
	}
	return ""
}

func zeroIfFailed(out []reflect.Value) bool {
	last := out[len(out)-1]
	if last.Kind() != reflect.Bool || last.Bool() {
		return true
	}
	for _, o := range out {
		if !o.IsZero() && !(o.Kind() == reflect.Slice && o.Len() == 0) {
			return false
		}
	}
	return true
}

func checkPromise11(t *testing.T, functions map[string]any) {
	for name, function := range functions {
		t.Run(name, func(t *testing.T) {
			f := reflect.ValueOf(function)
			combinations(choicesOf(t, f.Type()), func(arguments []any) {
				first, broken := callOnce(f, arguments)
				if broken != "" {
					t.Errorf("%s%v: %s", name, arguments, broken)
				}
				if again, _ := callOnce(f, arguments); again != first {
					t.Errorf("%s%v: first %s, then %s", name, arguments, first, again)
				}
			})
		})
	}
}

func TestPromise11Chapter1(t *testing.T) {
	checkPromise11(t, chapter1())
}

func TestPromise11Chapter2(t *testing.T) {
	checkPromise11(t, chapter2())
}

func TestPromise11Chapter3(t *testing.T) {
	checkPromise11(t, chapter3())
}

func TestPromise11Chapter4(t *testing.T) {
	checkPromise11(t, chapter4())
}

func TestPromise11Chapter5(t *testing.T) {
	checkPromise11(t, chapter5())
}

func TestPromise11Chapter6(t *testing.T) {
	checkPromise11(t, chapter6())
}

func TestPromise11Chapter7(t *testing.T) {
	checkPromise11(t, chapter7())
}

func TestPromise11Chapter8(t *testing.T) {
	checkPromise11(t, chapter8())
}

func TestPromise11Chapter9(t *testing.T) {
	checkPromise11(t, chapter9())
}

func TestPromise11Chapter10(t *testing.T) {
	checkPromise11(t, chapter10())
}

// Each part ends its work with the call, also where a later one fails before it.
func TestPromise11NoPartGoesOn(t *testing.T) {
	before := runtime.NumGoroutine()
	parts := chain(none(hold(4)), scaling(0), scaling(1024), scaling(1))
	s := append([]int{impl.MaxSample}, repeat(1, impl.MaxSignal-1)...)
	for range 100 {
		for length := 1; length <= impl.MaxParts; length++ {
			impl.RunChain(parts[:length], s)
			list, ok := impl.ExactChain(parts[:length], s)
			wantListIf(t, "exact", list, ok, s, length < 3)
		}
	}
	for range 500 {
		if runtime.NumGoroutine() <= before {
			return
		}
		time.Sleep(10 * time.Millisecond)
	}
	t.Error("parts go on:", before, runtime.NumGoroutine())
}

// The same list twice: a function must not write into one by the other.
func TestPromise11SameListTwice(t *testing.T) {
	s := withRoom([]int{3, -1, 4})
	list, ok := impl.AddSignals(s, s)
	wantList(t, "sum", list, ok, []int{6, -2, 8})
	list, ok = impl.AddSignals(s[:1], s)
	wantList(t, "sum", list, ok, []int{6, -1, 4})
	list, ok = impl.FilterSignal(s[:2], s)
	wantList(t, "answer", list, ok, []int{9, -6, 13, -4})
	list, ok = impl.FilterShort(s, s[1:])
	wantList(t, "short answer", list, ok, []int{-3, 13})
	list, ok = impl.TimesWeights(s, s)
	wantList(t, "product", list, ok, []int{9, -6, 25, -8, 16})
	list, ok = impl.DivideWeights(s, s[:1])
	wantNoList(t, "quotient", list, ok)
	list, ok = impl.DivideWeights(s, s)
	wantList(t, "quotient", list, ok, []int{1})
	wantList(t, "argument", s[:3+spare], true, slices.Concat([]int{3, -1, 4}, repeat(mark, spare)))
	order := []int{1, 0}
	a, b, ok := impl.OrderError(exampleParts(impl.RoundDown), order, order)
	wantTwo(t, "order error", a, b, ok, 1, 1)
	wantList(t, "argument", order, true, []int{1, 0})
	list, ok = impl.ByPhases(s, s, 2, 1)
	wantList(t, "by phases", list, ok, []int{9, -3, 9, 1, 8, -4})
	list, ok = impl.UpFilterDown(s, s, 2, 1)
	wantList(t, "filtered", list, ok, []int{9, -3, 9, 1, 8, -4})
	list, ok = impl.JoinPhases([][]int{s, s})
	wantList(t, "joined phases", list, ok, []int{3, 3, -1, -1, 4, 4})
	list, ok = impl.JoinPhases([][]int{s, s[:2]})
	wantList(t, "joined phases", list, ok, []int{3, 3, -1, -1, 4})
	list, ok = impl.JoinBands(s, s)
	wantList(t, "joined bands", list, ok, []int{5, 2, -1, 0, 6, 2})
	wantList(t, "argument", s[:3+spare], true, slices.Concat([]int{3, -1, 4}, repeat(mark, spare)))
}
