package tests

import (
	"go/ast"
	"go/parser"
	"go/token"
	"math"
	"reflect"
	"strings"
	"testing"

	"loop.example/g01336/impl"
)

// Promise 11: every function accepts all arguments without panicking and modifies none of them.

func functionsOfChapter1() map[string]any {
	return map[string]any{
		"IsStreet": impl.IsStreet, "HousesOf": impl.HousesOf, "NumberAt": impl.NumberAt, "PlotOf": impl.PlotOf,
		"OppositeOf": impl.OppositeOf, "NextHouses": impl.NextHouses, "WalkBetween": impl.WalkBetween,
		"SideNumbers": impl.SideNumbers, "SideSum": impl.SideSum, "DigitsOnPlates": impl.DigitsOnPlates,
		"CountDigit": impl.CountDigit, "LastWithDigits": impl.LastWithDigits, "PlatesFrom": impl.PlatesFrom,
		"BalancedHouse": impl.BalancedHouse, "BalancedStreets": impl.BalancedStreets, "SumBetween": impl.SumBetween,
		"RangesWithSum": impl.RangesWithSum, "StreetText": impl.StreetText, "ParseStreet": impl.ParseStreet,
	}
}

func someInts() []any {
	return []any{
		math.MinInt, math.MinInt + 1, -1000000, -1, 0, 1, 2, 5, 8, 9, 10, 11, 15, 1000, 1001,
		100000, 100001, 1000000, 1000001, math.MaxInt32 + 1, math.MaxInt - 1, math.MaxInt,
	}
}

func manyStreets() []any {
	var streets []any
	for _, kind := range []int{math.MinInt, -1, 0, 1, 2, 3, math.MaxInt} {
		for _, plots := range []int{math.MinInt, -1, 0, 1, 2, 5, 1000, 1001, math.MaxInt} {
			streets = append(streets, impl.Street{Kind: kind, Plots: plots})
		}
	}
	return streets
}

// someLists are given with room behind their ends, where a function that appends to an argument would write.
func someLists() []any {
	lists := []any{[]int(nil), []int{}}
	for _, number := range []int{math.MinInt, -1, 0, 1, 20, 100000, 100001, math.MaxInt} {
		for _, length := range []int{1, 2, 9, 10, 11, 1000} {
			list := make([]int, length, length+7)
			for i := range list[:cap(list)] {
				list[:cap(list)][i] = number
			}
			lists = append(lists, list)
		}
	}
	return append(lists, []int{9, 8, 7, 6, 5, 4, 3, 20, 1, 0})
}

func someTexts() []any {
	return []any{
		"", "r", "o5", "u1000", "u1001", "r0", "o05", "o-5", "5", " ", "\n", "\x00", "\xff", "o\xff\xfe5", "ö5", "o５",
		"u99999999999999999999", strings.Repeat("o", 5000), "u" + strings.Repeat("9", 5000), "r" + strings.Repeat("0", 5000) + "1",
	}
}

func valuesOf(t *testing.T, kind reflect.Type) []any {
	t.Helper()
	switch kind {
	case reflect.TypeFor[int]():
		return someInts()
	case reflect.TypeFor[impl.Street]():
		return manyStreets()
	case reflect.TypeFor[[]int]():
		return someLists()
	case reflect.TypeFor[string]():
		return someTexts()
	}
	t.Fatalf("no values of type %v", kind)
	return nil
}

// eachCall calls visit with every choice of arguments for a function.
func eachCall(t *testing.T, function reflect.Value, visit func(arguments []reflect.Value)) {
	t.Helper()
	choices := make([][]any, function.Type().NumIn())
	for i := range choices {
		choices[i] = valuesOf(t, function.Type().In(i))
	}
	arguments := make([]reflect.Value, len(choices))
	var choose func(i int)
	choose = func(i int) {
		if i == len(choices) {
			visit(arguments)
			return
		}
		for _, value := range choices[i] {
			arguments[i] = reflect.ValueOf(value)
			choose(i + 1)
		}
	}
	choose(0)
}

// kept copies lists with what is behind their ends.
func kept(arguments []reflect.Value) []any {
	var copies []any
	for _, argument := range arguments {
		if list, ok := argument.Interface().([]int); ok {
			copies = append(copies, append([]int(nil), list[:cap(list)]...))
			continue
		}
		copies = append(copies, argument.Interface())
	}
	return copies
}

type region struct{ from, to uintptr }

// regionsOf returns the memory behind all the lists in a value, up to their capacity.
func regionsOf(v reflect.Value) []region {
	if v.Kind() != reflect.Slice {
		return nil
	}
	var found []region
	if v.Cap() > 0 {
		found = append(found, region{v.Pointer(), v.Pointer() + uintptr(v.Cap())*v.Type().Elem().Size()})
	}
	for i := range v.Len() {
		found = append(found, regionsOf(v.Index(i))...)
	}
	return found
}

func regionsOfAll(values ...[]reflect.Value) []region {
	var found []region
	for _, list := range values {
		for _, v := range list {
			found = append(found, regionsOf(v)...)
		}
	}
	return found
}

func doOverlap(regions []region) bool {
	for i, a := range regions {
		for _, b := range regions[:i] {
			if a.from < b.to && b.from < a.to {
				return true
			}
		}
	}
	return false
}

func isNothing(v reflect.Value) bool {
	return v.IsZero() || v.Kind() == reflect.Slice && v.Len() == 0
}

func interfacesOf(values []reflect.Value) []any {
	var list []any
	for _, v := range values {
		list = append(list, v.Interface())
	}
	return list
}

// callSafely returns the results of a call, or what it panicked with.
func callSafely(function reflect.Value, arguments []reflect.Value) (results []reflect.Value, panicked any) {
	defer func() { panicked = recover() }()
	return function.Call(arguments), nil
}

func TestFunctionsOfChapter1AcceptAllArguments(t *testing.T) {
	for name, f := range functionsOfChapter1() {
		function := reflect.ValueOf(f)
		succeeded, failed := 0, 0
		eachCall(t, function, func(arguments []reflect.Value) {
			before := kept(arguments)
			results, panicked := callSafely(function, arguments)
			if panicked != nil {
				t.Fatalf("%s%v panics: %v", name, interfacesOf(arguments), panicked)
			}
			if !reflect.DeepEqual(before, kept(arguments)) {
				t.Fatalf("%s changes %v to %v", name, before, kept(arguments))
			}
			last := len(results) - 1
			if results[last].Bool() {
				succeeded++
				return
			}
			failed++
			for _, v := range results[:last] {
				if !isNothing(v) {
					t.Fatalf("%s%v fails with %v", name, interfacesOf(arguments), v)
				}
			}
		})
		if succeeded == 0 || failed == 0 {
			t.Errorf("%s: %d calls succeed, %d fail; some of both are needed", name, succeeded, failed)
		}
	}
}

func TestListsOfChapter1ShareNoMemory(t *testing.T) {
	for name, f := range functionsOfChapter1() {
		function := reflect.ValueOf(f)
		eachCall(t, function, func(arguments []reflect.Value) {
			first := function.Call(arguments)
			if len(regionsOfAll(first)) == 0 {
				return
			}
			second := function.Call(arguments)
			if doOverlap(regionsOfAll(arguments, first, second)) {
				t.Fatalf("%s%v shares memory", name, interfacesOf(arguments))
			}
			if !reflect.DeepEqual(interfacesOf(first), interfacesOf(second)) {
				t.Fatalf("%s%v is another one when called again", name, interfacesOf(arguments))
			}
		})
	}
}

// The list has its tenth number behind its end, where it is not to be read.
func TestPlatesFromReadsNothingBehindTheEnd(t *testing.T) {
	digits := tenTimes(20)
	if got, ok := impl.PlatesFrom(digits[:9]); got != 0 || ok {
		t.Error("PlatesFrom reads behind the end:", got, ok)
	}
	longer := append(tenTimes(20), -1)
	if got, ok := impl.PlatesFrom(longer[:10]); got != platesMade(digits) || !ok {
		t.Error("PlatesFrom reads behind the end:", got, ok)
	}
}

func TestAllFunctionsOfChapter1AreCalled(t *testing.T) {
	file, err := parser.ParseFile(token.NewFileSet(), "../impl/l1_number.go", nil, 0)
	if err != nil {
		t.Fatal(err)
	}
	functions := functionsOfChapter1()
	for _, declared := range file.Decls {
		f, ok := declared.(*ast.FuncDecl)
		if ok && f.Recv == nil && f.Name.IsExported() && functions[f.Name.Name] == nil {
			t.Errorf("%s is not called with all arguments", f.Name.Name)
		}
	}
}
