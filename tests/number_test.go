package tests

import (
	"math"
	"reflect"
	"slices"
	"strconv"
	"testing"

	"loop.example/g01336/impl"
)

// Promise 1: plots and numbers tell each other, and plates are made of their digits.

// numbersOnSides counts the houses as somebody would who puts up the plates one by one.
func numbersOnSides(s impl.Street) [2][]int {
	var sides [2][]int
	next := 1
	for range s.Plots {
		sides[0] = append(sides[0], next)
		next++
		if s.Kind == 1 {
			sides[1] = append(sides[1], next)
			next++
		}
	}
	if s.Kind == 2 {
		for range s.Plots {
			sides[1] = append(sides[1], next)
			next++
		}
		slices.Reverse(sides[1])
	}
	return sides
}

// someStreets has all the short streets and the longest ones.
func someStreets() []impl.Street {
	var streets []impl.Street
	for kind := range 3 {
		for plots := 1; plots <= 9; plots++ {
			streets = append(streets, impl.Street{Kind: kind, Plots: plots})
		}
		streets = append(streets, impl.Street{Kind: kind, Plots: impl.MaxPlots - 1}, impl.Street{Kind: kind, Plots: impl.MaxPlots})
	}
	return streets
}

func noStreets() []impl.Street {
	return []impl.Street{
		{}, {Kind: 0, Plots: 0}, {Kind: 1, Plots: 0}, {Kind: 2, Plots: -1}, {Kind: -1, Plots: 5}, {Kind: 3, Plots: 5},
		{Kind: 0, Plots: impl.MaxPlots + 1}, {Kind: 1, Plots: impl.MaxPlots + 1}, {Kind: 2, Plots: impl.MaxPlots + 1},
		{Kind: math.MinInt, Plots: math.MinInt}, {Kind: math.MaxInt, Plots: math.MaxInt},
		{Kind: 0, Plots: math.MaxInt}, {Kind: math.MaxInt, Plots: 1},
	}
}

func street(t *testing.T, text string) impl.Street {
	t.Helper()
	s, ok := impl.ParseStreet(text)
	if !ok {
		t.Fatalf("ParseStreet(%q) fails", text)
	}
	return s
}

// wantNumber checks a number and whether the call succeeds; where it fails the number is to be 0.
func wantNumber(t *testing.T, what string, got int, ok bool, want int, wantOK bool) {
	t.Helper()
	if got != want || ok != wantOK {
		t.Errorf("%s is %d, %t; want %d, %t", what, got, ok, want, wantOK)
	}
}

func wantList(t *testing.T, what string, got []int, ok bool, want []int, wantOK bool) {
	t.Helper()
	if !slices.Equal(got, want) || ok != wantOK {
		t.Errorf("%s is %v, %t; want %v, %t", what, got, ok, want, wantOK)
	}
}

func wantLists(t *testing.T, what string, got [][]int, ok bool, want [][]int, wantOK bool) {
	t.Helper()
	same := slices.EqualFunc(got, want, slices.Equal[[]int])
	if !same || ok != wantOK {
		t.Errorf("%s is %v, %t; want %v, %t", what, got, ok, want, wantOK)
	}
}

func TestIsStreet(t *testing.T) {
	for _, s := range someStreets() {
		if !impl.IsStreet(s) {
			t.Errorf("%v is no street", s)
		}
	}
	for _, s := range noStreets() {
		if impl.IsStreet(s) {
			t.Errorf("%v is a street", s)
		}
	}
}

func TestLimitsAreThoseOfTheDocument(t *testing.T) {
	if impl.MaxPlots != 1000 || impl.MaxNumbered != 1000000 {
		t.Error("limits", impl.MaxPlots, impl.MaxNumbered)
	}
}

func TestHousesOf(t *testing.T) {
	for _, s := range someStreets() {
		sides := numbersOnSides(s)
		got, ok := impl.HousesOf(s)
		wantNumber(t, "HousesOf", got, ok, len(sides[0])+len(sides[1]), true)
	}
	for _, s := range noStreets() {
		got, ok := impl.HousesOf(s)
		wantNumber(t, "HousesOf", got, ok, 0, false)
	}
}

func TestPlotsAndNumbersTellEachOther(t *testing.T) {
	for _, s := range someStreets() {
		for side, numbers := range numbersOnSides(s) {
			for plot, number := range numbers {
				got, ok := impl.NumberAt(s, side, plot)
				wantNumber(t, "NumberAt", got, ok, number, true)
				if gotSide, gotPlot, ok := impl.PlotOf(s, number); gotSide != side || gotPlot != plot || !ok {
					t.Errorf("PlotOf(%v, %d) is %d, %d, %t; want %d, %d", s, number, gotSide, gotPlot, ok, side, plot)
				}
			}
		}
	}
}

func TestNumberAtFailsWithoutHouse(t *testing.T) {
	for _, s := range someStreets() {
		for _, p := range [][2]int{
			{0, -1}, {1, -1}, {0, s.Plots}, {1, s.Plots}, {-1, 0}, {2, 0},
			{0, math.MinInt}, {1, math.MaxInt}, {math.MinInt, 0}, {math.MaxInt, 0},
		} {
			got, ok := impl.NumberAt(s, p[0], p[1])
			wantNumber(t, "NumberAt", got, ok, 0, false)
		}
	}
	got, ok := impl.NumberAt(impl.Street{Kind: 0, Plots: 5}, 1, 0)
	wantNumber(t, "NumberAt on the right side of the Kind 0", got, ok, 0, false)
	for _, s := range noStreets() {
		got, ok := impl.NumberAt(s, 0, 0)
		wantNumber(t, "NumberAt", got, ok, 0, false)
	}
}

func TestPlotOfFailsWithoutHouse(t *testing.T) {
	check := func(s impl.Street, number int) {
		t.Helper()
		if side, plot, ok := impl.PlotOf(s, number); side != 0 || plot != 0 || ok {
			t.Errorf("PlotOf(%v, %d) is %d, %d, %t", s, number, side, plot, ok)
		}
	}
	for _, s := range someStreets() {
		sides := numbersOnSides(s)
		for _, number := range []int{math.MinInt, -1, 0, len(sides[0]) + len(sides[1]) + 1, math.MaxInt} {
			check(s, number)
		}
	}
	for _, s := range noStreets() {
		check(s, 1)
	}
}

func TestOppositeOf(t *testing.T) {
	for _, s := range someStreets() {
		sides := numbersOnSides(s)
		for plot, left := range sides[0] {
			if s.Kind == 0 {
				got, ok := impl.OppositeOf(s, left)
				wantNumber(t, "OppositeOf in the Kind 0", got, ok, 0, false)
				continue
			}
			got, ok := impl.OppositeOf(s, left)
			wantNumber(t, "OppositeOf", got, ok, sides[1][plot], true)
			got, ok = impl.OppositeOf(s, sides[1][plot])
			wantNumber(t, "OppositeOf", got, ok, left, true)
		}
		for _, number := range []int{math.MinInt, -1, 0, len(sides[0]) + len(sides[1]) + 1, math.MaxInt} {
			got, ok := impl.OppositeOf(s, number)
			wantNumber(t, "OppositeOf without house", got, ok, 0, false)
		}
	}
	for _, s := range noStreets() {
		got, ok := impl.OppositeOf(s, 1)
		wantNumber(t, "OppositeOf without street", got, ok, 0, false)
	}
}

func TestNextHouses(t *testing.T) {
	for _, s := range someStreets() {
		for _, numbers := range numbersOnSides(s) {
			for plot, number := range numbers {
				var want []int
				if plot > 0 {
					want = append(want, numbers[plot-1])
				}
				if plot+1 < len(numbers) {
					want = append(want, numbers[plot+1])
				}
				slices.Sort(want)
				got, ok := impl.NextHouses(s, number)
				wantList(t, "NextHouses", got, ok, want, true)
			}
		}
		houses, _ := impl.HousesOf(s)
		for _, number := range []int{math.MinInt, -1, 0, houses + 1, math.MaxInt} {
			got, ok := impl.NextHouses(s, number)
			wantList(t, "NextHouses without house", got, ok, nil, false)
		}
	}
	for _, s := range noStreets() {
		got, ok := impl.NextHouses(s, 1)
		wantList(t, "NextHouses without street", got, ok, nil, false)
	}
}

func TestNextHousesByExamples(t *testing.T) {
	for _, c := range []struct {
		street string
		number int
		want   []int
	}{
		{"o5", 4, []int{2, 6}}, {"o5", 1, []int{3}}, {"o5", 10, []int{8}},
		{"u5", 8, []int{7, 9}}, {"u5", 5, []int{4}}, {"u5", 6, []int{7}}, {"u5", 10, []int{9}},
		{"r5", 3, []int{2, 4}}, {"r1", 1, nil}, {"o1", 1, nil}, {"o1", 2, nil}, {"u1", 2, nil},
	} {
		got, ok := impl.NextHouses(street(t, c.street), c.number)
		wantList(t, "NextHouses in "+c.street, got, ok, c.want, true)
	}
}

func TestWalkBetween(t *testing.T) {
	for _, s := range someStreets() {
		if s.Plots > 9 {
			continue
		}
		sides := numbersOnSides(s)
		for sideA, numbersA := range sides {
			for plotA, a := range numbersA {
				for sideB, numbersB := range sides {
					for plotB, b := range numbersB {
						for _, wide := range []int{0, 1, 7, 1000} {
							want := max(plotA-plotB, plotB-plotA)
							if sideA != sideB {
								want += wide
							}
							got, ok := impl.WalkBetween(s, a, b, wide)
							wantNumber(t, "WalkBetween", got, ok, want, true)
						}
					}
				}
			}
		}
	}
}

func TestWalkBetweenAtItsLimits(t *testing.T) {
	for _, c := range []struct {
		s             impl.Street
		a, b, wide    int
		want          int
		wantToSucceed bool
	}{
		{impl.Street{Kind: 1, Plots: 5}, 1, 6, 3, 5, true},
		{impl.Street{Kind: 1, Plots: 5}, 6, 1, 3, 5, true},
		{impl.Street{Kind: 2, Plots: 5}, 1, 10, 3, 3, true},
		{impl.Street{Kind: 2, Plots: impl.MaxPlots}, 1, 1001, 1000, 1999, true},
		{impl.Street{Kind: 0, Plots: 1}, 1, 1, 1000, 0, true},
		{impl.Street{Kind: 0, Plots: 5}, 1, 5, 1001, 0, false},
		{impl.Street{Kind: 1, Plots: 5}, 1, 6, 1001, 0, false},
		{impl.Street{Kind: 1, Plots: 5}, 1, 1, -1, 0, false},
		{impl.Street{Kind: 1, Plots: 5}, 0, 6, 3, 0, false},
		{impl.Street{Kind: 1, Plots: 5}, 1, 0, 3, 0, false},
		{impl.Street{Kind: 1, Plots: 5}, 11, 6, 3, 0, false},
		{impl.Street{Kind: 1, Plots: 5}, 1, 11, 3, 0, false},
		{impl.Street{Kind: 0, Plots: 5}, 1, 6, 3, 0, false},
		{impl.Street{Kind: 3, Plots: 5}, 1, 2, 3, 0, false},
		{impl.Street{Kind: 1, Plots: 1001}, 1, 2, 3, 0, false},
	} {
		got, ok := impl.WalkBetween(c.s, c.a, c.b, c.wide)
		wantNumber(t, "WalkBetween", got, ok, c.want, c.wantToSucceed)
	}
}

func TestSideNumbersAndSideSum(t *testing.T) {
	for _, s := range someStreets() {
		for side, numbers := range numbersOnSides(s) {
			sum := 0
			for _, number := range numbers {
				sum += number
			}
			list, ok := impl.SideNumbers(s, side)
			wantList(t, "SideNumbers", list, ok, numbers, true)
			got, ok := impl.SideSum(s, side)
			wantNumber(t, "SideSum", got, ok, sum, true)
		}
	}
	list, ok := impl.SideNumbers(impl.Street{Kind: 0, Plots: 5}, 1)
	wantList(t, "SideNumbers on the right side of the Kind 0", list, ok, nil, true)
	list, ok = impl.SideNumbers(impl.Street{Kind: 2, Plots: 5}, 1)
	wantList(t, "SideNumbers on the right side of u5", list, ok, []int{10, 9, 8, 7, 6}, true)
}

func TestSideNumbersAndSideSumFail(t *testing.T) {
	check := func(s impl.Street, side int) {
		t.Helper()
		list, ok := impl.SideNumbers(s, side)
		wantList(t, "SideNumbers", list, ok, nil, false)
		got, ok := impl.SideSum(s, side)
		wantNumber(t, "SideSum", got, ok, 0, false)
	}
	for _, s := range someStreets() {
		for _, side := range []int{math.MinInt, -1, 2, math.MaxInt} {
			check(s, side)
		}
	}
	for _, s := range noStreets() {
		check(s, 0)
		check(s, 1)
	}
}

// isTold picks the numbers at which running counts are compared: the small ones, those around the powers of ten, and some of all others.
func isTold(number int) bool {
	for power := 10; power <= impl.MaxNumbered; power *= 10 {
		if max(number-power, power-number) <= 2 {
			return true
		}
	}
	return number <= 1200 || number%977 == 0
}

func TestDigitsOfPlatesAreThoseWritten(t *testing.T) {
	var counts [10]int
	all := 0
	for most := 1; most <= impl.MaxNumbered; most++ {
		for _, sign := range strconv.Itoa(most) {
			counts[sign-'0']++
			all++
		}
		if !isTold(most) {
			continue
		}
		got, ok := impl.DigitsOnPlates(most)
		wantNumber(t, "DigitsOnPlates of "+strconv.Itoa(most), got, ok, all, true)
		for digit, count := range counts {
			got, ok := impl.CountDigit(most, digit)
			wantNumber(t, "CountDigit of "+strconv.Itoa(most), got, ok, count, true)
		}
	}
}

func TestDigitsOfPlatesFail(t *testing.T) {
	for _, most := range []int{math.MinInt, -1, 0, impl.MaxNumbered + 1, math.MaxInt} {
		got, ok := impl.DigitsOnPlates(most)
		wantNumber(t, "DigitsOnPlates", got, ok, 0, false)
		got, ok = impl.CountDigit(most, 1)
		wantNumber(t, "CountDigit", got, ok, 0, false)
	}
	for _, digit := range []int{math.MinInt, -1, 10, math.MaxInt} {
		got, ok := impl.CountDigit(100, digit)
		wantNumber(t, "CountDigit", got, ok, 0, false)
	}
}

func TestLastWithDigits(t *testing.T) {
	digits := 0
	for last := 1; digits < 1000000; last++ {
		before := digits
		digits += len(strconv.Itoa(last))
		if !isTold(last) {
			continue
		}
		// From the digits of the plates before on it is the number before, until there are enough for one more.
		for _, d := range []int{before, digits - 1} {
			got, ok := impl.LastWithDigits(d)
			wantNumber(t, "LastWithDigits of "+strconv.Itoa(d), got, ok, last-1, true)
		}
		got, ok := impl.LastWithDigits(digits)
		wantNumber(t, "LastWithDigits of "+strconv.Itoa(digits), got, ok, last, true)
	}
	for _, c := range []struct {
		digits, want  int
		wantToSucceed bool
	}{
		{0, 0, true}, {15, 12, true}, {16, 12, true}, {17, 13, true}, {999999, 185184, true}, {1000000, 185184, true},
		{-1, 0, false}, {1000001, 0, false}, {math.MinInt, 0, false}, {math.MaxInt, 0, false},
	} {
		got, ok := impl.LastWithDigits(c.digits)
		wantNumber(t, "LastWithDigits of "+strconv.Itoa(c.digits), got, ok, c.want, c.wantToSucceed)
	}
}

// platesMade makes plates one by one until a digit is missing.
func platesMade(digits []int) int {
	left := slices.Clone(digits)
	for number := 1; ; number++ {
		for _, sign := range strconv.Itoa(number) {
			left[sign-'0']--
			if left[sign-'0'] < 0 {
				return number - 1
			}
		}
	}
}

func tenTimes(count int) []int {
	return slices.Repeat([]int{count}, 10)
}

func TestPlatesFrom(t *testing.T) {
	lists := [][]int{
		tenTimes(0), tenTimes(1), tenTimes(2), tenTimes(20), tenTimes(1000), tenTimes(100000),
		{0, 1, 1, 1, 1, 1, 1, 1, 1, 1}, {1, 1, 1, 1, 1, 1, 1, 1, 1, 1}, {1, 2, 1, 1, 1, 1, 1, 1, 1, 1},
		{9, 0, 9, 9, 9, 9, 9, 9, 9, 9}, {0, 9, 0, 9, 9, 9, 9, 9, 9, 9}, {5, 100000, 5, 5, 5, 5, 5, 5, 5, 5},
		{100000, 100000, 100000, 100000, 100000, 100000, 100000, 100000, 100000, 0},
	}
	for _, digits := range lists {
		got, ok := impl.PlatesFrom(digits)
		wantNumber(t, "PlatesFrom", got, ok, platesMade(digits), true)
	}
	if got, ok := impl.PlatesFrom(tenTimes(0)); got != 0 || !ok {
		t.Error("PlatesFrom of no digits", got, ok)
	}
}

func TestPlatesFromNeedsEachDigit(t *testing.T) {
	for _, most := range []int{1, 2, 9, 10, 11, 99, 100, 101, 1234, 30000} {
		digits := make([]int, 10)
		for digit := range digits {
			digits[digit], _ = impl.CountDigit(most, digit)
		}
		got, ok := impl.PlatesFrom(digits)
		wantNumber(t, "PlatesFrom of just enough", got, ok, most, true)
		for digit := range digits {
			if digits[digit] == 0 {
				continue
			}
			fewer := slices.Clone(digits)
			fewer[digit]--
			got, ok := impl.PlatesFrom(fewer)
			wantNumber(t, "PlatesFrom of one digit fewer", got, ok, platesMade(fewer), true)
			if got >= most {
				t.Errorf("PlatesFrom(%v) is %d, as with one digit more", fewer, got)
			}
		}
	}
}

func TestPlatesFromFails(t *testing.T) {
	lists := [][]int{nil, {}, {1}, tenTimes(1)[:9], append(tenTimes(1), 1), tenTimes(-1), tenTimes(100001), tenTimes(math.MaxInt)}
	for digit := range 10 {
		for _, count := range []int{math.MinInt, -1, 100001, math.MaxInt} {
			digits := tenTimes(3)
			digits[digit] = count
			lists = append(lists, digits)
		}
	}
	for _, digits := range lists {
		got, ok := impl.PlatesFrom(digits)
		wantNumber(t, "PlatesFrom", got, ok, 0, false)
	}
}

// balancedByHand adds up both sides of each house.
func balancedByHand(most int) (int, bool) {
	for house := 1; house <= most; house++ {
		below, above := 0, 0
		for number := 1; number <= most; number++ {
			if number < house {
				below += number
			} else if number > house {
				above += number
			}
		}
		if below == above {
			return house, true
		}
	}
	return 0, false
}

func TestBalancedHouse(t *testing.T) {
	for most := 1; most <= 300; most++ {
		want, wantOK := balancedByHand(most)
		got, ok := impl.BalancedHouse(most)
		wantNumber(t, "BalancedHouse of "+strconv.Itoa(most), got, ok, want, wantOK)
	}
	for _, c := range []struct {
		most, want    int
		wantToSucceed bool
	}{
		{1, 1, true}, {8, 6, true}, {49, 35, true}, {332928, 235416, true},
		{2, 0, false}, {7, 0, false}, {9, 0, false}, {332927, 0, false}, {332929, 0, false},
		{impl.MaxNumbered, 0, false}, {impl.MaxNumbered + 1, 0, false}, {1940449, 0, false},
		{0, 0, false}, {-1, 0, false}, {-8, 0, false}, {math.MinInt, 0, false}, {math.MaxInt, 0, false},
	} {
		got, ok := impl.BalancedHouse(c.most)
		wantNumber(t, "BalancedHouse of "+strconv.Itoa(c.most), got, ok, c.want, c.wantToSucceed)
	}
}

func TestBalancedStreets(t *testing.T) {
	all := [][]int{{1, 1}, {8, 6}, {49, 35}, {288, 204}, {1681, 1189}, {9800, 6930}, {57121, 40391}, {332928, 235416}}
	for count, last := range all {
		got, ok := impl.BalancedStreets(last[0])
		wantLists(t, "BalancedStreets", got, ok, all[:count+1], true)
		if count > 0 {
			got, ok = impl.BalancedStreets(last[0] - 1)
			wantLists(t, "BalancedStreets", got, ok, all[:count], true)
		}
	}
	got, ok := impl.BalancedStreets(impl.MaxNumbered)
	wantLists(t, "BalancedStreets", got, ok, all, true)
	for _, most := range []int{math.MinInt, -1, 0, impl.MaxNumbered + 1, math.MaxInt} {
		got, ok := impl.BalancedStreets(most)
		wantLists(t, "BalancedStreets", got, ok, nil, false)
	}
}

func TestSumBetween(t *testing.T) {
	for a := 1; a <= 30; a++ {
		sum := 0
		for b := a + 1; b <= 60; b++ {
			got, ok := impl.SumBetween(a, b)
			wantNumber(t, "SumBetween", got, ok, sum, true)
			sum += b
		}
	}
	for _, c := range []struct {
		a, b, want    int
		wantToSucceed bool
	}{
		{1, 2, 0, true}, {1, 3, 2, true}, {3, 7, 15, true},
		{1, impl.MaxNumbered, 499999499999, true}, {impl.MaxNumbered - 1, impl.MaxNumbered, 0, true},
		{1, impl.MaxNumbered + 1, 0, false}, {0, 5, 0, false}, {-1, 5, 0, false},
		{5, 5, 0, false}, {7, 3, 0, false}, {impl.MaxNumbered, impl.MaxNumbered, 0, false},
		{impl.MaxNumbered, impl.MaxNumbered + 1, 0, false}, {5, 0, 0, false},
		{math.MinInt, math.MaxInt, 0, false}, {math.MaxInt, math.MinInt, 0, false},
	} {
		got, ok := impl.SumBetween(c.a, c.b)
		wantNumber(t, "SumBetween", got, ok, c.want, c.wantToSucceed)
	}
}

// rangesByHand begins at each house and goes on as long as the sum is not reached.
func rangesByHand(sum int) [][]int {
	var ranges [][]int
	for first := 1; first <= sum; first++ {
		total, last := first, first
		for total < sum {
			last++
			total += last
		}
		if total == sum {
			ranges = append(ranges, []int{first, last})
		}
	}
	return ranges
}

func TestRangesWithSum(t *testing.T) {
	for sum := 1; sum <= 400; sum++ {
		got, ok := impl.RangesWithSum(sum)
		wantLists(t, "RangesWithSum of "+strconv.Itoa(sum), got, ok, rangesByHand(sum), true)
	}
	for _, sum := range []int{65536, 99999, 100000} {
		got, ok := impl.RangesWithSum(sum)
		wantLists(t, "RangesWithSum of "+strconv.Itoa(sum), got, ok, rangesByHand(sum), true)
	}
	got, ok := impl.RangesWithSum(15)
	wantLists(t, "RangesWithSum of 15", got, ok, [][]int{{1, 5}, {4, 6}, {7, 8}, {15, 15}}, true)
	got, ok = impl.RangesWithSum(1)
	wantLists(t, "RangesWithSum of 1", got, ok, [][]int{{1, 1}}, true)
	for _, sum := range []int{math.MinInt, -1, 0, 100001, math.MaxInt} {
		got, ok := impl.RangesWithSum(sum)
		wantLists(t, "RangesWithSum", got, ok, nil, false)
	}
}

func TestStreetTextsAreReadAgain(t *testing.T) {
	for kind, letter := range []string{"r", "o", "u"} {
		for plots := 1; plots <= impl.MaxPlots; plots++ {
			s, want := impl.Street{Kind: kind, Plots: plots}, letter+strconv.Itoa(plots)
			if got, ok := impl.StreetText(s); got != want || !ok {
				t.Errorf("StreetText(%v) is %q, %t", s, got, ok)
			}
			if got, ok := impl.ParseStreet(want); got != s || !ok {
				t.Errorf("ParseStreet(%q) is %v, %t", want, got, ok)
			}
		}
	}
	for _, s := range noStreets() {
		if got, ok := impl.StreetText(s); got != "" || ok {
			t.Errorf("StreetText(%v) is %q, %t", s, got, ok)
		}
	}
}

func noStreetTexts() []string {
	return []string{
		"", "r", "o", "u", "5", "r0", "o0", "u-5", "o+5", "o05", "o005", "r00", "u1001", "r1000000",
		"O5", "x5", "ro5", "o5 ", " o5", "o 5", "o5\n", "o5u", "o1_0", "o0x5", "o5.0", "o1e2", "5o", "oo5",
		"u9223372036854775807", "u9223372036854775808", "u18446744073709551621", "u99999999999999999999999",
		"\x00", "\xff", "\xff5", "o\xff", "o\x005", "o５", "о5",
	}
}

func TestParseStreetFails(t *testing.T) {
	for _, text := range noStreetTexts() {
		if got, ok := impl.ParseStreet(text); got != (impl.Street{}) || ok {
			t.Errorf("ParseStreet(%q) is %v, %t", text, got, ok)
		}
	}
}

func TestExampleOfChapter1(t *testing.T) {
	u5, o5 := street(t, "u5"), street(t, "o5")
	type result struct {
		number int
		ok     bool
	}
	of := func(number int, ok bool) result { return result{number, ok} }
	for what, pair := range map[string][2]result{
		"opposite of 3 in u5": {of(impl.OppositeOf(u5, 3)), of(8, true)},
		"opposite of 3 in o5": {of(impl.OppositeOf(o5, 3)), of(4, true)},
		"walk from 1 to 6":    {of(impl.WalkBetween(o5, 1, 6, 3)), of(5, true)},
		"digits up to 12":     {of(impl.DigitsOnPlates(12)), of(15, true)},
		"digit 1 up to 12":    {of(impl.CountDigit(12, 1)), of(5, true)},
		"last with 15 digits": {of(impl.LastWithDigits(15)), of(12, true)},
		"balanced house of 8": {of(impl.BalancedHouse(8)), of(6, true)},
	} {
		if !reflect.DeepEqual(pair[0], pair[1]) {
			t.Errorf("%s: %v; want %v", what, pair[0], pair[1])
		}
	}
}
