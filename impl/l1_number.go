package impl

import (
	"slices"
	"sort"
	"strconv"
	"strings"
)

const MaxPlots = 1000
const MaxNumbered = 1000000

// Bounds that the chapter states for single parameters.
const (
	maxWide     = 1000
	maxDigits   = 1000000
	maxOfADigit = 100000
	maxRangeSum = 100000
)

// The ways in which houses are numbered, as the Kind of a street tells them.
const (
	leftAlone = iota
	oddAndEven
	roundTheEnd
)

// kindLetters holds the letter of each Kind at the index of that Kind.
const kindLetters = "rou"

const (
	leftSide  = 0
	rightSide = 1
)

type Street struct {
	Kind  int
	Plots int
}

// place tells a house by where it stands.
type place struct {
	side int
	plot int
}

// walk is a street as somebody on foot meets it, who has to cross it, too.
type walk struct {
	Street
	wide int
}

func within(number, least, greatest int) bool {
	return least <= number && number <= greatest
}

func otherSide(side int) int {
	return leftSide + rightSide - side
}

func (s Street) sides() int {
	if s.Kind == leftAlone {
		return 1
	}
	return 2
}

func (s Street) houses() int {
	return s.sides() * s.Plots
}

func (s Street) hasHouse(number int) bool {
	return IsStreet(s) && within(number, 1, s.houses())
}

func (s Street) hasPlace(p place) bool {
	return IsStreet(s) && within(p.side, leftSide, s.sides()-1) && within(p.plot, 0, s.Plots-1)
}

func (s Street) numberAt(p place) int {
	switch {
	case s.Kind == oddAndEven:
		return 2*p.plot + p.side + 1
	case p.side == rightSide:
		return s.houses() - p.plot
	}
	return p.plot + 1
}

func (s Street) placeOf(number int) place {
	switch {
	case s.Kind == oddAndEven:
		return place{side: (number - 1) % 2, plot: (number - 1) / 2}
	case number > s.Plots:
		return place{side: rightSide, plot: s.houses() - number}
	}
	return place{side: leftSide, plot: number - 1}
}

func (w walk) along(a, b int) int {
	first, second := w.placeOf(a).plot, w.placeOf(b).plot
	return max(first, second) - min(first, second)
}

func (w walk) across(a, b int) int {
	if w.placeOf(a).side == w.placeOf(b).side {
		return 0
	}
	return w.wide
}

// IsStreet reports whether s, whose numbers may be any, is a street.
func IsStreet(s Street) bool {
	nearest := Street{
		Kind:  min(max(s.Kind, leftAlone), roundTheEnd),
		Plots: min(max(s.Plots, 1), MaxPlots),
	}
	return s == nearest
}

// HousesOf returns how many houses it has.
func HousesOf(s Street) (int, bool) {
	if !IsStreet(s) {
		return 0, false
	}
	return s.houses(), true
}

// NumberAt returns the number of the house on a side at a plot.
func NumberAt(s Street, side int, plot int) (int, bool) {
	p := place{side: side, plot: plot}
	if !s.hasPlace(p) {
		return 0, false
	}
	return s.numberAt(p), true
}

// PlotOf returns side and plot of a house.
func PlotOf(s Street, number int) (int, int, bool) {
	if !s.hasHouse(number) {
		return 0, 0, false
	}
	p := s.placeOf(number)
	return p.side, p.plot, true
}

// OppositeOf returns the house at the same plot on the other side. It fails for streets of the Kind 0.
func OppositeOf(s Street, number int) (int, bool) {
	if !s.hasHouse(number) {
		return 0, false
	}
	p := s.placeOf(number)
	return NumberAt(s, otherSide(p.side), p.plot)
}

// NextHouses returns the houses on the same side at the plot before and behind, increasing.
func NextHouses(s Street, number int) ([]int, bool) {
	if !s.hasHouse(number) {
		return nil, false
	}
	here := s.placeOf(number)
	var next []int
	for _, plot := range []int{here.plot - 1, here.plot + 1} {
		if beside, ok := NumberAt(s, here.side, plot); ok {
			next = append(next, beside)
		}
	}
	slices.Sort(next) // numbers may go down from the beginning on
	return next, true
}

// WalkBetween returns how far it is from one house to another one: by how many plots the one is farther than the other one, and wide more for crossing the street if they are on different sides.
func WalkBetween(s Street, a int, b int, wide int) (int, bool) {
	if !s.hasHouse(a) || !s.hasHouse(b) || !within(wide, 0, maxWide) {
		return 0, false
	}
	far := 0
	for _, part := range []func(walk, int, int) int{walk.along, walk.across} {
		far += part(walk{Street: s, wide: wide}, a, b)
	}
	return far, true
}

// SideNumbers returns the numbers on a side from the beginning on: none on the right side of the Kind 0.
func SideNumbers(s Street, side int) ([]int, bool) {
	if !IsStreet(s) || !within(side, leftSide, rightSide) {
		return nil, false
	}
	var numbers []int
	for plot := range s.Plots {
		if number, ok := NumberAt(s, side, plot); ok {
			numbers = append(numbers, number)
		}
	}
	return numbers, true
}

// SideSum returns the sum of these.
func SideSum(s Street, side int) (int, bool) {
	numbers, ok := SideNumbers(s, side)
	sum := 0
	for _, number := range numbers {
		sum += number
	}
	return sum, ok
}

func isMost(most int) bool {
	return within(most, 1, MaxNumbered)
}

// digitsUpTo counts the digits by their places: just the numbers from 10 on have one at the tens, and so on.
func digitsUpTo(most int) int {
	count := 0
	for unit := 1; unit <= most; unit *= 10 {
		count += most - unit + 1
	}
	return count
}

// digitUpTo counts one digit place by place, without writing the numbers, so that searches can afford it.
func digitUpTo(most, digit int) int {
	count := 0
	for unit := 1; unit <= most; unit *= 10 {
		before, here, behind := most/(unit*10), most/unit%10, most%unit
		if digit == 0 {
			before-- // no number begins with 0
		}
		count += before * unit
		if digit < here {
			count += unit
		} else if digit == here {
			count += behind + 1
		}
	}
	return count
}

// DigitsOnPlates returns how many digits the plates with the numbers up to most have together.
func DigitsOnPlates(most int) (int, bool) {
	if !isMost(most) {
		return 0, false
	}
	return digitsUpTo(most), true
}

// CountDigit returns how often a digit, 0..9, is on these.
func CountDigit(most int, digit int) (int, bool) {
	if !isMost(most) || !within(digit, 0, 9) {
		return 0, false
	}
	return digitUpTo(most, digit), true
}

// LastWithDigits returns the greatest number such that the plates up to it have at most so many digits together, in 0..1000000: 0 if there is none.
func LastWithDigits(digits int) (int, bool) {
	if !within(digits, 0, maxDigits) {
		return 0, false
	}
	// No allowed number of digits reaches MaxNumbered, so the search always ends below it.
	return sort.Search(MaxNumbered, func(last int) bool {
		return digitsUpTo(last+1) > digits
	}), true
}

func areDigits(digits []int) bool {
	if len(digits) != 10 {
		return false
	}
	return slices.Min(digits) >= 0 && slices.Max(digits) <= maxOfADigit
}

func isEnough(digits []int, most int) bool {
	for digit, count := range digits {
		if digitUpTo(most, digit) > count {
			return false
		}
	}
	return true
}

// PlatesFrom returns the greatest number up to which plates can be made, each from 1 on, from digits: a list of how many there are of 0, 1, .. and 9. It is 0 if not even the plate 1 can be made.
func PlatesFrom(digits []int) (int, bool) {
	if !areDigits(digits) {
		return 0, false
	}
	// No allowed list reaches MaxNumbered, so the search always ends below it.
	return sort.Search(MaxNumbered, func(last int) bool {
		return !isEnough(digits, last+1)
	}), true
}

func sumUpTo(last int) int {
	return last * (last + 1) / 2
}

// lean tells by how much the sum of the houses below one is greater than the sum of those above it, up to most.
func lean(house, most int) int {
	return sumUpTo(house-1) - (sumUpTo(most) - sumUpTo(house))
}

// middleHouse returns the first house from start on that does not lean to those above it. If one is balanced, it is this one, as lean grows with the house.
func middleHouse(start, most int) int {
	house := start
	for lean(house, most) < 0 {
		house++
	}
	return house
}

// BalancedHouse returns the house such that those with lesser numbers have the same sum as those with greater ones, up to most. It fails if there is none.
func BalancedHouse(most int) (int, bool) {
	if !isMost(most) {
		return 0, false
	}
	house := middleHouse(1, most)
	if lean(house, most) != 0 {
		return 0, false
	}
	return house, true
}

// BalancedStreets returns for each number of houses up to most for which there is one, increasing, this number and the house.
func BalancedStreets(most int) ([][]int, bool) {
	if !isMost(most) {
		return nil, false
	}
	var balanced [][]int
	house := 1
	for houses := 1; houses <= most; houses++ {
		house = middleHouse(house, houses) // never goes back, as more houses need one farther up
		if lean(house, houses) == 0 {
			balanced = append(balanced, []int{houses, house})
		}
	}
	return balanced, true
}

// SumBetween returns the sum of the numbers greater than a and less than b, both in 1..MaxNumbered, a less than b.
func SumBetween(a int, b int) (int, bool) {
	if !isMost(a) || !isMost(b) || a >= b {
		return 0, false
	}
	return sumUpTo(b-1) - sumUpTo(a), true
}

// RangesWithSum returns all first and last numbers of houses one behind the other, numbered 1, 2, .., whose sum is sum, in 1..100000, ordered by the first one.
func RangesWithSum(sum int) ([][]int, bool) {
	if !within(sum, 1, maxRangeSum) {
		return nil, false
	}
	var ranges [][]int
	last := 0
	for first := 1; first <= sum; first++ {
		// The last house never goes back, as without the first one the sum is less.
		for sumUpTo(last)-sumUpTo(first-1) < sum {
			last++
		}
		if sumUpTo(last)-sumUpTo(first-1) == sum {
			ranges = append(ranges, []int{first, last})
		}
	}
	return ranges, true
}

// StreetText returns r, o or u for the Kinds 0, 1 and 2, and Plots.
func StreetText(s Street) (string, bool) {
	if !IsStreet(s) {
		return "", false
	}
	return kindLetters[s.Kind:s.Kind+1] + strconv.Itoa(s.Plots), true
}

// ParseStreet returns the street with a StreetText. It fails if there is none.
func ParseStreet(t string) (Street, bool) {
	if t == "" {
		return Street{}, false
	}
	plots, err := strconv.Atoi(t[1:])
	if err != nil {
		return Street{}, false
	}
	s := Street{Kind: strings.IndexByte(kindLetters, t[0]), Plots: plots}
	// Written again it is the same only without a sign and superfluous zeros.
	if again, ok := StreetText(s); !ok || again != t {
		return Street{}, false
	}
	return s, true
}
