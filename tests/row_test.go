package tests

import (
	"math"
	"slices"
	"strconv"
	"strings"
	"testing"

	"loop.example/g01336/impl"
)

// Promise 7: first paintings cost the least, and first lamps light what has to be lit.

var rowAndRing = []bool{false, true}

// toldRow names a call in a message.
func toldRow(name, what string, ring bool) string {
	if ring {
		return name + " of " + what + " around"
	}
	return name + " of " + what + " in a row"
}

func costsText(costs [][]int) string {
	var texts []string
	for _, list := range costs {
		texts = append(texts, listText(list))
	}
	return strings.Join(texts, ";")
}

// besideByHand has the neighbours of a house. A ring of one or two houses is a row.
func besideByHand(house, houses int, ring bool) []int {
	var beside []int
	if house > 0 {
		beside = append(beside, house-1)
	} else if ring && houses > 2 {
		beside = append(beside, houses-1)
	}
	if house < houses-1 {
		beside = append(beside, house+1)
	} else if ring && houses > 2 {
		beside = append(beside, 0)
	}
	return beside
}

func paintedByHand(colours []int, ring bool) bool {
	for house, colour := range colours {
		for _, other := range besideByHand(house, len(colours), ring) {
			if colours[other] == colour {
				return false
			}
		}
	}
	return true
}

func lootByHand(taken []int, houses int, ring bool) bool {
	for _, house := range taken {
		for _, other := range besideByHand(house, houses, ring) {
			if slices.Contains(taken, other) {
				return false
			}
		}
	}
	return true
}

func litByHand(lamps []int, houses int, ring bool) string {
	signs := []byte(strings.Repeat(".", houses))
	for _, lamp := range lamps {
		signs[lamp] = '#'
		for _, other := range besideByHand(lamp, houses, ring) {
			signs[other] = '#'
		}
	}
	return string(signs)
}

// isLitByHand reports whether a row has no house that has to be lit and is not.
func isLitByHand(row, lit string) bool {
	for house := range len(row) {
		if row[house] == '#' && lit[house] != '#' {
			return false
		}
	}
	return true
}

// eachNumbers visits all lists of so many numbers below a bound, in their order.
func eachNumbers(many, below int, visit func(list []int)) {
	list := make([]int, many)
	var choose func(i int)
	choose = func(i int) {
		if i == many {
			visit(list)
			return
		}
		for number := range below {
			list[i] = number
			choose(i + 1)
		}
	}
	choose(0)
}

// eachHouses visits all increasing lists of houses, in their order: the empty one first.
func eachHouses(houses int, visit func(list []int)) {
	var choose func(list []int, from int)
	choose = func(list []int, from int) {
		visit(list)
		for house := from; house < houses; house++ {
			choose(append(list, house), house+1)
		}
	}
	choose(make([]int, 0, houses), 0)
}

// bestOfLists is what there is to tell of the best lists: if count is 0 there are none.
type bestOfLists struct {
	number int
	count  int
	first  []int
}

// add takes a list that comes behind all lists before it. The least number is the best.
func (b *bestOfLists) add(list []int, number int) {
	switch {
	case b.count == 0 || number < b.number:
		*b = bestOfLists{number: number, count: 1, first: slices.Clone(list)}
	case number == b.number:
		b.count++
	}
}

func wantPaint(t *testing.T, costs [][]int, ring bool, want bestOfLists) {
	t.Helper()
	text := costsText(costs)
	got, ok := impl.LeastPaint(costs, ring)
	wantNumber(t, toldRow("LeastPaint", text, ring), got, ok, want.number, want.count > 0)
	colours, ok := impl.FirstPaint(costs, ring)
	wantList(t, toldRow("FirstPaint", text, ring), colours, ok, want.first, want.count > 0)
	got, ok = impl.CountPaint(costs, ring)
	wantNumber(t, toldRow("CountPaint", text, ring), got, ok, want.count, want.count > 0)
}

func wantLoot(t *testing.T, values []int, ring bool, best int, first []int, wantOK bool) {
	t.Helper()
	got, ok := impl.BestLoot(values, ring)
	wantNumber(t, toldRow("BestLoot", listText(values), ring), got, ok, best, wantOK)
	houses, ok := impl.FirstLoot(values, ring)
	wantList(t, toldRow("FirstLoot", listText(values), ring), houses, ok, first, wantOK)
}

func wantLamps(t *testing.T, row string, ring bool, want bestOfLists) {
	t.Helper()
	what := strconv.Quote(row)
	got, ok := impl.FewestLamps(row, ring)
	wantNumber(t, toldRow("FewestLamps", what, ring), got, ok, want.number, want.count > 0)
	lamps, ok := impl.FirstLamps(row, ring)
	wantList(t, toldRow("FirstLamps", what, ring), lamps, ok, want.first, want.count > 0)
	got, ok = impl.CountLamps(row, ring)
	wantNumber(t, toldRow("CountLamps", what, ring), got, ok, want.count, want.count > 0)
}

func TestLimitsOfRowsAreThoseOfTheDocument(t *testing.T) {
	if impl.MaxRow != 20 || impl.MaxCost != 1000 || impl.MaxColours != 5 {
		t.Error("limits", impl.MaxRow, impl.MaxCost, impl.MaxColours)
	}
}

// sameCosts has so many houses with costs that are all the same.
func sameCosts(houses, colours, cost int) [][]int {
	return slices.Repeat([][]int{slices.Repeat([]int{cost}, colours)}, houses)
}

// mixedCosts follow no plain pattern.
func mixedCosts(houses, colours, most, seed int) [][]int {
	numbers := mixedNumbers(houses*colours, most, seed)
	return slices.Collect(slices.Chunk(numbers, colours))
}

// smallCosts has all costs below 3 of a few houses and colours, and some mixed ones with many that are the same.
func smallCosts() [][][]int {
	var all [][][]int
	for _, size := range [][2]int{{1, 1}, {1, 2}, {1, 3}, {2, 1}, {2, 2}, {2, 3}, {3, 1}, {3, 2}, {4, 1}} {
		eachNumbers(size[0]*size[1], 3, func(list []int) {
			all = append(all, slices.Collect(slices.Chunk(slices.Clone(list), size[1])))
		})
	}
	for seed := range 8 {
		for houses := 1; houses <= 6; houses++ {
			for colours := 1; colours <= 4; colours++ {
				all = append(all, mixedCosts(houses, colours, 1, seed), mixedCosts(houses, colours, 4, seed))
			}
		}
		all = append(all, mixedCosts(3, 5, 2, seed), mixedCosts(5, 5, 1000, seed), mixedCosts(8, 2, 1, seed))
	}
	return append(all, sameCosts(1, 1, 0), sameCosts(1, 5, 1000), sameCosts(3, 5, 0), sameCosts(5, 4, 1000), sameCosts(20, 1, 3))
}

func noCosts() [][][]int {
	all := [][][]int{
		nil, {}, {nil}, {{}}, {nil, nil}, {{1}, nil}, {nil, {1}}, {{1, 2}, {}, {1, 2}}, {{1, 2}, {1}}, {{1}, {1, 2}}, {{1, 2}, {1, 2}, {1, 2, 3}}, {{1, 2, 3}, {1, 2}},
		{{-1}}, {{0, -1}}, {{1, 2}, {-1, 2}}, {{1, 2}, {1, -2}}, {{1001}}, {{1001, 0}}, {{1, 2}, {1, 1001}}, {{math.MinInt}}, {{math.MaxInt}}, {{1, math.MinInt}, {math.MaxInt, 1}},
		sameCosts(1, 6, 1), sameCosts(20, 6, 1), sameCosts(21, 1, 1), sameCosts(21, 2, 1), sameCosts(21, 5, 0), sameCosts(1, 5000, 1), sameCosts(5000, 2, 1), sameCosts(5000, 0, 0),
		sameCosts(3, 3, -1), sameCosts(3, 3, 1001),
	}
	late := sameCosts(20, 5, 1)
	late[19] = []int{1, 1, 1, 1, 1001}
	longer := sameCosts(20, 4, 1)
	longer[19] = []int{1, 1, 1, 1, 1}
	return append(all, late, longer)
}

func TestAreCosts(t *testing.T) {
	for _, costs := range append(smallCosts(), longCosts()...) {
		if !impl.AreCosts(costs) {
			t.Errorf("%v are no costs", costs)
		}
	}
	for _, costs := range noCosts() {
		if impl.AreCosts(costs) {
			t.Errorf("%v are costs", costs)
		}
	}
}

func TestPaintOfFewHouses(t *testing.T) {
	failed := map[bool]bool{}
	for _, costs := range smallCosts() {
		for _, ring := range rowAndRing {
			var want bestOfLists
			eachNumbers(len(costs), len(costs[0]), func(colours []int) {
				if paintedByHand(colours, ring) {
					want.add(colours, costOf(costs, colours))
				}
			})
			failed[ring] = failed[ring] || want.count == 0
			wantPaint(t, costs, ring, want)
		}
	}
	if !failed[false] || !failed[true] {
		t.Error("no houses that cannot be painted well, in a row or around:", failed)
	}
}

func costOf(costs [][]int, colours []int) int {
	cost := 0
	for house, colour := range colours {
		cost += costs[house][colour]
	}
	return cost
}

// longCosts go up to MaxRow houses and MaxColours.
func longCosts() [][][]int {
	all := [][][]int{sameCosts(20, 5, 0), sameCosts(20, 5, 1000), sameCosts(19, 5, 7), sameCosts(20, 2, 1), sameCosts(19, 2, 1), sameCosts(20, 3, 0)}
	for seed := range 5 {
		for _, colours := range []int{2, 3, 4, 5} {
			all = append(all, mixedCosts(20, colours, 1000, seed), mixedCosts(20, colours, 1, seed), mixedCosts(19, colours, 2, seed), mixedCosts(13, colours, 1, seed))
		}
	}
	return all
}

// paintGoingOn goes on house by house behind some colours that are fixed, remembering just the last colour, and tells the least cost and how many lists have it.
func paintGoingOn(costs [][]int, fixed []int, ring bool) bestOfLists {
	here := make([]bestOfLists, len(costs[0])) // for each colour of the house
	if paintedByHand(fixed, false) {
		here[fixed[len(fixed)-1]] = bestOfLists{number: costOf(costs, fixed), count: 1}
	}
	for _, prices := range costs[len(fixed):] {
		next := make([]bestOfLists, len(here))
		for colour := range next {
			next[colour] = leastBut(here, colour)
			next[colour].number += prices[colour]
		}
		here = next
	}
	if ring && len(costs) > 2 {
		return leastBut(here, fixed[0])
	}
	return leastBut(here, -1)
}

// leastBut tells the least cost of all colours but one, and how many lists have it.
func leastBut(all []bestOfLists, but int) bestOfLists {
	var least bestOfLists
	for colour, one := range all {
		switch {
		case colour == but || one.count == 0 || least.count > 0 && one.number > least.number:
		case least.count == 0 || one.number < least.number:
			least = one
		default:
			least.count += one.count
		}
	}
	return least
}

// paintByHand fixes one colour after the other, each time the first one with which the rest costs the least.
func paintByHand(costs [][]int, ring bool) bestOfLists {
	var beginnings []bestOfLists
	for colour := range costs[0] {
		beginnings = append(beginnings, paintGoingOn(costs, []int{colour}, ring))
	}
	least := leastBut(beginnings, -1)
	if least.count == 0 {
		return least
	}
	for range costs {
		for colour := range costs[0] {
			longer := append(slices.Clone(least.first), colour)
			if rest := paintGoingOn(costs, longer, ring); rest.count > 0 && rest.number == least.number {
				least.first = longer
				break
			}
		}
	}
	return least
}

func TestPaintOfManyHouses(t *testing.T) {
	for _, costs := range longCosts() {
		for _, ring := range rowAndRing {
			wantPaint(t, costs, ring, paintByHand(costs, ring))
		}
	}
}

func TestPaintByExamples(t *testing.T) {
	byTurns := slices.Repeat([]int{0, 1}, 10)
	for _, c := range []struct {
		costs     [][]int
		row, ring bestOfLists
	}{
		{[][]int{{7}}, bestOfLists{7, 1, []int{0}}, bestOfLists{7, 1, []int{0}}},
		{[][]int{{0}}, bestOfLists{0, 1, []int{0}}, bestOfLists{0, 1, []int{0}}},
		{[][]int{{5, 3, 3}}, bestOfLists{3, 2, []int{1}}, bestOfLists{3, 2, []int{1}}},
		{[][]int{{1000, 1000, 1000, 1000, 1000}}, bestOfLists{1000, 5, []int{0}}, bestOfLists{1000, 5, []int{0}}},
		{[][]int{{1}, {1}}, bestOfLists{}, bestOfLists{}},
		{[][]int{{1, 2}, {1, 2}}, bestOfLists{3, 2, []int{0, 1}}, bestOfLists{3, 2, []int{0, 1}}},
		{[][]int{{2, 1}, {1, 3}}, bestOfLists{2, 1, []int{1, 0}}, bestOfLists{2, 1, []int{1, 0}}},
		{[][]int{{1, 5}, {5, 1}, {1, 1}}, bestOfLists{3, 1, []int{0, 1, 0}}, bestOfLists{}},
		{sameCosts(3, 3, 0), bestOfLists{0, 12, []int{0, 1, 0}}, bestOfLists{0, 6, []int{0, 1, 2}}},
		{[][]int{{0, 9, 9}, {9, 0, 9}, {0, 9, 5}}, bestOfLists{0, 1, []int{0, 1, 0}}, bestOfLists{5, 1, []int{0, 1, 2}}},
		{sameCosts(20, 2, 1000), bestOfLists{20000, 2, byTurns}, bestOfLists{20000, 2, byTurns}},
		{sameCosts(19, 2, 1), bestOfLists{19, 2, byTurns[:19]}, bestOfLists{}},
		{sameCosts(20, 5, 0), bestOfLists{0, 1374389534720, byTurns}, bestOfLists{0, 1099511627780, byTurns}},
	} {
		wantPaint(t, c.costs, false, c.row)
		wantPaint(t, c.costs, true, c.ring)
	}
}

func TestPaintFailsWithoutCosts(t *testing.T) {
	for _, costs := range noCosts() {
		for _, ring := range rowAndRing {
			wantPaint(t, costs, ring, bestOfLists{})
		}
	}
}

func TestIsPainted(t *testing.T) {
	for _, ring := range rowAndRing {
		for houses := 1; houses <= 6; houses++ {
			eachNumbers(houses, min(5, 8-houses), func(colours []int) {
				got, ok := impl.IsPainted(colours, ring)
				wantTruth(t, toldRow("IsPainted", listText(colours), ring), got, ok, paintedByHand(colours, ring), true)
			})
		}
		for _, costs := range longCosts() {
			colours, ok := impl.FirstPaint(costs, ring)
			if !ok {
				continue
			}
			got, ok := impl.IsPainted(colours, ring)
			wantTruth(t, toldRow("IsPainted by FirstPaint", listText(colours), ring), got, ok, true, true)
		}
	}
}

func TestIsPaintedByExamples(t *testing.T) {
	for _, c := range []struct {
		colours   []int
		row, ring bool
	}{
		{[]int{0}, true, true}, {[]int{4}, true, true}, {[]int{0, 0}, false, false}, {[]int{0, 1}, true, true}, {[]int{0, 1, 0}, true, false}, {[]int{0, 1, 2}, true, true},
		{[]int{0, 1, 1}, false, false}, {[]int{4, 3, 4, 3}, true, true}, {[]int{4, 3, 4, 3, 4}, true, false}, {slices.Repeat([]int{0, 4}, 10), true, true},
		{append(slices.Repeat([]int{0, 4}, 9), 0), true, false}, {append(slices.Repeat([]int{0, 4}, 9), 1, 1), false, false}, {append(slices.Repeat([]int{0, 4}, 9), 1, 0), true, false},
	} {
		got, ok := impl.IsPainted(c.colours, false)
		wantTruth(t, toldRow("IsPainted", listText(c.colours), false), got, ok, c.row, true)
		got, ok = impl.IsPainted(c.colours, true)
		wantTruth(t, toldRow("IsPainted", listText(c.colours), true), got, ok, c.ring, true)
	}
}

func TestIsPaintedFails(t *testing.T) {
	for _, colours := range [][]int{
		nil, {}, {-1}, {5}, {0, -1}, {0, 5}, {5, 0}, {0, 1, 0, 6}, {0, 0, 5}, {math.MinInt}, {math.MaxInt}, {0, math.MinInt}, {math.MaxInt, 0},
		slices.Repeat([]int{0, 1, 2}, 7), slices.Repeat([]int{0, 1}, 5000), slices.Repeat([]int{0}, 21), append(slices.Repeat([]int{0, 1}, 9), 0, 5),
	} {
		for _, ring := range rowAndRing {
			got, ok := impl.IsPainted(colours, ring)
			wantTruth(t, toldRow("IsPainted", listText(colours), ring), got, ok, false, false)
		}
	}
}

// paintingsByHand counts as each house behind the first one has one colour less: around, those with the same colour at both ends are as many as those of one house less.
func paintingsByHand(houses, colours int, ring bool) int {
	count := colours
	for range houses - 1 {
		count *= colours - 1
	}
	if ring && houses > 2 {
		count -= paintingsByHand(houses-1, colours, true)
	}
	return count
}

func TestCountPaintings(t *testing.T) {
	for _, ring := range rowAndRing {
		for houses := 1; houses <= 20; houses++ {
			for colours := 1; colours <= 5; colours++ {
				want := paintingsByHand(houses, colours, ring)
				if houses <= 5 {
					want = 0
					eachNumbers(houses, colours, func(list []int) {
						if paintedByHand(list, ring) {
							want++
						}
					})
				}
				got, ok := impl.CountPaintings(houses, colours, ring)
				wantNumber(t, toldRow("CountPaintings", listText([]int{houses, colours}), ring), got, ok, want, true)
			}
		}
	}
	for _, c := range []struct{ houses, colours, row, ring int }{
		{1, 1, 1, 1}, {1, 5, 5, 5}, {2, 1, 0, 0}, {2, 2, 2, 2}, {2, 5, 20, 20}, {3, 1, 0, 0}, {3, 2, 2, 0}, {3, 3, 12, 6}, {4, 2, 2, 2}, {4, 3, 24, 18}, {20, 1, 0, 0},
		{20, 2, 2, 2}, {19, 2, 2, 0}, {20, 5, 1374389534720, 1099511627780}, {19, 5, 343597383680, 274877906940},
	} {
		got, ok := impl.CountPaintings(c.houses, c.colours, false)
		wantNumber(t, toldRow("CountPaintings", listText([]int{c.houses, c.colours}), false), got, ok, c.row, true)
		got, ok = impl.CountPaintings(c.houses, c.colours, true)
		wantNumber(t, toldRow("CountPaintings", listText([]int{c.houses, c.colours}), true), got, ok, c.ring, true)
	}
}

func TestCountPaintingsFails(t *testing.T) {
	for _, pair := range [][2]int{
		{0, 3}, {-1, 3}, {21, 3}, {3, 0}, {3, -1}, {3, 6}, {0, 0}, {21, 6}, {math.MinInt, 3}, {math.MaxInt, 3}, {3, math.MinInt}, {3, math.MaxInt}, {math.MaxInt, math.MaxInt}, {20, 6}, {21, 5},
	} {
		for _, ring := range rowAndRing {
			got, ok := impl.CountPaintings(pair[0], pair[1], ring)
			wantNumber(t, toldRow("CountPaintings", listText(pair[:]), ring), got, ok, 0, false)
		}
	}
}

// smallValues has all values below 3 of a few houses, and mixed ones of some more.
func smallValues() [][]int {
	var all [][]int
	for houses := 1; houses <= 6; houses++ {
		eachNumbers(houses, 3, func(list []int) { all = append(all, slices.Clone(list)) })
	}
	for seed := range 6 {
		for houses := 7; houses <= 10; houses++ {
			all = append(all, mixedNumbers(houses, 2, seed), mixedNumbers(houses, 1000, seed), mixedPeople(houses, 3, seed, true))
		}
	}
	return all
}

func longValues() [][]int {
	all := [][]int{
		slices.Repeat([]int{1000}, 20), slices.Repeat([]int{1000}, 19), slices.Repeat([]int{0}, 20), slices.Repeat([]int{1, 0}, 10), slices.Repeat([]int{0, 0, 1, 0, 0}, 4),
		onlyAt(20, 1, 0), onlyAt(20, 1, 19), onlyAt(20, 1000, 0, 19), onlyAt(20, 5, 3, 4, 5, 11, 12),
	}
	for seed := range 3 {
		all = append(all, mixedNumbers(20, 1000, seed), mixedNumbers(19, 1, seed), mixedPeople(20, 2, seed, true))
	}
	return all
}

func noValues() [][]int {
	return [][]int{
		nil, {}, {-1}, {1, -1}, {-1, 1}, {1001}, {1, 1001}, {1001, 1}, {0, 0, 0, 1001}, {math.MinInt}, {math.MaxInt}, {math.MaxInt, math.MaxInt, math.MaxInt}, {1, math.MinInt},
		slices.Repeat([]int{1}, 21), slices.Repeat([]int{0}, 21), slices.Repeat([]int{1}, 5000), append(slices.Repeat([]int{1}, 19), -1), append(slices.Repeat([]int{1}, 19), 1001),
	}
}

// eachLoot visits all loots, in their order.
func eachLoot(houses int, ring bool, visit func(taken []int)) {
	var choose func(list []int, from int)
	choose = func(list []int, from int) {
		if lootByHand(list, houses, ring) {
			visit(list)
		}
		for house := from; house < houses; house++ {
			choose(append(list, house), house+2)
		}
	}
	choose(make([]int, 0, houses), 0)
}

func valueOf(values, taken []int) int {
	sum := 0
	for _, house := range taken {
		sum += values[house]
	}
	return sum
}

func TestLoots(t *testing.T) {
	for _, values := range append(smallValues(), longValues()...) {
		for _, ring := range rowAndRing {
			var want bestOfLists
			eachLoot(len(values), ring, func(taken []int) { want.add(taken, -valueOf(values, taken)) })
			wantLoot(t, values, ring, -want.number, want.first, true)
		}
	}
}

func TestLootsByExamples(t *testing.T) {
	for _, c := range []struct {
		values    []int
		best      int
		first     []int
		bestRing  int
		firstRing []int
	}{
		{[]int{2, 7, 9, 3, 1}, 12, []int{0, 2, 4}, 11, []int{0, 2}}, {[]int{0}, 0, nil, 0, nil}, {[]int{1000}, 1000, []int{0}, 1000, []int{0}}, {[]int{0, 0, 0}, 0, nil, 0, nil},
		{[]int{3, 3}, 3, []int{0}, 3, []int{0}}, {[]int{3, 4}, 4, []int{1}, 4, []int{1}}, {[]int{3, 1, 3}, 6, []int{0, 2}, 3, []int{0}}, {[]int{5, 0, 0}, 5, []int{0}, 5, []int{0}},
		{[]int{0, 0, 5}, 5, []int{0, 2}, 5, []int{2}}, {[]int{0, 5, 0}, 5, []int{1}, 5, []int{1}}, {[]int{0, 0, 0, 5}, 5, []int{0, 3}, 5, []int{1, 3}}, {[]int{1, 2, 1}, 2, []int{0, 2}, 2, []int{1}},
		{[]int{5, 0, 0, 5}, 10, []int{0, 3}, 5, []int{0}}, {slices.Repeat([]int{0}, 20), 0, nil, 0, nil}, {onlyAt(20, 1, 0), 1, []int{0}, 1, []int{0}},
		{onlyAt(20, 9, 19), 9, []int{0, 2, 4, 6, 8, 10, 12, 14, 16, 19}, 9, []int{1, 3, 5, 7, 9, 11, 13, 15, 17, 19}},
		{slices.Repeat([]int{1000}, 20), 10000, []int{0, 2, 4, 6, 8, 10, 12, 14, 16, 18}, 10000, []int{0, 2, 4, 6, 8, 10, 12, 14, 16, 18}},
		{slices.Repeat([]int{1000}, 19), 10000, []int{0, 2, 4, 6, 8, 10, 12, 14, 16, 18}, 9000, []int{0, 2, 4, 6, 8, 10, 12, 14, 16}},
	} {
		wantLoot(t, c.values, false, c.best, c.first, true)
		wantLoot(t, c.values, true, c.bestRing, c.firstRing, true)
	}
}

func TestLootsFailWithoutValues(t *testing.T) {
	for _, values := range noValues() {
		for _, ring := range rowAndRing {
			wantLoot(t, values, ring, 0, nil, false)
			for _, taken := range [][]int{nil, {}, {0}, {0, 2}} {
				got, ok := impl.IsLoot(values, taken, ring)
				wantTruth(t, toldRow("IsLoot", listText(taken), ring), got, ok, false, false)
			}
		}
	}
}

func TestIsLoot(t *testing.T) {
	for _, ring := range rowAndRing {
		for houses := 1; houses <= 8; houses++ {
			values := mixedNumbers(houses, 1000, houses)
			eachHouses(houses, func(taken []int) {
				got, ok := impl.IsLoot(values, taken, ring)
				wantTruth(t, toldRow("IsLoot", listText(taken), ring), got, ok, lootByHand(taken, houses, ring), true)
			})
		}
	}
	twenty := slices.Repeat([]int{7}, 20)
	for _, c := range []struct {
		taken     []int
		row, ring bool
	}{
		{nil, true, true}, {[]int{}, true, true}, {[]int{19}, true, true}, {[]int{0, 19}, true, false}, {[]int{0, 18}, true, true}, {[]int{1, 19}, true, true}, {[]int{18, 19}, false, false},
		{[]int{0, 1}, false, false}, {[]int{0, 2, 4, 6, 8, 10, 12, 14, 16, 18}, true, true}, {[]int{0, 5, 10, 11}, false, false}, {[]int{0, 5, 10, 19}, true, false}, {numbersUpTo(20), false, false},
	} {
		got, ok := impl.IsLoot(twenty, c.taken, false)
		wantTruth(t, toldRow("IsLoot", listText(c.taken), false), got, ok, c.row, true)
		got, ok = impl.IsLoot(twenty, c.taken, true)
		wantTruth(t, toldRow("IsLoot", listText(c.taken), true), got, ok, c.ring, true)
	}
}

// noHousesOfFive are no strictly increasing lists of houses that there are, of five.
func noHousesOfFive() [][]int {
	return [][]int{
		{-1}, {5}, {-1, 0}, {0, 5}, {0, 2, 5}, {2, 0}, {0, 0}, {0, 2, 2}, {0, 4, 2}, {4, 3, 2, 1, 0}, {20}, {math.MinInt}, {math.MaxInt}, {0, math.MaxInt}, {math.MinInt, 0}, {math.MaxInt, math.MinInt},
		{0, math.MinInt}, slices.Repeat([]int{0}, 5), slices.Repeat([]int{1}, 5000), numbersUpTo(6), numbersUpTo(5000), {0, 1, 2, 3, 4, 4},
	}
}

func TestListsThatAreNoHouses(t *testing.T) {
	for _, list := range noHousesOfFive() {
		for _, ring := range rowAndRing {
			got, ok := impl.IsLoot([]int{2, 7, 9, 3, 1}, list, ring)
			wantTruth(t, toldRow("IsLoot", listText(list), ring), got, ok, false, false)
			text, ok := impl.LitBy("##.#.", list, ring)
			wantText(t, toldRow("LitBy", listText(list), ring), text, ok, "", false)
		}
	}
}

func TestCountLoots(t *testing.T) {
	for _, ring := range rowAndRing {
		for houses := 1; houses <= 20; houses++ {
			count := 0
			eachLoot(houses, ring, func([]int) { count++ })
			got, ok := impl.CountLoots(houses, ring)
			wantNumber(t, toldRow("CountLoots", strconv.Itoa(houses), ring), got, ok, count, true)
		}
		for _, houses := range []int{0, -1, 21, 1000, math.MinInt, math.MaxInt} {
			got, ok := impl.CountLoots(houses, ring)
			wantNumber(t, toldRow("CountLoots", strconv.Itoa(houses), ring), got, ok, 0, false)
		}
	}
	for _, c := range []struct{ houses, row, ring int }{{1, 2, 2}, {2, 3, 3}, {3, 5, 4}, {4, 8, 7}, {19, 10946, 9349}, {20, 17711, 15127}} {
		got, ok := impl.CountLoots(c.houses, false)
		wantNumber(t, toldRow("CountLoots", strconv.Itoa(c.houses), false), got, ok, c.row, true)
		got, ok = impl.CountLoots(c.houses, true)
		wantNumber(t, toldRow("CountLoots", strconv.Itoa(c.houses), true), got, ok, c.ring, true)
	}
}

// shortLampRows has all rows of up to so many houses.
func shortLampRows(most int) []string {
	var rows []string
	for houses := 1; houses <= most; houses++ {
		rows = append(rows, signTexts(houses, "#", ".")...)
	}
	return rows
}

// mixedRow follows no plain pattern: many of its houses have to be lit if often is great.
func mixedRow(houses, often, seed int) string {
	row := ""
	for _, number := range mixedNumbers(houses, often, seed) {
		row += string(".#####"[min(number, 5)])
	}
	return row
}

func longLampRows() []string {
	rows := []string{
		strings.Repeat("#", 20), strings.Repeat("#", 19), strings.Repeat(".", 20), strings.Repeat("#.", 10), strings.Repeat("#..", 6) + "##", "#" + strings.Repeat(".", 19),
		strings.Repeat(".", 19) + "#", "#" + strings.Repeat(".", 18) + "#", "##" + strings.Repeat(".", 17) + "#", strings.Repeat("#...", 5),
	}
	for seed := range 3 {
		rows = append(rows, mixedRow(20, 1, seed), mixedRow(20, 3, seed), mixedRow(18, 2, seed))
	}
	return rows
}

func noLampRows() []string {
	return []string{
		"", " ", "#.#x", "x", "# #", " #", "# ", "#\n", "\n", "#,.", "##-#", "#\x00", "\x00", "\xff", "#\xff.", "#.\xff", "\xff#.", "＃", "#．", "#…", "1", "01", "lrb-l",
		strings.Repeat("#", 21), strings.Repeat(".", 21), strings.Repeat("#.", 5000), strings.Repeat("\xff", 20), strings.Repeat("#", 19) + "x", "x" + strings.Repeat("#", 19), "##x##",
	}
}

func TestIsLitRow(t *testing.T) {
	for _, row := range append(shortLampRows(8), longLampRows()...) {
		if !impl.IsLitRow(row) {
			t.Errorf("%q is no row", row)
		}
	}
	for _, row := range noLampRows() {
		if impl.IsLitRow(row) {
			t.Errorf("%q is a row", row)
		}
	}
}

func TestLampsOfShortRows(t *testing.T) {
	for _, row := range shortLampRows(9) {
		for _, ring := range rowAndRing {
			var want bestOfLists
			eachHouses(len(row), func(lamps []int) {
				if isLitByHand(row, litByHand(lamps, len(row), ring)) {
					want.add(lamps, len(lamps))
				}
			})
			wantLamps(t, row, ring, want)
		}
	}
}

// litDigits lights the neighbours of lamps, as binary digits with one more house around each end.
func litDigits(lamps uint, houses int, ring bool) uint {
	wide := lamps<<2 | lamps<<1 | lamps
	if ring {
		wide |= wide<<houses | wide>>houses
	}
	return wide >> 1 & (1<<houses - 1)
}

// lampsByDigits tries all lamps as binary digits, the first house being the greatest one: the greater of two with as many lamps comes first.
func lampsByDigits(row string, ring bool) bestOfLists {
	var dark, first uint
	for _, sign := range row {
		dark <<= 1
		if sign == '#' {
			dark++
		}
	}
	least := bestOfLists{number: math.MaxInt}
	for lamps := range uint(1) << len(row) {
		if dark&^litDigits(lamps, len(row), ring) != 0 {
			continue
		}
		many := strings.Count(strconv.FormatUint(uint64(lamps), 2), "1")
		if many < least.number {
			least.number, least.count = many, 0
		}
		if many == least.number {
			least.count, first = least.count+1, lamps
		}
	}
	for house := range len(row) {
		if first>>(len(row)-1-house)&1 == 1 {
			least.first = append(least.first, house)
		}
	}
	return least
}

func TestLampsOfLongRows(t *testing.T) {
	for _, row := range longLampRows() {
		for _, ring := range rowAndRing {
			wantLamps(t, row, ring, lampsByDigits(row, ring))
		}
	}
}

func TestLampsByExamples(t *testing.T) {
	for _, c := range []struct {
		row           string
		inRow, around bestOfLists
	}{
		{"##.#", bestOfLists{2, 4, []int{0, 2}}, bestOfLists{1, 1, []int{0}}}, {"#", bestOfLists{1, 1, []int{0}}, bestOfLists{1, 1, []int{0}}},
		{".", bestOfLists{0, 1, nil}, bestOfLists{0, 1, nil}}, {"..", bestOfLists{0, 1, nil}, bestOfLists{0, 1, nil}}, {"#.", bestOfLists{1, 2, []int{0}}, bestOfLists{1, 2, []int{0}}},
		{"##", bestOfLists{1, 2, []int{0}}, bestOfLists{1, 2, []int{0}}}, {"###", bestOfLists{1, 1, []int{1}}, bestOfLists{1, 3, []int{0}}}, {"#..", bestOfLists{1, 2, []int{0}}, bestOfLists{1, 3, []int{0}}},
		{"..#", bestOfLists{1, 2, []int{1}}, bestOfLists{1, 3, []int{0}}}, {"#..#", bestOfLists{2, 4, []int{0, 2}}, bestOfLists{1, 2, []int{0}}}, {"...", bestOfLists{0, 1, nil}, bestOfLists{0, 1, nil}},
		{"####", bestOfLists{2, 4, []int{0, 2}}, bestOfLists{2, 6, []int{0, 1}}}, {strings.Repeat(".", 20), bestOfLists{0, 1, nil}, bestOfLists{0, 1, nil}},
		{strings.Repeat(".", 19) + "#", bestOfLists{1, 2, []int{18}}, bestOfLists{1, 3, []int{0}}},
		{strings.Repeat("#", 18), bestOfLists{6, 1, []int{1, 4, 7, 10, 13, 16}}, bestOfLists{6, 3, []int{0, 3, 6, 9, 12, 15}}},
	} {
		wantLamps(t, c.row, false, c.inRow)
		wantLamps(t, c.row, true, c.around)
	}
}

func TestLitBy(t *testing.T) {
	for _, ring := range rowAndRing {
		for houses := 1; houses <= 7; houses++ {
			for _, row := range []string{strings.Repeat("#", houses), strings.Repeat(".", houses), mixedRow(houses, 1, houses)} {
				eachHouses(houses, func(lamps []int) {
					got, ok := impl.LitBy(row, lamps, ring)
					wantText(t, toldRow("LitBy", listText(lamps), ring), got, ok, litByHand(lamps, houses, ring), true)
				})
			}
		}
		for _, row := range longLampRows() {
			lamps, _ := impl.FirstLamps(row, ring)
			got, ok := impl.LitBy(row, lamps, ring)
			wantText(t, toldRow("LitBy FirstLamps", row, ring), got, ok, litByHand(lamps, len(row), ring), true)
			if !isLitByHand(row, got) {
				t.Errorf("FirstLamps light %q of %q", got, row)
			}
		}
	}
}

func TestLitByExamples(t *testing.T) {
	for _, c := range []struct {
		row    string
		lamps  []int
		inRow  string
		around string
	}{
		{"#", nil, ".", "."}, {"#", []int{0}, "#", "#"}, {".", []int{0}, "#", "#"}, {"..", []int{0}, "##", "##"}, {"..", []int{1}, "##", "##"}, {"##", nil, "..", ".."}, {"...", []int{0}, "##.", "###"},
		{"...", []int{1}, "###", "###"}, {"...", []int{2}, ".##", "###"}, {"....", []int{0}, "##..", "##.#"}, {"....", []int{3}, "..##", "#.##"}, {"##.#", []int{0, 2}, "####", "####"},
		{"##.#", []int{0}, "##..", "##.#"}, {strings.Repeat("#", 20), nil, strings.Repeat(".", 20), strings.Repeat(".", 20)}, {strings.Repeat("#", 20), numbersUpTo(20), strings.Repeat("#", 20), strings.Repeat("#", 20)},
		{strings.Repeat(".", 20), []int{19}, strings.Repeat(".", 18) + "##", "#" + strings.Repeat(".", 17) + "##"},
	} {
		got, ok := impl.LitBy(c.row, c.lamps, false)
		wantText(t, toldRow("LitBy", listText(c.lamps), false), got, ok, c.inRow, true)
		got, ok = impl.LitBy(c.row, c.lamps, true)
		wantText(t, toldRow("LitBy", listText(c.lamps), true), got, ok, c.around, true)
	}
}

func TestFewestGuards(t *testing.T) {
	for _, ring := range rowAndRing {
		for houses := 1; houses <= 20; houses++ {
			third := int(math.Ceil(float64(houses) / 3))
			got, ok := impl.FewestGuards(houses, ring)
			wantNumber(t, toldRow("FewestGuards", strconv.Itoa(houses), ring), got, ok, third, true)
			lamps, ok := impl.FewestLamps(strings.Repeat("#", houses), ring)
			wantNumber(t, toldRow("FewestLamps", strconv.Itoa(houses), ring), lamps, ok, third, true)
		}
		for _, houses := range []int{0, -1, 21, 1000, math.MinInt, math.MaxInt} {
			got, ok := impl.FewestGuards(houses, ring)
			wantNumber(t, toldRow("FewestGuards", strconv.Itoa(houses), ring), got, ok, 0, false)
		}
	}
}

func TestTurnRow(t *testing.T) {
	for _, row := range append(shortLampRows(6), longLampRows()...) {
		want := row
		for by := range len(row) {
			got, ok := impl.TurnRow(row, by)
			wantText(t, "TurnRow of "+row+" by "+strconv.Itoa(by), got, ok, want, true)
			want = want[1:] + want[:1]
		}
		for _, by := range []int{-1, len(row), len(row) + 1, -len(row), 21, math.MinInt, math.MaxInt} {
			got, ok := impl.TurnRow(row, by)
			wantText(t, "TurnRow of "+row+" by "+strconv.Itoa(by), got, ok, "", false)
		}
	}
	for _, c := range []struct {
		row  string
		by   int
		want string
	}{{"##.#", 0, "##.#"}, {"##.#", 1, "#.##"}, {"##.#", 2, ".###"}, {"##.#", 3, "###."}, {"#", 0, "#"}, {".#", 1, "#."}} {
		got, ok := impl.TurnRow(c.row, c.by)
		wantText(t, "TurnRow of "+c.row+" by "+strconv.Itoa(c.by), got, ok, c.want, true)
	}
}

// A ring has no first house: however it is told, as many lamps and guards are enough.
func TestTurnedRingsNeedAsManyLamps(t *testing.T) {
	for _, row := range longLampRows() {
		want, _ := impl.FewestLamps(row, true)
		count, _ := impl.CountLamps(row, true)
		for by := range len(row) {
			turned, _ := impl.TurnRow(row, by)
			got, ok := impl.FewestLamps(turned, true)
			wantNumber(t, toldRow("FewestLamps", turned, true), got, ok, want, true)
			got, ok = impl.CountLamps(turned, true)
			wantNumber(t, toldRow("CountLamps", turned, true), got, ok, count, true)
		}
	}
}

func TestRowsFail(t *testing.T) {
	for _, row := range noLampRows() {
		for _, ring := range rowAndRing {
			wantLamps(t, row, ring, bestOfLists{})
			for _, lamps := range [][]int{nil, {0}, {0, 1}} {
				text, ok := impl.LitBy(row, lamps, ring)
				wantText(t, toldRow("LitBy", strconv.Quote(row), ring), text, ok, "", false)
			}
		}
		for by := range 3 {
			text, ok := impl.TurnRow(row, by)
			wantText(t, "TurnRow of "+strconv.Quote(row), text, ok, "", false)
		}
	}
}

func TestExampleOfChapter7(t *testing.T) {
	wantPaint(t, [][]int{{1, 5}, {5, 1}, {1, 1}}, false, bestOfLists{3, 1, []int{0, 1, 0}})
	wantPaint(t, [][]int{{1, 5}, {5, 1}, {1, 1}}, true, bestOfLists{})
	got, ok := impl.CountPaintings(3, 3, false)
	wantNumber(t, "CountPaintings", got, ok, 12, true)
	got, ok = impl.CountPaintings(3, 3, true)
	wantNumber(t, "CountPaintings around", got, ok, 6, true)
	wantLoot(t, []int{2, 7, 9, 3, 1}, false, 12, []int{0, 2, 4}, true)
	wantLoot(t, []int{2, 7, 9, 3, 1}, true, 11, []int{0, 2}, true)
	got, ok = impl.CountLoots(3, false)
	wantNumber(t, "CountLoots", got, ok, 5, true)
	got, ok = impl.CountLoots(3, true)
	wantNumber(t, "CountLoots around", got, ok, 4, true)
	wantLamps(t, "##.#", false, bestOfLists{2, 4, []int{0, 2}})
	wantLamps(t, "##.#", true, bestOfLists{1, 1, []int{0}})
}
