package tests

import (
	"math"
	"slices"
	"strconv"
	"strings"
	"testing"

	"loop.example/g01336/impl"
)

// Promise 5: best houses have the least sums, and first boxes the least sum of all.

// shortPeople has all lists for up to so many houses in each of which live at most two.
func shortPeople(most int) [][]int {
	var all [][]int
	longer := [][]int{nil}
	for range most {
		var next [][]int
		for _, people := range longer {
			for living := range 3 {
				next = append(next, append(slices.Clone(people), living))
			}
		}
		longer = next
		all = append(all, longer...)
	}
	return slices.DeleteFunc(all, func(people []int) bool { return slices.Max(people) == 0 })
}

// mixedNumbers are up to most, in an order that follows no plain pattern.
func mixedNumbers(count, most, seed int) []int {
	var list []int
	for range count {
		seed = (seed*233 + 1871) % 10007
		list = append(list, seed%(most+1))
	}
	return list
}

// mixedPeople has up to most people in each house, and most in one at least; if it is sparse, nobody lives in many of them.
func mixedPeople(houses, most, seed int, sparse bool) []int {
	people := mixedNumbers(houses, most, seed)
	if sparse {
		for house, number := range mixedNumbers(houses, 4, seed+1) {
			if number > 0 {
				people[house] = 0
			}
		}
	}
	people[(seed*7+5)%houses] = most
	return people
}

// onlyAt has so many people in some houses, and nobody in all others.
func onlyAt(houses, living int, at ...int) []int {
	people := make([]int, houses)
	for _, house := range at {
		people[house] = living
	}
	return people
}

// longPeople go up to MaxStreet houses and to MaxLiving people in each.
func longPeople() [][]int {
	lists := [][]int{
		slices.Repeat([]int{1}, 60), slices.Repeat([]int{1000}, 60), slices.Repeat([]int{1000, 0}, 30), slices.Repeat([]int{0, 0, 1}, 20),
		onlyAt(60, 1, 0), onlyAt(60, 1, 59), onlyAt(60, 1, 31), onlyAt(60, 1000, 0, 59), onlyAt(60, 1, 0, 11, 12, 40, 41, 59), onlyAt(59, 7, 5, 6, 7, 50),
	}
	for seed := range 4 {
		for _, houses := range []int{20, 31, 59, 60} {
			lists = append(lists, mixedPeople(houses, 1000, seed, false), mixedPeople(houses, 3, seed, true))
		}
	}
	return lists
}

func allPeople() [][]int {
	return slices.Concat(shortPeople(5), longPeople(), [][]int{{1}, {1000}, {0, 1000}, {1000, 0, 1}})
}

func noPeople() [][]int {
	return [][]int{
		nil, {}, {0}, {0, 0}, slices.Repeat([]int{0}, 60), {-1}, {1, -1}, {-1, 1}, {1, 2, -3, 4}, {1001}, {1, 1001}, {1001, 1}, {1000, 1000, 1001},
		{math.MinInt}, {math.MaxInt}, {1, math.MinInt}, {1, math.MaxInt}, {math.MinInt, math.MaxInt}, {math.MaxInt, math.MaxInt},
		slices.Repeat([]int{1}, 61), onlyAt(61, 1, 60), onlyAt(61, 1, 0), slices.Repeat([]int{1}, 5000), slices.Repeat([]int{0}, 61),
	}
}

// goneToBox goes from a house to both sides at once, to the lesser houses first, until there is a box.
func goneToBox(boxes []int, house int) (box, steps int) {
	for ; ; steps++ {
		for _, at := range []int{house - steps, house + steps} {
			if slices.Contains(boxes, at) {
				return at, steps
			}
		}
	}
}

// walked tells how far people walk, all together and at most.
type walked struct {
	sum     int
	longest int
}

func (w *walked) add(living, steps int) {
	w.sum += living * steps
	if living > 0 && steps > w.longest {
		w.longest = steps
	}
}

func stepsByHand(people, boxes []int) walked {
	var w walked
	for house, living := range people {
		_, steps := goneToBox(boxes, house)
		w.add(living, steps)
	}
	return w
}

// eachBoxes visits each choice of so many boxes, in their order.
func eachBoxes(houses, many int, visit func(boxes []int)) {
	boxes := make([]int, many)
	var choose func(i, from int)
	choose = func(i, from int) {
		if i == many {
			visit(boxes)
			return
		}
		for box := from; box < houses; box++ {
			boxes[i] = box
			choose(i+1, box+1)
		}
	}
	choose(0, 0)
}

// gapsByHand tells how far those walk who live between two boxes, at -1 and behind the last house there being none: the first index is greater by 1.
func gapsByHand(people []int) [][]walked {
	var gaps [][]walked
	for a := -1; a < len(people); a++ {
		row := make([]walked, len(people)+1)
		for b := a + 1; b <= len(people); b++ {
			for house := a + 1; house < b; house++ {
				steps := math.MaxInt
				if a >= 0 {
					steps = house - a
				}
				if b < len(people) {
					steps = min(steps, b-house)
				}
				if steps < math.MaxInt { // no choice is without any box
					row[b].add(people[house], steps)
				}
			}
		}
		gaps = append(gaps, row)
	}
	return gaps
}

// bestOfBoxes is what there is to tell of so many boxes.
type bestOfBoxes struct {
	first   []int
	sum     int
	longest int
}

// bestOfAllBoxes tries each choice of so many boxes, with gaps told before, as there are many.
func bestOfAllBoxes(people []int, gaps [][]walked, many int) bestOfBoxes {
	best := bestOfBoxes{sum: math.MaxInt, longest: math.MaxInt}
	eachBoxes(len(people), many, func(boxes []int) {
		sum, longest, before := 0, 0, -1
		for _, box := range boxes {
			gap := gaps[before+1][box]
			sum, longest, before = sum+gap.sum, max(longest, gap.longest), box
		}
		gap := gaps[before+1][len(people)]
		sum, longest = sum+gap.sum, max(longest, gap.longest)
		if sum < best.sum {
			best.sum, best.first = sum, slices.Clone(boxes)
		}
		best.longest = min(best.longest, longest)
	})
	return best
}

func wantBest(t *testing.T, people []int, many int, want bestOfBoxes) {
	t.Helper()
	what := " of " + strconv.Itoa(many) + " for " + listText(people)
	got, ok := impl.LeastBoxesSum(people, many)
	wantNumber(t, "LeastBoxesSum"+what, got, ok, want.sum, true)
	boxes, ok := impl.FirstBoxes(people, many)
	wantList(t, "FirstBoxes"+what, boxes, ok, want.first, true)
	got, ok = impl.BoxesSum(people, boxes)
	wantNumber(t, "BoxesSum of FirstBoxes"+what, got, ok, want.sum, true)
	got, ok = impl.FarthestBoxes(people, many)
	wantNumber(t, "FarthestBoxes"+what, got, ok, want.longest, true)
}

// listText writes numbers, whatever they are.
func listText(list []int) string {
	var texts []string
	for _, number := range list {
		texts = append(texts, strconv.Itoa(number))
	}
	return strings.Join(texts, "-")
}

func TestLimitsOfPeopleAreThoseOfTheDocument(t *testing.T) {
	if impl.MaxStreet != 60 || impl.MaxLiving != 1000 || impl.MaxBoxes != 5 {
		t.Error("limits", impl.MaxStreet, impl.MaxLiving, impl.MaxBoxes)
	}
}

func TestArePeople(t *testing.T) {
	for _, people := range allPeople() {
		if !impl.ArePeople(people) {
			t.Errorf("%v are no people", people)
		}
	}
	for _, people := range noPeople() {
		if impl.ArePeople(people) {
			t.Errorf("%v are people", people)
		}
	}
}

func TestWalksToHouses(t *testing.T) {
	for _, people := range allPeople() {
		var sums, longest []int
		for house := range people {
			w := stepsByHand(people, []int{house})
			sums, longest = append(sums, w.sum), append(longest, w.longest)
			what := " " + strconv.Itoa(house) + " of " + listText(people)
			got, ok := impl.WalksTo(people, house)
			wantNumber(t, "WalksTo"+what, got, ok, w.sum, true)
			got, ok = impl.FarthestTo(people, house)
			wantNumber(t, "FarthestTo"+what, got, ok, w.longest, true)
		}
		list, ok := impl.SumTable(people)
		wantList(t, "SumTable of "+listText(people), list, ok, sums, true)
		list, ok = impl.BestHouses(people)
		wantList(t, "BestHouses of "+listText(people), list, ok, indicesOfLeast(sums), true)
		list, ok = impl.CenterHouses(people)
		wantList(t, "CenterHouses of "+listText(people), list, ok, indicesOfLeast(longest), true)
	}
}

func indicesOfLeast(numbers []int) []int {
	var indices []int
	for i, number := range numbers {
		if number == slices.Min(numbers) {
			indices = append(indices, i)
		}
	}
	return indices
}

func TestHousesThatAreAsGood(t *testing.T) {
	for _, c := range []struct {
		people       []int
		best, center []int
	}{
		{[]int{1}, []int{0}, []int{0}}, {[]int{1000}, []int{0}, []int{0}}, {[]int{1, 1}, []int{0, 1}, []int{0, 1}}, {[]int{0, 1}, []int{1}, []int{1}},
		{[]int{2, 1}, []int{0}, []int{0, 1}}, {[]int{1, 0, 0, 1}, []int{0, 1, 2, 3}, []int{1, 2}}, {[]int{1, 0, 1}, []int{0, 1, 2}, []int{1}},
		{[]int{0, 0, 5, 0, 0}, []int{2}, []int{2}}, {[]int{0, 3, 0, 0, 3, 0}, []int{1, 2, 3, 4}, []int{2, 3}}, {[]int{0, 3, 0, 0, 2, 0}, []int{1}, []int{2, 3}},
		{onlyAt(60, 1000, 0, 59), numbersUpTo(60), []int{29, 30}}, {slices.Repeat([]int{1}, 60), []int{29, 30}, []int{29, 30}},
		{slices.Repeat([]int{1000}, 59), []int{29}, []int{29}}, {onlyAt(60, 1, 59), []int{59}, []int{59}},
	} {
		got, ok := impl.BestHouses(c.people)
		wantList(t, "BestHouses of "+listText(c.people), got, ok, c.best, true)
		got, ok = impl.CenterHouses(c.people)
		wantList(t, "CenterHouses of "+listText(c.people), got, ok, c.center, true)
	}
}

// numbersUpTo has 0, 1, .., so many of them.
func numbersUpTo(count int) []int {
	var list []int
	for number := range count {
		list = append(list, number)
	}
	return list
}

func TestWalksAtTheirLimits(t *testing.T) {
	full := slices.Repeat([]int{1000}, 60)
	got, ok := impl.WalksTo(full, 0)
	wantNumber(t, "WalksTo 0", got, ok, 1770000, true)
	got, ok = impl.WalksTo(full, 59)
	wantNumber(t, "WalksTo 59", got, ok, 1770000, true)
	got, ok = impl.WalksTo(onlyAt(60, 1000, 59), 0)
	wantNumber(t, "WalksTo the other end", got, ok, 59000, true)
	got, ok = impl.FarthestTo(onlyAt(60, 1, 59), 0)
	wantNumber(t, "FarthestTo the other end", got, ok, 59, true)
	got, ok = impl.FarthestTo(onlyAt(60, 1, 59), 59)
	wantNumber(t, "FarthestTo the own house", got, ok, 0, true)
	got, ok = impl.FarthestTo([]int{0, 0, 1, 1, 0, 0, 0}, 2)
	wantNumber(t, "FarthestTo where nobody lives at the ends", got, ok, 1, true)
}

func TestPeopleWithin(t *testing.T) {
	for _, people := range append(shortPeople(4), longPeople()...) {
		for house := range people {
			count := 0
			for far := range 61 {
				for at, living := range people {
					if _, steps := goneToBox([]int{house}, at); steps == far {
						count += living
					}
				}
				got, ok := impl.PeopleWithin(people, house, far)
				wantNumber(t, "PeopleWithin "+strconv.Itoa(far)+" of "+listText(people), got, ok, count, true)
			}
		}
	}
	people := onlyAt(60, 1000, 10, 20, 30)
	for far, want := range map[int]int{0: 1000, 9: 1000, 10: 3000, 11: 3000, 60: 3000} {
		got, ok := impl.PeopleWithin(people, 20, far)
		wantNumber(t, "PeopleWithin", got, ok, want, true)
	}
	got, ok := impl.PeopleWithin(slices.Repeat([]int{1000}, 60), 0, 60)
	wantNumber(t, "PeopleWithin all", got, ok, 60000, true)
	got, ok = impl.PeopleWithin(onlyAt(60, 1, 59), 0, 58)
	wantNumber(t, "PeopleWithin one step too few", got, ok, 0, true)
	got, ok = impl.PeopleWithin(onlyAt(60, 1, 59), 0, 59)
	wantNumber(t, "PeopleWithin just as far", got, ok, 1, true)
}

func TestPeopleWithinFails(t *testing.T) {
	for _, far := range []int{-1, 61, 100, math.MinInt, math.MaxInt} {
		for _, people := range [][]int{{1}, {1, 0, 0, 2, 1}, slices.Repeat([]int{1}, 60)} {
			got, ok := impl.PeopleWithin(people, 0, far)
			wantNumber(t, "PeopleWithin "+strconv.Itoa(far), got, ok, 0, false)
		}
	}
}

func wantBoxes(t *testing.T, people, boxes []int) {
	t.Helper()
	var nearest []int
	for house := range people {
		box, _ := goneToBox(boxes, house)
		nearest = append(nearest, box)
	}
	what := " " + listText(boxes) + " for " + listText(people)
	got, ok := impl.BoxesSum(people, boxes)
	wantNumber(t, "BoxesSum of"+what, got, ok, stepsByHand(people, boxes).sum, true)
	list, ok := impl.BoxOfEach(people, boxes)
	wantList(t, "BoxOfEach of"+what, list, ok, nearest, true)
}

func TestBoxes(t *testing.T) {
	for _, people := range append(shortPeople(5), mixedPeople(8, 1000, 1, false), mixedPeople(9, 9, 2, true)) {
		for many := 1; many <= min(5, len(people)); many++ {
			eachBoxes(len(people), many, func(boxes []int) { wantBoxes(t, people, boxes) })
		}
	}
	for _, people := range longPeople() {
		for seed := range 60 {
			boxes := mixedNumbers(seed%5+1, len(people)-1, seed)
			slices.Sort(boxes)
			wantBoxes(t, people, slices.Compact(boxes))
		}
	}
}

func TestBoxesThatAreAsNear(t *testing.T) {
	for _, c := range []struct{ boxes, want []int }{
		{[]int{0, 2}, []int{0, 0, 2, 2, 2, 2, 2}}, {[]int{0, 3}, []int{0, 0, 3, 3, 3, 3, 3}}, {[]int{1, 5}, []int{1, 1, 1, 1, 5, 5, 5}},
		{[]int{0, 2, 4, 6}, []int{0, 0, 2, 2, 4, 4, 6}}, {[]int{6}, slices.Repeat([]int{6}, 7)}, {[]int{0, 1, 2, 3, 4}, []int{0, 1, 2, 3, 4, 4, 4}},
	} {
		got, ok := impl.BoxOfEach(onlyAt(7, 1, 6), c.boxes)
		wantList(t, "BoxOfEach of "+listText(c.boxes), got, ok, c.want, true)
	}
	got, ok := impl.BoxesSum([]int{0, 9, 0}, []int{0, 2})
	wantNumber(t, "BoxesSum in the middle", got, ok, 9, true)
}

func TestBoxesThatThereAreNot(t *testing.T) {
	six := []int{1, 0, 0, 2, 1, 3}
	for _, boxes := range [][]int{
		nil, {}, {-1}, {6}, {-1, 0}, {0, 6}, {0, 3, 6}, {3, 0}, {0, 0}, {0, 3, 3}, {0, 3, 2}, {5, 4, 3}, {0, 1, 2, 3, 4, 5}, {math.MinInt}, {math.MaxInt},
		{0, math.MaxInt}, {math.MinInt, 0}, {math.MaxInt, math.MinInt}, {60}, slices.Repeat([]int{0}, 6), slices.Repeat([]int{1}, 5000), numbersUpTo(5000),
	} {
		wantNoBoxes(t, six, boxes)
	}
	wantNoBoxes(t, []int{1}, []int{1})
	wantNoBoxes(t, []int{1}, []int{0, 0})
	wantNoBoxes(t, []int{1, 1}, []int{0, 1, 2})
	wantNoBoxes(t, slices.Repeat([]int{1}, 60), []int{60})
	wantNoBoxes(t, slices.Repeat([]int{1}, 60), numbersUpTo(6))
}

func wantNoBoxes(t *testing.T, people, boxes []int) {
	t.Helper()
	got, ok := impl.BoxesSum(people, boxes)
	wantNumber(t, "BoxesSum of "+listText(boxes), got, ok, 0, false)
	list, ok := impl.BoxOfEach(people, boxes)
	wantList(t, "BoxOfEach of "+listText(boxes), list, ok, nil, false)
}

func TestBestBoxesOfShortStreets(t *testing.T) {
	for _, people := range append(shortPeople(6), mixedPeople(10, 1000, 1, false), mixedPeople(11, 9, 2, true), mixedPeople(12, 2, 3, false)) {
		for many := 1; many <= min(5, len(people)); many++ {
			want := bestOfBoxes{sum: math.MaxInt, longest: math.MaxInt}
			eachBoxes(len(people), many, func(boxes []int) {
				w := stepsByHand(people, boxes)
				if w.sum < want.sum {
					want.sum, want.first = w.sum, slices.Clone(boxes)
				}
				want.longest = min(want.longest, w.longest)
			})
			wantBest(t, people, many, want)
		}
	}
}

func TestBestBoxesOfLongStreets(t *testing.T) {
	for _, people := range longPeople() {
		gaps := gapsByHand(people)
		for many := 1; many <= 5; many++ {
			wantBest(t, people, many, bestOfAllBoxes(people, gaps, many))
		}
	}
}

func TestBestBoxesByExamples(t *testing.T) {
	for _, c := range []struct {
		people []int
		many   int
		want   bestOfBoxes
	}{
		{[]int{1}, 1, bestOfBoxes{[]int{0}, 0, 0}}, {[]int{1, 1}, 1, bestOfBoxes{[]int{0}, 1, 1}}, {[]int{1, 1}, 2, bestOfBoxes{[]int{0, 1}, 0, 0}},
		{[]int{1, 1, 1}, 2, bestOfBoxes{[]int{0, 1}, 1, 1}}, {[]int{0, 0, 0, 0, 5}, 3, bestOfBoxes{[]int{0, 1, 4}, 0, 0}},
		{[]int{5, 0, 0, 0}, 3, bestOfBoxes{[]int{0, 1, 2}, 0, 0}}, {[]int{1, 1, 1, 1, 1}, 5, bestOfBoxes{[]int{0, 1, 2, 3, 4}, 0, 0}},
		{onlyAt(60, 1, 0, 59), 2, bestOfBoxes{[]int{0, 59}, 0, 0}}, {onlyAt(60, 1, 0, 59), 1, bestOfBoxes{[]int{0}, 59, 30}},
		{onlyAt(60, 1, 59), 5, bestOfBoxes{[]int{0, 1, 2, 3, 59}, 0, 0}}, {slices.Repeat([]int{1000}, 60), 5, bestOfBoxes{[]int{5, 16, 27, 40, 53}, 180000, 6}},
	} {
		wantBest(t, c.people, c.many, c.want)
	}
}

func TestNumbersOfBoxesThatThereAreNot(t *testing.T) {
	for _, people := range slices.Concat(shortPeople(6), longPeople()) {
		for _, many := range []int{0, -1, min(5, len(people)) + 1, len(people) + 1, 6, 60, math.MinInt, math.MaxInt} {
			wantNoBest(t, people, many)
		}
	}
}

func wantNoBest(t *testing.T, people []int, many int) {
	t.Helper()
	got, ok := impl.LeastBoxesSum(people, many)
	wantNumber(t, "LeastBoxesSum", got, ok, 0, false)
	boxes, ok := impl.FirstBoxes(people, many)
	wantList(t, "FirstBoxes", boxes, ok, nil, false)
	got, ok = impl.FarthestBoxes(people, many)
	wantNumber(t, "FarthestBoxes", got, ok, 0, false)
}

// fewestByHand takes the first number of boxes with which nobody has a longer walk, of the longest walks with one box, two, and so on.
func fewestByHand(longest []int, far int) (int, bool) {
	for i, steps := range longest {
		if steps <= far {
			return i + 1, true
		}
	}
	return 0, false
}

func TestFewestBoxes(t *testing.T) {
	failed := false
	for _, people := range slices.Concat(shortPeople(6), [][]int{mixedPeople(12, 9, 1, false), mixedPeople(20, 1, 2, true)}, longPeople()[:10]) {
		var longest []int
		gaps := gapsByHand(people)
		for many := 1; many <= min(5, len(people)); many++ {
			longest = append(longest, bestOfAllBoxes(people, gaps, many).longest)
		}
		for far := range 61 {
			want, there := fewestByHand(longest, far)
			failed = failed || !there
			got, ok := impl.FewestBoxes(people, far)
			wantNumber(t, "FewestBoxes within "+strconv.Itoa(far)+" for "+listText(people), got, ok, want, there)
		}
	}
	if !failed {
		t.Error("no FewestBoxes was too many")
	}
}

func TestFewestBoxesAtTheirLimits(t *testing.T) {
	everywhere := slices.Repeat([]int{1}, 60)
	for _, c := range []struct {
		people []int
		far    int
		want   int
	}{
		{[]int{1}, 0, 1}, {[]int{1}, 60, 1}, {[]int{0, 1, 0}, 0, 1}, {[]int{1, 1, 1, 1, 1}, 0, 5}, {[]int{1, 1, 1, 1, 1, 1}, 0, 0}, {[]int{1, 0, 1, 1, 1, 1}, 0, 5},
		{[]int{1, 0, 0, 1}, 1, 2}, {[]int{1, 0, 0, 1}, 2, 1}, {[]int{1, 0, 1}, 1, 1}, {everywhere, 0, 0}, {everywhere, 5, 0}, {everywhere, 6, 5}, {everywhere, 7, 4},
		{everywhere, 29, 2}, {everywhere, 30, 1}, {everywhere, 60, 1}, {onlyAt(60, 1, 0, 59), 29, 2}, {onlyAt(60, 1, 0, 59), 30, 1}, {onlyAt(60, 1000, 59), 0, 1},
	} {
		got, ok := impl.FewestBoxes(c.people, c.far)
		wantNumber(t, "FewestBoxes within "+strconv.Itoa(c.far)+" for "+listText(c.people), got, ok, c.want, c.want > 0)
	}
	for _, far := range []int{-1, 61, math.MinInt, math.MaxInt, math.MaxInt/2 + 1} {
		for _, people := range [][]int{{1}, {1, 0, 0, 2, 1}, everywhere} {
			got, ok := impl.FewestBoxes(people, far)
			wantNumber(t, "FewestBoxes within "+strconv.Itoa(far), got, ok, 0, false)
		}
	}
}

func wantMean(t *testing.T, people []int, want, wantDivisor int, wantOK bool) {
	t.Helper()
	got, divisor, ok := impl.MeanHouse(people)
	if got != want || divisor != wantDivisor || ok != wantOK {
		t.Errorf("MeanHouse of %v is %d, %d, %t; want %d, %d, %t", people, got, divisor, ok, want, wantDivisor, wantOK)
	}
}

// meanByHand takes the least denominator with which the mean is a fraction.
func meanByHand(people []int) (int, int) {
	heads, houses := 0, 0
	for house, living := range people {
		heads += living
		houses += living * house
	}
	divisor := 1
	for houses*divisor%heads != 0 {
		divisor++
	}
	return houses * divisor / heads, divisor
}

func TestMeanHouse(t *testing.T) {
	for _, people := range allPeople() {
		want, divisor := meanByHand(people)
		wantMean(t, people, want, divisor, true)
	}
	wantMean(t, []int{1}, 0, 1, true)
	wantMean(t, []int{1000, 0, 0}, 0, 1, true)
	wantMean(t, []int{0, 1000}, 1, 1, true)
	wantMean(t, []int{1, 1}, 1, 2, true)
	wantMean(t, []int{2, 2, 2}, 1, 1, true)
	wantMean(t, []int{4, 0, 2}, 2, 3, true)
	wantMean(t, slices.Repeat([]int{1000}, 60), 59, 2, true)
	wantMean(t, append(slices.Repeat([]int{1000}, 59), 999), 1769941, 59999, true)
	wantMean(t, onlyAt(60, 1, 59), 59, 1, true)
}

func TestMovedPeople(t *testing.T) {
	for _, people := range append(shortPeople(4), []int{1000, 5, 995, 0, 1}, []int{999, 1000, 1}) {
		for from := -1; from <= len(people); from++ {
			for to := -1; to <= len(people); to++ {
				for many := -1; many <= 3; many++ {
					want, there := movedByHand(people, from, to, many)
					got, ok := impl.MovedPeople(people, from, to, many)
					wantList(t, "MovedPeople of "+listText(people), got, ok, want, there)
				}
			}
		}
	}
}

// movedByHand moves one after the other, as long as it can be done.
func movedByHand(people []int, from, to, many int) ([]int, bool) {
	if from < 0 || from >= len(people) || to < 0 || to >= len(people) || from == to || many < 1 {
		return nil, false
	}
	moved := slices.Clone(people)
	for range many {
		if moved[from] == 0 || moved[to] == 1000 {
			return nil, false
		}
		moved[from]--
		moved[to]++
	}
	return moved, true
}

func TestMovedPeopleAtTheirLimits(t *testing.T) {
	people := []int{1000, 400, 600, 0, 1}
	for _, c := range []struct {
		from, to, many int
		want           []int
	}{
		{0, 3, 1000, []int{0, 400, 600, 1000, 1}}, {0, 3, 1001, nil}, {1, 3, 400, []int{1000, 0, 600, 400, 1}}, {1, 3, 401, nil}, {1, 2, 400, []int{1000, 0, 1000, 0, 1}},
		{2, 1, 600, []int{1000, 1000, 0, 0, 1}}, {0, 1, 600, []int{400, 1000, 600, 0, 1}}, {0, 1, 601, nil}, {4, 0, 1, nil}, {4, 3, 1, []int{1000, 400, 600, 1, 0}}, {4, 3, 2, nil},
		{0, 4, 999, []int{1, 400, 600, 0, 1000}}, {0, 4, 1000, nil}, {0, 3, 0, nil}, {0, 3, -1, nil}, {3, 0, -1, nil}, {3, 0, 1, nil}, {0, 0, 1, nil}, {1, 1, 400, nil}, {3, 3, 1, nil},
		{-1, 0, 1, nil}, {0, -1, 1, nil}, {5, 0, 1, nil}, {0, 5, 1, nil}, {math.MinInt, math.MaxInt, 1, nil}, {0, 3, math.MaxInt, nil}, {0, 3, math.MinInt, nil}, {3, 0, math.MinInt, nil},
	} {
		got, ok := impl.MovedPeople(people, c.from, c.to, c.many)
		wantList(t, "MovedPeople", got, ok, c.want, c.want != nil)
	}
	got, ok := impl.MovedPeople([]int{1}, 0, 0, 1)
	wantList(t, "MovedPeople in one house", got, ok, nil, false)
	got, ok = impl.MovedPeople([]int{1, 0}, 0, 1, 1)
	wantList(t, "MovedPeople of one", got, ok, []int{0, 1}, true)
}

func TestMirrorPeople(t *testing.T) {
	for _, people := range allPeople() {
		var want []int
		for _, living := range people {
			want = append([]int{living}, want...)
		}
		got, ok := impl.MirrorPeople(people)
		wantList(t, "MirrorPeople of "+listText(people), got, ok, want, true)
	}
}

func TestPeopleTextsAreReadAgain(t *testing.T) {
	for _, people := range allPeople() {
		text, ok := impl.PeopleText(people)
		wantText(t, "PeopleText", text, ok, listText(people), true)
		again, ok := impl.ParsePeople(text)
		wantList(t, "ParsePeople of "+text, again, ok, people, true)
	}
}

func noPeopleTexts() []string {
	return []string{
		"", " ", "-", "--", "-1", "1-", "1--1", "--1", "1- 1", " 1", "1 ", "1\n", "\n", "01", "1-00", "00-1", "1-01", "+1", "1-+1", "1,1", "1-0-0-2-1-", "-1-0-0-2-1",
		"0", "0-0", "0-0-0-0-0", "1001", "1-1001", "1001-1", "1-99999999999999999999", "99999999999999999999", "9223372036854775807", "9223372036854775808", "18446744073709551617", "1e3",
		"0x1", "1_0", "a", "1-a", "1.0", "1–1", "１", "\x00", "1\x00", "\xff", "1-\xff", listText(slices.Repeat([]int{1}, 61)), listText(onlyAt(60, 1, 5)) + "-0",
		strings.Repeat("0-", 59) + "0", strings.Repeat("0", 60) + "1", strings.Repeat("1-", 5000) + "1", strings.Repeat("-", 5000), strings.Repeat("1", 5000),
	}
}

func TestParsePeopleFails(t *testing.T) {
	for _, text := range noPeopleTexts() {
		got, ok := impl.ParsePeople(text)
		wantList(t, "ParsePeople of "+strconv.Quote(text), got, ok, nil, false)
	}
}

func TestMeetingsFailWithoutPeople(t *testing.T) {
	for _, people := range noPeople() {
		for _, house := range []int{0, 1, 59} {
			wantNoHouse(t, people, house)
		}
		wantNoBoxes(t, people, []int{0})
		wantNoBoxes(t, people, []int{0, 1})
		for many := range 6 {
			wantNoBest(t, people, many)
		}
		for _, far := range []int{0, 1, 60} {
			got, ok := impl.FewestBoxes(people, far)
			wantNumber(t, "FewestBoxes of none", got, ok, 0, false)
		}
		wantMean(t, people, 0, 0, false)
		for name, f := range map[string]func([]int) ([]int, bool){
			"BestHouses": impl.BestHouses, "CenterHouses": impl.CenterHouses, "SumTable": impl.SumTable, "MirrorPeople": impl.MirrorPeople,
		} {
			got, ok := f(people)
			wantList(t, name+" of none", got, ok, nil, false)
		}
		got, ok := impl.MovedPeople(people, 0, 1, 1)
		wantList(t, "MovedPeople of none", got, ok, nil, false)
		text, ok := impl.PeopleText(people)
		wantText(t, "PeopleText of none", text, ok, "", false)
	}
}

func wantNoHouse(t *testing.T, people []int, house int) {
	t.Helper()
	got, ok := impl.WalksTo(people, house)
	wantNumber(t, "WalksTo", got, ok, 0, false)
	got, ok = impl.FarthestTo(people, house)
	wantNumber(t, "FarthestTo", got, ok, 0, false)
	for _, far := range []int{0, 1, 60} {
		got, ok = impl.PeopleWithin(people, house, far)
		wantNumber(t, "PeopleWithin", got, ok, 0, false)
	}
}

func TestHousesToMeetAtThatThereAreNot(t *testing.T) {
	for _, people := range [][]int{{1}, {1, 0, 0, 2, 1}, slices.Repeat([]int{1}, 60)} {
		for _, house := range []int{-1, len(people), len(people) + 1, 60, -len(people), math.MinInt, math.MaxInt} {
			wantNoHouse(t, people, house)
		}
	}
}

func TestExampleOfChapter5(t *testing.T) {
	people, ok := impl.ParsePeople("1-0-0-2-1")
	wantList(t, "ParsePeople", people, ok, []int{1, 0, 0, 2, 1}, true)
	list, ok := impl.SumTable(people)
	wantList(t, "SumTable", list, ok, []int{10, 8, 6, 4, 6}, true)
	list, ok = impl.BestHouses(people)
	wantList(t, "BestHouses", list, ok, []int{3}, true)
	list, ok = impl.CenterHouses(people)
	wantList(t, "CenterHouses", list, ok, []int{2}, true)
	got, ok := impl.FarthestTo(people, 2)
	wantNumber(t, "FarthestTo", got, ok, 2, true)
	wantBest(t, people, 2, bestOfBoxes{[]int{0, 3}, 1, 1})
	got, ok = impl.FewestBoxes(people, 0)
	wantNumber(t, "FewestBoxes within 0", got, ok, 3, true)
	got, ok = impl.FewestBoxes(people, 2)
	wantNumber(t, "FewestBoxes within 2", got, ok, 1, true)
	wantMean(t, people, 5, 2, true)
	list, ok = impl.BoxOfEach(people, []int{0, 3})
	wantList(t, "BoxOfEach", list, ok, []int{0, 0, 3, 3, 3}, true)
}
