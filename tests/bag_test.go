package tests

import (
	"math"
	"runtime"
	"slices"
	"strconv"
	"strings"
	"testing"

	"loop.example/g01336/impl"
)

// Promise 8: trips have all parcels and are not too heavy, and fewest and shortest plans are best.

// parcels are told by their houses and weights.
func parcels(pairs ...[2]int) []impl.Parcel {
	var list []impl.Parcel
	for _, pair := range pairs {
		list = append(list, impl.Parcel{House: pair[0], Weight: pair[1]})
	}
	return list
}

func parcelsByHand(list []impl.Parcel) string {
	var texts []string
	for _, p := range list {
		texts = append(texts, strconv.Itoa(p.House)+"*"+strconv.Itoa(p.Weight))
	}
	return strings.Join(texts, ",")
}

// toldBag names a call in a message.
func toldBag(name string, list []impl.Parcel, bag int) string {
	return name + " of " + parcelsByHand(list) + " in " + strconv.Itoa(bag)
}

// sameParcels has so many parcels that are all the same.
func sameParcels(count, house, weight int) []impl.Parcel {
	return slices.Repeat(parcels([2]int{house, weight}), count)
}

// mixedParcels follow no plain pattern.
func mixedParcels(count, farthest, heaviest, seed int) []impl.Parcel {
	var list []impl.Parcel
	numbers := mixedNumbers(2*count, 10006, seed)
	for k := range count {
		list = append(list, impl.Parcel{House: 1 + numbers[2*k]%farthest, Weight: 1 + numbers[2*k+1]%heaviest})
	}
	return list
}

// fewParcels has all lists of one or two parcels with small numbers, and mixed ones of up to four.
func fewParcels() [][]impl.Parcel {
	var lists [][]impl.Parcel
	for count := 1; count <= 2; count++ {
		eachNumbers(2*count, 3, func(numbers []int) {
			var list []impl.Parcel
			for k := range count {
				list = append(list, impl.Parcel{House: 1 + numbers[2*k], Weight: 1 + numbers[2*k+1]})
			}
			lists = append(lists, list)
		})
	}
	for seed := range 12 {
		lists = append(lists,
			mixedParcels(3, 2, 2, seed), mixedParcels(3, 5, 4, seed), mixedParcels(3, 100, 1000, seed),
			mixedParcels(4, 2, 1, seed), mixedParcels(4, 3, 3, seed), mixedParcels(4, 9, 6, seed), mixedParcels(4, 100, 1000, seed))
	}
	return append(lists, parcels([2]int{3, 4}, [2]int{5, 3}, [2]int{1, 2}), sameParcels(1, 100, 1000), sameParcels(3, 1, 1), sameParcels(4, 100, 1000))
}

// manyParcels goes up to MaxParcels.
func manyParcels() [][]impl.Parcel {
	lists := [][]impl.Parcel{
		sameParcels(8, 1, 1), sameParcels(8, 100, 1000), sameParcels(7, 3, 2), sameParcels(5, 9, 10),
		parcels([2]int{1, 5}, [2]int{2, 4}, [2]int{3, 3}, [2]int{4, 2}, [2]int{5, 1}, [2]int{6, 2}, [2]int{7, 3}, [2]int{8, 4}),
		parcels([2]int{8, 4}, [2]int{8, 3}, [2]int{8, 3}, [2]int{2, 2}, [2]int{2, 2}, [2]int{2, 6}, [2]int{1, 7}, [2]int{100, 1}),
		parcels([2]int{100, 1}, [2]int{99, 2}, [2]int{98, 4}, [2]int{97, 8}, [2]int{96, 16}, [2]int{95, 32}, [2]int{94, 64}, [2]int{93, 128}),
	}
	for seed := range 4 {
		lists = append(lists,
			mixedParcels(5, 4, 5, seed), mixedParcels(5, 100, 1000, seed), mixedParcels(6, 3, 3, seed), mixedParcels(6, 20, 9, seed),
			mixedParcels(7, 2, 4, seed), mixedParcels(7, 100, 1000, seed), mixedParcels(8, 3, 2, seed), mixedParcels(8, 9, 7, seed), mixedParcels(8, 100, 1000, seed))
	}
	return lists
}

func allParcels() [][]impl.Parcel {
	return append(fewParcels(), manyParcels()...)
}

// heaviestOf and weightOfAll tell which bags can carry parcels, and which one all together.
func heaviestOf(list []impl.Parcel) int {
	heaviest := 0
	for _, p := range list {
		heaviest = max(heaviest, p.Weight)
	}
	return heaviest
}

func weightOfAll(list []impl.Parcel) int {
	weight := 0
	for _, p := range list {
		weight += p.Weight
	}
	return weight
}

// bagsFor has bags that can carry parcels: from one just as heavy as the heaviest parcel up to one with more room than is needed.
func bagsFor(list []impl.Parcel) []int {
	least, all := heaviestOf(list), weightOfAll(list)
	bags := []int{least, least + 1, (least + all) / 2, (2*least + all) / 3, max(all-1, least), all, all + 1, 10000}
	slices.Sort(bags)
	return slices.Compact(bags)
}

// noBagsFor has those that cannot.
func noBagsFor(list []impl.Parcel) []int {
	return []int{math.MinInt, -10000, -1, 0, heaviestOf(list) - 1, 10001, 20000, math.MaxInt - 1, math.MaxInt}
}

func noParcels() [][]impl.Parcel {
	lists := [][]impl.Parcel{
		nil, {}, parcels([2]int{}), parcels([2]int{0, 1}), parcels([2]int{1, 0}), parcels([2]int{-1, 1}), parcels([2]int{1, -1}), parcels([2]int{101, 1}), parcels([2]int{1, 1001}),
		parcels([2]int{math.MinInt, 1}), parcels([2]int{1, math.MinInt}), parcels([2]int{math.MaxInt, 1}), parcels([2]int{1, math.MaxInt}), parcels([2]int{math.MaxInt, math.MaxInt}),
		parcels([2]int{1, 1}, [2]int{0, 1}), parcels([2]int{0, 1}, [2]int{1, 1}), parcels([2]int{1, 1}, [2]int{1, 0}), parcels([2]int{1, 1}, [2]int{101, 1}, [2]int{1, 1}),
		parcels([2]int{3, 4}, [2]int{5, 3}, [2]int{1, 1001}), parcels([2]int{1, math.MaxInt}, [2]int{1, math.MaxInt}, [2]int{1, 4}),
		sameParcels(9, 1, 1), sameParcels(9, 100, 1000), sameParcels(10, 3, 4), sameParcels(5000, 1, 1), sameParcels(5000, 0, 0),
	}
	late := sameParcels(8, 1, 1)
	late[7].House = 101
	light := sameParcels(8, 1, 1)
	light[7].Weight = 0
	return append(lists, late, light)
}

func TestLimitsOfParcelsAreThoseOfTheDocument(t *testing.T) {
	if impl.MaxParcels != 8 || impl.MaxHouse != 100 || impl.MaxWeight != 1000 {
		t.Error("limits", impl.MaxParcels, impl.MaxHouse, impl.MaxWeight)
	}
}

func TestAreParcels(t *testing.T) {
	for _, list := range allParcels() {
		if !impl.AreParcels(list) {
			t.Errorf("%v are no parcels", list)
		}
	}
	for _, list := range noParcels() {
		if impl.AreParcels(list) {
			t.Errorf("%v are parcels", list)
		}
	}
}

// tripsByHand has the parcels of each trip, if a list of any numbers is a plan.
func tripsByHand(list []impl.Parcel, bag int, plan []int) ([][]int, bool) {
	if len(plan) != len(list) {
		return nil, false
	}
	var trips [][]int
	for k, trip := range plan {
		if trip < 0 || trip > len(trips) {
			return nil, false
		}
		if trip == len(trips) {
			trips = append(trips, nil)
		}
		trips[trip] = append(trips[trip], k)
	}
	for _, trip := range trips {
		if weightByHand(list, trip) > bag {
			return nil, false
		}
	}
	return trips, true
}

func weightByHand(list []impl.Parcel, trip []int) int {
	weight := 0
	for _, k := range trip {
		weight += list[k].Weight
	}
	return weight
}

func farthestInTrip(list []impl.Parcel, trip []int) int {
	farthest := 0
	for _, k := range trip {
		farthest = max(farthest, list[k].House)
	}
	return farthest
}

// lengthByHand walks all trips there and back.
func lengthByHand(list []impl.Parcel, trips [][]int) int {
	length := 0
	for _, trip := range trips {
		length += farthestInTrip(list, trip) + farthestInTrip(list, trip)
	}
	return length
}

// withoutBackByHand tries each trip as the one from which one does not come back: the least length is meant, as the farthest trip saves the most.
func withoutBackByHand(list []impl.Parcel, trips [][]int) int {
	least := math.MaxInt
	for _, last := range trips {
		least = min(least, lengthByHand(list, trips)-farthestInTrip(list, last))
	}
	return least
}

// wantPlan checks all that is told of a list of any numbers as a plan of parcels in a bag, and tells whether it is one.
func wantPlan(t *testing.T, list []impl.Parcel, bag int, plan []int) ([][]int, bool) {
	t.Helper()
	trips, there := tripsByHand(list, bag, plan)
	length, withoutBack := 0, 0
	var weights []int
	if there {
		length, withoutBack = lengthByHand(list, trips), withoutBackByHand(list, trips)
		for _, trip := range trips {
			weights = append(weights, weightByHand(list, trip))
		}
	}
	what := toldBag(" of "+listText(plan), list, bag)
	is, ok := impl.IsBagPlan(list, bag, plan)
	wantTruth(t, "IsBagPlan"+what, is, ok, there, true)
	got, ok := impl.TripsOfPlan(list, bag, plan)
	wantLists(t, "TripsOfPlan"+what, got, ok, trips, there)
	number, ok := impl.LengthOfPlan(list, bag, plan)
	wantNumber(t, "LengthOfPlan"+what, number, ok, length, there)
	number, ok = impl.LengthWithoutBack(list, bag, plan)
	wantNumber(t, "LengthWithoutBack"+what, number, ok, withoutBack, there)
	told, ok := impl.WeightsOfTrips(list, bag, plan)
	wantList(t, "WeightsOfTrips"+what, told, ok, weights, there)
	return trips, there
}

// wantBestPlans checks the plans with the fewest trips and the shortest ones.
func wantBestPlans(t *testing.T, list []impl.Parcel, bag int, fewest, shortest bestOfLists) {
	t.Helper()
	got, ok := impl.FewestTrips(list, bag)
	wantNumber(t, toldBag("FewestTrips", list, bag), got, ok, fewest.number, true)
	plan, ok := impl.FirstFewestPlan(list, bag)
	wantList(t, toldBag("FirstFewestPlan", list, bag), plan, ok, fewest.first, true)
	got, ok = impl.LeastLength(list, bag)
	wantNumber(t, toldBag("LeastLength", list, bag), got, ok, shortest.number, true)
	plan, ok = impl.FirstShortestPlan(list, bag)
	wantList(t, toldBag("FirstShortestPlan", list, bag), plan, ok, shortest.first, true)
	got, ok = impl.CountShortestPlans(list, bag)
	wantNumber(t, toldBag("CountShortestPlans", list, bag), got, ok, shortest.count, true)
}

// eachPlanByHand tries all lists of numbers from -1 up to as many as there are parcels, and visits those that are plans, in their order.
func eachPlanByHand(t *testing.T, list []impl.Parcel, bag int, visit func(plan []int, trips [][]int)) {
	t.Helper()
	eachNumbers(len(list), len(list)+2, func(numbers []int) {
		var plan []int
		for _, number := range numbers {
			plan = append(plan, number-1)
		}
		if trips, there := wantPlan(t, list, bag, plan); there {
			visit(plan, trips)
		}
	})
}

func TestAllPlansOfFewParcels(t *testing.T) {
	sawSeveral := false
	for _, list := range fewParcels() {
		for _, bag := range bagsFor(list) {
			var fewest, shortest bestOfLists
			eachPlanByHand(t, list, bag, func(plan []int, trips [][]int) {
				fewest.add(plan, len(trips))
				shortest.add(plan, lengthByHand(list, trips))
			})
			wantBestPlans(t, list, bag, fewest, shortest)
			sawSeveral = sawSeveral || fewest.count > 1 && shortest.count > 1 && !slices.Equal(fewest.first, shortest.first)
		}
	}
	if !sawSeveral {
		t.Error("no parcels with several plans that have the fewest trips, and other ones that are the shortest")
	}
}

func TestPlansOfAnotherLength(t *testing.T) {
	for _, list := range allParcels() {
		plan, _ := impl.PackInOrder(list, 10000)
		for _, other := range [][]int{
			nil, {}, plan[:len(plan)-1], append(slices.Clone(plan), 0), append(slices.Clone(plan), 1), slices.Repeat([]int{0}, 9), slices.Repeat([]int{0}, 5000), numbersUpTo(9),
		} {
			if len(other) != len(list) {
				wantPlan(t, list, 10000, other)
			}
		}
	}
}

func TestPlansWithFarNumbers(t *testing.T) {
	for _, plan := range [][]int{
		{math.MinInt, 0, 0}, {0, math.MinInt, 0}, {0, 0, math.MaxInt}, {0, math.MaxInt, 1}, {math.MaxInt, math.MaxInt, math.MaxInt}, {0, 0, 3}, {0, 1, 3}, {0, 2, 1}, {1, 0, 2}, {1, 1, 1}, {1, 2, 3},
		{0, -1, 0}, {-1, 0, 1}, {0, 1, -1},
	} {
		if _, there := wantPlan(t, sameParcels(3, 5, 1), 10000, plan); there {
			t.Error("a plan by hand:", plan)
		}
	}
}

// theParcels are those of one trip with some parcels, and of the others.
func theParcels(left, trip []int) []int {
	var rest []int
	for _, k := range left {
		if !slices.Contains(trip, k) {
			rest = append(rest, k)
		}
	}
	return rest
}

// planner finds best plans trip by trip: what the best plans of all parcels that are left are, it tells once.
type planner struct {
	list    []impl.Parcel
	bag     int
	measure func(list []impl.Parcel, trip []int) int
	known   map[string]bestOfLists
}

// best tells the plans of the parcels that are left with the least sum of measures: their first list tells trips of these parcels.
func (p *planner) best(left []int) bestOfLists {
	if len(left) == 0 {
		return bestOfLists{count: 1}
	}
	if best, ok := p.known[listText(left)]; ok {
		return best
	}
	var best bestOfLists
	for choice := range 1 << (len(left) - 1) {
		trip := left[:1:1]
		for i, k := range left[1:] {
			if choice>>i&1 == 1 {
				trip = append(trip, k)
			}
		}
		if weightByHand(p.list, trip) > p.bag {
			continue
		}
		rest := theParcels(left, trip)
		behind := p.best(rest)
		number := behind.number + p.measure(p.list, trip)
		if best.count > 0 && number > best.number {
			continue
		}
		plan := put(left, trip, behind.first)
		if best.count == 0 || number < best.number {
			best = bestOfLists{number: number, first: plan}
		}
		if slices.Compare(plan, best.first) < 0 {
			best.first = plan
		}
		best.count += behind.count
	}
	p.known[listText(left)] = best
	return best
}

// put tells the trips of parcels of which some are on the trip 0, and the rest on trips behind it.
func put(left, trip, behind []int) []int {
	var plan []int
	for _, k := range left {
		if slices.Contains(trip, k) {
			plan = append(plan, 0)
		} else {
			plan = append(plan, 1+behind[0])
			behind = behind[1:]
		}
	}
	return plan
}

func bestPlans(list []impl.Parcel, bag int, measure func(list []impl.Parcel, trip []int) int) bestOfLists {
	p := planner{list: list, bag: bag, measure: measure, known: map[string]bestOfLists{}}
	return p.best(numbersUpTo(len(list)))
}

func fewestByTrips(list []impl.Parcel, bag int) bestOfLists {
	return bestPlans(list, bag, func([]impl.Parcel, []int) int { return 1 })
}

func shortestByTrips(list []impl.Parcel, bag int) bestOfLists {
	return bestPlans(list, bag, func(list []impl.Parcel, trip []int) int { return 2 * farthestInTrip(list, trip) })
}

func TestBestPlansOfManyParcels(t *testing.T) {
	for _, list := range manyParcels() {
		for _, bag := range bagsFor(list) {
			fewest, shortest := fewestByTrips(list, bag), shortestByTrips(list, bag)
			wantBestPlans(t, list, bag, fewest, shortest)
			trips, there := wantPlan(t, list, bag, fewest.first)
			if !there || len(trips) != fewest.number {
				t.Error("no fewest plan by hand", list, bag, fewest)
			}
			trips, there = wantPlan(t, list, bag, shortest.first)
			if !there || lengthByHand(list, trips) != shortest.number {
				t.Error("no shortest plan by hand", list, bag, shortest)
			}
		}
	}
}

func TestBestPlansThatAreKnown(t *testing.T) {
	halves := []int{0, 0, 0, 0, 1, 1, 1, 1}
	alone := numbersUpTo(8)
	together := make([]int, 8)
	for _, c := range []struct {
		list             []impl.Parcel
		bag              int
		fewest, shortest bestOfLists
	}{
		{sameParcels(1, 1, 1), 1, bestOfLists{1, 1, []int{0}}, bestOfLists{2, 1, []int{0}}},
		{sameParcels(1, 100, 1000), 1000, bestOfLists{1, 1, []int{0}}, bestOfLists{200, 1, []int{0}}},
		{sameParcels(1, 100, 1000), 10000, bestOfLists{1, 1, []int{0}}, bestOfLists{200, 1, []int{0}}},
		{sameParcels(8, 1, 1), 1, bestOfLists{8, 1, alone}, bestOfLists{16, 1, alone}},
		{sameParcels(8, 100, 1000), 1000, bestOfLists{8, 1, alone}, bestOfLists{1600, 1, alone}},
		{sameParcels(8, 100, 1000), 1999, bestOfLists{8, 1, alone}, bestOfLists{1600, 1, alone}},
		{sameParcels(8, 100, 1000), 2000, bestOfLists{4, 105, []int{0, 0, 1, 1, 2, 2, 3, 3}}, bestOfLists{800, 105, []int{0, 0, 1, 1, 2, 2, 3, 3}}},
		{sameParcels(8, 100, 1000), 7999, bestOfLists{2, 127, []int{0, 0, 0, 0, 0, 0, 0, 1}}, bestOfLists{400, 127, []int{0, 0, 0, 0, 0, 0, 0, 1}}},
		{sameParcels(8, 100, 1000), 8000, bestOfLists{1, 1, together}, bestOfLists{200, 1, together}},
		{sameParcels(8, 100, 1000), 10000, bestOfLists{1, 1, together}, bestOfLists{200, 1, together}},
		{sameParcels(8, 3, 1), 4, bestOfLists{2, 35, halves}, bestOfLists{12, 35, halves}},
		{parcels([2]int{3, 4}, [2]int{5, 3}, [2]int{1, 2}), 4, bestOfLists{3, 1, []int{0, 1, 2}}, bestOfLists{18, 1, []int{0, 1, 2}}},
		{parcels([2]int{1, 1}, [2]int{9, 2}, [2]int{9, 2}, [2]int{1, 3}), 4, bestOfLists{2, 1, []int{0, 1, 1, 0}}, bestOfLists{20, 1, []int{0, 1, 1, 0}}},
		{parcels([2]int{9, 3}, [2]int{9, 3}, [2]int{1, 2}, [2]int{1, 2}, [2]int{1, 2}), 6, bestOfLists{2, 1, []int{0, 0, 1, 1, 1}}, bestOfLists{20, 1, []int{0, 0, 1, 1, 1}}},
	} {
		wantBestPlans(t, c.list, c.bag, c.fewest, c.shortest)
	}
}

// A shortest plan may have more trips than the fewest ones have.
func TestShortestPlansMayHaveMoreTrips(t *testing.T) {
	found := false
	for seed := range 400 {
		list := mixedParcels(5, 9, 6, seed)
		bag := 7 + seed%3
		fewest, shortest := fewestByTrips(list, bag), shortestByTrips(list, bag)
		wantBestPlans(t, list, bag, fewest, shortest)
		all := bestPlans(list, bag, func(list []impl.Parcel, trip []int) int { return 1 + 1000*farthestInTrip(list, trip) })
		found = found || all.number%1000 > fewest.number
	}
	if !found {
		t.Error("no parcels of which each shortest plan has more trips")
	}
}

// packedByHand puts parcels, in some order, into trips, each tried from the first one on.
func packedByHand(list []impl.Parcel, bag int, order []int) []int {
	var trips [][]int
	for _, k := range order {
		i := 0
		for i < len(trips) && weightByHand(list, trips[i])+list[k].Weight > bag {
			i++
		}
		if i == len(trips) {
			trips = append(trips, nil)
		}
		trips[i] = append(trips[i], k)
	}
	return toldByHand(len(list), trips)
}

// toldByHand tells for each parcel its trip, with trips in the order of their first parcels.
func toldByHand(count int, trips [][]int) []int {
	plan := make([]int, count)
	next := 0
	for k := range count {
		for _, trip := range trips {
			if slices.Min(trip) != k {
				continue
			}
			for _, one := range trip {
				plan[one] = next
			}
			next++
		}
	}
	return plan
}

// farthestFirst has the parcels in the order in which no farther one comes later, equal ones as they are.
func farthestFirst(list []impl.Parcel) []int {
	var order []int
	for house := 100; house > 0; house-- {
		for k, p := range list {
			if p.House == house {
				order = append(order, k)
			}
		}
	}
	return order
}

func TestPackedPlans(t *testing.T) {
	different := 0
	for _, list := range allParcels() {
		for _, bag := range bagsFor(list) {
			inOrder, farthest := packedByHand(list, bag, numbersUpTo(len(list))), packedByHand(list, bag, farthestFirst(list))
			got, ok := impl.PackInOrder(list, bag)
			wantList(t, toldBag("PackInOrder", list, bag), got, ok, inOrder, true)
			got, ok = impl.PackFarthestFirst(list, bag)
			wantList(t, toldBag("PackFarthestFirst", list, bag), got, ok, farthest, true)
			for _, plan := range [][]int{inOrder, farthest} {
				if _, there := wantPlan(t, list, bag, plan); !there {
					t.Errorf("%v of %v in %d is no plan", plan, list, bag)
				}
			}
			if !slices.Equal(inOrder, farthest) {
				different++
			}
		}
	}
	if different < 20 {
		t.Error("few parcels that are packed differently:", different)
	}
}

func TestPackedPlansThatAreKnown(t *testing.T) {
	for _, c := range []struct {
		list              []impl.Parcel
		bag               int
		inOrder, farthest []int
	}{
		{sameParcels(1, 100, 1000), 1000, []int{0}, []int{0}},
		{parcels([2]int{3, 4}, [2]int{5, 3}, [2]int{1, 2}), 6, []int{0, 1, 0}, []int{0, 1, 1}},
		{parcels([2]int{1, 3}, [2]int{2, 5}, [2]int{3, 3}), 6, []int{0, 1, 0}, []int{0, 1, 0}},                                         // just room left
		{parcels([2]int{1, 3}, [2]int{2, 5}, [2]int{3, 4}), 6, []int{0, 1, 2}, []int{0, 1, 2}},                                         // one less than is needed
		{parcels([2]int{1, 4}, [2]int{9, 4}, [2]int{1, 2}, [2]int{9, 2}), 6, []int{0, 1, 0, 1}, []int{0, 1, 0, 1}},                     // the trips are made the other way round
		{parcels([2]int{1, 4}, [2]int{9, 4}, [2]int{5, 2}), 6, []int{0, 1, 0}, []int{0, 1, 1}},                                         // the farther one takes the room
		{parcels([2]int{9, 2}, [2]int{9, 5}, [2]int{9, 4}, [2]int{9, 1}), 6, []int{0, 1, 0, 1}, []int{0, 1, 0, 1}},                     // equal houses
		{parcels([2]int{1, 1}, [2]int{9, 2}, [2]int{9, 5}, [2]int{9, 4}, [2]int{9, 1}), 6, []int{0, 0, 1, 2, 0}, []int{0, 1, 2, 1, 2}}, // equal farthest houses
		{parcels([2]int{1, 6}, [2]int{2, 6}, [2]int{3, 6}), 6, []int{0, 1, 2}, []int{0, 1, 2}},
		{sameParcels(8, 5, 1), 3, []int{0, 0, 0, 1, 1, 1, 2, 2}, []int{0, 0, 0, 1, 1, 1, 2, 2}},
	} {
		got, ok := impl.PackInOrder(c.list, c.bag)
		wantList(t, toldBag("PackInOrder", c.list, c.bag), got, ok, c.inOrder, true)
		got, ok = impl.PackFarthestFirst(c.list, c.bag)
		wantList(t, toldBag("PackFarthestFirst", c.list, c.bag), got, ok, c.farthest, true)
	}
}

func TestTripsBound(t *testing.T) {
	less := 0
	for _, list := range allParcels() {
		for _, bag := range bagsFor(list) {
			want := 0
			for room := 0; room < weightOfAll(list); room += bag {
				want++
			}
			got, ok := impl.TripsBound(list, bag)
			wantNumber(t, toldBag("TripsBound", list, bag), got, ok, want, true)
			fewest, ok := impl.FewestTrips(list, bag)
			if !ok || fewest < got {
				t.Errorf("%s is %d", toldBag("FewestTrips", list, bag), fewest)
			}
			if got < fewest {
				less++
			}
		}
	}
	if less < 20 {
		t.Error("few bounds that are less than the fewest trips:", less)
	}
	for _, c := range []struct{ count, weight, bag, bound, fewest int }{
		{3, 4, 6, 2, 3}, {8, 1000, 1999, 5, 8}, {8, 501, 1000, 5, 8}, {8, 1000, 1000, 8, 8}, {8, 1000, 8000, 1, 1}, {8, 1, 10000, 1, 1}, {8, 1, 1, 8, 8}, {8, 1, 7, 2, 2},
	} {
		list := sameParcels(c.count, 2, c.weight)
		got, ok := impl.TripsBound(list, c.bag)
		wantNumber(t, toldBag("TripsBound", list, c.bag), got, ok, c.bound, true)
		got, ok = impl.FewestTrips(list, c.bag)
		wantNumber(t, toldBag("FewestTrips", list, c.bag), got, ok, c.fewest, true)
	}
}

// lightestByHand tries all weights that some parcels have together, as a lesser bag holds no more than the next one of these.
func lightestByHand(list []impl.Parcel, trips int) int {
	lightest := weightOfAll(list)
	for choice := range 1 << len(list) {
		bag := 0
		for k, p := range list {
			bag += p.Weight * (choice >> k & 1)
		}
		if bag >= heaviestOf(list) && bag < lightest && fewestByTrips(list, bag).number <= trips {
			lightest = bag
		}
	}
	return lightest
}

func TestLightestBag(t *testing.T) {
	for _, list := range allParcels() {
		last := math.MaxInt
		for trips := 1; trips <= 8; trips++ {
			got, ok := impl.LightestBag(list, trips)
			fewest, carried := impl.FewestTrips(list, got)
			if !ok || !carried || fewest > trips || got > last {
				t.Errorf("LightestBag of %v for %d is %d", list, trips, got)
			}
			if fewest, carried = impl.FewestTrips(list, got-1); carried && fewest <= trips {
				t.Errorf("LightestBag of %v for %d is less than %d", list, trips, got)
			}
			last = got
		}
	}
	for _, list := range fewParcels() {
		for trips := 1; trips <= 8; trips++ {
			got, ok := impl.LightestBag(list, trips)
			wantNumber(t, "LightestBag of "+parcelsByHand(list)+" for "+strconv.Itoa(trips), got, ok, lightestByHand(list, trips), true)
		}
	}
}

func TestLightestBagsThatAreKnown(t *testing.T) {
	for _, c := range []struct {
		list []impl.Parcel
		want []int // for 1, 2, .. trips
	}{
		{sameParcels(1, 1, 1), []int{1, 1, 1, 1, 1, 1, 1, 1}},
		{sameParcels(1, 100, 1000), []int{1000, 1000, 1000, 1000, 1000, 1000, 1000, 1000}},
		{sameParcels(8, 100, 1000), []int{8000, 4000, 3000, 2000, 2000, 2000, 2000, 1000}},
		{parcels([2]int{3, 4}, [2]int{5, 3}, [2]int{1, 2}), []int{9, 5, 4, 4, 4, 4, 4, 4}},
		{parcels([2]int{3, 3}, [2]int{5, 3}, [2]int{1, 2}, [2]int{1, 2}, [2]int{1, 2}), []int{12, 6, 5, 4, 3, 3, 3, 3}},
		{parcels([2]int{1, 1000}, [2]int{1, 1}, [2]int{1, 1}), []int{1002, 1000, 1000, 1000, 1000, 1000, 1000, 1000}},
	} {
		for i, want := range c.want {
			got, ok := impl.LightestBag(c.list, i+1)
			wantNumber(t, "LightestBag of "+parcelsByHand(c.list)+" for "+strconv.Itoa(i+1), got, ok, want, true)
		}
	}
}

func TestLightestBagFails(t *testing.T) {
	for _, list := range noParcels() {
		for _, trips := range []int{1, 2, 8} {
			got, ok := impl.LightestBag(list, trips)
			wantNumber(t, "LightestBag of none", got, ok, 0, false)
		}
	}
	for _, list := range allParcels() {
		for _, trips := range []int{math.MinInt, -1, 0, 9, 10, 10000, math.MaxInt} {
			got, ok := impl.LightestBag(list, trips)
			wantNumber(t, "LightestBag for "+strconv.Itoa(trips), got, ok, 0, false)
		}
	}
}

// lettersByHand lays out all letters from the farthest house on, and takes as many of them again and again as the bag holds.
func lettersByHand(letters []int, bag int) ([]int, int) {
	var laidOut, trips []int
	for i := range letters {
		house := len(letters) - i
		laidOut = append(laidOut, slices.Repeat([]int{house}, letters[house-1])...)
	}
	length := 0
	for trip := range slices.Chunk(laidOut, bag) {
		trips = append(trips, trip[0])
		length += trip[0] * 2
	}
	return trips, length
}

func someLetters() [][]int {
	lists := [][]int{
		{0}, {1}, {1000}, {0, 0, 0}, {0, 3, 2}, {0, 0, 5}, {7, 0, 0}, {3, 0, 0, 2, 0}, {1, 1, 1, 1, 1}, {1000, 0, 1000}, onlyAt(100, 1000, 99), onlyAt(100, 1, 0, 99), onlyAt(100, 17, 0, 50),
		make([]int, 100), slices.Repeat([]int{1}, 100), slices.Repeat([]int{1000}, 100), slices.Repeat([]int{1000}, 99),
	}
	for seed := range 5 {
		lists = append(lists, mixedNumbers(3, 9, seed), mixedNumbers(10, 5, seed), mixedPeople(30, 20, seed, true), mixedNumbers(60, 100, seed), mixedNumbers(100, 1000, seed))
	}
	return lists
}

func bagsForLetters() []int {
	return []int{1, 2, 3, 5, 7, 10, 99, 100, 999, 1000, 1001, 9999, 10000}
}

func TestLettersOfSomeHouses(t *testing.T) {
	for _, letters := range someLetters() {
		for _, bag := range bagsForLetters() {
			trips, length := lettersByHand(letters, bag)
			what := " of " + listText(letters) + " in " + strconv.Itoa(bag)
			got, ok := impl.LettersTrips(letters, bag)
			wantList(t, "LettersTrips"+what, got, ok, trips, true)
			number, ok := impl.LettersLength(letters, bag)
			wantNumber(t, "LettersLength"+what, number, ok, length, true)
		}
	}
}

// No plan of as many parcels, each with the weight 1, is shorter than the trips for letters.
func TestLettersAreCarriedInTheLeastLength(t *testing.T) {
	eachNumbers(4, 4, func(letters []int) {
		var list []impl.Parcel
		for i, count := range letters {
			list = append(list, sameParcels(count, i+1, 1)...)
		}
		if len(list) == 0 || len(list) > 6 {
			return
		}
		for bag := 1; bag <= len(list)+1; bag++ {
			got, ok := impl.LettersLength(letters, bag)
			wantNumber(t, "LettersLength of "+listText(letters)+" in "+strconv.Itoa(bag), got, ok, shortestByTrips(list, bag).number, true)
		}
	})
}

func TestLettersThatAreKnown(t *testing.T) {
	full := slices.Repeat([]int{1000}, 100)
	for _, c := range []struct {
		letters []int
		bag     int
		want    []int
		length  int
	}{
		{[]int{0, 3, 2}, 2, []int{3, 2, 2}, 14}, {[]int{0, 3, 2}, 5, []int{3}, 6}, {[]int{0, 3, 2}, 4, []int{3, 2}, 10}, {[]int{0, 3, 2}, 1, []int{3, 3, 2, 2, 2}, 24},
		{[]int{0}, 1, nil, 0}, {[]int{0, 0, 0}, 10000, nil, 0}, {make([]int, 100), 1, nil, 0}, {[]int{1}, 1, []int{1}, 2}, {[]int{4, 0, 0}, 3, []int{1, 1}, 4},
		{[]int{1, 0, 7, 0}, 3, []int{3, 3, 3}, 18}, {onlyAt(100, 1000, 99), 999, []int{100, 100}, 400}, {onlyAt(100, 1, 0, 99), 10000, []int{100}, 200},
		{full, 10000, []int{100, 90, 80, 70, 60, 50, 40, 30, 20, 10}, 1100},
	} {
		got, ok := impl.LettersTrips(c.letters, c.bag)
		wantList(t, "LettersTrips of "+listText(c.letters), got, ok, c.want, true)
		number, ok := impl.LettersLength(c.letters, c.bag)
		wantNumber(t, "LettersLength of "+listText(c.letters), number, ok, c.length, true)
	}
	number, ok := impl.LettersLength(full, 1)
	wantNumber(t, "LettersLength of as many as there may be", number, ok, 10100000, true)
}

func TestLettersFail(t *testing.T) {
	for _, letters := range [][]int{
		nil, {}, {-1}, {1001}, {1, -1}, {-1, 1}, {1, 1001, 1}, {0, 0, 1001}, {math.MinInt}, {math.MaxInt}, {1, math.MaxInt, math.MaxInt}, make([]int, 101), slices.Repeat([]int{1}, 101),
		slices.Repeat([]int{1000}, 101), make([]int, 5000), onlyAt(100, 1001, 99), onlyAt(100, -1, 0),
	} {
		for _, bag := range bagsForLetters() {
			wantNoLetters(t, letters, bag)
		}
	}
	for _, letters := range someLetters() {
		for _, bag := range []int{math.MinInt, -1, 0, 10001, math.MaxInt} {
			wantNoLetters(t, letters, bag)
		}
	}
}

func wantNoLetters(t *testing.T, letters []int, bag int) {
	t.Helper()
	got, ok := impl.LettersTrips(letters, bag)
	wantList(t, "LettersTrips of none", got, ok, nil, false)
	number, ok := impl.LettersLength(letters, bag)
	wantNumber(t, "LettersLength of none", number, ok, 0, false)
}

func TestNamedPlan(t *testing.T) {
	for _, c := range []struct{ numbers, want []int }{
		{[]int{0}, []int{0}}, {[]int{5}, []int{0}}, {[]int{-3}, []int{0}}, {[]int{math.MinInt}, []int{0}}, {[]int{math.MaxInt, math.MinInt, math.MaxInt}, []int{0, 1, 0}},
		{[]int{1, 0}, []int{0, 1}}, {[]int{2, 1, 0, 1, 2}, []int{0, 1, 2, 1, 0}}, {[]int{7, 7, 7}, []int{0, 0, 0}}, {[]int{-1, -2, -1, -2, 0}, []int{0, 1, 0, 1, 2}},
		{[]int{8, 7, 6, 5, 4, 3, 2, 1}, numbersUpTo(8)}, {numbersUpTo(8), numbersUpTo(8)}, {slices.Repeat([]int{9}, 8), make([]int, 8)}, {[]int{0, 2, 1, 2}, []int{0, 1, 2, 1}},
		{[]int{-1, 0, 1, -1, 0, 1}, []int{0, 1, 2, 0, 1, 2}}, {[]int{1, 2, 3, 0}, numbersUpTo(4)},
	} {
		got, ok := impl.NamedPlan(c.numbers)
		wantList(t, "NamedPlan of "+listText(c.numbers), got, ok, c.want, true)
	}
	for _, numbers := range [][]int{nil, {}, numbersUpTo(9), make([]int, 9), slices.Repeat([]int{-1}, 9), make([]int, 5000)} {
		got, ok := impl.NamedPlan(numbers)
		wantList(t, "NamedPlan of "+strconv.Itoa(len(numbers))+" numbers", got, ok, nil, false)
	}
}

// Numbers told anew are equal where the numbers were, and are a plan of parcels that are light enough. Told once more they stay as they are.
func TestNamedPlansAreEqualWhereNumbersAre(t *testing.T) {
	for many := 1; many <= 5; many++ {
		eachNumbers(many, 4, func(list []int) {
			var numbers []int
			for _, number := range list {
				numbers = append(numbers, 3-2*number)
			}
			got, ok := impl.NamedPlan(numbers)
			if _, is := tripsByHand(sameParcels(many, 1, 1), 10000, got); !ok || !is {
				t.Fatalf("NamedPlan of %v is %v, %t", numbers, got, ok)
			}
			for i := range numbers {
				for k := range numbers {
					if (numbers[i] == numbers[k]) != (got[i] == got[k]) {
						t.Errorf("NamedPlan of %v is %v", numbers, got)
					}
				}
			}
			again, ok := impl.NamedPlan(got)
			wantList(t, "NamedPlan again", again, ok, got, true)
		})
	}
}

func TestParcelsTextsAreReadAgain(t *testing.T) {
	for _, list := range allParcels() {
		text, ok := impl.ParcelsText(list)
		wantText(t, "ParcelsText", text, ok, parcelsByHand(list), true)
		again, ok := impl.ParseParcels(text)
		if !ok || !slices.Equal(again, list) {
			t.Errorf("ParseParcels of %s is %v, %t", text, again, ok)
		}
	}
	for _, list := range noParcels() {
		text, ok := impl.ParcelsText(list)
		wantText(t, "ParcelsText of none", text, ok, "", false)
		if again, ok := impl.ParseParcels(parcelsByHand(list)); ok || again != nil {
			t.Errorf("ParseParcels of %v is %v, %t", list, again, ok)
		}
	}
}

func TestParseParcelsFails(t *testing.T) {
	for _, text := range []string{
		"", " ", "*", ",", "3", "3*", "*4", "3*4,", ",3*4", "3*4,,5*3", "3*4,5", "3*4,5*", "3*4,*3", "3*4*5", "3**4", "*3*4", "3*4*", "3*4;5*3", "3x4", "3,4", "3.4", "3-4",
		"0*4", "3*0", "101*4", "3*1001", "-3*4", "3*-4", "+3*4", "3*+4", "03*4", "3*04", "00*4", "3*4,05*3", " 3*4", "3 *4", "3* 4", "3*4 ", "3*4, 5*3", "3*4\n", "\n3*4",
		"3*4,5*3,1*1001", "3*4,5*3,101*2", "3*99999999999999999999", "99999999999999999999*4", "3*18446744073709551620", "3*0x4", "3*1e2", "3*1_0", "a*b", "3*4a", "３*４", "3＊4",
		"\x00", "3*4\x00", "\xff", "3*\xff", "3\xff*4", parcelsByHand(sameParcels(9, 1, 1)), strings.Repeat("3*4,", 5000) + "3*4", strings.Repeat(",", 5000), strings.Repeat("*", 5000), strings.Repeat("3", 5000) + "*4",
	} {
		if got, ok := impl.ParseParcels(text); ok || got != nil {
			t.Errorf("ParseParcels of %q is %v, %t", text, got, ok)
		}
	}
}

// wantNoBag checks that nothing is told of parcels that cannot be carried in a bag.
func wantNoBag(t *testing.T, list []impl.Parcel, bag int) {
	t.Helper()
	for name, f := range map[string]func([]impl.Parcel, int) (int, bool){
		"FewestTrips": impl.FewestTrips, "LeastLength": impl.LeastLength, "CountShortestPlans": impl.CountShortestPlans, "TripsBound": impl.TripsBound,
	} {
		got, ok := f(list, bag)
		wantNumber(t, name+" where nothing can be carried", got, ok, 0, false)
	}
	for name, f := range map[string]func([]impl.Parcel, int) ([]int, bool){
		"FirstFewestPlan": impl.FirstFewestPlan, "FirstShortestPlan": impl.FirstShortestPlan, "PackInOrder": impl.PackInOrder, "PackFarthestFirst": impl.PackFarthestFirst,
	} {
		got, ok := f(list, bag)
		wantList(t, name+" where nothing can be carried", got, ok, nil, false)
	}
	for _, plan := range [][]int{nil, {0}, make([]int, len(list)), numbersUpTo(len(list))} {
		is, ok := impl.IsBagPlan(list, bag, plan)
		wantTruth(t, "IsBagPlan where nothing can be carried", is, ok, false, false)
		trips, ok := impl.TripsOfPlan(list, bag, plan)
		wantLists(t, "TripsOfPlan where nothing can be carried", trips, ok, nil, false)
		weights, ok := impl.WeightsOfTrips(list, bag, plan)
		wantList(t, "WeightsOfTrips where nothing can be carried", weights, ok, nil, false)
		got, ok := impl.LengthOfPlan(list, bag, plan)
		wantNumber(t, "LengthOfPlan where nothing can be carried", got, ok, 0, false)
		got, ok = impl.LengthWithoutBack(list, bag, plan)
		wantNumber(t, "LengthWithoutBack where nothing can be carried", got, ok, 0, false)
	}
}

func TestBagsFail(t *testing.T) {
	for _, list := range noParcels() {
		for _, bag := range []int{1, 6, 1000, 9999, 10000} {
			wantNoBag(t, list, bag)
		}
	}
	for _, list := range allParcels() {
		for _, bag := range noBagsFor(list) {
			wantNoBag(t, list, bag)
		}
	}
}

// A call must not leave anybody behind who still waits to send plans.
func TestBagsLeaveNobodyBehind(t *testing.T) {
	before := runtime.NumGoroutine()
	for range 20 {
		for _, list := range append(noParcels(), fewParcels()...) {
			impl.FewestTrips(list, 6)
			impl.LeastLength(list, 10000)
			impl.LightestBag(list, 2)
		}
	}
	wantNobodyLeft(t, before)
}

// Plans come in any order, which must not be seen.
func TestBestPlansAreAlwaysTheSame(t *testing.T) {
	list := sameParcels(7, 3, 2)
	shortest := shortestByTrips(list, 4)
	for range 100 {
		got, ok := impl.FirstShortestPlan(list, 4)
		wantList(t, "FirstShortestPlan", got, ok, shortest.first, true)
		count, ok := impl.CountShortestPlans(list, 4)
		wantNumber(t, "CountShortestPlans", count, ok, shortest.count, true)
	}
}

func TestExampleOfChapter8(t *testing.T) {
	list, ok := impl.ParseParcels("3*4,5*3,1*2")
	if !ok || !slices.Equal(list, parcels([2]int{3, 4}, [2]int{5, 3}, [2]int{1, 2})) {
		t.Error("ParseParcels", list, ok)
	}
	wantBestPlans(t, list, 6, bestOfLists{2, 2, []int{0, 1, 0}}, bestOfLists{16, 2, []int{0, 1, 0}})
	wantBestPlans(t, list, 9, bestOfLists{1, 1, []int{0, 0, 0}}, bestOfLists{10, 1, []int{0, 0, 0}})
	for _, plan := range [][]int{{0, 1, 0}, {0, 1, 1}} {
		got, ok := impl.LengthOfPlan(list, 6, plan)
		wantNumber(t, "LengthOfPlan", got, ok, 16, true)
		got, ok = impl.LengthWithoutBack(list, 6, plan)
		wantNumber(t, "LengthWithoutBack", got, ok, 11, true)
	}
	trips, ok := impl.TripsOfPlan(list, 6, []int{0, 1, 0})
	wantLists(t, "TripsOfPlan", trips, ok, [][]int{{0, 2}, {1}}, true)
	weights, ok := impl.WeightsOfTrips(list, 6, []int{0, 1, 0})
	wantList(t, "WeightsOfTrips", weights, ok, []int{6, 3}, true)
	houses, ok := impl.LettersTrips([]int{0, 3, 2}, 2)
	wantList(t, "LettersTrips", houses, ok, []int{3, 2, 2}, true)
	length, ok := impl.LettersLength([]int{0, 3, 2}, 2)
	wantNumber(t, "LettersLength", length, ok, 14, true)
}
