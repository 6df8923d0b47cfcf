package tests

import (
	"math"
	"runtime"
	"slices"
	"strconv"
	"strings"
	"testing"
	"time"

	"loop.example/g01336/impl"
)

// Promise 3: routes cross as few times as told, and have each number once.

// textsOf has all deliveries for so many plots.
func textsOf(plots int) []string {
	texts := []string{""}
	for range plots {
		var longer []string
		for _, text := range texts {
			for _, sign := range []string{"l", "r", "b", "-"} {
				longer = append(longer, text+sign)
			}
		}
		texts = longer
	}
	return texts
}

// shortTexts has all deliveries for up to so many plots.
func shortTexts(most int) []string {
	var texts []string
	for plots := 1; plots <= most; plots++ {
		texts = append(texts, textsOf(plots)...)
	}
	return texts
}

// mixedText has signs in an order that follows no plain pattern, drawn from some.
func mixedText(plots, seed int, from string) string {
	text := ""
	for range plots {
		seed = (seed*233 + 1871) % 10007
		text += string(from[seed%len(from)])
	}
	return text
}

// longTexts has deliveries for MaxDelivered plots, and for some fewer.
func longTexts() []string {
	texts := []string{nearestBelow, nearestAbove}
	for _, plots := range []int{20, 31, 59, 60} {
		for _, part := range []string{"l", "r", "b", "-", "lr", "rl", "l-", "-r", "rrll", "r-l-", "b-", "lrb-l", "---b"} {
			texts = append(texts, strings.Repeat(part, 60)[:plots])
		}
		for seed := range 20 {
			texts = append(texts, mixedText(plots, seed, "lrb-"), mixedText(plots, seed, "lr----"), mixedText(plots, seed, "rl-"))
		}
	}
	return texts
}

func noDeliveries() []string {
	return []string{
		"", " ", "x", "L", "R", "B", "0", "lrb-l ", " lrb-l", "lr b", "lrb_l", "lrb–l", "l\n", "\x00", "l\x00r", "\xff", "lr\xffb", "ł", "lrbo",
		strings.Repeat("l", 61), strings.Repeat("r", 61), strings.Repeat("b", 61), strings.Repeat("-", 61),
		strings.Repeat("l", 59) + "x", "x" + strings.Repeat("l", 59), strings.Repeat("lrb-", 5000), strings.Repeat("x", 60),
	}
}

func ends() []int {
	return []int{0, 1, 2}
}

func noEnds() []int {
	return []int{-1, 3, 4, 5, math.MinInt, math.MaxInt}
}

func noWidths() []int {
	return []int{-1, 1001, math.MinInt, math.MaxInt}
}

// isThere tells whether there is something for the house on a side of a plot.
func isThere(sign rune, side int) bool {
	return sign == 'b' || sign == 'l' && side == 0 || sign == 'r' && side == 1
}

// crossingsByHand crosses at a plot as long as somebody is missing, or the side is wrong.
func crossingsByHand(sign rune, comes, leaves int) int {
	crossings, side := 0, comes
	been := [2]bool{}
	been[side] = true
	for side != leaves || isThere(sign, 0) && !been[0] || isThere(sign, 1) && !been[1] {
		side = 1 - side
		been[side] = true
		crossings++
	}
	return crossings
}

func routeByHand(text string, sides []int) int {
	crossings, comes := 0, 0
	for plot, sign := range text {
		crossings += crossingsByHand(sign, comes, sides[plot])
		comes = sides[plot]
	}
	return crossings
}

// allRoutes has all routes over so many plots, in their order.
func allRoutes(plots int) [][]int {
	if plots == 0 {
		return [][]int{nil}
	}
	var all [][]int
	for _, side := range []int{0, 1} {
		for _, others := range allRoutes(plots - 1) {
			all = append(all, append([]int{side}, others...))
		}
	}
	return all
}

// fewest is what there is to tell of the routes with the fewest crossings.
type fewest struct {
	crossings int
	count     int
	first     []int
}

// fewestOfAll goes all routes to an end.
func fewestOfAll(text string, end int) fewest {
	var best fewest
	for _, sides := range allRoutes(len(text)) {
		if end != 2 && sides[len(sides)-1] != end {
			continue
		}
		crossings := routeByHand(text, sides)
		switch {
		case best.count == 0 || crossings < best.crossings:
			best = fewest{crossings, 1, sides}
		case crossings == best.crossings:
			best.count++
		}
	}
	return best
}

// fewestFromBehind looks at a long street from its last plot on: what is told of it is of the rest that begins on each side.
func fewestFromBehind(text string, end int) fewest {
	rest := [2]fewest{{count: 1}, {count: 1}}
	if end != 2 {
		rest[1-end].count = 0
	}
	for plot := len(text) - 1; plot >= 0; plot-- {
		var longer [2]fewest
		for comes := range 2 {
			for leaves := range 2 {
				if rest[leaves].count == 0 {
					continue
				}
				crossings := rest[leaves].crossings + crossingsByHand(rune(text[plot]), comes, leaves)
				switch best := &longer[comes]; {
				case best.count == 0 || crossings < best.crossings:
					*best = fewest{crossings, rest[leaves].count, append([]int{leaves}, rest[leaves].first...)}
				case crossings == best.crossings:
					best.count += rest[leaves].count // the route by the left side, 0, was first
				}
			}
		}
		rest = longer
	}
	return rest[0]
}

func wantFewest(t *testing.T, text string, end int, want fewest) {
	t.Helper()
	what := " of " + text + " to " + strconv.Itoa(end)
	got, ok := impl.FewestCrossings(text, end)
	wantNumber(t, "FewestCrossings"+what, got, ok, want.crossings, true)
	sides, ok := impl.RouteSides(text, end)
	wantList(t, "RouteSides"+what, sides, ok, want.first, true)
	count, fits := want.count, want.count <= 1000000000000000
	if !fits {
		count = 0
	}
	got, ok = impl.CountRoutes(text, end)
	wantNumber(t, "CountRoutes"+what, got, ok, count, fits)
	got, ok = impl.RouteCrossings(text, want.first)
	wantNumber(t, "RouteCrossings of RouteSides"+what, got, ok, want.crossings, true)
}

func TestLimitsOfDeliveriesAreThoseOfTheDocument(t *testing.T) {
	if impl.MaxDelivered != 60 || impl.MaxRoutes != 1000000000000000 {
		t.Error("limits", impl.MaxDelivered, impl.MaxRoutes)
	}
}

func TestAreDeliveries(t *testing.T) {
	for _, text := range append(shortTexts(5), longTexts()...) {
		if !impl.AreDeliveries(text) {
			t.Errorf("%q are no deliveries", text)
		}
	}
	for _, text := range noDeliveries() {
		if impl.AreDeliveries(text) {
			t.Errorf("%q are deliveries", text)
		}
	}
	for sign := range 256 {
		want := strings.ContainsRune("lrb-", rune(sign))
		for _, text := range []string{string([]byte{byte(sign)}), "l" + string([]byte{byte(sign)}), string([]byte{byte(sign)}) + "r"} {
			if impl.AreDeliveries(text) != want {
				t.Errorf("AreDeliveries(%q) is %t", text, !want)
			}
		}
	}
}

func TestCountDelivered(t *testing.T) {
	for _, text := range append(shortTexts(5), longTexts()...) {
		got, ok := impl.CountDelivered(text)
		wantNumber(t, "CountDelivered of "+text, got, ok, housesByHand(text), true)
	}
	got, ok := impl.CountDelivered(strings.Repeat("b", 60))
	wantNumber(t, "CountDelivered of both everywhere", got, ok, 120, true)
}

// housesByHand knocks at each side of each plot.
func housesByHand(text string) int {
	houses := 0
	for _, sign := range text {
		for side := range 2 {
			if isThere(sign, side) {
				houses++
			}
		}
	}
	return houses
}

func TestRoutesOfShortStreets(t *testing.T) {
	for _, text := range shortTexts(6) {
		for _, end := range ends() {
			wantFewest(t, text, end, fewestOfAll(text, end))
		}
	}
}

func TestRoutesOfLongStreets(t *testing.T) {
	for _, text := range longTexts() {
		for _, end := range ends() {
			wantFewest(t, text, end, fewestFromBehind(text, end))
		}
	}
}

func TestRoutesOfTheDocument(t *testing.T) {
	wantFewest(t, "lrb-l", 2, fewest{2, 2, []int{0, 1, 0, 0, 0}})
	wantFewest(t, "lrb-l", 0, fewest{2, 2, []int{0, 1, 0, 0, 0}})
	wantFewest(t, "lrb-l", 1, fewest{3, 2, []int{0, 1, 0, 0, 1}})
	got, ok := impl.RouteCost("lrb-l", 2, 5)
	wantNumber(t, "RouteCost", got, ok, 14, true)
	got, ok = impl.AroundCost("lrb-l", 5)
	wantNumber(t, "AroundCost", got, ok, 18, true)
	got, ok = impl.AroundIsBetter("lrb-l", 2, 5)
	wantNumber(t, "AroundIsBetter", got, ok, -1, true)
	wantPart(t, "lrb-l", 2, 1, 3, true)
	list, ok := impl.NumbersOf(street(t, "o5"), "lrb-l")
	wantList(t, "NumbersOf", list, ok, []int{1, 4, 5, 6, 9}, true)
	list, ok = impl.RouteNumbers(street(t, "o5"), "lrb-l", 2)
	wantList(t, "RouteNumbers", list, ok, []int{1, 4, 6, 5, 9}, true)
}

func TestRoutesOfOnePlotAndOfNothing(t *testing.T) {
	for _, c := range []struct {
		text string
		end  int
		want fewest
	}{
		{"l", 0, fewest{0, 1, []int{0}}}, {"l", 1, fewest{1, 1, []int{1}}}, {"l", 2, fewest{0, 1, []int{0}}},
		{"r", 0, fewest{2, 1, []int{0}}}, {"r", 1, fewest{1, 1, []int{1}}}, {"r", 2, fewest{1, 1, []int{1}}},
		{"b", 0, fewest{2, 1, []int{0}}}, {"b", 1, fewest{1, 1, []int{1}}}, {"b", 2, fewest{1, 1, []int{1}}},
		{"-", 0, fewest{0, 1, []int{0}}}, {"-", 1, fewest{1, 1, []int{1}}}, {"-", 2, fewest{0, 1, []int{0}}},
		{"---", 0, fewest{0, 1, []int{0, 0, 0}}}, {"---", 1, fewest{1, 3, []int{0, 0, 1}}}, {"---", 2, fewest{0, 1, []int{0, 0, 0}}},
		{"rl", 0, fewest{2, 2, []int{0, 0}}}, {"rl", 1, fewest{3, 2, []int{0, 1}}}, {"rl", 2, fewest{2, 2, []int{0, 0}}},
	} {
		wantFewest(t, c.text, c.end, c.want)
	}
	nothing := strings.Repeat("-", 60)
	wantFewest(t, nothing, 2, fewest{0, 1, slices.Repeat([]int{0}, 60)})
	wantFewest(t, nothing, 1, fewest{1, 60, append(slices.Repeat([]int{0}, 59), 1)})
}

// Each of the first routes of these streets doubles with a plot that changes the side, and grows by as many as one side has with each plot without deliveries. So none has exactly MaxRoutes; these are the two that come nearest.
const (
	nearestBelow = "-rlrlrlrlrlrlrlrlrlrlrlrlrlrl-r-l-r-l-r-l-r-l-r-l-r-l-----r"
	nearestAbove = "-rlrlrlrlrlrlrlrlrlrlrlrlrlrlrlrlrlrlrl-r-l-r-l-r-l---r"
)

func TestCountRoutesAtItsLimit(t *testing.T) {
	for _, c := range []struct {
		text string
		want int
	}{
		{nearestBelow, 998603250204672}, {nearestAbove, 1001929970810880},
		{strings.Repeat("rl", 25), 1 << 49}, {strings.Repeat("rl", 25) + "r", 1 << 50}, {strings.Repeat("rl", 30), 1 << 59},
	} {
		for _, end := range ends() {
			want := fewestFromBehind(c.text, end)
			if want.count != c.want {
				t.Fatalf("%s has %d routes; want %d", c.text, want.count, c.want)
			}
			wantFewest(t, c.text, end, want)
		}
	}
}

func TestRouteCost(t *testing.T) {
	for _, text := range append(shortTexts(4), longTexts()...) {
		for _, end := range ends() {
			crossings := fewestFromBehind(text, end).crossings
			for _, wide := range []int{0, 1, 5, 999, 1000} {
				got, ok := impl.RouteCost(text, end, wide)
				wantNumber(t, "RouteCost of "+text, got, ok, len(text)-1+crossings*wide, true)
			}
		}
	}
	got, ok := impl.RouteCost(strings.Repeat("b", 60), 2, 1000)
	wantNumber(t, "RouteCost of the longest street", got, ok, 60059, true)
}

func TestRouteCrossings(t *testing.T) {
	for _, text := range shortTexts(5) {
		for _, sides := range allRoutes(len(text)) {
			got, ok := impl.RouteCrossings(text, sides)
			wantNumber(t, "RouteCrossings of "+text, got, ok, routeByHand(text, sides), true)
		}
	}
	for _, text := range longTexts() {
		for _, part := range [][]int{{0}, {1}, {0, 1}, {1, 1, 0}} {
			sides := slices.Repeat(part, 60)[:len(text)]
			got, ok := impl.RouteCrossings(text, sides)
			wantNumber(t, "RouteCrossings of "+text, got, ok, routeByHand(text, sides), true)
		}
	}
}

func TestRouteCrossingsFails(t *testing.T) {
	for _, sides := range [][]int{
		nil, {}, {0, 1, 0, 0}, {0, 1, 0, 0, 0, 0}, {0, 1, 0, 0, 2}, {-1, 1, 0, 0, 0}, {0, 1, 3, 0, 0}, {0, 1, 0, 0, math.MinInt},
		{math.MaxInt, 1, 0, 0, 0}, slices.Repeat([]int{0}, 60), slices.Repeat([]int{1}, 5000),
	} {
		got, ok := impl.RouteCrossings("lrb-l", sides)
		wantNumber(t, "RouteCrossings", got, ok, 0, false)
	}
	for _, text := range noDeliveries() {
		for _, sides := range [][]int{nil, {0}, slices.Repeat([]int{0}, len(text))} {
			got, ok := impl.RouteCrossings(text, sides)
			wantNumber(t, "RouteCrossings of none", got, ok, 0, false)
		}
	}
}

// aroundByHand goes out on the left side, and back on the one that is needed.
func aroundByHand(text string, wide int) int {
	far, right := 0, false
	for plot, sign := range text {
		if sign != '-' {
			far = plot
		}
		right = right || isThere(sign, 1)
	}
	if right {
		return far + wide + far + wide
	}
	return far + far
}

func TestAroundCost(t *testing.T) {
	for _, text := range append(shortTexts(5), longTexts()...) {
		for _, wide := range []int{0, 1, 7, 1000} {
			got, ok := impl.AroundCost(text, wide)
			wantNumber(t, "AroundCost of "+text, got, ok, aroundByHand(text, wide), true)
		}
	}
	for text, want := range map[string]int{
		"-": 0, "---": 0, "l": 0, "r": 2000, "b": 2000, "l--": 0, "--l": 4, "-r-": 2002, "r-l": 2004, strings.Repeat("-", 60): 0,
		strings.Repeat("-", 59) + "l": 118, strings.Repeat("-", 59) + "r": 2118,
	} {
		got, ok := impl.AroundCost(text, 1000)
		wantNumber(t, "AroundCost of "+text, got, ok, want, true)
	}
}

func TestAroundIsBetter(t *testing.T) {
	seen := map[int]bool{}
	for _, text := range append(shortTexts(4), longTexts()...) {
		for _, end := range ends() {
			for _, wide := range []int{0, 1, 2, 3, 1000} {
				around := aroundByHand(text, wide)
				route := len(text) - 1 + fewestFromBehind(text, end).crossings*wide
				want := 0
				if around < route {
					want = 1
				} else if around > route {
					want = -1
				}
				seen[want] = true
				got, ok := impl.AroundIsBetter(text, end, wide)
				wantNumber(t, "AroundIsBetter of "+text, got, ok, want, true)
			}
		}
	}
	if len(seen) != 3 {
		t.Error("AroundIsBetter: only seen", seen)
	}
}

func TestMirrorAndBackDeliveries(t *testing.T) {
	mirrored := map[rune]string{'l': "r", 'r': "l", 'b': "b", '-': "-"}
	for _, text := range append(shortTexts(5), longTexts()...) {
		mirror, back := "", ""
		for _, sign := range text {
			mirror += mirrored[sign]
			back = string(sign) + back
		}
		got, ok := impl.MirrorDeliveries(text)
		wantText(t, "MirrorDeliveries of "+text, got, ok, mirror, true)
		got, ok = impl.BackDeliveries(text)
		wantText(t, "BackDeliveries of "+text, got, ok, back, true)
	}
}

func TestJoinDeliveries(t *testing.T) {
	for _, a := range shortTexts(3) {
		for _, b := range shortTexts(3) {
			got, ok := impl.JoinDeliveries(a, b)
			wantText(t, "JoinDeliveries", got, ok, a+b, true)
		}
	}
	for length := 1; length <= 60; length++ {
		a, b := strings.Repeat("r", length), strings.Repeat("b-", 30)
		if length < 60 {
			got, ok := impl.JoinDeliveries(a, b[:60-length])
			wantText(t, "JoinDeliveries to all plots", got, ok, a+b[:60-length], true)
		}
		got, ok := impl.JoinDeliveries(a, b[:61-length])
		wantText(t, "JoinDeliveries to one plot more", got, ok, "", false)
	}
	for _, text := range noDeliveries() {
		for _, pair := range [][2]string{{text, "l"}, {"l", text}, {text, text}} {
			got, ok := impl.JoinDeliveries(pair[0], pair[1])
			wantText(t, "JoinDeliveries of none", got, ok, "", false)
		}
	}
}

func wantPart(t *testing.T, text string, plots, want, wantHouses int, wantOK bool) {
	t.Helper()
	got, houses, ok := impl.BusiestPart(text, plots)
	if got != want || houses != wantHouses || ok != wantOK {
		t.Errorf("BusiestPart(%q, %d) is %d, %d, %t; want %d, %d, %t", text, plots, got, houses, ok, want, wantHouses, wantOK)
	}
}

func TestBusiestPart(t *testing.T) {
	for _, text := range append(shortTexts(5), longTexts()...) {
		for plots := 1; plots <= len(text); plots++ {
			var houses []int
			for first := 0; first+plots <= len(text); first++ {
				houses = append(houses, housesByHand(text[first:first+plots]))
			}
			most := slices.Max(houses)
			wantPart(t, text, plots, slices.Index(houses, most), most, true)
		}
		for _, plots := range []int{0, -1, len(text) + 1, math.MinInt, math.MaxInt} {
			wantPart(t, text, plots, 0, 0, false)
		}
	}
	wantPart(t, "---", 2, 0, 0, true)
	wantPart(t, "-l-r-", 1, 1, 1, true)
	wantPart(t, "llbrb", 5, 0, 7, true)
	for _, text := range noDeliveries() {
		wantPart(t, text, 1, 0, 0, false)
		wantPart(t, text, len(text), 0, 0, false)
	}
}

func wantFree(t *testing.T, text string, want, wantPlots int, wantOK bool) {
	t.Helper()
	got, plots, ok := impl.LongestFree(text)
	if got != want || plots != wantPlots || ok != wantOK {
		t.Errorf("LongestFree(%q) is %d, %d, %t; want %d, %d, %t", text, got, plots, ok, want, wantPlots, wantOK)
	}
}

func TestLongestFree(t *testing.T) {
	for _, text := range append(shortTexts(6), longTexts()...) {
		want, most := 0, 0
		for first := range text {
			plots := len(text[first:]) - len(strings.TrimLeft(text[first:], "-"))
			if plots > most {
				want, most = first, plots
			}
		}
		wantFree(t, text, want, most, most > 0)
	}
	wantFree(t, "lrb-l", 3, 1, true)
	wantFree(t, "-l--r--", 2, 2, true)
	wantFree(t, "lrbbrl", 0, 0, false)
	wantFree(t, strings.Repeat("-", 60), 0, 60, true)
	wantFree(t, strings.Repeat("b", 60), 0, 0, false)
	for _, text := range noDeliveries() {
		wantFree(t, text, 0, 0, false)
	}
}

// numbersByHand reads the plates of the houses that there is something for.
func numbersByHand(s impl.Street, text string) ([]int, bool) {
	sides := numbersOnSides(s)
	var numbers []int
	for plot, sign := range text {
		for side := range 2 {
			if !isThere(sign, side) {
				continue
			}
			if len(sides[side]) == 0 {
				return nil, false
			}
			numbers = append(numbers, sides[side][plot])
		}
	}
	slices.Sort(numbers)
	return numbers, true
}

// goneByHand goes a route and reads the plates as they come.
func goneByHand(s impl.Street, text string, route []int) []int {
	sides := numbersOnSides(s)
	var numbers []int
	comes := 0
	for plot, sign := range text {
		for _, side := range []int{comes, 1 - comes} {
			if isThere(sign, side) {
				numbers = append(numbers, sides[side][plot])
			}
		}
		comes = route[plot]
	}
	return numbers
}

func TestNumbersAndDeliveriesTellEachOther(t *testing.T) {
	for _, text := range append(shortTexts(5), longTexts()...) {
		for kind := range 3 {
			s := impl.Street{Kind: kind, Plots: len(text)}
			want, fits := numbersByHand(s, text)
			numbers, ok := impl.NumbersOf(s, text)
			wantList(t, "NumbersOf "+text, numbers, ok, want, fits)
			if fits {
				got, ok := impl.DeliveriesOf(s, want)
				wantText(t, "DeliveriesOf", got, ok, text, true)
			}
			for _, end := range ends() {
				var gone []int
				if fits {
					gone = goneByHand(s, text, fewestFromBehind(text, end).first)
				}
				numbers, ok := impl.RouteNumbers(s, text, end)
				wantList(t, "RouteNumbers of "+text, numbers, ok, gone, fits)
				slices.Sort(numbers)
				wantList(t, "RouteNumbers of "+text+", sorted", numbers, ok, want, fits)
			}
		}
	}
}

func TestNumbersOfOtherStreetsFail(t *testing.T) {
	for _, text := range append(noDeliveries(), "l", "-", "lrb-l", "lllll", strings.Repeat("l", 60), strings.Repeat("-", 60)) {
		for _, s := range append(someStreets(), noStreets()...) {
			if s.Plots == len(text) && impl.AreDeliveries(text) && impl.IsStreet(s) {
				continue
			}
			got, ok := impl.NumbersOf(s, text)
			wantList(t, "NumbersOf in another street", got, ok, nil, false)
			got, ok = impl.RouteNumbers(s, text, 2)
			wantList(t, "RouteNumbers in another street", got, ok, nil, false)
		}
		for _, kind := range []int{-1, 3, math.MinInt, math.MaxInt} {
			got, ok := impl.NumbersOf(impl.Street{Kind: kind, Plots: len(text)}, text)
			wantList(t, "NumbersOf without a street", got, ok, nil, false)
			got, ok = impl.RouteNumbers(impl.Street{Kind: kind, Plots: len(text)}, text, 2)
			wantList(t, "RouteNumbers without a street", got, ok, nil, false)
		}
	}
}

func TestDeliveriesOfStreets(t *testing.T) {
	for _, c := range []struct {
		street  string
		numbers []int
		want    string
	}{
		{"o5", nil, "-----"}, {"o5", []int{}, "-----"}, {"r1", nil, "-"}, {"r60", nil, strings.Repeat("-", 60)},
		{"o5", []int{1, 4, 5, 6, 9}, "lrb-l"}, {"u5", []int{1, 2, 5, 9}, "lb--l"}, {"u5", []int{6, 10}, "r---r"},
		{"r5", []int{1, 5}, "l---l"}, {"o60", []int{1, 120}, "l" + strings.Repeat("-", 58) + "r"}, {"u60", []int{1, 120}, "b" + strings.Repeat("-", 59)},
	} {
		got, ok := impl.DeliveriesOf(street(t, c.street), c.numbers)
		wantText(t, "DeliveriesOf "+c.street, got, ok, c.want, true)
	}
}

func TestDeliveriesOfFails(t *testing.T) {
	for _, c := range []struct {
		street  string
		numbers []int
	}{
		{"o5", []int{4, 1}}, {"o5", []int{4, 4}}, {"o5", []int{1, 4, 4}}, {"o5", []int{0}}, {"o5", []int{-1}}, {"o5", []int{0, 1}}, {"o5", []int{11}},
		{"o5", []int{10, 11}}, {"u5", []int{11}}, {"r5", []int{6}}, {"r5", []int{1, 2, 3, 4, 5, 6}}, {"o5", []int{math.MinInt}}, {"o5", []int{1, math.MaxInt}},
		{"o61", nil}, {"r61", []int{1}}, {"u61", []int{1, 2}}, {"u1000", nil}, {"o60", []int{121}},
	} {
		got, ok := impl.DeliveriesOf(street(t, c.street), c.numbers)
		wantText(t, "DeliveriesOf "+c.street, got, ok, "", false)
	}
	for _, s := range noStreets() {
		for _, numbers := range [][]int{nil, {1}, {1, 2}} {
			got, ok := impl.DeliveriesOf(s, numbers)
			wantText(t, "DeliveriesOf no street", got, ok, "", false)
		}
	}
}

func wantNothingTold(t *testing.T, text string, end, wide int) {
	t.Helper()
	got, ok := impl.RouteCost(text, end, wide)
	wantNumber(t, "RouteCost", got, ok, 0, false)
	got, ok = impl.AroundIsBetter(text, end, wide)
	wantNumber(t, "AroundIsBetter", got, ok, 0, false)
}

func wantNoRoute(t *testing.T, text string, end int) {
	t.Helper()
	got, ok := impl.FewestCrossings(text, end)
	wantNumber(t, "FewestCrossings", got, ok, 0, false)
	got, ok = impl.CountRoutes(text, end)
	wantNumber(t, "CountRoutes", got, ok, 0, false)
	list, ok := impl.RouteSides(text, end)
	wantList(t, "RouteSides", list, ok, nil, false)
	list, ok = impl.RouteNumbers(impl.Street{Kind: 1, Plots: len(text)}, text, end)
	wantList(t, "RouteNumbers", list, ok, nil, false)
	wantNothingTold(t, text, end, 5)
}

func TestPostFailsWithoutDeliveries(t *testing.T) {
	for _, text := range noDeliveries() {
		got, ok := impl.CountDelivered(text)
		wantNumber(t, "CountDelivered", got, ok, 0, false)
		for _, wide := range []int{0, 5, 1000} {
			got, ok = impl.AroundCost(text, wide)
			wantNumber(t, "AroundCost", got, ok, 0, false)
		}
		for _, end := range ends() {
			wantNoRoute(t, text, end)
		}
		turned, ok := impl.MirrorDeliveries(text)
		wantText(t, "MirrorDeliveries", turned, ok, "", false)
		turned, ok = impl.BackDeliveries(text)
		wantText(t, "BackDeliveries", turned, ok, "", false)
	}
}

func TestPostFailsWithoutEndOrWidth(t *testing.T) {
	for _, text := range append(shortTexts(3), longTexts()...) {
		for _, end := range noEnds() {
			wantNoRoute(t, text, end)
		}
		for _, wide := range noWidths() {
			got, ok := impl.AroundCost(text, wide)
			wantNumber(t, "AroundCost", got, ok, 0, false)
			for _, end := range append(ends(), noEnds()...) {
				wantNothingTold(t, text, end, wide)
			}
		}
	}
}

// wantNobodyLeft waits until there are no more goroutines than before.
func wantNobodyLeft(t *testing.T, before int) {
	t.Helper()
	for range 100 {
		if runtime.NumGoroutine() <= before {
			return
		}
		time.Sleep(10 * time.Millisecond) // the last ones are done, but may not have gone yet
	}
	t.Error("goroutines are left:", runtime.NumGoroutine()-before)
}

// A call that has seen enough must not leave anybody behind who still waits to send plots.
func TestPostLeavesNobodyBehind(t *testing.T) {
	before := runtime.NumGoroutine()
	for range 1000 {
		impl.AreDeliveries("l" + strings.Repeat("x", 59))
		impl.NumbersOf(impl.Street{Kind: 0, Plots: 60}, "lr"+strings.Repeat("l", 58))
		impl.FewestCrossings("lrb-l", 2)
	}
	wantNobodyLeft(t, before)
}
