package tests

import (
	"math"
	"runtime"
	"slices"
	"strconv"
	"strings"
	"testing"

	"loop.example/g01336/impl"
)

// Promise 4: shortest ways are walked as told and back again, and people meet where the sum is least.

// blocksOf has all blocks of a city, in their order.
func blocksOf(wide, high int) []impl.Block {
	var blocks []impl.Block
	for x := range wide {
		for y := range high {
			if x+1 < wide {
				blocks = append(blocks, impl.Block{X: x, Y: y})
			}
			if y+1 < high {
				blocks = append(blocks, impl.Block{X: x, Y: y, Up: true})
			}
		}
	}
	return blocks
}

// closedAll has a city in each choice of its blocks closed.
func closedAll(wide, high int) []impl.City {
	blocks := blocksOf(wide, high)
	var cities []impl.City
	for choice := range 1 << len(blocks) {
		c := impl.City{Wide: wide, High: high}
		for i, b := range blocks {
			if choice>>i&1 == 1 {
				c.Closed = append(c.Closed, b)
			}
		}
		cities = append(cities, c)
	}
	return cities
}

// mixedCity has so many blocks closed, in an order that follows no plain pattern.
func mixedCity(wide, high, closed, seed int) impl.City {
	blocks := blocksOf(wide, high)
	for len(blocks) > closed {
		seed = (seed*233 + 1871) % 10007
		k := seed % len(blocks)
		blocks = slices.Delete(blocks, k, k+1)
	}
	return impl.City{Wide: wide, High: high, Closed: blocks}
}

// largeCities go up to MaxCity avenues and streets, and to MaxClosed closed blocks; some of them are not whole.
func largeCities() []impl.City {
	cities := []impl.City{
		{Wide: 8, High: 8}, {Wide: 8, High: 1}, {Wide: 1, High: 8}, {Wide: 8, High: 2}, {Wide: 5, High: 4}, {Wide: 1, High: 1},
		{Wide: 8, High: 8, Closed: blocksOf(8, 8)[:30]}, {Wide: 8, High: 8, Closed: blocksOf(8, 8)[82:]},
	}
	for seed := range 3 {
		cities = append(cities,
			mixedCity(8, 8, 30, seed), mixedCity(8, 8, 29, seed), mixedCity(8, 8, 4, seed), mixedCity(5, 5, 15, seed), mixedCity(5, 5, 30, seed),
			mixedCity(4, 6, 18, seed), mixedCity(6, 4, 18, seed), mixedCity(3, 3, 4, seed), mixedCity(8, 3, 12, seed), mixedCity(6, 6, 30, seed))
	}
	return cities
}

func someCities() []impl.City {
	cities := slices.Concat(closedAll(1, 1), closedAll(4, 1), closedAll(1, 4), closedAll(2, 2), closedAll(3, 2), closedAll(2, 3))
	return append(cities, largeCities()...)
}

func noCities() []impl.City {
	flat, up := impl.Block{X: 0, Y: 0}, impl.Block{X: 0, Y: 0, Up: true}
	cities := []impl.City{
		{}, {Wide: 0, High: 1}, {Wide: 1, High: 0}, {Wide: -1, High: 3}, {Wide: 3, High: -1}, {Wide: 9, High: 1}, {Wide: 1, High: 9}, {Wide: 9, High: 9},
		{Wide: math.MinInt, High: 1}, {Wide: 1, High: math.MinInt}, {Wide: math.MaxInt, High: 8}, {Wide: 8, High: math.MaxInt},
		{Wide: 0, High: 0, Closed: []impl.Block{flat}}, {Wide: 1, High: 1, Closed: []impl.Block{flat}}, {Wide: 1, High: 1, Closed: []impl.Block{up}},
		{Wide: 3, High: 2, Closed: []impl.Block{up, flat}}, {Wide: 3, High: 2, Closed: []impl.Block{flat, flat}}, {Wide: 3, High: 2, Closed: []impl.Block{up, up}},
		{Wide: 3, High: 2, Closed: []impl.Block{{X: 1}, {X: 0}}}, {Wide: 3, High: 2, Closed: []impl.Block{{X: 1, Y: 1}, {X: 1, Y: 0}}},
		{Wide: 3, High: 2, Closed: []impl.Block{{X: 0, Y: 1}, {X: 0, Y: 0, Up: true}}},
		{Wide: 8, High: 8, Closed: blocksOf(8, 8)[:31]}, {Wide: 8, High: 8, Closed: blocksOf(8, 8)}, {Wide: 6, High: 6, Closed: mixedCity(6, 6, 31, 1).Closed},
		{Wide: 8, High: 8, Closed: slices.Repeat([]impl.Block{flat}, 30)}, {Wide: 8, High: 8, Closed: slices.Repeat([]impl.Block{flat}, 200)},
	}
	for _, b := range noBlocks(3, 2) {
		cities = append(cities, impl.City{Wide: 3, High: 2, Closed: []impl.Block{b}})
	}
	return cities
}

// noBlocks has blocks one end of which, or both, is not in a city.
func noBlocks(wide, high int) []impl.Block {
	return []impl.Block{
		{X: wide - 1, Y: 0}, {X: 0, Y: high - 1, Up: true}, {X: wide, Y: 0}, {X: 0, Y: high}, {X: wide, Y: 0, Up: true}, {X: 0, Y: high, Up: true},
		{X: -1, Y: 0}, {X: 0, Y: -1}, {X: -1, Y: 0, Up: true}, {X: 0, Y: -1, Up: true}, {X: wide - 1, Y: high - 1}, {X: wide - 1, Y: high - 1, Up: true},
		{X: math.MaxInt, Y: 0}, {X: 0, Y: math.MaxInt, Up: true}, {X: math.MinInt, Y: 0}, {X: 0, Y: math.MinInt, Up: true},
		{X: math.MinInt, Y: math.MinInt}, {X: math.MaxInt, Y: math.MaxInt, Up: true},
	}
}

func noCorners(c impl.City) [][]int {
	return [][]int{
		nil, {}, {0}, {0, 0, 0}, {0, 0, 0, 0}, {-1, 0}, {0, -1}, {c.Wide, 0}, {0, c.High}, {c.Wide, c.High}, {-1, -1}, {8, 0}, {0, 8},
		{math.MinInt, 0}, {0, math.MinInt}, {math.MaxInt, 0}, {0, math.MaxInt}, {math.MaxInt, math.MaxInt}, slices.Repeat([]int{0}, 100),
	}
}

// spot is a corner as the tests go there.
type spot struct{ x, y int }

func (s spot) list() []int {
	return []int{s.x, s.y}
}

// spotsOf has all corners of a city, by x, then by y.
func spotsOf(c impl.City) []spot {
	var spots []spot
	for x := range c.Wide {
		for y := range c.High {
			spots = append(spots, spot{x, y})
		}
	}
	return spots
}

// goByHand looks for the block before the feet among the closed ones.
func goByHand(c impl.City, at spot, sign byte) (spot, bool) {
	var next spot
	var block impl.Block
	switch sign {
	case 'e':
		next, block = spot{at.x + 1, at.y}, impl.Block{X: at.x, Y: at.y}
	case 'w':
		next, block = spot{at.x - 1, at.y}, impl.Block{X: at.x - 1, Y: at.y}
	case 'n':
		next, block = spot{at.x, at.y + 1}, impl.Block{X: at.x, Y: at.y, Up: true}
	case 's':
		next, block = spot{at.x, at.y - 1}, impl.Block{X: at.x, Y: at.y - 1, Up: true}
	default:
		return spot{}, false
	}
	open := next.x >= 0 && next.x < c.Wide && next.y >= 0 && next.y < c.High && !slices.Contains(c.Closed, block)
	return next, open
}

// town is what the tests go about in: its corners, and to which one comes from one of them by a sign, if one can go so.
type town struct {
	spots []spot
	goes  func(at spot, sign byte) (spot, bool)
}

func townOf(c impl.City) town {
	return town{spots: spotsOf(c), goes: func(at spot, sign byte) (spot, bool) { return goByHand(c, at, sign) }}
}

// distances shortens all distances from a corner until none can be shortened any more.
func (o town) distances(from spot) map[spot]int {
	distances := map[spot]int{from: 0}
	for changed := true; changed; {
		changed = false
		for _, at := range o.spots {
			distance, there := distances[at]
			if !there {
				continue
			}
			for _, sign := range []byte("wsne") {
				next, open := o.goes(at, sign)
				if known, there := distances[next]; open && (!there || known > distance+1) {
					distances[next] = distance + 1
					changed = true
				}
			}
		}
	}
	return distances
}

// words has all words of so many blocks that lead from a corner to another one, in their order.
func (o town) words(from, to spot, blocks int) []string {
	if blocks == 0 {
		if from == to {
			return []string{""}
		}
		return nil
	}
	var words []string
	for _, sign := range []byte("ensw") {
		if next, open := o.goes(from, sign); open {
			for _, rest := range o.words(next, to, blocks-1) {
				words = append(words, string(sign)+rest)
			}
		}
	}
	return words
}

// walks counts the words of so many blocks that lead to a corner, for each at which they begin.
func (o town) walks(to spot, blocks int) map[spot]int {
	counts := map[spot]int{to: 1}
	for range blocks {
		longer := map[spot]int{}
		for _, at := range o.spots {
			for _, sign := range []byte("ensw") {
				if next, open := o.goes(at, sign); open {
					longer[at] += counts[next]
				}
			}
		}
		counts = longer
	}
	return counts
}

// first takes the first sign from which there are still words of so many blocks.
func (o town) first(a, b spot, blocks int) string {
	word := ""
	for blocks > 0 {
		blocks--
		walks := o.walks(b, blocks)
		for _, sign := range []byte("ensw") {
			if next, open := o.goes(a, sign); open && walks[next] > 0 {
				word, a = word+string(sign), next
				break
			}
		}
	}
	return word
}

// led goes a word sign by sign; there is no corner if one cannot go so.
func (o town) led(at spot, word string) ([]int, bool) {
	for i := range len(word) {
		next, open := o.goes(at, word[i])
		if !open {
			return nil, false
		}
		at = next
	}
	return at.list(), true
}

func distancesByHand(c impl.City, from spot) map[spot]int {
	return townOf(c).distances(from)
}

func city(t *testing.T, text string) impl.City {
	t.Helper()
	c, ok := impl.ParseCity(text)
	if !ok {
		t.Fatalf("ParseCity(%q) fails", text)
	}
	return c
}

func sameCity(a, b impl.City) bool {
	return a.Wide == b.Wide && a.High == b.High && slices.Equal(a.Closed, b.Closed)
}

func wantCity(t *testing.T, what string, got impl.City, ok bool, want impl.City, wantOK bool) {
	t.Helper()
	if !sameCity(got, want) || ok != wantOK {
		t.Errorf("%s is %v, %t; want %v, %t", what, got, ok, want, wantOK)
	}
}

// wantCorner checks a corner, nil if there is to be none, and the number behind it.
func wantCorner(t *testing.T, what string, got []int, number int, ok bool, want []int, wantNumber int, wantOK bool) {
	t.Helper()
	if !slices.Equal(got, want) || number != wantNumber || ok != wantOK {
		t.Errorf("%s is %v, %d, %t; want %v, %d, %t", what, got, number, ok, want, wantNumber, wantOK)
	}
}

func wantBlocks(t *testing.T, what string, got []impl.Block, ok bool, want []impl.Block, wantOK bool) {
	t.Helper()
	if !slices.Equal(got, want) || ok != wantOK {
		t.Errorf("%s are %v, %t; want %v, %t", what, got, ok, want, wantOK)
	}
}

func wantBlock(t *testing.T, what string, got impl.Block, number int, ok bool, want impl.Block, wantNumber int, wantOK bool) {
	t.Helper()
	if got != want || number != wantNumber || ok != wantOK {
		t.Errorf("%s is %v, %d, %t; want %v, %d, %t", what, got, number, ok, want, wantNumber, wantOK)
	}
}

func wantTruth(t *testing.T, what string, got, ok, want, wantOK bool) {
	t.Helper()
	if got != want || ok != wantOK {
		t.Errorf("%s is %t, %t; want %t, %t", what, got, ok, want, wantOK)
	}
}

// told names a call in a message: the city by its text, and what else there is.
func told(name string, c impl.City, more ...[]int) string {
	text, _ := impl.CityText(c)
	what := name + " of " + text
	for _, list := range more {
		for _, number := range list {
			what += " " + strconv.Itoa(number)
		}
	}
	return what
}

func TestLimitsOfCitiesAreThoseOfTheDocument(t *testing.T) {
	if impl.MaxCity != 8 || impl.MaxClosed != 30 || impl.MaxWalked != 200 {
		t.Error("limits", impl.MaxCity, impl.MaxClosed, impl.MaxWalked)
	}
}

func TestIsCity(t *testing.T) {
	for _, c := range someCities() {
		if !impl.IsCity(c) {
			t.Errorf("%v is no city", c)
		}
	}
	for _, c := range noCities() {
		if impl.IsCity(c) {
			t.Errorf("%v is a city", c)
		}
	}
	for wide := -1; wide <= 10; wide++ {
		for high := -1; high <= 10; high++ {
			want := wide >= 1 && wide <= 8 && high >= 1 && high <= 8
			if impl.IsCity(impl.City{Wide: wide, High: high}) != want {
				t.Errorf("IsCity of %d avenues and %d streets is %t", wide, high, !want)
			}
		}
	}
}

func TestIsCityByItsBlocks(t *testing.T) {
	for _, size := range [][2]int{{1, 1}, {1, 3}, {3, 1}, {3, 2}, {8, 8}} {
		blocks := blocksOf(size[0], size[1])
		for x := -1; x <= 9; x++ {
			for y := -1; y <= 9; y++ {
				for _, up := range []bool{false, true} {
					b := impl.Block{X: x, Y: y, Up: up}
					want := slices.Contains(blocks, b)
					if impl.IsCity(impl.City{Wide: size[0], High: size[1], Closed: []impl.Block{b}}) != want {
						t.Errorf("IsCity of %v with %v closed is %t", size, b, !want)
					}
				}
			}
		}
	}
	blocks := blocksOf(3, 3)
	for i, a := range blocks {
		for k, b := range blocks {
			if impl.IsCity(impl.City{Wide: 3, High: 3, Closed: []impl.Block{a, b}}) != (i < k) {
				t.Errorf("IsCity with %v and %v closed is %t", a, b, i >= k)
			}
		}
	}
}

// checkWay checks what is told of the ways from a corner to another one; distances are those from it.
func checkWay(t *testing.T, c impl.City, a, b spot, distances map[spot]int) {
	t.Helper()
	distance, there := distances[b]
	straight, first, count := 0, "", 0
	if there {
		straight = max(a.x-b.x, b.x-a.x) + max(a.y-b.y, b.y-a.y)
		count = townOf(c).walks(b, distance)[a]
		first = townOf(c).first(a, b, distance)
	}
	got, ok := impl.CornerDistance(c, a.list(), b.list())
	wantNumber(t, told("CornerDistance", c, a.list(), b.list()), got, ok, distance, there)
	got, ok = impl.DetourOf(c, a.list(), b.list())
	wantNumber(t, told("DetourOf", c, a.list(), b.list()), got, ok, distance-straight, there)
	got, ok = impl.CountShortestWays(c, a.list(), b.list())
	wantNumber(t, told("CountShortestWays", c, a.list(), b.list()), got, ok, count, there)
	word, ok := impl.FirstShortestWay(c, a.list(), b.list())
	wantText(t, told("FirstShortestWay", c, a.list(), b.list()), word, ok, first, there)
	if there {
		checkThereAndBack(t, c, a, b, word)
	}
}

func checkThereAndBack(t *testing.T, c impl.City, a, b spot, word string) {
	t.Helper()
	end, ok := impl.WalkWord(c, a.list(), word)
	wantList(t, told("WalkWord "+word, c, a.list()), end, ok, b.list(), true)
	back, ok := impl.BackWay(word)
	if !ok || len(back) != len(word) {
		t.Errorf("BackWay of %q is %q, %t", word, back, ok)
	}
	begin, ok := impl.WalkWord(c, b.list(), back)
	wantList(t, told("WalkWord "+back, c, b.list()), begin, ok, a.list(), true)
}

func TestWaysOfSmallCities(t *testing.T) {
	for _, c := range slices.Concat(closedAll(1, 1), closedAll(4, 1), closedAll(1, 4), closedAll(2, 2), closedAll(3, 2), closedAll(2, 3)) {
		for _, a := range spotsOf(c) {
			distances := distancesByHand(c, a)
			for _, b := range spotsOf(c) {
				checkWay(t, c, a, b, distances)
			}
		}
	}
}

func TestWaysOfLargeCities(t *testing.T) {
	for _, c := range largeCities() {
		spots := spotsOf(c)
		for i, a := range spots {
			if i%5 != 0 && i != len(spots)-1 {
				continue
			}
			distances := distancesByHand(c, a)
			for k := i % 3; k < len(spots); k += 3 {
				checkWay(t, c, a, spots[k], distances)
			}
		}
	}
}

func TestWaysAgainstAllWords(t *testing.T) {
	for seed := range 10 {
		c := mixedCity(3, 3, seed, seed)
		for _, a := range spotsOf(c) {
			distances := distancesByHand(c, a)
			for b, distance := range distances {
				words := townOf(c).words(a, b, distance)
				got, ok := impl.CountShortestWays(c, a.list(), b.list())
				wantNumber(t, told("CountShortestWays", c, a.list(), b.list()), got, ok, len(words), true)
				word, ok := impl.FirstShortestWay(c, a.list(), b.list())
				wantText(t, told("FirstShortestWay", c, a.list(), b.list()), word, ok, slices.Min(words), true)
			}
		}
	}
}

func TestWaysOfTheDocument(t *testing.T) {
	c := city(t, "3x2:0-0")
	a, b := []int{0, 0}, []int{2, 0}
	number, ok := impl.CornerDistance(c, a, b)
	wantNumber(t, "CornerDistance", number, ok, 4, true)
	number, ok = impl.DetourOf(c, a, b)
	wantNumber(t, "DetourOf", number, ok, 2, true)
	number, ok = impl.CountShortestWays(c, a, b)
	wantNumber(t, "CountShortestWays", number, ok, 2, true)
	word, ok := impl.FirstShortestWay(c, a, b)
	wantText(t, "FirstShortestWay", word, ok, "nees", true)
	needed, ok := impl.NeededBlocks(c, a, b)
	wantBlocks(t, "NeededBlocks", needed, ok, []impl.Block{{X: 0, Y: 0, Up: true}, {X: 0, Y: 1}}, true)
	block, number, ok := impl.BestToOpen(c, a, b)
	wantBlock(t, "BestToOpen", block, number, ok, impl.Block{X: 0, Y: 0}, 2, true)
	at, number, ok := impl.CenterCorner(c)
	wantCorner(t, "CenterCorner", at, number, ok, []int{1, 1}, 2, true)
	for _, word := range []string{"nees", "nese"} {
		at, ok = impl.WalkWord(c, a, word)
		wantList(t, "WalkWord "+word, at, ok, b, true)
	}
	if text, ok := impl.CityText(impl.City{Wide: 3, High: 2, Closed: []impl.Block{{X: 0, Y: 0}}}); text != "3x2:0-0" || !ok {
		t.Error("CityText", text, ok)
	}
}

func TestWaysAcrossTheLargestCity(t *testing.T) {
	c := city(t, "8x8:")
	number, ok := impl.CornerDistance(c, []int{0, 0}, []int{7, 7})
	wantNumber(t, "CornerDistance", number, ok, 14, true)
	number, ok = impl.CountShortestWays(c, []int{0, 7}, []int{7, 0})
	wantNumber(t, "CountShortestWays", number, ok, 3432, true)
	for _, way := range []struct {
		a, b []int
		want string
	}{
		{[]int{0, 0}, []int{7, 7}, "eeeeeeennnnnnn"}, {[]int{0, 7}, []int{7, 0}, "eeeeeeesssssss"},
		{[]int{7, 0}, []int{0, 7}, "nnnnnnnwwwwwww"}, {[]int{7, 7}, []int{0, 0}, "ssssssswwwwwww"}, {[]int{3, 3}, []int{3, 3}, ""},
	} {
		word, ok := impl.FirstShortestWay(c, way.a, way.b)
		wantText(t, "FirstShortestWay", word, ok, way.want, true)
	}
	at, number, ok := impl.CenterCorner(c)
	wantCorner(t, "CenterCorner", at, number, ok, []int{3, 3}, 8, true)
}

func TestACityOfOneCorner(t *testing.T) {
	c, at := city(t, "1x1:"), []int{0, 0}
	for name, f := range map[string]func(impl.City, []int, []int) (int, bool){
		"CornerDistance": impl.CornerDistance, "DetourOf": impl.DetourOf,
	} {
		got, ok := f(c, at, at)
		wantNumber(t, name, got, ok, 0, true)
	}
	got, ok := impl.CountShortestWays(c, at, at)
	wantNumber(t, "CountShortestWays", got, ok, 1, true)
	word, ok := impl.FirstShortestWay(c, at, at)
	wantText(t, "FirstShortestWay", word, ok, "", true)
	got, ok = impl.CornersReached(c, at)
	wantNumber(t, "CornersReached", got, ok, 1, true)
	whole, ok := impl.IsWholeCity(c)
	wantTruth(t, "IsWholeCity", whole, ok, true, true)
	list, got, ok := impl.FarthestCorner(c, at)
	wantCorner(t, "FarthestCorner", list, got, ok, at, 0, true)
	list, got, ok = impl.MeetingCorner(c, slices.Repeat([][]int{at}, 10))
	wantCorner(t, "MeetingCorner", list, got, ok, at, 0, true)
	list, got, ok = impl.CenterCorner(c)
	wantCorner(t, "CenterCorner", list, got, ok, at, 0, true)
	needed, ok := impl.NeededBlocks(c, at, at)
	wantBlocks(t, "NeededBlocks", needed, ok, nil, true)
	block, got, ok := impl.BestToOpen(c, at, at)
	wantBlock(t, "BestToOpen", block, got, ok, impl.Block{}, 0, false)
	mirrored, ok := impl.MirrorCity(c)
	wantCity(t, "MirrorCity", mirrored, ok, c, true)
	for _, sign := range []string{"e", "n", "s", "w"} {
		list, ok := impl.WalkWord(c, at, sign)
		wantList(t, "WalkWord "+sign, list, ok, nil, false)
	}
}

// wordsUpTo has all words of up to so many signs.
func wordsUpTo(most int) []string {
	words := []string{""}
	for first, length := 0, 0; length < most; length++ {
		end := len(words)
		for _, word := range words[first:end] {
			for _, sign := range []string{"e", "n", "s", "w"} {
				words = append(words, word+sign)
			}
		}
		first = end
	}
	return words
}

func TestWalkWord(t *testing.T) {
	words := wordsUpTo(4)
	for _, c := range []impl.City{city(t, "1x1:"), city(t, "3x1:1-0"), city(t, "3x2:0-0"), city(t, "2x3:0|1,1|0"), mixedCity(4, 4, 8, 1), mixedCity(8, 8, 30, 1)} {
		for _, at := range spotsOf(c) {
			for _, word := range words {
				want, wantOK := townOf(c).led(at, word)
				got, ok := impl.WalkWord(c, at.list(), word)
				wantList(t, told("WalkWord "+word, c, at.list()), got, ok, want, wantOK)
			}
		}
	}
}

func TestWalkWordAtItsLimit(t *testing.T) {
	c := city(t, "3x2:0-0")
	for _, walk := range []struct {
		word string
		want []int
	}{
		{"", []int{1, 1}}, {strings.Repeat("ew", 100), []int{1, 1}}, {strings.Repeat("ew", 99) + "s", []int{1, 0}}, {strings.Repeat("wesn", 50), []int{1, 1}},
		{strings.Repeat("ew", 100) + "e", nil}, {strings.Repeat("wesn", 50) + "w", nil}, {strings.Repeat("ew", 101), nil}, {strings.Repeat("ew", 5000), nil},
		{strings.Repeat("e", 200), nil}, {strings.Repeat("ew", 99) + "en", nil},
	} {
		got, ok := impl.WalkWord(c, []int{1, 1}, walk.word)
		wantList(t, "WalkWord of "+strconv.Itoa(len(walk.word))+" signs", got, ok, walk.want, walk.want != nil)
	}
}

func otherSigns() []string {
	signs := []string{"é", "east", " ", "e ", " e", "E", "N", "S", "W", "e\n", "e,n", "\x00", "\xff", "en\xff", "ｅ", "ö"}
	for sign := range 256 {
		if !strings.ContainsRune("ensw", rune(sign)) {
			signs = append(signs, string([]byte{byte(sign)}), "e"+string([]byte{byte(sign)}), string([]byte{byte(sign)})+"w")
		}
	}
	return signs
}

func TestOtherSignsLeadNowhere(t *testing.T) {
	c := city(t, "8x8:")
	for _, word := range otherSigns() {
		at, ok := impl.WalkWord(c, []int{3, 3}, word)
		wantList(t, "WalkWord "+strconv.Quote(word), at, ok, nil, false)
		back, ok := impl.BackWay(word)
		wantText(t, "BackWay of "+strconv.Quote(word), back, ok, "", false)
	}
}

func backByHand(word string) string {
	signs := []byte(word)
	slices.Reverse(signs)
	for i, sign := range signs {
		switch sign {
		case 'e':
			signs[i] = 'w'
		case 'w':
			signs[i] = 'e'
		case 'n':
			signs[i] = 's'
		case 's':
			signs[i] = 'n'
		}
	}
	return string(signs)
}

func TestBackWay(t *testing.T) {
	words := append(wordsUpTo(5), strings.Repeat("e", 200), strings.Repeat("ensw", 50), strings.Repeat("nes", 66)+"w")
	for _, word := range words {
		got, ok := impl.BackWay(word)
		wantText(t, "BackWay of "+word, got, ok, backByHand(word), true)
	}
	got, ok := impl.BackWay("nees")
	wantText(t, "BackWay of nees", got, ok, "nwws", true)
	for _, word := range []string{strings.Repeat("e", 201), strings.Repeat("ensw", 50) + "n", strings.Repeat("s", 5000)} {
		got, ok := impl.BackWay(word)
		wantText(t, "BackWay of too many signs", got, ok, "", false)
	}
}

// farthestByHand looks at the corners from the last one on, so that the first one comes last.
func farthestByHand(c impl.City, distances map[spot]int) (spot, int) {
	spots := spotsOf(c)
	slices.Reverse(spots)
	best, most := spot{}, -1
	for _, at := range spots {
		if distance, there := distances[at]; there && distance >= most {
			best, most = at, distance
		}
	}
	return best, most
}

func TestReachedAndFarthestCorners(t *testing.T) {
	for _, c := range someCities() {
		for _, a := range spotsOf(c) {
			distances := distancesByHand(c, a)
			got, ok := impl.CornersReached(c, a.list())
			wantNumber(t, told("CornersReached", c, a.list()), got, ok, len(distances), true)
			far, distance := farthestByHand(c, distances)
			at, got, ok := impl.FarthestCorner(c, a.list())
			wantCorner(t, told("FarthestCorner", c, a.list()), at, got, ok, far.list(), distance, true)
		}
	}
}

func TestFarthestCornerIsTheFirstOne(t *testing.T) {
	for _, c := range []struct {
		city     string
		a, want  []int
		distance int
	}{
		{"3x3:", []int{1, 1}, []int{0, 0}, 2}, {"3x3:", []int{1, 0}, []int{0, 2}, 3}, {"3x3:", []int{0, 1}, []int{2, 0}, 3}, {"3x1:", []int{1, 0}, []int{0, 0}, 1},
		{"2x2:0-0,0|0", []int{0, 0}, []int{0, 0}, 0}, {"3x2:0-0,0-1", []int{0, 0}, []int{0, 1}, 1}, {"8x8:", []int{7, 7}, []int{0, 0}, 14},
	} {
		at, got, ok := impl.FarthestCorner(city(t, c.city), c.a)
		wantCorner(t, "FarthestCorner of "+c.city, at, got, ok, c.want, c.distance, true)
	}
}

func isWholeByHand(c impl.City) bool {
	for _, a := range spotsOf(c) {
		if len(distancesByHand(c, a)) < c.Wide*c.High {
			return false
		}
	}
	return true
}

func TestWholeCitiesAndTheirCenters(t *testing.T) {
	wholes, others := 0, 0
	for _, c := range someCities() {
		whole := isWholeByHand(c)
		got, ok := impl.IsWholeCity(c)
		wantTruth(t, told("IsWholeCity", c), got, ok, whole, true)
		if whole {
			wholes++
		} else {
			others++
		}
		center, least := centerByHand(c, whole)
		at, distance, ok := impl.CenterCorner(c)
		wantCorner(t, told("CenterCorner", c), at, distance, ok, center, least, whole)
	}
	if wholes < 20 || others < 20 {
		t.Error("too few cities of a kind:", wholes, others)
	}
}

func centerByHand(c impl.City, whole bool) ([]int, int) {
	if !whole {
		return nil, 0
	}
	var center []int
	least := math.MaxInt
	for _, a := range spotsOf(c) {
		if _, distance := farthestByHand(c, distancesByHand(c, a)); distance < least {
			center, least = a.list(), distance
		}
	}
	return center, least
}

// meetingByHand tries each corner with the distances from there.
func meetingByHand(c impl.City, people [][]int) ([]int, int, bool) {
	var best []int
	least := math.MaxInt
	for _, at := range spotsOf(c) {
		distances := distancesByHand(c, at)
		sum, all := 0, true
		for _, p := range people {
			distance, there := distances[spot{p[0], p[1]}]
			sum, all = sum+distance, all && there
		}
		if all && sum < least {
			best, least = at.list(), sum
		}
	}
	if best == nil {
		return nil, 0, false
	}
	return best, least, true
}

// someoneIn has so many corners of a city, some of them perhaps more than once.
func someoneIn(c impl.City, count, seed int) [][]int {
	spots := spotsOf(c)
	var people [][]int
	for range count {
		seed = (seed*233 + 1871) % 10007
		people = append(people, spots[seed%len(spots)].list())
	}
	return people
}

func TestMeetingCorner(t *testing.T) {
	met, apart := 0, 0
	for i, c := range someCities() {
		for _, count := range []int{1, 2, 3, 4, 7, 9, 10} {
			people := someoneIn(c, count, 17*i+count)
			want, sum, wantOK := meetingByHand(c, people)
			at, got, ok := impl.MeetingCorner(c, people)
			wantCorner(t, told("MeetingCorner", c, people...), at, got, ok, want, sum, wantOK)
			if wantOK {
				met++
			} else {
				apart++
			}
		}
		people := someoneIn(c, 11, i)
		at, got, ok := impl.MeetingCorner(c, people)
		wantCorner(t, told("MeetingCorner", c, people...), at, got, ok, nil, 0, false)
	}
	if met < 100 || apart < 100 {
		t.Error("too few people of a kind:", met, apart)
	}
}

func TestMeetingCornerOfSome(t *testing.T) {
	for _, c := range []struct {
		city   string
		people [][]int
		want   []int
		sum    int
	}{
		{"3x2:0-0", [][]int{{2, 0}}, []int{2, 0}, 0}, {"3x2:0-0", [][]int{{0, 0}, {2, 0}}, []int{0, 0}, 4}, {"3x1:", [][]int{{2, 0}, {0, 0}}, []int{0, 0}, 2},
		{"3x3:", [][]int{{0, 1}, {2, 1}, {1, 0}, {1, 2}}, []int{1, 1}, 4}, {"3x3:", [][]int{{2, 2}, {2, 2}, {2, 2}, {0, 0}}, []int{2, 2}, 4},
		{"1x3:", [][]int{{0, 2}, {0, 0}}, []int{0, 0}, 2}, {"2x2:0-0,0|0", [][]int{{0, 0}, {0, 0}}, []int{0, 0}, 0}, {"2x2:0-0,0|0", [][]int{{0, 0}, {0, 1}}, nil, 0},
		{"2x2:0-0,0|0", [][]int{{0, 1}, {1, 0}}, []int{0, 1}, 2}, {"8x8:", slices.Repeat([][]int{{7, 7}, {0, 0}}, 5), []int{0, 0}, 70},
		{"8x8:", slices.Repeat([][]int{{7, 7}}, 10), []int{7, 7}, 0}, {"8x8:", slices.Repeat([][]int{{7, 7}}, 11), nil, 0}, {"8x8:", nil, nil, 0},
		{"8x8:", [][]int{}, nil, 0}, {"8x8:", slices.Repeat([][]int{{0, 0}}, 1000), nil, 0},
	} {
		at, sum, ok := impl.MeetingCorner(city(t, c.city), c.people)
		wantCorner(t, "MeetingCorner of "+c.city, at, sum, ok, c.want, c.sum, c.want != nil)
	}
}

// closedByHand puts a block at the end, and sorts by all blocks of the city.
func closedByHand(c impl.City, b impl.Block) impl.City {
	more := impl.City{Wide: c.Wide, High: c.High}
	for _, block := range blocksOf(c.Wide, c.High) {
		if block == b || slices.Contains(c.Closed, block) {
			more.Closed = append(more.Closed, block)
		}
	}
	return more
}

func openByHand(c impl.City, b impl.Block) impl.City {
	less := impl.City{Wide: c.Wide, High: c.High}
	for _, block := range c.Closed {
		if block != b {
			less.Closed = append(less.Closed, block)
		}
	}
	return less
}

func TestCloseAndOpenBlock(t *testing.T) {
	for _, c := range someCities() {
		for _, b := range blocksOf(c.Wide, c.High) {
			closed := slices.Contains(c.Closed, b)
			wantClosed, wantOpen := impl.City{}, impl.City{}
			canClose := !closed && len(c.Closed) < 30
			if canClose {
				wantClosed = closedByHand(c, b)
			}
			if closed {
				wantOpen = openByHand(c, b)
			}
			more, ok := impl.CloseBlock(c, b)
			wantCity(t, told("CloseBlock", c), more, ok, wantClosed, canClose)
			less, ok := impl.OpenBlock(c, b)
			wantCity(t, told("OpenBlock", c), less, ok, wantOpen, closed)
			if canClose {
				again, ok := impl.OpenBlock(more, b)
				wantCity(t, told("OpenBlock", more), again, ok, c, true)
			}
		}
		for _, b := range noBlocks(c.Wide, c.High) {
			checkNoBlock(t, c, b)
		}
	}
}

func checkNoBlock(t *testing.T, c impl.City, b impl.Block) {
	t.Helper()
	got, ok := impl.CloseBlock(c, b)
	wantCity(t, told("CloseBlock", c), got, ok, impl.City{}, false)
	got, ok = impl.OpenBlock(c, b)
	wantCity(t, told("OpenBlock", c), got, ok, impl.City{}, false)
}

func TestCloseBlockUpToMaxClosed(t *testing.T) {
	c := city(t, "8x8:")
	for i, b := range blocksOf(8, 8) {
		more, ok := impl.CloseBlock(c, b)
		if ok != (i < 30) {
			t.Fatalf("CloseBlock with %d closed is %t", i, ok)
		}
		if ok {
			c = more
		}
	}
	wantCity(t, "a city closed block by block", c, true, impl.City{Wide: 8, High: 8, Closed: blocksOf(8, 8)[:30]}, true)
}

// neededByHand closes each open block in turn.
func neededByHand(c impl.City, a, b spot) []impl.Block {
	var needed []impl.Block
	for _, block := range blocksOf(c.Wide, c.High) {
		if slices.Contains(c.Closed, block) {
			continue
		}
		if _, there := distancesByHand(closedByHand(c, block), a)[b]; !there {
			needed = append(needed, block)
		}
	}
	return needed
}

func bestByHand(c impl.City, a, b spot) (impl.Block, int, bool) {
	best, least, found := impl.Block{}, 0, false
	for _, block := range c.Closed {
		distance, there := distancesByHand(openByHand(c, block), a)[b]
		if there && (!found || distance < least) {
			best, least, found = block, distance, true
		}
	}
	return best, least, found
}

// checkBlocks checks which blocks are needed and which is best to open, for two corners.
func checkBlocks(t *testing.T, c impl.City, a, b spot) {
	t.Helper()
	var want []impl.Block
	_, there := distancesByHand(c, a)[b]
	if there {
		want = neededByHand(c, a, b)
	}
	needed, ok := impl.NeededBlocks(c, a.list(), b.list())
	wantBlocks(t, told("NeededBlocks", c, a.list(), b.list()), needed, ok, want, there)
	best, least, found := bestByHand(c, a, b)
	block, distance, ok := impl.BestToOpen(c, a.list(), b.list())
	wantBlock(t, told("BestToOpen", c, a.list(), b.list()), block, distance, ok, best, least, found)
}

func TestNeededAndBestBlocksOfSmallCities(t *testing.T) {
	for _, c := range slices.Concat(closedAll(1, 1), closedAll(4, 1), closedAll(1, 4), closedAll(2, 2), closedAll(3, 2), closedAll(2, 3)) {
		for _, a := range spotsOf(c) {
			for _, b := range spotsOf(c) {
				checkBlocks(t, c, a, b)
			}
		}
	}
}

func TestNeededAndBestBlocksOfLargeCities(t *testing.T) {
	for _, c := range largeCities() {
		spots := spotsOf(c)
		for i := range 4 {
			a, b := spots[7*i%len(spots)], spots[len(spots)-1-11*i%len(spots)]
			checkBlocks(t, c, a, b)
			checkBlocks(t, c, b, a)
		}
	}
}

func TestNeededBlocksOfSome(t *testing.T) {
	for _, c := range []struct {
		city string
		a, b []int
		want []impl.Block
		ok   bool
	}{
		{"8x8:", []int{0, 0}, []int{7, 7}, nil, true}, {"8x8:", []int{3, 3}, []int{3, 3}, nil, true}, {"3x1:", []int{2, 0}, []int{0, 0}, []impl.Block{{X: 0}, {X: 1}}, true},
		{"3x2:0-0,0-1", []int{0, 0}, []int{2, 0}, nil, false}, {"3x2:0-0,0-1", []int{0, 0}, []int{0, 0}, nil, true}, {"3x2:0-0,0-1", []int{0, 0}, []int{0, 1}, []impl.Block{{Up: true}}, true},
	} {
		got, ok := impl.NeededBlocks(city(t, c.city), c.a, c.b)
		wantBlocks(t, "NeededBlocks of "+c.city, got, ok, c.want, c.ok)
	}
}

func TestBestToOpenOfSome(t *testing.T) {
	for _, c := range []struct {
		city     string
		a, b     []int
		want     impl.Block
		distance int
		ok       bool
	}{
		{"8x8:", []int{0, 0}, []int{7, 7}, impl.Block{}, 0, false}, {"3x2:0-0,0-1", []int{0, 0}, []int{2, 0}, impl.Block{}, 2, true},
		{"3x1:0-0,1-0", []int{0, 0}, []int{2, 0}, impl.Block{}, 0, false}, {"3x1:0-0,1-0", []int{1, 0}, []int{2, 0}, impl.Block{X: 1}, 1, true},
		{"3x2:1-0,1-1", []int{2, 0}, []int{2, 0}, impl.Block{X: 1}, 0, true}, {"3x2:0-1,1|0", []int{0, 0}, []int{2, 0}, impl.Block{Y: 1}, 2, true},
	} {
		block, distance, ok := impl.BestToOpen(city(t, c.city), c.a, c.b)
		wantBlock(t, "BestToOpen of "+c.city, block, distance, ok, c.want, c.distance, c.ok)
	}
}

// mirroredByHand asks for each block of the city whether that across from it is closed.
func mirroredByHand(c impl.City) impl.City {
	mirrored := impl.City{Wide: c.Wide, High: c.High}
	for _, b := range blocksOf(c.Wide, c.High) {
		across := impl.Block{X: c.Wide - 2 - b.X, Y: b.Y}
		if b.Up {
			across = impl.Block{X: c.Wide - 1 - b.X, Y: b.Y, Up: true}
		}
		if slices.Contains(c.Closed, across) {
			mirrored.Closed = append(mirrored.Closed, b)
		}
	}
	return mirrored
}

func TestMirrorCity(t *testing.T) {
	for _, c := range someCities() {
		mirrored, ok := impl.MirrorCity(c)
		wantCity(t, told("MirrorCity", c), mirrored, ok, mirroredByHand(c), true)
		again, ok := impl.MirrorCity(mirrored)
		wantCity(t, told("MirrorCity", mirrored), again, ok, c, true)
	}
	for text, want := range map[string]string{
		"3x2:0-0": "3x2:1-0", "3x2:0|0": "3x2:2|0", "3x2:1|0": "3x2:1|0", "3x2:0-0,0|0,1-1": "3x2:0-1,1-0,2|0", "1x3:0|1": "1x3:0|1", "8x8:": "8x8:",
	} {
		mirrored, ok := impl.MirrorCity(city(t, text))
		wantCity(t, "MirrorCity of "+text, mirrored, ok, city(t, want), true)
	}
}

func TestCityTexts(t *testing.T) {
	for text, c := range map[string]impl.City{
		"1x1:": {Wide: 1, High: 1}, "8x8:": {Wide: 8, High: 8}, "3x2:0-0": {Wide: 3, High: 2, Closed: []impl.Block{{}}},
		"3x2:0|0": {Wide: 3, High: 2, Closed: []impl.Block{{Up: true}}}, "3x2:0-0,0|0,0-1,1-0,1|0,1-1,2|0": {Wide: 3, High: 2, Closed: blocksOf(3, 2)},
		"8x1:6-0": {Wide: 8, High: 1, Closed: []impl.Block{{X: 6}}}, "1x8:0|6": {Wide: 1, High: 8, Closed: []impl.Block{{Y: 6, Up: true}}},
		"8x8:6-7,7|6": {Wide: 8, High: 8, Closed: []impl.Block{{X: 6, Y: 7}, {X: 7, Y: 6, Up: true}}},
	} {
		got, ok := impl.CityText(c)
		wantText(t, "CityText", got, ok, text, true)
		parsed, ok := impl.ParseCity(text)
		wantCity(t, "ParseCity of "+text, parsed, ok, c, true)
	}
	texts := map[string]bool{}
	for _, c := range someCities() {
		text, ok := impl.CityText(c)
		if !ok {
			t.Errorf("CityText of %v fails", c)
		}
		parsed, ok := impl.ParseCity(text)
		wantCity(t, "ParseCity of "+text, parsed, ok, c, true)
		texts[text] = true
	}
	if len(texts) < 300 {
		t.Error("too few texts:", len(texts))
	}
}

func noCityTexts() []string {
	long, _ := impl.CityText(impl.City{Wide: 8, High: 8, Closed: blocksOf(8, 8)[:30]})
	return []string{
		"", ":", "x", "x:", "3", "3x2", "3x:", "x2:", "3:2", "0x1:", "1x0:", "9x1:", "1x9:", "10x1:", "-3x2:", "3x-2:", "+3x2:", "3x+2:", "03x2:", "3x02:", "3X2:", "3×2:",
		" 3x2:", "3 x2:", "3x2 :", "3x2: ", "3x2:\n", "3x2::", "3x2:,", "3x2:0", "3x2:-", "3x2:|", "3x2:0-", "3x2:-0", "3x2:0|", "3x2:|0", "3x2:0-0,", "3x2:,0-0",
		"3x2:0-0,,0-1", "3x2:0-0;0-1", "3x2:0-0 ,0-1", "3x2:0-0, 0-1", "3x2:0-0,0-0", "3x2:0|0,0-0", "3x2:0-1,0|0", "3x2:1-0,0-0", "3x2:2-0", "3x2:0|1", "3x2:3-0", "3x2:3|0",
		"3x2:0-2", "3x2:00-0", "3x2:0-00", "3x2:+0-0", "3x2:0-+0", "3x2:0--0", "3x2:-0-0", "3x2:0-|0", "3x2:0|-0", "3x2:-1-0", "3x2:0--1", "3x2:0-0-0", "3x2:0|0|0", "3x2:0-0|0",
		"3x2:0_0", "3x2:0/0", "3x2:a-b", "3x2:0-0\x00", "\xff", "3x2:\xff", "3x2x1:", "3x2:0-0:", "3x2:0-0x", "1x1:0-0", "1x1:0|0", "3x2:9999999999999999999999-0",
		"99999999999999999999999x2:", long + ",2-6", long + "," + long, "3x2:" + strings.Repeat(",", 5000), "3x2:" + strings.Repeat("0-0,", 5000) + "0-0", strings.Repeat("8", 5000) + "x8:",
	}
}

func TestParseCityFails(t *testing.T) {
	for _, text := range noCityTexts() {
		c, ok := impl.ParseCity(text)
		wantCity(t, "ParseCity of "+strconv.Quote(text), c, ok, impl.City{}, false)
	}
}

// checkNoWay checks that nothing is told of the ways between what are not both corners of a city.
func checkNoWay(t *testing.T, c impl.City, a, b []int) {
	t.Helper()
	for name, f := range map[string]func(impl.City, []int, []int) (int, bool){
		"CornerDistance": impl.CornerDistance, "DetourOf": impl.DetourOf, "CountShortestWays": impl.CountShortestWays,
	} {
		got, ok := f(c, a, b)
		wantNumber(t, told(name, c, a, b), got, ok, 0, false)
	}
	word, ok := impl.FirstShortestWay(c, a, b)
	wantText(t, told("FirstShortestWay", c, a, b), word, ok, "", false)
	needed, ok := impl.NeededBlocks(c, a, b)
	wantBlocks(t, told("NeededBlocks", c, a, b), needed, ok, nil, false)
	block, distance, ok := impl.BestToOpen(c, a, b)
	wantBlock(t, told("BestToOpen", c, a, b), block, distance, ok, impl.Block{}, 0, false)
	at, distance, ok := impl.MeetingCorner(c, [][]int{a, b})
	wantCorner(t, told("MeetingCorner", c, a, b), at, distance, ok, nil, 0, false)
}

// checkNoCorner checks that nothing is told from what is no corner of a city.
func checkNoCorner(t *testing.T, c impl.City, a []int) {
	t.Helper()
	for _, word := range []string{"", "e", "n"} {
		at, ok := impl.WalkWord(c, a, word)
		wantList(t, told("WalkWord "+word, c, a), at, ok, nil, false)
	}
	count, ok := impl.CornersReached(c, a)
	wantNumber(t, told("CornersReached", c, a), count, ok, 0, false)
	at, distance, ok := impl.FarthestCorner(c, a)
	wantCorner(t, told("FarthestCorner", c, a), at, distance, ok, nil, 0, false)
	at, distance, ok = impl.MeetingCorner(c, [][]int{a})
	wantCorner(t, told("MeetingCorner", c, a), at, distance, ok, nil, 0, false)
}

func TestAvenuesFailWithoutCorners(t *testing.T) {
	for _, c := range append(largeCities(), city(t, "3x2:0-0"), city(t, "2x2:0-0,0|0")) {
		last := []int{c.Wide - 1, c.High - 1}
		for _, a := range noCorners(c) {
			checkNoCorner(t, c, a)
			checkNoWay(t, c, a, last)
			checkNoWay(t, c, last, a)
			checkNoWay(t, c, a, a)
		}
	}
}

func TestAvenuesFailWithoutCities(t *testing.T) {
	for _, c := range noCities() {
		checkNoCorner(t, c, []int{0, 0})
		checkNoWay(t, c, []int{0, 0}, []int{0, 0})
		checkNoWay(t, c, []int{0, 0}, []int{1, 0})
		checkNoBlock(t, c, impl.Block{})
		checkNoBlock(t, c, impl.Block{X: 1, Y: 0, Up: true})
		whole, ok := impl.IsWholeCity(c)
		wantTruth(t, "IsWholeCity of none", whole, ok, false, false)
		at, distance, ok := impl.CenterCorner(c)
		wantCorner(t, "CenterCorner of none", at, distance, ok, nil, 0, false)
		mirrored, ok := impl.MirrorCity(c)
		wantCity(t, "MirrorCity of none", mirrored, ok, impl.City{}, false)
		text, ok := impl.CityText(c)
		wantText(t, "CityText of none", text, ok, "", false)
	}
}

// The goroutines that look at corners have to be done when a call is.
func TestAvenuesLeaveNobodyBehind(t *testing.T) {
	c := city(t, "8x8:")
	before := runtime.NumGoroutine()
	for range 20 {
		impl.CenterCorner(c)
		impl.MeetingCorner(c, slices.Repeat([][]int{{7, 7}}, 10))
	}
	wantNobodyLeft(t, before)
}
