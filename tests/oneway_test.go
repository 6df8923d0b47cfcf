package tests

import (
	"math"
	"slices"
	"strconv"
	"strings"
	"testing"

	"loop.example/g01336/impl"
)

// Promise 6: ways are whole just if they have a ring, and drives are driven as told.

// ways reads what may be ways without the program.
func ways(text string) impl.Ways {
	streets, avenues, _ := strings.Cut(text, "/")
	return impl.Ways{Streets: streets, Avenues: avenues}
}

func textOf(w impl.Ways) string {
	return w.Streets + "/" + w.Avenues
}

// signTexts has all texts of so many signs, each the one or the other.
func signTexts(count int, one, other string) []string {
	texts := []string{""}
	for range count {
		var longer []string
		for _, text := range texts {
			longer = append(longer, text+one, text+other)
		}
		texts = longer
	}
	return texts
}

// allWays has each choice of ways of so many streets and avenues.
func allWays(streets, avenues int) []impl.Ways {
	var all []impl.Ways
	for _, along := range signTexts(streets, "e", "w") {
		for _, up := range signTexts(avenues, "n", "s") {
			all = append(all, impl.Ways{Streets: along, Avenues: up})
		}
	}
	return all
}

func smallWays() []impl.Ways {
	return slices.Concat(allWays(2, 2), allWays(2, 3), allWays(3, 2), allWays(3, 3), allWays(4, 2), allWays(2, 4))
}

// mixedWays follow no plain pattern. Around them, if that is no empty text, are the signs of the first street, the last one, the first avenue and the last one.
func mixedWays(streets, avenues, seed int, around string) impl.Ways {
	var signs [2][]byte
	for i, count := range []int{streets, avenues} {
		for _, number := range mixedNumbers(count, 1, seed+i) {
			signs[i] = append(signs[i], []string{"ew", "ns"}[i][number])
		}
		if around != "" {
			signs[i][0], signs[i][count-1] = around[2*i], around[2*i+1]
		}
	}
	return impl.Ways{Streets: string(signs[0]), Avenues: string(signs[1])}
}

// largeWays go up to MaxWays of both, and to as few of one as there are many of the other; some of them are whole.
func largeWays() []impl.Ways {
	all := []impl.Ways{
		ways("eeeeeeee/nnnnnnnn"), ways("wwwwwwww/ssssssss"), ways("ewewewew/snsnsnsn"), ways("wewewewe/nsnsnsns"), ways("eeeewwww/ssssnnnn"), ways("wwwwwwwe/nnnnnnns"),
		ways("ew/snsnsnsn"), ways("ewewewew/sn"), ways("we/nnnnnnns"), ways("weeeeeee/ns"), ways("ee/snsnsnsn"), ways("ewewewew/ss"),
	}
	for seed := range 2 {
		for _, around := range []string{"", "ewsn", "wens"} {
			all = append(all, mixedWays(8, 8, seed, around), mixedWays(8, 2, seed, around), mixedWays(2, 8, seed, around), mixedWays(5, 7, seed, around), mixedWays(6, 4, seed, around))
		}
	}
	return all
}

func someWays() []impl.Ways {
	return append(smallWays(), largeWays()...)
}

func noWays() []impl.Ways {
	all := []impl.Ways{{}, {Streets: "ew"}, {Avenues: "sn"}}
	for _, text := range []string{
		"e/n", "e/sn", "ew/s", "w/nnnnnnnn", "eeeeeeee/s", "eeeeeeeee/nn", "ee/nnnnnnnnn", "eeeeeeeee/nnnnnnnnn", "ew/sn/", "ew//sn", "ew/s/n",
		"sn/ew", "ns/ns", "ew/ew", "en/sn", "ew/se", "se/sn", "ew/wn", "ewn/sn", "ew/snw", "enw/sn", "ew/sen", "EW/SN", "Ew/sn", "ew/sN",
		"e /sn", " ew/sn", "ew/sn ", "ew/ sn", "ew\n/sn", "ew/sn\n", "e,w/s,n", "e\x00/sn", "ew/\x00n", "e\xff/sn", "ew/s\xff", "\xff\xfe/sn", "é/sn", "ew/ñ", "ｅ/sn", "--/||", "  /  ",
	} {
		all = append(all, ways(text))
	}
	return append(all,
		impl.Ways{Streets: strings.Repeat("e", 5000), Avenues: "sn"}, impl.Ways{Streets: "ew", Avenues: strings.Repeat("n", 5000)},
		impl.Ways{Streets: strings.Repeat("\xff", 8), Avenues: strings.Repeat("\xff", 8)})
}

// sizeOf has the corners of ways as a city.
func sizeOf(w impl.Ways) impl.City {
	return impl.City{Wide: len(w.Avenues), High: len(w.Streets)}
}

// driveByHand drives on as if the city had no end, and looks where that is.
func driveByHand(w impl.Ways, at spot, sign byte) (spot, bool) {
	switch {
	case sign == 'e' && w.Streets[at.y] == 'e':
		at.x++
	case sign == 'w' && w.Streets[at.y] == 'w':
		at.x--
	case sign == 'n' && w.Avenues[at.x] == 'n':
		at.y++
	case sign == 's' && w.Avenues[at.x] == 's':
		at.y--
	default:
		return spot{}, false
	}
	return at, at.x >= 0 && at.x < len(w.Avenues) && at.y >= 0 && at.y < len(w.Streets)
}

// townOfWays knows all blocks by heart, as the tests drive there often.
func townOfWays(w impl.Ways) town {
	type block struct {
		at   spot
		sign byte
	}
	blocks := map[block]spot{}
	spots := spotsOf(sizeOf(w))
	for _, at := range spots {
		for _, sign := range []byte("ensw") {
			if next, can := driveByHand(w, at, sign); can {
				blocks[block{at, sign}] = next
			}
		}
	}
	return town{spots: spots, goes: func(at spot, sign byte) (spot, bool) {
		next, can := blocks[block{at, sign}]
		return next, can
	}}
}

// allDistances has the distances from each corner to each that there are drives to.
func (o town) allDistances() map[spot]map[spot]int {
	all := map[spot]map[spot]int{}
	for _, at := range o.spots {
		all[at] = o.distances(at)
	}
	return all
}

// turns drives on block by block, remembering by which sign, until no corner is reached with fewer turns any more.
func (o town) turns(from spot) map[spot]int {
	type heading struct {
		at   spot
		sign byte
	}
	fewest := map[heading]int{}
	improve := func(h heading, turns int) bool {
		next, can := o.goes(h.at, h.sign)
		known, there := fewest[heading{next, h.sign}]
		if !can || there && known <= turns {
			return false
		}
		fewest[heading{next, h.sign}] = turns
		return true
	}
	for _, sign := range []byte("ensw") {
		improve(heading{from, sign}, 0)
	}
	for changed := true; changed; {
		changed = false
		for _, at := range o.spots {
			for _, before := range []byte("ensw") {
				turns, there := fewest[heading{at, before}]
				for _, sign := range []byte("ensw") {
					more := 0
					if sign != before {
						more = 1
					}
					changed = there && improve(heading{at, sign}, turns+more) || changed
				}
			}
		}
	}
	reached := map[spot]int{}
	for h, turns := range fewest {
		if known, there := reached[h.at]; !there || turns < known {
			reached[h.at] = turns
		}
	}
	reached[from] = 0
	return reached
}

// toldWays names a call in a message.
func toldWays(name string, w impl.Ways, more ...[]int) string {
	what := name + " of " + strconv.Quote(textOf(w))
	for _, list := range more {
		what += " " + listText(list)
	}
	return what
}

func wantWays(t *testing.T, what string, got impl.Ways, ok bool, want impl.Ways, wantOK bool) {
	t.Helper()
	if got != want || ok != wantOK {
		t.Errorf("%s are %q, %t; want %q, %t", what, textOf(got), ok, textOf(want), wantOK)
	}
}

func wantTurns(t *testing.T, what string, left, right int, ok bool, wantLeft, wantRight int, wantOK bool) {
	t.Helper()
	if left != wantLeft || right != wantRight || ok != wantOK {
		t.Errorf("%s are %d, %d, %t; want %d, %d, %t", what, left, right, ok, wantLeft, wantRight, wantOK)
	}
}

func wantLongest(t *testing.T, what string, a, b []int, number int, ok bool, wantA, wantB []int, wantNumber int, wantOK bool) {
	t.Helper()
	if !slices.Equal(a, wantA) || !slices.Equal(b, wantB) || number != wantNumber || ok != wantOK {
		t.Errorf("%s is %v, %v, %d, %t; want %v, %v, %d, %t", what, a, b, number, ok, wantA, wantB, wantNumber, wantOK)
	}
}

func TestLimitsOfWaysAreThoseOfTheDocument(t *testing.T) {
	if impl.MaxWays != 8 || impl.MaxDriven != 100 {
		t.Error("limits", impl.MaxWays, impl.MaxDriven)
	}
}

func TestAreWays(t *testing.T) {
	for _, w := range someWays() {
		if !impl.AreWays(w) {
			t.Errorf("%q are no ways", textOf(w))
		}
	}
	for _, w := range noWays() {
		if impl.AreWays(w) {
			t.Errorf("%q are ways", textOf(w))
		}
	}
	for streets := range 11 {
		for avenues := range 11 {
			want := streets >= 2 && streets <= 8 && avenues >= 2 && avenues <= 8
			w := impl.Ways{Streets: strings.Repeat("e", streets), Avenues: strings.Repeat("s", avenues)}
			if impl.AreWays(w) != want {
				t.Errorf("AreWays of %d streets and %d avenues is %t", streets, avenues, !want)
			}
		}
	}
}

// Each sign has its own text and is to be in no other one.
func TestAreWaysBySigns(t *testing.T) {
	for sign := range 256 {
		text := string([]byte{byte(sign)})
		along, up := text == "e" || text == "w", text == "n" || text == "s"
		for _, beside := range []string{"e" + text, text + "w", "ew" + text + "eewww"} {
			if impl.AreWays(impl.Ways{Streets: beside, Avenues: "sn"}) != along {
				t.Errorf("AreWays with the streets %q is %t", beside, !along)
			}
		}
		for _, beside := range []string{"s" + text, text + "n", "snsns" + text + "ss"} {
			if impl.AreWays(impl.Ways{Streets: "ew", Avenues: beside}) != up {
				t.Errorf("AreWays with the avenues %q is %t", beside, !up)
			}
		}
	}
}

func TestCanDrive(t *testing.T) {
	for _, w := range someWays() {
		for _, at := range spotsOf(sizeOf(w)) {
			for _, sign := range []string{"e", "n", "s", "w"} {
				_, want := driveByHand(w, at, sign[0])
				got, ok := impl.CanDrive(w, at.list(), sign)
				wantTruth(t, toldWays("CanDrive "+sign, w, at.list()), got, ok, want, true)
			}
		}
	}
}

func TestCanDriveBySigns(t *testing.T) {
	w := ways("eew/snn")
	for _, c := range []struct {
		at   []int
		sign string
		want bool
	}{
		{[]int{0, 0}, "e", true}, {[]int{0, 0}, "w", false}, {[]int{0, 0}, "n", false}, {[]int{0, 0}, "s", false}, {[]int{2, 0}, "e", false}, {[]int{2, 0}, "n", true},
		{[]int{2, 2}, "n", false}, {[]int{2, 2}, "w", true}, {[]int{0, 2}, "w", false}, {[]int{0, 2}, "s", true}, {[]int{0, 2}, "e", false}, {[]int{1, 1}, "e", true},
		{[]int{1, 1}, "w", false}, {[]int{1, 1}, "n", true}, {[]int{1, 1}, "s", false}, {[]int{2, 1}, "e", false}, {[]int{1, 0}, "s", false}, {[]int{1, 2}, "n", false},
	} {
		got, ok := impl.CanDrive(w, c.at, c.sign)
		wantTruth(t, toldWays("CanDrive "+c.sign, w, c.at), got, ok, c.want, true)
	}
	for _, sign := range append(otherSigns(), "", "ee", "en", "ens", "ensw", "nn", strings.Repeat("e", 100), strings.Repeat("e", 5000)) {
		got, ok := impl.CanDrive(w, []int{0, 0}, sign)
		wantTruth(t, toldWays("CanDrive "+strconv.Quote(sign), w), got, ok, false, false)
	}
}

func TestDriveWord(t *testing.T) {
	words := wordsUpTo(4)
	for _, w := range []impl.Ways{ways("ew/sn"), ways("we/ns"), ways("ee/nn"), ways("eew/snn"), ways("ewew/snsn"), ways("wweewewe/nsnnsnss"), mixedWays(8, 2, 1, ""), mixedWays(2, 8, 1, "")} {
		o := townOfWays(w)
		for _, at := range o.spots {
			for _, word := range words {
				want, wantOK := o.led(at, word)
				got, ok := impl.DriveWord(w, at.list(), word)
				wantList(t, toldWays("DriveWord "+word, w, at.list()), got, ok, want, wantOK)
			}
		}
	}
}

func TestDriveWordAtItsLimit(t *testing.T) {
	w := ways("ew/sn")
	round := strings.Repeat("enws", 25)
	for _, drive := range []struct {
		word string
		want []int
	}{
		{"", []int{0, 0}}, {"e", []int{1, 0}}, {"enws", []int{0, 0}}, {round, []int{0, 0}}, {round[:99], []int{0, 1}}, {round + "e", nil}, {round + round, nil},
		{round[:99] + "n", nil}, {round[:99] + "x", nil}, {strings.Repeat(round, 50), nil}, {strings.Repeat("e", 100), nil}, {"ew", nil}, {"en" + "e", nil}, {"s", nil},
	} {
		got, ok := impl.DriveWord(w, []int{0, 0}, drive.word)
		wantList(t, toldWays("DriveWord of "+strconv.Itoa(len(drive.word))+" signs", w), got, ok, drive.want, drive.want != nil)
	}
	for _, word := range otherSigns() {
		got, ok := impl.DriveWord(ways("eeee/nnnn"), []int{1, 1}, word)
		wantList(t, "DriveWord "+strconv.Quote(word), got, ok, nil, false)
	}
}

// checkDrive checks what is told of the drives from a corner to another one.
func checkDrive(t *testing.T, w impl.Ways, o town, a, b spot, distances map[spot]map[spot]int, turns map[spot]int) {
	t.Helper()
	distance, there := distances[a][b]
	first, count := "", 0
	if there {
		first, count = o.first(a, b, distance), o.walks(b, distance)[a]
	}
	got, ok := impl.DriveDistance(w, a.list(), b.list())
	wantNumber(t, toldWays("DriveDistance", w, a.list(), b.list()), got, ok, distance, there)
	got, ok = impl.CountDrives(w, a.list(), b.list())
	wantNumber(t, toldWays("CountDrives", w, a.list(), b.list()), got, ok, count, there)
	word, ok := impl.FirstDrive(w, a.list(), b.list())
	wantText(t, toldWays("FirstDrive", w, a.list(), b.list()), word, ok, first, there)
	got, ok = impl.FewestTurns(w, a.list(), b.list())
	wantNumber(t, toldWays("FewestTurns", w, a.list(), b.list()), got, ok, turns[b], there)
	back, isBack := distances[b][a]
	sum := 0
	if there && isBack {
		sum = distance + back
	}
	got, ok = impl.ThereAndBack(w, a.list(), b.list())
	wantNumber(t, toldWays("ThereAndBack", w, a.list(), b.list()), got, ok, sum, there && isBack)
	if there {
		checkDriven(t, w, a, b, word, turns[b])
	}
}

// checkDriven checks that a first drive is driven as told, with as many turns as have to be at least.
func checkDriven(t *testing.T, w impl.Ways, a, b spot, word string, fewest int) {
	t.Helper()
	end, ok := impl.DriveWord(w, a.list(), word)
	wantList(t, toldWays("DriveWord "+word, w, a.list()), end, ok, b.list(), true)
	left, right, ok := impl.TurnsOfWord(word)
	if !ok || left+right < fewest {
		t.Errorf("TurnsOfWord %q are %d, %d, %t; at least %d are needed", word, left, right, ok, fewest)
	}
}

func TestDrivesOfSmallWays(t *testing.T) {
	for _, w := range smallWays() {
		o := townOfWays(w)
		distances := o.allDistances()
		for _, a := range o.spots {
			turns := o.turns(a)
			for _, b := range o.spots {
				checkDrive(t, w, o, a, b, distances, turns)
			}
		}
	}
}

func TestDrivesOfLargeWays(t *testing.T) {
	for i, w := range largeWays() {
		o := townOfWays(w)
		distances := o.allDistances()
		for j, a := range o.spots {
			if j%7 != i%7 && j != len(o.spots)-1 {
				continue
			}
			turns := o.turns(a)
			for k := j % 3; k < len(o.spots); k += 3 {
				checkDrive(t, w, o, a, o.spots[k], distances, turns)
			}
		}
	}
}

// turnsByHand turns the way from block to block by the area between them. It fails if somebody turns about.
func turnsByHand(word string) (left, right int, ok bool) {
	steps := map[byte][2]int{'e': {1, 0}, 'n': {0, 1}, 'w': {-1, 0}, 's': {0, -1}}
	for i := 1; i < len(word); i++ {
		a, b := steps[word[i-1]], steps[word[i]]
		if a == [2]int{-b[0], -b[1]} {
			return 0, 0, false
		}
		switch a[0]*b[1] - a[1]*b[0] {
		case 1:
			left++
		case -1:
			right++
		}
	}
	return left, right, true
}

// checkAgainstWords checks the drives against all words of up to so many blocks, and reports whether some longer ones have fewer turns than all shortest ones.
func checkAgainstWords(t *testing.T, w impl.Ways, o town, a, b spot, distance, longest int) bool {
	t.Helper()
	words := o.words(a, b, distance)
	got, ok := impl.CountDrives(w, a.list(), b.list())
	wantNumber(t, toldWays("CountDrives", w, a.list(), b.list()), got, ok, len(words), true)
	word, ok := impl.FirstDrive(w, a.list(), b.list())
	wantText(t, toldWays("FirstDrive", w, a.list(), b.list()), word, ok, slices.Min(words), true)
	ofShortest := fewestTurnsOf(words)
	fewest := ofShortest
	for length := distance + 1; length <= longest; length++ {
		fewest = min(fewest, fewestTurnsOf(o.words(a, b, length)))
	}
	got, ok = impl.FewestTurns(w, a.list(), b.list())
	wantNumber(t, toldWays("FewestTurns", w, a.list(), b.list()), got, ok, fewest, true)
	return fewest < ofShortest
}

func TestDrivesAgainstAllWords(t *testing.T) {
	none := 0
	for _, w := range allWays(3, 3) {
		o := townOfWays(w)
		for a, distances := range o.allDistances() {
			none += len(o.spots) - len(distances)
			for b, distance := range distances {
				checkAgainstWords(t, w, o, a, b, distance, 9)
			}
		}
	}
	if none < 1000 {
		t.Error("too few corners without a drive:", none)
	}
}

func TestFewestTurnsMayNeedMoreBlocks(t *testing.T) {
	for _, c := range []struct {
		ways            string
		a, b            spot
		distance, turns int
	}{
		{"eewe/nsnns", spot{0, 2}, spot{2, 2}, 6, 3}, {"wewe/nsssns", spot{2, 2}, spot{5, 3}, 6, 2},
	} {
		w := ways(c.ways)
		if !checkAgainstWords(t, w, townOfWays(w), c.a, c.b, c.distance, 14) {
			t.Errorf("no longer drive of %q has fewer turns", c.ways)
		}
		got, ok := impl.FewestTurns(w, c.a.list(), c.b.list())
		wantNumber(t, toldWays("FewestTurns", w, c.a.list(), c.b.list()), got, ok, c.turns, true)
	}
}

func fewestTurnsOf(words []string) int {
	fewest := math.MaxInt
	for _, word := range words {
		left, right, _ := turnsByHand(word)
		fewest = min(fewest, left+right)
	}
	return fewest
}

func TestDrivesOfTheDocument(t *testing.T) {
	w := ways("ew/sn")
	a, b := []int{0, 0}, []int{0, 1}
	at, ok := impl.DriveWord(w, a, "enws")
	wantList(t, "DriveWord enws", at, ok, a, true)
	round, ok := impl.RoundOfBlock(w, 0, 0)
	wantNumber(t, "RoundOfBlock", round, ok, 1, true)
	number, ok := impl.DriveDistance(w, a, b)
	wantNumber(t, "DriveDistance", number, ok, 3, true)
	number, ok = impl.FewestTurns(w, a, b)
	wantNumber(t, "FewestTurns", number, ok, 2, true)
	number, ok = impl.ThereAndBack(w, a, b)
	wantNumber(t, "ThereAndBack", number, ok, 4, true)
	word, ok := impl.FirstDrive(w, a, b)
	wantText(t, "FirstDrive", word, ok, "enw", true)
	whole, ok := impl.IsWholeWays(ways("ee/nn"))
	wantTruth(t, "IsWholeWays of ee/nn", whole, ok, false, true)
	whole, ok = impl.IsWholeWays(w)
	wantTruth(t, "IsWholeWays of ew/sn", whole, ok, true, true)
	number, ok = impl.CountWholeWays(2, 2)
	wantNumber(t, "CountWholeWays of 2 and 2", number, ok, 2, true)
	number, ok = impl.CountWholeWays(3, 3)
	wantNumber(t, "CountWholeWays of 3 and 3", number, ok, 8, true)
	left, right, ok := impl.TurnsOfWord("enw")
	wantTurns(t, "TurnsOfWord enw", left, right, ok, 2, 0, true)
}

// A negative distance stands for no drive.
func TestDrivesOfSome(t *testing.T) {
	for _, c := range []struct {
		ways                   string
		a, b                   []int
		distance, count, turns int
		first                  string
	}{
		{"ew/sn", []int{1, 1}, []int{1, 1}, 0, 1, 0, ""}, {"ee/nn", []int{0, 0}, []int{0, 0}, 0, 1, 0, ""}, {"ee/nn", []int{1, 1}, []int{1, 1}, 0, 1, 0, ""},
		{"ee/nn", []int{0, 0}, []int{1, 1}, 2, 2, 1, "en"}, {"ee/nn", []int{1, 1}, []int{0, 0}, -1, 0, 0, ""}, {"ee/nn", []int{1, 0}, []int{0, 1}, -1, 0, 0, ""},
		{"ww/ss", []int{1, 1}, []int{0, 0}, 2, 2, 1, "sw"}, {"ew/nn", []int{0, 0}, []int{0, 1}, 1, 1, 0, "n"}, {"ew/nn", []int{0, 1}, []int{1, 0}, -1, 0, 0, ""},
		{"eeeeeeee/nnnnnnnn", []int{0, 0}, []int{7, 7}, 14, 3432, 1, "eeeeeeennnnnnn"}, {"wwwwwwww/ssssssss", []int{7, 7}, []int{0, 0}, 14, 3432, 1, "ssssssswwwwwww"},
		{"eeeeeeee/nnnnnnnn", []int{0, 0}, []int{7, 0}, 7, 1, 0, "eeeeeee"}, {"eeeeeeee/nnnnnnnn", []int{7, 7}, []int{0, 0}, -1, 0, 0, ""}, {"eeeeeeee/nnnnnnnn", []int{3, 3}, []int{3, 2}, -1, 0, 0, ""},
		{"we/nnnnnnns", []int{7, 0}, []int{7, 1}, 3, 1, 2, "wne"}, {"we/nnnnnnns", []int{6, 1}, []int{0, 0}, 9, 1, 2, "eswwwwwww"},
	} {
		w, there := ways(c.ways), c.distance >= 0
		got, ok := impl.DriveDistance(w, c.a, c.b)
		wantNumber(t, toldWays("DriveDistance", w, c.a, c.b), got, ok, max(c.distance, 0), there)
		got, ok = impl.CountDrives(w, c.a, c.b)
		wantNumber(t, toldWays("CountDrives", w, c.a, c.b), got, ok, c.count, there)
		got, ok = impl.FewestTurns(w, c.a, c.b)
		wantNumber(t, toldWays("FewestTurns", w, c.a, c.b), got, ok, c.turns, there)
		word, ok := impl.FirstDrive(w, c.a, c.b)
		wantText(t, toldWays("FirstDrive", w, c.a, c.b), word, ok, c.first, there)
	}
}

func TestTurnsOfWord(t *testing.T) {
	abouts := 0
	for _, word := range wordsUpTo(6) {
		wantLeft, wantRight, wantOK := turnsByHand(word)
		left, right, ok := impl.TurnsOfWord(word)
		wantTurns(t, "TurnsOfWord "+word, left, right, ok, wantLeft, wantRight, wantOK)
		if !wantOK {
			abouts++
		}
	}
	if abouts < 1000 {
		t.Error("too few words that turn about:", abouts)
	}
}

func TestTurnsOfSomeWords(t *testing.T) {
	for _, c := range []struct {
		word        string
		left, right int
		ok          bool
	}{
		{"", 0, 0, true}, {"s", 0, 0, true}, {"ee", 0, 0, true}, {"en", 1, 0, true}, {"es", 0, 1, true}, {"ne", 0, 1, true}, {"nw", 1, 0, true}, {"ws", 1, 0, true}, {"wn", 0, 1, true},
		{"se", 1, 0, true}, {"sw", 0, 1, true}, {"enwse", 4, 0, true}, {"eswne", 0, 4, true}, {"eeennn", 1, 0, true}, {"nesen", 2, 2, true},
		{"ew", 0, 0, false}, {"we", 0, 0, false}, {"ns", 0, 0, false}, {"sn", 0, 0, false}, {"enwsew", 0, 0, false}, {"ewnws", 0, 0, false}, {"ensw", 0, 0, false},
		{strings.Repeat("e", 100), 0, 0, true}, {strings.Repeat("enws", 25), 99, 0, true}, {strings.Repeat("eswn", 25), 0, 99, true}, {strings.Repeat("en", 50), 50, 49, true},
		{strings.Repeat("e", 101), 0, 0, false}, {strings.Repeat("enws", 25) + "e", 0, 0, false}, {strings.Repeat("n", 99) + "s", 0, 0, false}, {strings.Repeat("en", 5000), 0, 0, false},
	} {
		left, right, ok := impl.TurnsOfWord(c.word)
		wantTurns(t, "TurnsOfWord "+c.word, left, right, ok, c.left, c.right, c.ok)
	}
	for _, word := range otherSigns() {
		left, right, ok := impl.TurnsOfWord(word)
		wantTurns(t, "TurnsOfWord "+strconv.Quote(word), left, right, ok, 0, 0, false)
	}
}

func TestDrivenFrom(t *testing.T) {
	stuck := 0
	for _, w := range someWays() {
		for at, distances := range townOfWays(w).allDistances() {
			got, ok := impl.DrivenFrom(w, at.list())
			wantNumber(t, toldWays("DrivenFrom", w, at.list()), got, ok, len(distances), true)
			if len(distances) == 1 {
				stuck++
			}
		}
	}
	if stuck < 10 {
		t.Error("too few corners from which there is no drive:", stuck)
	}
}

// hasRingByHand drives around the whole city in both ways.
func hasRingByHand(w impl.Ways) bool {
	far, high := len(w.Avenues)-1, len(w.Streets)-1
	o := town{goes: func(at spot, sign byte) (spot, bool) { return driveByHand(w, at, sign) }}
	east, north, west, south := strings.Repeat("e", far), strings.Repeat("n", high), strings.Repeat("w", far), strings.Repeat("s", high)
	_, left := o.led(spot{}, east+north+west+south)
	_, right := o.led(spot{}, north+east+south+west)
	return left || right
}

func isWholeWaysByHand(w impl.Ways) bool {
	for _, distances := range townOfWays(w).allDistances() {
		if len(distances) < len(w.Streets)*len(w.Avenues) {
			return false
		}
	}
	return true
}

// checkWhole checks that ways are told to be whole just if they have a ring, and that they are.
func checkWhole(t *testing.T, w impl.Ways) bool {
	t.Helper()
	whole, ok := impl.IsWholeWays(w)
	wantTruth(t, toldWays("IsWholeWays", w), whole, ok, isWholeWaysByHand(w), true)
	ring, ok := impl.HasRing(w)
	wantTruth(t, toldWays("HasRing", w), ring, ok, hasRingByHand(w), true)
	if whole != ring {
		t.Errorf("%q: whole is %t, ring is %t", textOf(w), whole, ring)
	}
	return whole
}

func TestWaysAreWholeJustIfTheyHaveARing(t *testing.T) {
	wholes, others := 0, 0
	for _, w := range slices.Concat(someWays(), allWays(4, 4), allWays(3, 4), allWays(4, 3), allWays(2, 6), allWays(6, 2)) {
		if checkWhole(t, w) {
			wholes++
		} else {
			others++
		}
	}
	if wholes < 100 || others < 500 {
		t.Error("too few ways of a kind:", wholes, others)
	}
	for text, want := range map[string]bool{
		"ew/sn": true, "we/ns": true, "ee/nn": false, "ew/ns": false, "we/sn": false, "ew/ss": false, "ew/nn": false, "ww/sn": false, "eee/snn": false,
		"ewewewew/snsnsnsn": true, "eeeeeeew/sssssssn": true, "wwwwwwwe/nsssssss": true, "ewwwwwwe/snnnnnnn": false, "ew/snnnnnnn": true, "weeeeeee/ns": true, "weeeeeee/sn": false,
	} {
		if checkWhole(t, ways(text)) != want {
			t.Errorf("IsWholeWays of %q is %t", text, !want)
		}
	}
}

// roundByHand drives around a block in both ways.
func roundByHand(w impl.Ways, x, y int) int {
	o := town{goes: func(at spot, sign byte) (spot, bool) { return driveByHand(w, at, sign) }}
	if _, left := o.led(spot{x, y}, "enws"); left {
		return 1
	}
	if _, right := o.led(spot{x, y}, "nesw"); right {
		return -1
	}
	return 0
}

func TestRoundsOfBlocks(t *testing.T) {
	seen := map[int]int{}
	for _, w := range someWays() {
		count := 0
		for x := -1; x <= 8; x++ {
			for y := -1; y <= 8; y++ {
				want, there := 0, x >= 0 && y >= 0 && x <= len(w.Avenues)-2 && y <= len(w.Streets)-2
				if there {
					want = roundByHand(w, x, y)
					seen[want]++
					count += max(want, -want)
				}
				got, ok := impl.RoundOfBlock(w, x, y)
				wantNumber(t, toldWays("RoundOfBlock", w, []int{x, y}), got, ok, want, there)
			}
		}
		got, ok := impl.CountRounds(w)
		wantNumber(t, toldWays("CountRounds", w), got, ok, count, true)
	}
	if seen[1] < 50 || seen[-1] < 50 || seen[0] < 50 {
		t.Error("too few rounds of a kind:", seen)
	}
}

func TestRoundsOfSome(t *testing.T) {
	for _, c := range []struct {
		ways        string
		x, y, round int
		ok          bool
		count       int
	}{
		{"ew/sn", 0, 0, 1, true, 1}, {"we/ns", 0, 0, -1, true, 1}, {"ee/nn", 0, 0, 0, true, 0}, {"ew/ns", 0, 0, 0, true, 0}, {"we/sn", 0, 0, 0, true, 0},
		{"ewe/sns", 1, 0, 0, true, 2}, {"ewe/sns", 0, 1, 0, true, 2}, {"ewe/sns", 1, 1, -1, true, 2}, {"eew/snn", 0, 1, 1, true, 1}, {"eew/snn", 1, 0, 0, true, 1},
		{"ewewewew/snsnsnsn", 6, 6, 1, true, 25}, {"ewewewew/snsnsnsn", 5, 5, -1, true, 25}, {"ewewewew/snsnsnsn", 7, 6, 0, false, 25}, {"ewewewew/snsnsnsn", 6, 7, 0, false, 25},
		{"ew/snsnsnsn", 6, 0, 1, true, 4}, {"ew/snsnsnsn", 0, 6, 0, false, 4}, {"ewewewew/sn", 0, 6, 1, true, 4}, {"ewewewew/sn", 6, 0, 0, false, 4}, {"ewewewew/sn", 1, 0, 0, false, 4},
		{"ew/sn", 1, 0, 0, false, 1}, {"ew/sn", 0, 1, 0, false, 1}, {"ew/sn", -1, 0, 0, false, 1}, {"ew/sn", 0, -1, 0, false, 1},
		{"ew/sn", math.MaxInt, 0, 0, false, 1}, {"ew/sn", 0, math.MinInt, 0, false, 1}, {"ew/sn", math.MinInt, math.MaxInt, 0, false, 1},
	} {
		w := ways(c.ways)
		got, ok := impl.RoundOfBlock(w, c.x, c.y)
		wantNumber(t, toldWays("RoundOfBlock", w, []int{c.x, c.y}), got, ok, c.round, c.ok)
		got, ok = impl.CountRounds(w)
		wantNumber(t, toldWays("CountRounds", w), got, ok, c.count, true)
	}
}

// otherWay has the sign of the way back.
func otherWay(sign byte) byte {
	return backByHand(string([]byte{sign}))[0]
}

// turnedByHand turns the way of one street or avenue.
func turnedByHand(w impl.Ways, k int) impl.Ways {
	streets, avenues := []byte(w.Streets), []byte(w.Avenues)
	if k < len(streets) {
		streets[k] = otherWay(streets[k])
	} else {
		avenues[k-len(streets)] = otherWay(avenues[k-len(streets)])
	}
	return impl.Ways{Streets: string(streets), Avenues: string(avenues)}
}

func TestTurnWay(t *testing.T) {
	for _, w := range someWays() {
		last := len(w.Streets) + len(w.Avenues) - 1
		for k := range last + 1 {
			want := turnedByHand(w, k)
			got, ok := impl.TurnWay(w, k)
			wantWays(t, toldWays("TurnWay", w, []int{k}), got, ok, want, true)
			again, ok := impl.TurnWay(want, k)
			wantWays(t, toldWays("TurnWay", want, []int{k}), again, ok, w, true)
		}
		for _, k := range []int{-1, last + 1, last + 2, 16, math.MinInt, math.MaxInt} {
			got, ok := impl.TurnWay(w, k)
			wantWays(t, toldWays("TurnWay", w, []int{k}), got, ok, impl.Ways{}, false)
		}
	}
	for _, c := range []struct {
		ways string
		k    int
		want string
	}{
		{"ew/sn", 0, "ww/sn"}, {"ew/sn", 1, "ee/sn"}, {"ew/sn", 2, "ew/nn"}, {"ew/sn", 3, "ew/ss"}, {"eee/ss", 2, "eew/ss"}, {"eee/ss", 3, "eee/ns"}, {"ee/sss", 3, "ee/sns"},
		{"eeeeeeee/nnnnnnnn", 7, "eeeeeeew/nnnnnnnn"}, {"eeeeeeee/nnnnnnnn", 8, "eeeeeeee/snnnnnnn"}, {"eeeeeeee/nnnnnnnn", 15, "eeeeeeee/nnnnnnns"},
	} {
		got, ok := impl.TurnWay(ways(c.ways), c.k)
		wantWays(t, toldWays("TurnWay", ways(c.ways), []int{c.k}), got, ok, ways(c.want), true)
	}
}

func TestBackWays(t *testing.T) {
	for _, w := range someWays() {
		want := w
		for k := range len(w.Streets) + len(w.Avenues) {
			want = turnedByHand(want, k)
		}
		back, ok := impl.BackWays(w)
		wantWays(t, toldWays("BackWays", w), back, ok, want, true)
		again, ok := impl.BackWays(back)
		wantWays(t, toldWays("BackWays", back), again, ok, w, true)
	}
	for text, want := range map[string]string{"ew/sn": "we/ns", "ee/nn": "ww/ss", "eew/nssn": "wwe/snns"} {
		back, ok := impl.BackWays(ways(text))
		wantWays(t, "BackWays of "+text, back, ok, ways(want), true)
	}
}

// What is driven there is driven back on turned ways.
func TestDrivesOfBackWays(t *testing.T) {
	for _, w := range slices.Concat(allWays(2, 3), allWays(3, 3), largeWays()[:4]) {
		back, _ := impl.BackWays(w)
		for a, distances := range townOfWays(w).allDistances() {
			for b, distance := range distances {
				got, ok := impl.DriveDistance(back, b.list(), a.list())
				wantNumber(t, toldWays("DriveDistance", back, b.list(), a.list()), got, ok, distance, true)
			}
		}
	}
}

func TestCountWholeWays(t *testing.T) {
	for streets := 2; streets <= 8; streets++ {
		for avenues := 2; avenues <= 8; avenues++ {
			want := 0
			for _, w := range allWays(streets, avenues) {
				// Where there are many ways, the ring tells for the drives, as in the other tests.
				if streets+avenues <= 7 && isWholeWaysByHand(w) || streets+avenues > 7 && hasRingByHand(w) {
					want++
				}
			}
			got, ok := impl.CountWholeWays(streets, avenues)
			wantNumber(t, "CountWholeWays of "+listText([]int{streets, avenues}), got, ok, want, true)
		}
	}
	for _, c := range [][3]int{{2, 2, 2}, {2, 3, 4}, {3, 2, 4}, {3, 3, 8}, {2, 8, 128}, {8, 2, 128}, {8, 8, 8192}} {
		got, ok := impl.CountWholeWays(c[0], c[1])
		wantNumber(t, "CountWholeWays of "+listText(c[:2]), got, ok, c[2], true)
	}
	for _, none := range []int{math.MinInt, -1, 0, 1, 9, 10, 64, math.MaxInt} {
		for _, other := range []int{math.MinInt, -1, 0, 1, 2, 5, 8, 9, math.MaxInt} {
			got, ok := impl.CountWholeWays(none, other)
			wantNumber(t, "CountWholeWays of "+listText([]int{none, other}), got, ok, 0, false)
			got, ok = impl.CountWholeWays(other, none)
			wantNumber(t, "CountWholeWays of "+listText([]int{other, none}), got, ok, 0, false)
		}
	}
}

// longestByHand looks at the corners from the last ones on, so that the first ones come last; many tells how many drives are as long.
func longestByHand(o town) (a, b spot, most, many int) {
	distances := o.allDistances()
	backwards := slices.Clone(o.spots)
	slices.Reverse(backwards)
	for _, from := range backwards {
		for _, to := range backwards {
			distance := distances[from][to]
			if distance > most {
				many = 0
			}
			if distance >= most {
				a, b, most = from, to, distance
				many++
			}
		}
	}
	return a, b, most, many
}

func TestLongestDrive(t *testing.T) {
	asFar, alone := 0, 0
	for _, w := range append(someWays(), allWays(4, 4)...) {
		a, b, number, ok := impl.LongestDrive(w)
		if !isWholeWaysByHand(w) {
			wantLongest(t, toldWays("LongestDrive", w), a, b, number, ok, nil, nil, 0, false)
			continue
		}
		from, to, most, many := longestByHand(townOfWays(w))
		wantLongest(t, toldWays("LongestDrive", w), a, b, number, ok, from.list(), to.list(), most, true)
		if many > 1 {
			asFar++
		} else {
			alone++
		}
	}
	if asFar < 10 || alone < 10 {
		t.Error("too few longest drives of a kind:", asFar, alone)
	}
}

func TestLongestDriveOfSome(t *testing.T) {
	for _, c := range []struct {
		ways   string
		a, b   []int
		number int
	}{
		{"ew/sn", []int{0, 0}, []int{0, 1}, 3}, {"we/ns", []int{0, 0}, []int{1, 0}, 3}, {"ee/nn", nil, nil, 0}, {"ew/ns", nil, nil, 0}, {"eeeeeeee/nnnnnnnn", nil, nil, 0},
	} {
		a, b, number, ok := impl.LongestDrive(ways(c.ways))
		wantLongest(t, "LongestDrive of "+c.ways, a, b, number, ok, c.a, c.b, c.number, c.a != nil)
	}
}

func TestWaysTexts(t *testing.T) {
	for _, w := range someWays() {
		text, ok := impl.WaysText(w)
		wantText(t, toldWays("WaysText", w), text, ok, textOf(w), true)
		parsed, ok := impl.ParseWays(text)
		wantWays(t, "ParseWays of "+text, parsed, ok, w, true)
	}
	w := impl.Ways{Streets: "eww", Avenues: "snns"}
	text, ok := impl.WaysText(w)
	wantText(t, "WaysText", text, ok, "eww/snns", true)
	parsed, ok := impl.ParseWays("eww/snns")
	wantWays(t, "ParseWays of eww/snns", parsed, ok, w, true)
}

func TestParseWaysFails(t *testing.T) {
	texts := []string{
		"", "/", "//", "e", "ew", "ewsn", "ew sn", "ew|sn", "ew\\sn", "ew-sn", "sn", "/ew/sn", "ew/sn/ew", "ew/sn//", "ew/ew", "ew/sn,ew/sn", "o5", "3x2:0-0", "ew/sn\x00",
		strings.Repeat("/", 5000), strings.Repeat("ew/sn/", 5000), strings.Repeat("e", 5000),
	}
	for _, w := range noWays() {
		texts = append(texts, textOf(w))
	}
	for _, text := range texts {
		got, ok := impl.ParseWays(text)
		wantWays(t, "ParseWays of "+strconv.Quote(text), got, ok, impl.Ways{}, false)
	}
}

// checkNoDrive checks that nothing is told of the drives between what are not both corners of ways.
func checkNoDrive(t *testing.T, w impl.Ways, a, b []int) {
	t.Helper()
	for name, f := range map[string]func(impl.Ways, []int, []int) (int, bool){
		"DriveDistance": impl.DriveDistance, "CountDrives": impl.CountDrives, "FewestTurns": impl.FewestTurns, "ThereAndBack": impl.ThereAndBack,
	} {
		got, ok := f(w, a, b)
		wantNumber(t, toldWays(name, w, a, b), got, ok, 0, false)
	}
	word, ok := impl.FirstDrive(w, a, b)
	wantText(t, toldWays("FirstDrive", w, a, b), word, ok, "", false)
}

// checkNoStart checks that nothing is told from what is no corner of ways.
func checkNoStart(t *testing.T, w impl.Ways, a []int) {
	t.Helper()
	for _, sign := range []string{"e", "n", "s", "w", "", "x"} {
		at, ok := impl.DriveWord(w, a, sign)
		wantList(t, toldWays("DriveWord "+sign, w, a), at, ok, nil, false)
		can, ok := impl.CanDrive(w, a, sign)
		wantTruth(t, toldWays("CanDrive "+sign, w, a), can, ok, false, false)
	}
	count, ok := impl.DrivenFrom(w, a)
	wantNumber(t, toldWays("DrivenFrom", w, a), count, ok, 0, false)
}

func TestDrivesFailWithoutCorners(t *testing.T) {
	for _, w := range append(largeWays(), ways("ew/sn"), ways("ee/nnn"), ways("eew/sn")) {
		last := []int{len(w.Avenues) - 1, len(w.Streets) - 1}
		for _, a := range noCorners(sizeOf(w)) {
			checkNoStart(t, w, a)
			checkNoDrive(t, w, a, last)
			checkNoDrive(t, w, last, a)
			checkNoDrive(t, w, a, a)
		}
	}
}

func TestDrivesFailWithoutWays(t *testing.T) {
	for _, w := range noWays() {
		checkNoStart(t, w, []int{0, 0})
		checkNoDrive(t, w, []int{0, 0}, []int{0, 0})
		checkNoDrive(t, w, []int{0, 0}, []int{1, 0})
		for name, f := range map[string]func(impl.Ways) (bool, bool){"IsWholeWays": impl.IsWholeWays, "HasRing": impl.HasRing} {
			got, ok := f(w)
			wantTruth(t, toldWays(name, w), got, ok, false, false)
		}
		round, ok := impl.RoundOfBlock(w, 0, 0)
		wantNumber(t, toldWays("RoundOfBlock", w), round, ok, 0, false)
		count, ok := impl.CountRounds(w)
		wantNumber(t, toldWays("CountRounds", w), count, ok, 0, false)
		got, ok := impl.TurnWay(w, 0)
		wantWays(t, toldWays("TurnWay", w), got, ok, impl.Ways{}, false)
		got, ok = impl.BackWays(w)
		wantWays(t, toldWays("BackWays", w), got, ok, impl.Ways{}, false)
		a, b, number, ok := impl.LongestDrive(w)
		wantLongest(t, toldWays("LongestDrive", w), a, b, number, ok, nil, nil, 0, false)
		text, ok := impl.WaysText(w)
		wantText(t, toldWays("WaysText", w), text, ok, "", false)
	}
}
