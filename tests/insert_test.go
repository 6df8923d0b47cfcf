package tests

import (
	"math"
	"slices"
	"strconv"
	"strings"
	"testing"

	"loop.example/g01336/impl"
)

// Promise 2: plates come one behind the other, and they are put in in their place and taken out again.

// allPlates has every plate that there is, as somebody would write them one behind the other.
func allPlates() []impl.Plate {
	var all []impl.Plate
	for number := 1; number <= 9999; number++ {
		for letter := 0; letter <= 26; letter++ {
			all = append(all, impl.Plate{Number: number, Letter: letter})
		}
	}
	return all
}

func noPlates() []impl.Plate {
	return platesOf([2]int{0, 0}, [2]int{-1, 0}, [2]int{10000, 0}, [2]int{0, 5}, [2]int{12, -1}, [2]int{12, 27},
		[2]int{10000, 26}, [2]int{9999, 27}, [2]int{1, math.MinInt}, [2]int{1, math.MaxInt}, [2]int{math.MinInt, 1},
		[2]int{math.MaxInt, 1}, [2]int{math.MinInt, math.MinInt}, [2]int{math.MaxInt, math.MaxInt})
}

// somePlates has the first and the last ones, and some with and without letters in between.
func somePlates() []impl.Plate {
	return platesOf([2]int{1, 0}, [2]int{1, 1}, [2]int{1, 26}, [2]int{2, 0}, [2]int{12, 0}, [2]int{12, 1}, [2]int{12, 2},
		[2]int{12, 3}, [2]int{12, 13}, [2]int{12, 25}, [2]int{12, 26}, [2]int{13, 0}, [2]int{13, 1}, [2]int{15, 0},
		[2]int{999, 26}, [2]int{1000, 0}, [2]int{9998, 26}, [2]int{9999, 0}, [2]int{9999, 25}, [2]int{9999, 26})
}

// isBefore is the order of the plates as the document tells it.
func isBefore(a, b impl.Plate) bool {
	return a.Number < b.Number || a.Number == b.Number && a.Letter < b.Letter
}

func inOrder(list []impl.Plate) []impl.Plate {
	sorted := slices.Clone(list)
	slices.SortFunc(sorted, func(a, b impl.Plate) int {
		if isBefore(a, b) {
			return -1
		}
		return 1
	})
	return sorted
}

// spread picks plates at even distances, which are close together or over all numbers.
func spread(all []impl.Plate, first, step, count int) []impl.Plate {
	var list []impl.Plate
	for i := first; i < len(all) && len(list) < count; i += step {
		list = append(list, all[i])
	}
	return list
}

// someRows has rows of one plate, of a few, and of one less than MaxPlates and as many.
func someRows() [][]impl.Plate {
	all := allPlates()
	var rows [][]impl.Plate
	for _, first := range []int{0, 1, 25, 26, 27, 300, 1234} {
		for _, step := range []int{1, 2, 7, 26, 27, 28, 53, 4500} {
			for _, count := range []int{1, 2, 3, 10, 59, 60} {
				rows = append(rows, spread(all, first, step, count))
			}
		}
	}
	for count := 1; count <= 60; count++ {
		rows = append(rows, slices.Clone(all[len(all)-count:]))
	}
	return rows
}

// shortRows has the rows for tests that look at each plate of a row in each way.
func shortRows() [][]impl.Plate {
	return slices.DeleteFunc(someRows(), func(row []impl.Plate) bool {
		return len(row) > 3 && row[0].Number > 3
	})
}

func noRows() [][]impl.Plate {
	rows := [][]impl.Plate{
		nil, {}, platesOf([2]int{12, 0}, [2]int{12, 0}), platesOf([2]int{12, 1}, [2]int{12, 0}), platesOf([2]int{13, 0}, [2]int{12, 26}),
		platesOf([2]int{1, 0}, [2]int{2, 0}, [2]int{2, 0}), platesOf([2]int{1, 0}, [2]int{3, 0}, [2]int{2, 0}),
		numbered(61), numbered(1000), allPlates(),
	}
	for _, p := range noPlates() {
		rows = append(rows, []impl.Plate{p}, []impl.Plate{{Number: 5}, p}, []impl.Plate{p, {Number: 9998}})
	}
	return rows
}

func wantPlate(t *testing.T, what string, got impl.Plate, ok bool, want impl.Plate, wantOK bool) {
	t.Helper()
	if got != want || ok != wantOK {
		t.Errorf("%s is %v, %t; want %v, %t", what, got, ok, want, wantOK)
	}
}

func wantPlates(t *testing.T, what string, got []impl.Plate, ok bool, want []impl.Plate, wantOK bool) {
	t.Helper()
	if !slices.Equal(got, want) || ok != wantOK {
		t.Errorf("%s is %v, %t; want %v, %t", what, got, ok, want, wantOK)
	}
}

func wantText(t *testing.T, what string, got string, ok bool, want string, wantOK bool) {
	t.Helper()
	if got != want || ok != wantOK {
		t.Errorf("%s is %q, %t; want %q, %t", what, got, ok, want, wantOK)
	}
}

// plates reads a row by its text, and plate a single one.
func plates(t *testing.T, text string) []impl.Plate {
	t.Helper()
	list, ok := impl.ParsePlates(text)
	if !ok {
		t.Fatalf("ParsePlates(%q) fails", text)
	}
	return list
}

func plate(t *testing.T, text string) impl.Plate {
	t.Helper()
	p, ok := impl.ParsePlate(text)
	if !ok {
		t.Fatalf("ParsePlate(%q) fails", text)
	}
	return p
}

func TestLimitsOfPlatesAreThoseOfTheDocument(t *testing.T) {
	if impl.MaxPlate != 9999 || impl.MaxPlates != 60 {
		t.Error("limits", impl.MaxPlate, impl.MaxPlates)
	}
}

func TestIsPlate(t *testing.T) {
	for _, p := range allPlates() {
		if !impl.IsPlate(p) {
			t.Errorf("%v is no plate", p)
		}
	}
	for _, p := range noPlates() {
		if impl.IsPlate(p) {
			t.Errorf("%v is a plate", p)
		}
	}
}

func TestComparePlates(t *testing.T) {
	for _, a := range somePlates() {
		for _, b := range somePlates() {
			want := 0
			if isBefore(a, b) {
				want = -1
			} else if isBefore(b, a) {
				want = 1
			}
			got, ok := impl.ComparePlates(a, b)
			wantNumber(t, "ComparePlates", got, ok, want, true)
		}
		for _, p := range noPlates() {
			got, ok := impl.ComparePlates(a, p)
			wantNumber(t, "ComparePlates with none", got, ok, 0, false)
			got, ok = impl.ComparePlates(p, a)
			wantNumber(t, "ComparePlates with none", got, ok, 0, false)
		}
	}
}

func TestNextPlateComesBehind(t *testing.T) {
	all := allPlates()
	for i, p := range all[:len(all)-1] {
		got, ok := impl.NextPlate(p)
		wantPlate(t, "NextPlate", got, ok, all[i+1], true)
	}
	for _, p := range append(noPlates(), all[len(all)-1]) {
		got, ok := impl.NextPlate(p)
		wantPlate(t, "NextPlate", got, ok, impl.Plate{}, false)
	}
}

// middleByHand takes away the first and the last one as long as there are more than two.
func middleByHand(list []impl.Plate) (impl.Plate, bool) {
	if len(list) == 0 {
		return impl.Plate{}, false
	}
	for len(list) > 2 {
		list = list[1 : len(list)-1]
	}
	return list[0], true
}

func TestPlatesBetween(t *testing.T) {
	all := allPlates()
	for _, a := range somePlates() {
		for _, b := range somePlates() {
			what := "between " + strconv.Itoa(a.Number) + "." + strconv.Itoa(a.Letter) + " and " + strconv.Itoa(b.Number) + "." + strconv.Itoa(b.Letter)
			var between []impl.Plate
			if isBefore(a, b) {
				between = all[slices.Index(all, a)+1 : slices.Index(all, b)]
			}
			got, ok := impl.CountBetween(a, b)
			wantNumber(t, "CountBetween "+what, got, ok, len(between), isBefore(a, b))
			middle, ok := impl.MiddlePlate(a, b)
			want, wantOK := middleByHand(between)
			wantPlate(t, "MiddlePlate "+what, middle, ok, want, wantOK)
		}
	}
}

func TestMiddlePlateWithFewBetween(t *testing.T) {
	all := allPlates()
	for first := range 60 {
		for last := first + 1; last < 120; last++ {
			want, wantOK := middleByHand(all[first+1 : last])
			got, ok := impl.MiddlePlate(all[first], all[last])
			wantPlate(t, "MiddlePlate", got, ok, want, wantOK)
		}
	}
}

func TestPlatesBetweenFail(t *testing.T) {
	for _, p := range noPlates() {
		for _, pair := range [][2]impl.Plate{{p, {Number: 13}}, {{Number: 1}, p}, {p, p}} {
			got, ok := impl.CountBetween(pair[0], pair[1])
			wantNumber(t, "CountBetween with none", got, ok, 0, false)
			middle, ok := impl.MiddlePlate(pair[0], pair[1])
			wantPlate(t, "MiddlePlate with none", middle, ok, impl.Plate{}, false)
		}
	}
}

func TestArePlates(t *testing.T) {
	for _, row := range someRows() {
		if !impl.ArePlates(row) {
			t.Errorf("%v are no plates", row)
		}
	}
	for _, row := range noRows() {
		if impl.ArePlates(row) {
			t.Errorf("%v are plates", row)
		}
	}
}

func TestPlaceOfPlate(t *testing.T) {
	for _, row := range someRows() {
		for i, p := range row {
			got, ok := impl.PlaceOfPlate(row, p)
			wantNumber(t, "PlaceOfPlate", got, ok, i, true)
		}
		for _, p := range somePlates() {
			want := slices.Index(row, p)
			got, ok := impl.PlaceOfPlate(row, p)
			wantNumber(t, "PlaceOfPlate", got, ok, max(want, 0), want >= 0)
		}
	}
	for _, p := range noPlates() {
		for _, row := range [][]impl.Plate{{{Number: 12}}, {p}, {p, {Number: 12}}} {
			got, ok := impl.PlaceOfPlate(row, p)
			wantNumber(t, "PlaceOfPlate of none", got, ok, 0, false)
		}
	}
}

// nextByHand returns the plate behind one, if there is one.
func nextByHand(p impl.Plate) (impl.Plate, bool) {
	switch {
	case p.Letter < 26:
		return impl.Plate{Number: p.Number, Letter: p.Letter + 1}, true
	case p.Number < 9999:
		return impl.Plate{Number: p.Number + 1}, true
	}
	return impl.Plate{}, false
}

func TestInsertBehind(t *testing.T) {
	for _, row := range shortRows() {
		for k := range row {
			next, fits := nextByHand(row[k])
			fits = fits && len(row) < 60 && !slices.Contains(row, next)
			var want []impl.Plate
			if fits {
				want = inOrder(append(slices.Clone(row), next))
			}
			got, ok := impl.InsertBehind(row, k)
			wantPlates(t, "InsertBehind", got, ok, want, fits)
		}
	}
}

func TestInsertBehindAtItsLimits(t *testing.T) {
	for _, c := range []struct {
		row           string
		k             int
		want          string
		wantToSucceed bool
	}{
		{"12,12c,15", 0, "12,12a,12c,15", true}, {"12,12c,15", 1, "12,12c,12d,15", true}, {"12,12c,15", 2, "12,12c,15,15a", true},
		{"12,12a,15", 0, "", false}, {"12z,13", 0, "", false}, {"12z,14", 0, "12z,13,14", true}, {"12z,13a", 0, "12z,13,13a", true},
		{"7", 0, "7,7a", true}, {"9999z", 0, "", false}, {"1,9999z", 1, "", false}, {"9999y", 0, "9999y,9999z", true},
		{"9998z", 0, "9998z,9999", true}, {"9998z,9999", 0, "", false}, {"9998z,9999", 1, "9998z,9999,9999a", true},
	} {
		var want []impl.Plate
		if c.wantToSucceed {
			want = plates(t, c.want)
		}
		got, ok := impl.InsertBehind(plates(t, c.row), c.k)
		wantPlates(t, "InsertBehind in "+c.row, got, ok, want, c.wantToSucceed)
	}
	got, ok := impl.InsertBehind(numbered(59), 58)
	wantPlates(t, "InsertBehind with one place left", got, ok, append(numbered(59), impl.Plate{Number: 59, Letter: 1}), true)
	got, ok = impl.InsertBehind(numbered(60), 59)
	wantPlates(t, "InsertBehind without any place left", got, ok, nil, false)
}

func TestRoomBehind(t *testing.T) {
	for _, row := range shortRows() {
		for k, p := range row {
			room := 0
			for letter := p.Letter + 1; letter <= 26; letter++ {
				if slices.Contains(row, impl.Plate{Number: p.Number, Letter: letter}) {
					break
				}
				room++
			}
			got, ok := impl.RoomBehind(row, k)
			wantNumber(t, "RoomBehind", got, ok, room, true)
		}
	}
	for _, c := range []struct {
		row     string
		k, want int
	}{
		{"12,12c,15", 0, 2}, {"12,12c,15", 1, 23}, {"12,12c,15", 2, 26}, {"12,12a", 0, 0}, {"12y,12z", 0, 0}, {"12y,12z", 1, 0},
		{"12,12z", 0, 25}, {"12z,13", 0, 0}, {"12,13", 0, 26}, {"12c,13b", 0, 23}, {"7", 0, 26}, {"9999z", 0, 0}, {"9999a", 0, 25},
	} {
		got, ok := impl.RoomBehind(plates(t, c.row), c.k)
		wantNumber(t, "RoomBehind in "+c.row, got, ok, c.want, true)
	}
	got, ok := impl.RoomBehind(numbered(60), 59)
	wantNumber(t, "RoomBehind by the letters of a full row", got, ok, 26, true)
}

func TestPlatesArePutInAndTakenOutAgain(t *testing.T) {
	for _, row := range someRows() {
		for _, p := range somePlates() {
			fits := len(row) < 60 && !slices.Contains(row, p)
			var want []impl.Plate
			if fits {
				want = inOrder(append(slices.Clone(row), p))
			}
			more, ok := impl.AddPlate(row, p)
			wantPlates(t, "AddPlate", more, ok, want, fits)
			if !fits {
				continue
			}
			k, ok := impl.PlaceOfPlate(more, p)
			wantNumber(t, "PlaceOfPlate", k, ok, slices.Index(want, p), true)
			again, ok := impl.DropPlate(more, k)
			wantPlates(t, "DropPlate", again, ok, row, true)
		}
	}
}

func TestAddPlateAtItsLimits(t *testing.T) {
	for _, c := range []struct{ row, p, want string }{
		{"12", "12a", "12,12a"}, {"12a", "12", "12,12a"}, {"9999z", "1", "1,9999z"}, {"1", "9999z", "1,9999z"},
		{"12,15", "13", "12,13,15"}, {"12,15", "16", "12,15,16"}, {"12,15", "11z", "11z,12,15"},
	} {
		got, ok := impl.AddPlate(plates(t, c.row), plate(t, c.p))
		wantPlates(t, "AddPlate to "+c.row, got, ok, plates(t, c.want), true)
	}
	got, ok := impl.AddPlate(numbered(59), impl.Plate{Number: 60})
	wantPlates(t, "AddPlate with one place left", got, ok, numbered(60), true)
	for _, p := range []impl.Plate{{Number: 61}, {Number: 60}, {Number: 1, Letter: 1}} {
		got, ok = impl.AddPlate(numbered(60), p)
		wantPlates(t, "AddPlate without any place left", got, ok, nil, false)
	}
	got, ok = impl.AddPlate(plates(t, "12"), plate(t, "12"))
	wantPlates(t, "AddPlate of one that is there", got, ok, nil, false)
	for _, p := range noPlates() {
		got, ok := impl.AddPlate(plates(t, "12"), p)
		wantPlates(t, "AddPlate of none", got, ok, nil, false)
	}
}

func TestDropPlate(t *testing.T) {
	for _, row := range shortRows() {
		for k := range row {
			var want []impl.Plate
			for i, p := range row {
				if i != k && len(row) > 1 {
					want = append(want, p)
				}
			}
			got, ok := impl.DropPlate(row, k)
			wantPlates(t, "DropPlate", got, ok, want, len(row) > 1)
		}
	}
}

func TestGapsOfPlates(t *testing.T) {
	for _, row := range someRows() {
		var want []int
		for number := row[0].Number; number <= row[len(row)-1].Number; number++ {
			if !slices.ContainsFunc(row, func(p impl.Plate) bool { return p.Number == number }) {
				want = append(want, number)
			}
		}
		got, ok := impl.GapsOfPlates(row)
		wantList(t, "GapsOfPlates", got, ok, want, true)
	}
	for text, want := range map[string][]int{
		"12,12c,15": {13, 14}, "12": nil, "12,12c": nil, "12z,13": nil, "12,14c,16": {13, 15}, "9997z,9999": {9998}, "1,3": {2},
	} {
		got, ok := impl.GapsOfPlates(plates(t, text))
		wantList(t, "GapsOfPlates of "+text, got, ok, want, true)
	}
	got, ok := impl.GapsOfPlates(plates(t, "1,9999z"))
	if !ok || len(got) != 9997 || got[0] != 2 || got[9996] != 9998 {
		t.Error("the longest GapsOfPlates have", len(got), ok)
	}
}

func TestLettersOf(t *testing.T) {
	const signs = "-abcdefghijklmnopqrstuvwxyz"
	for _, row := range shortRows() {
		letters := map[int]string{}
		for _, p := range row {
			letters[p.Number] += string(signs[p.Letter])
		}
		for _, number := range []int{1, 2, 3, 4, 12, 13, row[0].Number, row[len(row)-1].Number, 9998, 9999} {
			got, ok := impl.LettersOf(row, number)
			wantText(t, "LettersOf "+strconv.Itoa(number), got, ok, letters[number], true)
		}
		for _, number := range []int{math.MinInt, -1, 0, 10000, math.MaxInt} {
			got, ok := impl.LettersOf(row, number)
			wantText(t, "LettersOf "+strconv.Itoa(number), got, ok, "", false)
		}
	}
	got, ok := impl.LettersOf(allPlates()[27*11:27*12], 12)
	wantText(t, "LettersOf all", got, ok, signs, true)
	for text, want := range map[string]string{"12,12c,15": "-c", "12c": "c", "12": "-", "11,13": "", "1z,12a,12z,13": "az"} {
		got, ok := impl.LettersOf(plates(t, text), 12)
		wantText(t, "LettersOf 12 in "+text, got, ok, want, true)
	}
}

func TestRenumberPlatesAndOldPlate(t *testing.T) {
	for _, row := range someRows() {
		got, ok := impl.RenumberPlates(row)
		wantPlates(t, "RenumberPlates", got, ok, numbered(len(row)), true)
		for i, p := range row {
			old, ok := impl.OldPlate(row, i+1)
			wantPlate(t, "OldPlate", old, ok, p, true)
		}
		for _, number := range []int{math.MinInt, -1, 0, len(row) + 1, 61, 9999, 10000, math.MaxInt} {
			old, ok := impl.OldPlate(row, number)
			wantPlate(t, "OldPlate of "+strconv.Itoa(number), old, ok, impl.Plate{}, false)
		}
	}
}

func TestJoinPlates(t *testing.T) {
	rows := shortRows()
	for i, a := range rows {
		for _, b := range rows[i%5:] {
			fits := len(a)+len(b) <= 60 && !slices.ContainsFunc(a, func(p impl.Plate) bool { return slices.Contains(b, p) })
			var want []impl.Plate
			if fits {
				want = inOrder(slices.Concat(a, b))
			}
			got, ok := impl.JoinPlates(a, b)
			wantPlates(t, "JoinPlates", got, ok, want, fits)
		}
	}
}

func TestJoinPlatesAtItsLimits(t *testing.T) {
	for _, c := range []struct{ a, b, want string }{
		{"12", "12a", "12,12a"}, {"12a", "12", "12,12a"}, {"1,3,5", "2,4", "1,2,3,4,5"}, {"2,4", "1,3,5", "1,2,3,4,5"},
		{"1,2", "3,4", "1,2,3,4"}, {"3,4", "1,2", "1,2,3,4"}, {"12z", "12a,13", "12a,12z,13"},
	} {
		got, ok := impl.JoinPlates(plates(t, c.a), plates(t, c.b))
		wantPlates(t, "JoinPlates of "+c.a+" and "+c.b, got, ok, plates(t, c.want), true)
	}
	for _, pair := range [][2]string{{"12", "12"}, {"1,12", "12,13"}, {"1,2,3", "3"}, {"1", "1,2,3"}, {"1a,2b", "1b,2b"}} {
		got, ok := impl.JoinPlates(plates(t, pair[0]), plates(t, pair[1]))
		wantPlates(t, "JoinPlates of "+pair[0]+" and "+pair[1], got, ok, nil, false)
	}
	all := numbered(120)
	for _, count := range []int{1, 30, 59} {
		got, ok := impl.JoinPlates(all[:count], all[count:60])
		wantPlates(t, "JoinPlates to as many as there may be", got, ok, all[:60], true)
		got, ok = impl.JoinPlates(all[:count], all[count:61])
		wantPlates(t, "JoinPlates to one more", got, ok, nil, false)
	}
	got, ok := impl.JoinPlates(all[:60], all[60:])
	wantPlates(t, "JoinPlates of two full rows", got, ok, nil, false)
	if !slices.Equal(all, numbered(120)) {
		t.Error("JoinPlates writes behind the end of one row, into the other one")
	}
}

func TestPartPlates(t *testing.T) {
	for _, row := range someRows() {
		for _, p := range append(somePlates(), row...) {
			var before, others []impl.Plate
			for _, one := range row {
				if isBefore(one, p) {
					before = append(before, one)
				} else {
					others = append(others, one)
				}
			}
			fits := len(before) > 0 && len(others) > 0
			if !fits {
				before, others = nil, nil
			}
			first, second, ok := impl.PartPlates(row, p)
			wantPlates(t, "the first of PartPlates", first, ok, before, fits)
			wantPlates(t, "the second of PartPlates", second, ok, others, fits)
			if fits {
				again, ok := impl.JoinPlates(first, second)
				wantPlates(t, "JoinPlates of PartPlates", again, ok, row, true)
			}
		}
	}
}

func TestPartPlatesAtItsLimits(t *testing.T) {
	for _, c := range []struct {
		row, p, first, second string
	}{
		{"12,12c,15", "13", "12,12c", "15"}, {"12,12c,15", "12c", "12", "12c,15"}, {"12,12c,15", "12b", "12", "12c,15"},
		{"12,12c,15", "12d", "12,12c", "15"}, {"12,12c,15", "15", "12,12c", "15"}, {"1,9999z", "9999z", "1", "9999z"},
	} {
		first, second, ok := impl.PartPlates(plates(t, c.row), plate(t, c.p))
		wantPlates(t, "the first of PartPlates at "+c.p, first, ok, plates(t, c.first), true)
		wantPlates(t, "the second of PartPlates at "+c.p, second, ok, plates(t, c.second), true)
	}
	check := func(row []impl.Plate, p impl.Plate) {
		t.Helper()
		first, second, ok := impl.PartPlates(row, p)
		wantPlates(t, "the first of PartPlates", first, ok, nil, false)
		wantPlates(t, "the second of PartPlates", second, ok, nil, false)
	}
	row := plates(t, "12,12c,15")
	for _, text := range []string{"1", "11z", "12", "15a", "16", "9999z"} {
		check(row, plate(t, text))
	}
	for _, text := range []string{"11", "12", "13"} {
		check(plates(t, "12"), plate(t, text))
	}
	for _, p := range noPlates() {
		check(row, p)
	}
}

func TestPlateTextsAreReadAgain(t *testing.T) {
	for _, p := range allPlates() {
		want := strconv.Itoa(p.Number)
		if p.Letter > 0 {
			want += string(rune('a' + p.Letter - 1))
		}
		text, ok := impl.PlateText(p)
		wantText(t, "PlateText", text, ok, want, true)
		again, ok := impl.ParsePlate(want)
		wantPlate(t, "ParsePlate of "+want, again, ok, p, true)
	}
	for _, p := range noPlates() {
		text, ok := impl.PlateText(p)
		wantText(t, "PlateText of none", text, ok, "", false)
	}
}

// noPlateTexts are malformed, as texts of one plate and of several.
func noPlateTexts() []string {
	return []string{
		"", "a", "z", "0", "0a", "-1", "+1", "+1a", "01", "012c", "00", "10000", "10000a", "99990", "12-", "-", "12A", "12Z",
		"12ab", "12aa", "a12", "1a2", "12 ", " 12", "12 a", "12a ", "12\n", "12a\n", "1_2", "0x1", "1.0", "1e3", "12{", "12`", "12,", ",12",
		",", "12,,13", "12;13", "12.13", "9223372036854775807", "9223372036854775808", "18446744073709551628", "99999999999999999999999z",
		"\x00", "\xff", "12\xff", "12\x00", "1２", "12а", "12ä", strings.Repeat("1", 5000), strings.Repeat("a", 5000),
	}
}

func TestParsePlateFails(t *testing.T) {
	for _, text := range append(noPlateTexts(), "12,13", "12,12c,15") {
		got, ok := impl.ParsePlate(text)
		wantPlate(t, "ParsePlate of "+strconv.Quote(text), got, ok, impl.Plate{}, false)
	}
}

func TestTextsOfRowsAreReadAgain(t *testing.T) {
	for _, row := range someRows() {
		var texts []string
		for _, p := range row {
			text, _ := impl.PlateText(p)
			texts = append(texts, text)
		}
		want := strings.Join(texts, ",")
		text, ok := impl.PlatesText(row)
		wantText(t, "PlatesText", text, ok, want, true)
		again, ok := impl.ParsePlates(want)
		wantPlates(t, "ParsePlates", again, ok, row, true)
	}
}

func TestParsePlatesFails(t *testing.T) {
	full, ok := impl.PlatesText(numbered(60))
	if got, fine := impl.ParsePlates(full); !ok || !fine || len(got) != 60 {
		t.Error("a full row is not read again")
	}
	for _, text := range append(noPlateTexts(), full+",61", full+",", "12,12", "13,12", "12a,12", "12,13,13", "1,3,2",
		"12, 13", "12 ,13", "12,13 ", "12,x", "12,13A", "12,0", "12,10000", "12,013", strings.Repeat(",", 5000)) {
		got, ok := impl.ParsePlates(text)
		wantPlates(t, "ParsePlates of "+strconv.Quote(text), got, ok, nil, false)
	}
}

// checkIndexFails calls what needs an index with one that there is not, or without plates.
func checkIndexFails(t *testing.T, row []impl.Plate, k int) {
	t.Helper()
	list, ok := impl.InsertBehind(row, k)
	wantPlates(t, "InsertBehind", list, ok, nil, false)
	room, ok := impl.RoomBehind(row, k)
	wantNumber(t, "RoomBehind", room, ok, 0, false)
	list, ok = impl.DropPlate(row, k)
	wantPlates(t, "DropPlate", list, ok, nil, false)
}

func TestIndicesThatThereAreNot(t *testing.T) {
	for _, text := range []string{"12", "12,15", "12,12c,15"} {
		row := plates(t, text)
		for _, k := range []int{math.MinInt, -1, len(row), len(row) + 1, math.MaxInt} {
			checkIndexFails(t, row, k)
		}
	}
}

func TestRowsThatAreNone(t *testing.T) {
	good, p := platesOf([2]int{7000, 5}), impl.Plate{Number: 12, Letter: 2}
	for _, row := range noRows() {
		checkIndexFails(t, row, 0)
		checkIndexFails(t, row, 1)
		index, ok := impl.PlaceOfPlate(row, impl.Plate{Number: 12})
		wantNumber(t, "PlaceOfPlate", index, ok, 0, false)
		list, ok := impl.AddPlate(row, p)
		wantPlates(t, "AddPlate", list, ok, nil, false)
		gaps, ok := impl.GapsOfPlates(row)
		wantList(t, "GapsOfPlates", gaps, ok, nil, false)
		text, ok := impl.LettersOf(row, 12)
		wantText(t, "LettersOf", text, ok, "", false)
		list, ok = impl.RenumberPlates(row)
		wantPlates(t, "RenumberPlates", list, ok, nil, false)
		old, ok := impl.OldPlate(row, 1)
		wantPlate(t, "OldPlate", old, ok, impl.Plate{}, false)
		list, ok = impl.JoinPlates(row, good)
		wantPlates(t, "JoinPlates", list, ok, nil, false)
		list, ok = impl.JoinPlates(good, row)
		wantPlates(t, "JoinPlates", list, ok, nil, false)
		first, second, ok := impl.PartPlates(row, p)
		wantPlates(t, "the first of PartPlates", first, ok, nil, false)
		wantPlates(t, "the second of PartPlates", second, ok, nil, false)
		text, ok = impl.PlatesText(row)
		wantText(t, "PlatesText", text, ok, "", false)
	}
}

func TestExampleOfChapter2(t *testing.T) {
	between, ok := impl.CountBetween(plate(t, "12"), plate(t, "13"))
	wantNumber(t, "CountBetween", between, ok, 26, true)
	middle, ok := impl.MiddlePlate(plate(t, "12"), plate(t, "13"))
	wantPlate(t, "MiddlePlate", middle, ok, plate(t, "12m"), true)
	row := plates(t, "12,12c,15")
	more, ok := impl.InsertBehind(row, 0)
	wantPlates(t, "InsertBehind", more, ok, plates(t, "12,12a,12c,15"), true)
	for k, want := range []int{2, 23} {
		room, ok := impl.RoomBehind(row, k)
		wantNumber(t, "RoomBehind", room, ok, want, true)
	}
	gaps, ok := impl.GapsOfPlates(row)
	wantList(t, "GapsOfPlates", gaps, ok, []int{13, 14}, true)
	letters, ok := impl.LettersOf(row, 12)
	wantText(t, "LettersOf", letters, ok, "-c", true)
	old, ok := impl.OldPlate(row, 3)
	wantPlate(t, "OldPlate", old, ok, plate(t, "15"), true)
	first, second, ok := impl.PartPlates(row, plate(t, "13"))
	wantPlates(t, "the first of PartPlates", first, ok, plates(t, "12,12c"), true)
	wantPlates(t, "the second of PartPlates", second, ok, plates(t, "15"), true)
}
