package tests

import (
	"math"
	"slices"
	"strconv"
	"strings"
	"testing"

	"loop.example/g01336/impl"
)

// Promise 9: solutions fit all clues, and harder puzzles are solved by the same house.

// hidden is a house as somebody sees it who stands in front of it: opposite is 0 if there is no house.
type hidden struct{ number, side, plot, opposite int }

// hiddenIn has all houses of a street, by their numbers.
func hiddenIn(s impl.Street) []hidden {
	var houses []hidden
	sides := numbersOnSides(s)
	for side, numbers := range sides {
		for plot, number := range numbers {
			h := hidden{number: number, side: side, plot: plot}
			if across := sides[1-side]; len(across) > 0 {
				h.opposite = across[plot]
			}
			houses = append(houses, h)
		}
	}
	slices.SortFunc(houses, func(a, b hidden) int { return a.number - b.number })
	return houses
}

// hiddenStreets has all streets that puzzles may have.
func hiddenStreets() []impl.Street {
	var streets []impl.Street
	for kind := range 3 {
		for plots := 1; plots <= 20; plots++ {
			streets = append(streets, impl.Street{Kind: kind, Plots: plots})
		}
	}
	return streets
}

// theShortAndTheLong are some of these, of each kind.
func theShortAndTheLong() []impl.Street {
	var streets []impl.Street
	for _, s := range hiddenStreets() {
		if slices.Contains([]int{1, 2, 5, 10, 20}, s.Plots) {
			streets = append(streets, s)
		}
	}
	return streets
}

// noHiddenStreets has what is no street, and streets that have too many plots.
func noHiddenStreets() []impl.Street {
	streets := noStreets()
	for kind := range 3 {
		for _, plots := range []int{21, 22, 40, 1000} {
			streets = append(streets, impl.Street{Kind: kind, Plots: plots})
		}
	}
	return streets
}

// clues are told by their kinds and both numbers.
func clues(triples ...[3]int) []impl.Clue {
	var list []impl.Clue
	for _, c := range triples {
		list = append(list, impl.Clue{Kind: c[0], A: c[1], B: c[2]})
	}
	return list
}

// cluesFromTo has all clues of a kind, with the numbers from the first ones to the last ones.
func cluesFromTo(kind, firstA, lastA, firstB, lastB int) []impl.Clue {
	var list []impl.Clue
	for a := firstA; a <= lastA; a++ {
		for b := firstB; b <= lastB; b++ {
			list = append(list, impl.Clue{Kind: kind, A: a, B: b})
		}
	}
	return list
}

func everyClue() []impl.Clue {
	return slices.Concat(
		cluesFromTo(0, 0, 0, 0, 1), cluesFromTo(1, 0, 0, 0, 20), cluesFromTo(2, 2, 9, 0, 1),
		cluesFromTo(3, 0, 0, 1, 13), cluesFromTo(4, 1, 40, 0, 1), cluesFromTo(5, 0, 0, 0, 40),
	)
}

func noClues() []impl.Clue {
	list := clues(
		[3]int{0, 0, -1}, [3]int{0, 0, 2}, [3]int{0, 1, 0}, [3]int{0, -1, 1}, [3]int{1, 0, -1}, [3]int{1, 0, 21}, [3]int{1, 1, 5}, [3]int{1, -1, 5},
		[3]int{2, 1, 0}, [3]int{2, 1, 1}, [3]int{2, 10, 0}, [3]int{2, 10, 1}, [3]int{2, 0, 0}, [3]int{2, 0, 1}, [3]int{2, -2, 1}, [3]int{2, 5, 2}, [3]int{2, 5, -1},
		[3]int{3, 0, 0}, [3]int{3, 0, 14}, [3]int{3, 0, -1}, [3]int{3, 1, 5}, [3]int{3, -1, 5}, [3]int{4, 0, 0}, [3]int{4, 0, 1}, [3]int{4, 41, 0}, [3]int{4, 41, 1},
		[3]int{4, -1, 1}, [3]int{4, 5, 2}, [3]int{4, 5, -1}, [3]int{5, 0, -1}, [3]int{5, 0, 41}, [3]int{5, 1, 4}, [3]int{5, -1, 4}, [3]int{-1, 0, 0}, [3]int{6, 0, 0}, [3]int{6, 2, 1},
	)
	for _, far := range []int{math.MinInt, math.MaxInt} {
		for kind := range 6 {
			list = append(list, clues([3]int{far, 0, 1}, [3]int{kind, far, 1}, [3]int{kind, 2, far}, [3]int{kind, 0, far}, [3]int{kind, far, far}, [3]int{far, far, far})...)
		}
	}
	return list
}

// fitsByHand does not look for a clue that is none.
func fitsByHand(h hidden, c impl.Clue) bool {
	switch c.Kind {
	case 0:
		return h.side == c.B
	case 1:
		return h.plot == c.B
	case 2:
		left := h.number
		for left > 0 {
			left -= c.A
		}
		return (left == 0) == (c.B == 1)
	case 3:
		sum := 0
		for _, sign := range strconv.Itoa(h.number) {
			sum += int(sign - '0')
		}
		return sum == c.B
	case 4:
		return (h.number > c.A) == (c.B == 1)
	}
	return h.opposite == c.B
}

func solvedByHand(s impl.Street, list []impl.Clue) []int {
	var solutions []int
	for _, h := range hiddenIn(s) {
		fitted := 0
		for _, c := range list {
			if fitsByHand(h, c) {
				fitted++
			}
		}
		if fitted == len(list) {
			solutions = append(solutions, h.number)
		}
	}
	return solutions
}

func puzzleTextByHand(p impl.Puzzle) string {
	var texts []string
	for _, c := range p.Clues {
		texts = append(texts, strconv.Itoa(c.Kind)+"."+strconv.Itoa(c.A)+"."+strconv.Itoa(c.B))
	}
	kind := "?"
	if p.Street.Kind >= 0 && p.Street.Kind < 3 {
		kind = "rou"[p.Street.Kind : p.Street.Kind+1]
	}
	return kind + strconv.Itoa(p.Street.Plots) + ";" + strings.Join(texts, ",")
}

func puzzle(t *testing.T, text string) impl.Puzzle {
	t.Helper()
	p, ok := impl.ParsePuzzle(text)
	if !ok {
		t.Fatalf("ParsePuzzle(%q) fails", text)
	}
	return p
}

func samePuzzle(a, b impl.Puzzle) bool {
	return a.Street == b.Street && slices.Equal(a.Clues, b.Clues)
}

func wantPuzzle(t *testing.T, what string, got impl.Puzzle, ok bool, want impl.Puzzle, wantOK bool) {
	t.Helper()
	if !samePuzzle(got, want) || ok != wantOK {
		t.Errorf("%s is %v, %t; want %v, %t", what, got, ok, want, wantOK)
	}
}

func wantRange(t *testing.T, what string, least, greatest int, ok bool, wantLeast, wantGreatest int, wantOK bool) {
	t.Helper()
	if least != wantLeast || greatest != wantGreatest || ok != wantOK {
		t.Errorf("%s is %d, %d, %t; want %d, %d, %t", what, least, greatest, ok, wantLeast, wantGreatest, wantOK)
	}
}

// somePuzzles have few clues: none, one, two of which each has one of both ends of what is allowed, and the same clue twice and as often as there may be clues.
func somePuzzles() []impl.Puzzle {
	var puzzles []impl.Puzzle
	some := clues(
		[3]int{0, 0, 0}, [3]int{0, 0, 1}, [3]int{1, 0, 0}, [3]int{1, 0, 4}, [3]int{1, 0, 20}, [3]int{2, 2, 0}, [3]int{2, 2, 1}, [3]int{2, 9, 0}, [3]int{2, 9, 1},
		[3]int{3, 0, 1}, [3]int{3, 0, 13}, [3]int{4, 1, 0}, [3]int{4, 1, 1}, [3]int{4, 40, 0}, [3]int{4, 40, 1}, [3]int{5, 0, 0}, [3]int{5, 0, 1}, [3]int{5, 0, 40},
	)
	for _, s := range theShortAndTheLong() {
		puzzles = append(puzzles, impl.Puzzle{Street: s})
		for _, c := range everyClue() {
			puzzles = append(puzzles, impl.Puzzle{Street: s, Clues: []impl.Clue{c}})
		}
		for _, c := range some {
			puzzles = append(puzzles, impl.Puzzle{Street: s, Clues: slices.Repeat([]impl.Clue{c}, 6)})
			for _, d := range some {
				puzzles = append(puzzles, impl.Puzzle{Street: s, Clues: []impl.Clue{c, d}})
			}
		}
	}
	return puzzles
}

// mixedClues follow no plain pattern.
func mixedClues(from []impl.Clue, many, seed int) []impl.Clue {
	var list []impl.Clue
	for _, k := range mixedNumbers(many, len(from)-1, seed) {
		list = append(list, from[k])
	}
	return list
}

// truePuzzles have up to six clues, all of which a house fits.
func truePuzzles() []impl.Puzzle {
	var puzzles []impl.Puzzle
	for _, s := range theShortAndTheLong() {
		for _, h := range hiddenIn(s) {
			fitted := slices.DeleteFunc(everyClue(), func(c impl.Clue) bool { return !fitsByHand(h, c) })
			for many := 3; many <= 6; many++ {
				for seed := range 3 {
					puzzles = append(puzzles, impl.Puzzle{Street: s, Clues: mixedClues(fitted, many, 100*h.number+seed)})
				}
			}
		}
	}
	return puzzles
}

// mixedPuzzles have clues that no house has to fit.
func mixedPuzzles() []impl.Puzzle {
	var puzzles []impl.Puzzle
	for _, s := range theShortAndTheLong() {
		for many := 2; many <= 6; many++ {
			for seed := range 12 {
				puzzles = append(puzzles, impl.Puzzle{Street: s, Clues: mixedClues(everyClue(), many, 10*s.Plots+seed)})
			}
		}
	}
	return puzzles
}

func allPuzzles() []impl.Puzzle {
	return slices.Concat(somePuzzles(), truePuzzles(), mixedPuzzles())
}

func noPuzzles() []impl.Puzzle {
	var puzzles []impl.Puzzle
	good := clues([3]int{0, 0, 0}, [3]int{4, 3, 1}, [3]int{2, 2, 0})
	for _, s := range noHiddenStreets() {
		puzzles = append(puzzles, impl.Puzzle{Street: s}, impl.Puzzle{Street: s, Clues: good})
	}
	for _, s := range theShortAndTheLong() {
		for _, c := range noClues() {
			puzzles = append(puzzles, impl.Puzzle{Street: s, Clues: []impl.Clue{c}}, impl.Puzzle{Street: s, Clues: append([]impl.Clue{c}, good...)}, impl.Puzzle{Street: s, Clues: append(slices.Clone(good), c)},
				impl.Puzzle{Street: s, Clues: slices.Concat(good, []impl.Clue{c}, good[:2])})
		}
		for _, many := range []int{7, 8, 5000} {
			puzzles = append(puzzles, impl.Puzzle{Street: s, Clues: slices.Repeat(good[:1], many)})
		}
	}
	return puzzles
}

func TestLimitsOfPuzzlesAreThoseOfTheDocument(t *testing.T) {
	if impl.MaxHidden != 20 || impl.MaxClues != 6 {
		t.Error("limits", impl.MaxHidden, impl.MaxClues)
	}
}

func TestIsClue(t *testing.T) {
	all := map[impl.Clue]bool{}
	for _, c := range everyClue() {
		all[c] = true
	}
	for _, s := range hiddenStreets() {
		for c := range all {
			if !impl.IsClue(s, c) {
				t.Errorf("%v is no clue in %v", c, s)
			}
		}
		for _, c := range noClues() {
			if impl.IsClue(s, c) {
				t.Errorf("%v is a clue in %v", c, s)
			}
		}
	}
	for kind := -2; kind <= 8; kind++ {
		for a := -2; a <= 45; a++ {
			for b := -2; b <= 45; b++ {
				c := impl.Clue{Kind: kind, A: a, B: b}
				if got := impl.IsClue(impl.Street{Kind: 1, Plots: 10}, c); got != all[c] {
					t.Errorf("IsClue of %v is %t", c, got)
				}
			}
		}
	}
}

func TestNothingIsAClueWithoutStreet(t *testing.T) {
	for _, s := range noHiddenStreets() {
		for _, c := range slices.Concat(everyClue(), noClues()) {
			if impl.IsClue(s, c) {
				t.Errorf("%v is a clue in %v", c, s)
			}
		}
	}
}

func TestIsPuzzle(t *testing.T) {
	for _, p := range allPuzzles() {
		if !impl.IsPuzzle(p) {
			t.Errorf("%v is no puzzle", p)
		}
	}
	for _, s := range hiddenStreets() {
		if !impl.IsPuzzle(impl.Puzzle{Street: s}) || !impl.IsPuzzle(impl.Puzzle{Street: s, Clues: []impl.Clue{}}) {
			t.Errorf("no puzzle without a clue in %v", s)
		}
	}
	for _, p := range noPuzzles() {
		if impl.IsPuzzle(p) {
			t.Errorf("%v is a puzzle", p)
		}
	}
}

func TestDoesFit(t *testing.T) {
	for _, s := range hiddenStreets() {
		for _, h := range hiddenIn(s) {
			for _, c := range everyClue() {
				if got, ok := impl.DoesFit(s, c, h.number); got != fitsByHand(h, c) || !ok {
					t.Errorf("DoesFit of %v in %v and %d is %t, %t", c, s, h.number, got, ok)
				}
			}
		}
	}
}

func TestCluesThatAreKnown(t *testing.T) {
	for _, c := range []struct {
		street string
		clue   impl.Clue
		want   []int // the houses that fit
	}{
		{"r5", impl.Clue{Kind: 0, B: 0}, []int{1, 2, 3, 4, 5}}, {"r5", impl.Clue{Kind: 0, B: 1}, nil}, {"o3", impl.Clue{Kind: 0, B: 0}, []int{1, 3, 5}},
		{"o3", impl.Clue{Kind: 0, B: 1}, []int{2, 4, 6}}, {"u3", impl.Clue{Kind: 0, B: 0}, []int{1, 2, 3}}, {"u3", impl.Clue{Kind: 0, B: 1}, []int{4, 5, 6}},
		{"r5", impl.Clue{Kind: 1, B: 0}, []int{1}}, {"r5", impl.Clue{Kind: 1, B: 4}, []int{5}}, {"r5", impl.Clue{Kind: 1, B: 5}, nil}, {"r20", impl.Clue{Kind: 1, B: 20}, nil},
		{"r20", impl.Clue{Kind: 1, B: 19}, []int{20}}, {"o20", impl.Clue{Kind: 1, B: 19}, []int{39, 40}}, {"u20", impl.Clue{Kind: 1, B: 19}, []int{20, 21}}, {"u20", impl.Clue{Kind: 1, B: 0}, []int{1, 40}},
		{"u5", impl.Clue{Kind: 2, A: 2, B: 1}, []int{2, 4, 6, 8, 10}}, {"u5", impl.Clue{Kind: 2, A: 2, B: 0}, []int{1, 3, 5, 7, 9}}, {"u5", impl.Clue{Kind: 2, A: 9, B: 1}, []int{9}},
		{"r3", impl.Clue{Kind: 2, A: 4, B: 1}, nil}, {"r3", impl.Clue{Kind: 2, A: 4, B: 0}, []int{1, 2, 3}}, {"o20", impl.Clue{Kind: 2, A: 8, B: 1}, []int{8, 16, 24, 32, 40}},
		{"o20", impl.Clue{Kind: 3, B: 1}, []int{1, 10}}, {"o20", impl.Clue{Kind: 3, B: 4}, []int{4, 13, 22, 31, 40}}, {"o20", impl.Clue{Kind: 3, B: 12}, []int{39}}, {"o20", impl.Clue{Kind: 3, B: 13}, nil},
		{"r20", impl.Clue{Kind: 3, B: 10}, []int{19}}, {"o20", impl.Clue{Kind: 3, B: 3}, []int{3, 12, 21, 30}}, {"r5", impl.Clue{Kind: 4, A: 1, B: 0}, []int{1}}, {"r5", impl.Clue{Kind: 4, A: 1, B: 1}, []int{2, 3, 4, 5}},
		{"r5", impl.Clue{Kind: 4, A: 3, B: 1}, []int{4, 5}}, {"r5", impl.Clue{Kind: 4, A: 3, B: 0}, []int{1, 2, 3}}, {"r5", impl.Clue{Kind: 4, A: 5, B: 1}, nil}, {"r2", impl.Clue{Kind: 4, A: 40, B: 0}, []int{1, 2}},
		{"u20", impl.Clue{Kind: 4, A: 39, B: 1}, []int{40}}, {"u20", impl.Clue{Kind: 4, A: 40, B: 1}, nil}, {"r3", impl.Clue{Kind: 5, B: 0}, []int{1, 2, 3}}, {"r3", impl.Clue{Kind: 5, B: 1}, nil},
		{"o3", impl.Clue{Kind: 5, B: 0}, nil}, {"u3", impl.Clue{Kind: 5, B: 0}, nil}, {"o10", impl.Clue{Kind: 5, B: 4}, []int{3}}, {"o10", impl.Clue{Kind: 5, B: 3}, []int{4}}, {"u5", impl.Clue{Kind: 5, B: 8}, []int{3}},
		{"u20", impl.Clue{Kind: 5, B: 40}, []int{1}}, {"u20", impl.Clue{Kind: 5, B: 1}, []int{40}}, {"o20", impl.Clue{Kind: 5, B: 40}, []int{39}}, {"o19", impl.Clue{Kind: 5, B: 40}, nil},
	} {
		s := street(t, c.street)
		got, ok := impl.Solutions(impl.Puzzle{Street: s, Clues: []impl.Clue{c.clue}})
		wantList(t, "Solutions of "+puzzleTextByHand(impl.Puzzle{Street: s, Clues: []impl.Clue{c.clue}}), got, ok, c.want, true)
		houses, _ := impl.HousesOf(s)
		for house := 1; house <= houses; house++ {
			fits, ok := impl.DoesFit(s, c.clue, house)
			wantTruth(t, "DoesFit in "+c.street+" of "+strconv.Itoa(house), fits, ok, slices.Contains(c.want, house), true)
		}
	}
}

func TestDoesFitFails(t *testing.T) {
	for _, s := range hiddenStreets() {
		houses, _ := impl.HousesOf(s)
		for _, house := range []int{math.MinInt, -1, 0, houses + 1, houses + 2, 100, math.MaxInt} {
			for _, c := range everyClue() {
				fits, ok := impl.DoesFit(s, c, house)
				wantTruth(t, "DoesFit without house", fits, ok, false, false)
			}
		}
		for _, c := range noClues() {
			fits, ok := impl.DoesFit(s, c, 1)
			wantTruth(t, "DoesFit without clue", fits, ok, false, false)
		}
	}
	for _, s := range noHiddenStreets() {
		for _, c := range everyClue() {
			fits, ok := impl.DoesFit(s, c, 1)
			wantTruth(t, "DoesFit without street", fits, ok, false, false)
		}
	}
}

// allBut has all clues but one.
func allBut(list []impl.Clue, k int) []impl.Clue {
	var others []impl.Clue
	for i, c := range list {
		if i != k {
			others = append(others, c)
		}
	}
	return others
}

func needlessByHand(p impl.Puzzle) []int {
	var needless []int
	for k := range p.Clues {
		if slices.Equal(solvedByHand(p.Street, allBut(p.Clues, k)), solvedByHand(p.Street, p.Clues)) {
			needless = append(needless, k)
		}
	}
	return needless
}

// bestByClues has the index of the clue that alone the fewest houses fit.
func bestByClues(p impl.Puzzle) int {
	var counts []int
	for _, c := range p.Clues {
		counts = append(counts, len(solvedByHand(p.Street, []impl.Clue{c})))
	}
	return slices.Index(counts, slices.Min(counts))
}

// harderByHand takes each clue in turn out of those that are kept, and puts it back if the puzzle is not solved then.
func harderByHand(p impl.Puzzle) impl.Puzzle {
	kept := map[int]bool{}
	theKept := func() []impl.Clue {
		var list []impl.Clue
		for k, c := range p.Clues {
			if kept[k] {
				list = append(list, c)
			}
		}
		return list
	}
	for k := range p.Clues {
		kept[k] = true
	}
	for k := range p.Clues {
		kept[k] = false
		kept[k] = len(solvedByHand(p.Street, theKept())) != 1
	}
	return impl.Puzzle{Street: p.Street, Clues: theKept()}
}

// wantSolutions checks all that is told of the solutions of a puzzle.
func wantSolutions(t *testing.T, p impl.Puzzle, want []int) {
	t.Helper()
	what := " of " + puzzleTextByHand(p)
	got, ok := impl.Solutions(p)
	wantList(t, "Solutions"+what, got, ok, want, true)
	count, ok := impl.CountSolutions(p)
	wantNumber(t, "CountSolutions"+what, count, ok, len(want), true)
	solved, ok := impl.IsSolved(p)
	wantTruth(t, "IsSolved"+what, solved, ok, len(want) == 1, true)
	least, greatest := 0, 0
	if len(want) > 0 {
		least, greatest = slices.Min(want), slices.Max(want)
	}
	first, ok := impl.FirstSolution(p)
	wantNumber(t, "FirstSolution"+what, first, ok, least, len(want) > 0)
	from, to, ok := impl.RangeOfSolutions(p)
	wantRange(t, "RangeOfSolutions"+what, from, to, ok, least, greatest, len(want) > 0)
}

// wantClues checks all that is told of the clues of a puzzle.
func wantClues(t *testing.T, p impl.Puzzle) {
	t.Helper()
	what := " of " + puzzleTextByHand(p)
	var left []int
	for many := range len(p.Clues) + 1 {
		left = append(left, len(solvedByHand(p.Street, p.Clues[:many])))
	}
	counts, ok := impl.LeftByClues(p)
	wantList(t, "LeftByClues"+what, counts, ok, left, true)
	needless, ok := impl.NeedlessClues(p)
	wantList(t, "NeedlessClues"+what, needless, ok, needlessByHand(p), true)
	if len(p.Clues) > 0 {
		best, ok := impl.BestClue(p)
		wantNumber(t, "BestClue"+what, best, ok, bestByClues(p), true)
	}
	for k := range p.Clues {
		dropped, ok := impl.DropClue(p, k)
		wantPuzzle(t, "DropClue"+what, dropped, ok, impl.Puzzle{Street: p.Street, Clues: allBut(p.Clues, k)}, true)
	}
}

// wantHarder checks the harder puzzle, which is solved by the same house and of which each clue is needed.
func wantHarder(t *testing.T, p impl.Puzzle) impl.Puzzle {
	t.Helper()
	what := "HarderPuzzle of " + puzzleTextByHand(p)
	solutions := solvedByHand(p.Street, p.Clues)
	harder, ok := impl.HarderPuzzle(p)
	if len(solutions) != 1 {
		wantPuzzle(t, what, harder, ok, impl.Puzzle{}, false)
		return harder
	}
	wantPuzzle(t, what, harder, ok, harderByHand(p), true)
	wantSolutions(t, harder, solutions)
	needless, ok := impl.NeedlessClues(harder)
	wantList(t, "NeedlessClues behind "+what, needless, ok, nil, true)
	again, ok := impl.HarderPuzzle(harder)
	wantPuzzle(t, "again "+what, again, ok, harder, true)
	return harder
}

func TestAllPuzzles(t *testing.T) {
	seen := map[string]int{}
	for _, p := range allPuzzles() {
		solutions := solvedByHand(p.Street, p.Clues)
		wantSolutions(t, p, solutions)
		wantClues(t, p)
		harder := wantHarder(t, p)
		needless := needlessByHand(p)
		for what, is := range map[string]bool{
			"no solution": len(solutions) == 0, "one solution": len(solutions) == 1, "several solutions": len(solutions) > 1,
			"all needless": len(p.Clues) > 2 && len(needless) == len(p.Clues), "none needless": len(p.Clues) > 2 && len(needless) == 0, "some needless": len(needless) > 0 && len(needless) < len(p.Clues),
			"nothing to drop": len(p.Clues) > 1 && len(solutions) == 1 && len(harder.Clues) == len(p.Clues), "all to drop": len(p.Clues) > 1 && len(solutions) == 1 && len(harder.Clues) == 0,
			"something to drop": len(harder.Clues) > 0 && len(harder.Clues) < len(p.Clues),
		} {
			if is {
				seen[what]++
			}
		}
	}
	for _, what := range []string{
		"no solution", "one solution", "several solutions", "all needless", "none needless", "some needless", "nothing to drop", "all to drop", "something to drop",
	} {
		if seen[what] < 10 {
			t.Errorf("%d puzzles with %s", seen[what], what)
		}
	}
}

// A solution fits all clues, and all other houses do not.
func TestSolutionsFitAllClues(t *testing.T) {
	for _, p := range allPuzzles() {
		solutions, _ := impl.Solutions(p)
		houses, _ := impl.HousesOf(p.Street)
		for house := 1; house <= houses; house++ {
			all := true
			for _, c := range p.Clues {
				fits, ok := impl.DoesFit(p.Street, c, house)
				if !ok {
					t.Fatalf("DoesFit of %v and %d fails", c, house)
				}
				all = all && fits
			}
			if slices.Contains(solutions, house) != all {
				t.Errorf("Solutions of %v are %v", p, solutions)
			}
		}
	}
}

func TestPuzzlesThatAreKnown(t *testing.T) {
	for _, c := range []struct {
		text      string
		solutions []int
		left      []int
		needless  []int
		best      int // of no clues: -1
		harder    string
	}{
		{"r1;", []int{1}, []int{1}, nil, -1, "r1;"},
		{"o1;", []int{1, 2}, []int{2}, nil, -1, ""},
		{"u1;0.0.1", []int{2}, []int{2, 1}, nil, 0, "u1;0.0.1"},
		{"r1;0.0.0,1.0.0,2.2.0,3.0.1,4.40.0,5.0.0", []int{1}, []int{1, 1, 1, 1, 1, 1, 1}, numbersUpTo(6), 0, "r1;"},
		{"r1;5.0.1", nil, []int{1, 0}, nil, 0, ""},
		{"o10;0.0.1,2.5.1", []int{10, 20}, []int{20, 10, 2}, nil, 1, ""},
		{"o10;0.0.1,2.5.1,4.15.0", []int{10}, []int{20, 10, 2, 1}, nil, 1, "o10;0.0.1,2.5.1,4.15.0"},
		{"o10;5.0.4", []int{3}, []int{20, 1}, nil, 0, "o10;5.0.4"},
		{"o10;5.0.4,5.0.4", []int{3}, []int{20, 1, 1}, []int{0, 1}, 0, "o10;5.0.4"},
		{"o10;0.0.0,0.0.1", nil, []int{20, 10, 0}, nil, 0, ""},
		{"o10;0.0.0,0.0.1,0.0.0", nil, []int{20, 10, 0, 0}, []int{0, 2}, 0, ""},
		{"o10;0.0.0,0.0.1,5.0.0", nil, []int{20, 10, 0, 0}, []int{0, 1, 2}, 2, ""},
		{"r10;1.0.4,4.4.1,4.5.0", []int{5}, []int{10, 1, 1, 1}, []int{0, 1, 2}, 0, "r10;4.4.1,4.5.0"},
		{"r10;4.4.1,1.0.4,4.5.0", []int{5}, []int{10, 6, 1, 1}, []int{0, 1, 2}, 1, "r10;1.0.4"},
		{"r10;0.0.0,1.0.4,4.4.1,4.5.0", []int{5}, []int{10, 10, 1, 1, 1}, numbersUpTo(4), 1, "r10;4.4.1,4.5.0"},
		{"r10;3.0.5,1.0.4", []int{5}, []int{10, 1, 1}, []int{0, 1}, 0, "r10;1.0.4"},
		{"r10;1.0.4,3.0.5", []int{5}, []int{10, 1, 1}, []int{0, 1}, 0, "r10;3.0.5"},
		{"r10;1.0.4,4.4.1,2.5.1,4.9.0", []int{5}, []int{10, 1, 1, 1, 1}, numbersUpTo(4), 0, "r10;2.5.1,4.9.0"},
		{"r10;1.0.4,2.5.1,4.9.0", []int{5}, []int{10, 1, 1, 1}, []int{0, 1, 2}, 0, "r10;2.5.1,4.9.0"},
		{"o20;1.0.19,0.0.1,3.0.4", []int{40}, []int{40, 2, 1, 1}, []int{1, 2}, 0, "o20;1.0.19,3.0.4"},
		{"r5;4.2.1,4.2.0", nil, []int{5, 3, 0}, nil, 1, ""},
		{"r5;4.2.1,2.2.0,4.3.1", []int{5}, []int{5, 3, 2, 1}, []int{0}, 2, "r5;2.2.0,4.3.1"},
		{"r5;1.0.20", nil, []int{5, 0}, nil, 0, ""},
		{"r5;5.0.0,5.0.0", []int{1, 2, 3, 4, 5}, []int{5, 5, 5}, []int{0, 1}, 0, ""},
	} {
		p := puzzle(t, c.text)
		wantSolutions(t, p, c.solutions)
		counts, ok := impl.LeftByClues(p)
		wantList(t, "LeftByClues of "+c.text, counts, ok, c.left, true)
		needless, ok := impl.NeedlessClues(p)
		wantList(t, "NeedlessClues of "+c.text, needless, ok, c.needless, true)
		best, ok := impl.BestClue(p)
		wantNumber(t, "BestClue of "+c.text, best, ok, max(c.best, 0), c.best >= 0)
		harder, ok := impl.HarderPuzzle(p)
		if c.harder == "" {
			wantPuzzle(t, "HarderPuzzle of "+c.text, harder, ok, impl.Puzzle{}, false)
			continue
		}
		wantPuzzle(t, "HarderPuzzle of "+c.text, harder, ok, puzzle(t, c.harder), true)
	}
}

func TestBestClueFailsWithoutClues(t *testing.T) {
	for _, s := range hiddenStreets() {
		best, ok := impl.BestClue(impl.Puzzle{Street: s})
		wantNumber(t, "BestClue of none", best, ok, 0, false)
		best, ok = impl.BestClue(impl.Puzzle{Street: s, Clues: []impl.Clue{}})
		wantNumber(t, "BestClue of none", best, ok, 0, false)
	}
}

func TestDropClueFailsWithoutClue(t *testing.T) {
	for _, p := range slices.Concat(somePuzzles(), noPuzzles()) {
		for _, k := range []int{math.MinInt, -1, len(p.Clues), len(p.Clues) + 1, 6, math.MaxInt} {
			dropped, ok := impl.DropClue(p, k)
			wantPuzzle(t, "DropClue of none", dropped, ok, impl.Puzzle{}, false)
		}
	}
}

func TestAddClue(t *testing.T) {
	for _, p := range slices.Concat(truePuzzles(), mixedPuzzles()) {
		for many := range len(p.Clues) {
			begun := impl.Puzzle{Street: p.Street, Clues: slices.Clone(p.Clues[:many])}
			longer, ok := impl.AddClue(begun, p.Clues[many])
			wantPuzzle(t, "AddClue", longer, ok, impl.Puzzle{Street: p.Street, Clues: p.Clues[:many+1]}, true)
			shorter, ok := impl.DropClue(longer, many)
			wantPuzzle(t, "DropClue behind AddClue", shorter, ok, begun, true)
		}
	}
	for _, s := range theShortAndTheLong() {
		for _, c := range everyClue() {
			for many := range 7 {
				p := impl.Puzzle{Street: s, Clues: slices.Repeat([]impl.Clue{c}, many)}
				longer, ok := impl.AddClue(p, c)
				if many == 6 {
					wantPuzzle(t, "AddClue to MaxClues", longer, ok, impl.Puzzle{}, false)
					continue
				}
				wantPuzzle(t, "AddClue", longer, ok, impl.Puzzle{Street: s, Clues: slices.Repeat([]impl.Clue{c}, many+1)}, true)
			}
		}
	}
}

func TestAddClueFails(t *testing.T) {
	for _, s := range theShortAndTheLong() {
		for _, c := range noClues() {
			for _, list := range [][]impl.Clue{nil, clues([3]int{0, 0, 0}), clues([3]int{0, 0, 0}, [3]int{4, 3, 1})} {
				longer, ok := impl.AddClue(impl.Puzzle{Street: s, Clues: list}, c)
				wantPuzzle(t, "AddClue of none", longer, ok, impl.Puzzle{}, false)
			}
		}
	}
	for _, p := range noPuzzles() {
		longer, ok := impl.AddClue(p, impl.Clue{Kind: 4, A: 2, B: 1})
		wantPuzzle(t, "AddClue to none", longer, ok, impl.Puzzle{}, false)
	}
}

// Behind the end of the clues there is room, in which nothing is to be written, and the lists that come back are to be other ones, also where they have the same clues.
func TestPuzzlesKeepTheirClues(t *testing.T) {
	for _, first := range []impl.Clue{{Kind: 0, B: 0}, {Kind: 5, B: 4}} {
		room := append([]impl.Clue{first}, clues([3]int{4, 9, 0}, [3]int{1, 0, 1}, [3]int{3, 0, 3}, [3]int{2, 5, 0}, [3]int{5, 0, 4})...)
		before := slices.Clone(room)
		for many := range 6 {
			p := impl.Puzzle{Street: impl.Street{Kind: 1, Plots: 10}, Clues: room[:many]}
			changed, ok := impl.AddClue(p, impl.Clue{Kind: 0, B: 0})
			results := []impl.Puzzle{changed}
			for k := range many {
				changed, dropped := impl.DropClue(p, k)
				results, ok = append(results, changed), ok && dropped
			}
			if harder, solved := impl.HarderPuzzle(p); solved {
				results = append(results, harder)
			}
			for _, result := range results {
				for k := range result.Clues {
					result.Clues[k] = impl.Clue{Kind: 9, A: 9, B: 9}
				}
			}
			if !ok || !slices.Equal(room, before) {
				t.Fatalf("of %d clues: %v, %t; want %v", many, room, ok, before)
			}
		}
	}
}

// madeByHand finds all else of a clue by trying which ones the house fits.
func madeByHand(t *testing.T, s impl.Street, house, many, seed int) impl.Puzzle {
	t.Helper()
	h := hiddenIn(s)[house-1]
	p := impl.Puzzle{Street: s}
	var numbers []int
	for range 2 * many {
		seed = (seed*233 + 1871) % 10007
		numbers = append(numbers, seed)
	}
	for k := range many {
		kind, y := numbers[2*k]%6, numbers[2*k+1]
		fitted := slices.DeleteFunc(everyClue(), func(c impl.Clue) bool {
			isOther := c.Kind != kind || kind == 2 && c.A != y%8+2 || kind == 4 && c.A != y%40+1
			return isOther || !fitsByHand(h, c)
		})
		if len(fitted) != 1 {
			t.Fatalf("%d fits %v of the kind %d in %v", house, fitted, kind, s)
		}
		p.Clues = append(p.Clues, fitted...)
	}
	return p
}

// wantMade checks a made puzzle, and that the hidden house fits its clues.
func wantMade(t *testing.T, s impl.Street, house, many, seed int) impl.Puzzle {
	t.Helper()
	got, ok := impl.MakePuzzle(s, house, many, seed)
	wantPuzzle(t, "MakePuzzle in "+puzzleTextByHand(impl.Puzzle{Street: s})+" of "+listText([]int{house, many, seed}), got, ok, madeByHand(t, s, house, many, seed), true)
	solutions, ok := impl.Solutions(got)
	if !ok || !slices.Contains(solutions, house) || len(got.Clues) != many {
		t.Errorf("MakePuzzle of %d and %d with %d: solutions %v, %t", house, many, seed, solutions, ok)
	}
	return got
}

func TestMakePuzzleOfAllHouses(t *testing.T) {
	for _, s := range hiddenStreets() {
		for _, h := range hiddenIn(s) {
			for _, seed := range []int{0, 1, 7, 1234, 5000 + 31*h.number, 9998, 9999} {
				longest := wantMade(t, s, h.number, 6, seed)
				for many := range 6 {
					got, ok := impl.MakePuzzle(s, h.number, many, seed)
					wantPuzzle(t, "MakePuzzle", got, ok, impl.Puzzle{Street: s, Clues: longest.Clues[:many]}, true)
				}
			}
		}
	}
}

func TestMakePuzzleWithAllSeeds(t *testing.T) {
	kinds := map[int]int{}
	for seed := 0; seed <= 9999; seed++ {
		for many, s := range theShortAndTheLong()[9:] {
			house := 1 + (seed+many)%len(hiddenIn(s))
			for _, c := range wantMade(t, s, house, many+1, seed).Clues {
				kinds[c.Kind]++
			}
		}
	}
	for kind := range 6 {
		if kinds[kind] < 1000 {
			t.Errorf("%d made clues of the kind %d", kinds[kind], kind)
		}
	}
}

func TestMadePuzzlesThatAreKnown(t *testing.T) {
	for _, c := range []struct {
		street            string
		house, many, seed int
		want              string
	}{
		{"o10", 10, 6, 0, "o10;5.0.9,5.0.9,3.0.1,4.23.0,5.0.9,2.8.0"},
		{"u20", 21, 6, 9999, "u20;1.0.19,4.39.0,2.2.0,1.0.19,0.0.1,0.0.1"},
		{"r5", 3, 6, 1, "r5;4.1.1,2.7.0,1.0.2,1.0.2,5.0.0,1.0.2"},
		{"u5", 8, 6, 1234, "u5;5.0.3,5.0.3,3.0.8,0.0.1,3.0.8,1.0.2"},
		{"o20", 39, 6, 77, "o20;1.0.19,5.0.40,1.0.19,2.7.0,5.0.40,5.0.40"},
		{"r1", 1, 6, 5000, "r1;5.0.0,3.0.1,4.13.0,4.20.0,3.0.1,4.8.0"},
		{"u20", 40, 6, 42, "u20;0.0.1,1.0.0,3.0.4,0.0.1,4.4.1,5.0.1"},
		{"o10", 10, 0, 3, "o10;"},
		{"o10", 10, 1, 3, "o10;2.7.0"},
	} {
		got, ok := impl.MakePuzzle(street(t, c.street), c.house, c.many, c.seed)
		wantText(t, "MakePuzzle in "+c.street+" of "+listText([]int{c.house, c.many, c.seed}), puzzleTextByHand(got), ok, c.want, true)
	}
}

func TestMakePuzzleFails(t *testing.T) {
	wantNone := func(s impl.Street, house, many, seed int) {
		t.Helper()
		got, ok := impl.MakePuzzle(s, house, many, seed)
		wantPuzzle(t, "MakePuzzle in "+puzzleTextByHand(impl.Puzzle{Street: s})+" of "+listText([]int{house, many, seed}), got, ok, impl.Puzzle{}, false)
	}
	for _, s := range hiddenStreets() {
		for _, seed := range []int{math.MinInt, -10007, -9999, -1, 10000, 10006, 10007, 1000000, math.MaxInt - 1, math.MaxInt} {
			for many := range 7 {
				wantNone(s, 1, many, seed)
			}
		}
		for _, many := range []int{math.MinInt, -1, 7, 8, 5000, math.MaxInt} {
			wantNone(s, 1, many, 5)
		}
		houses, _ := impl.HousesOf(s)
		for _, house := range []int{math.MinInt, -1, 0, houses + 1, 41, math.MaxInt} {
			wantNone(s, house, 0, 5)
			wantNone(s, house, 6, 5)
		}
	}
	for _, s := range noHiddenStreets() {
		wantNone(s, 1, 0, 0)
		wantNone(s, 1, 6, 5)
	}
}

func TestPuzzleTextsAreReadAgain(t *testing.T) {
	puzzles := allPuzzles()
	for _, s := range hiddenStreets() {
		puzzles = append(puzzles, impl.Puzzle{Street: s}, impl.Puzzle{Street: s, Clues: []impl.Clue{}})
	}
	for _, p := range puzzles {
		text, ok := impl.PuzzleText(p)
		wantText(t, "PuzzleText", text, ok, puzzleTextByHand(p), true)
		again, ok := impl.ParsePuzzle(text)
		wantPuzzle(t, "ParsePuzzle of "+text, again, ok, p, true)
	}
	for _, p := range noPuzzles() {
		text, ok := impl.PuzzleText(p)
		wantText(t, "PuzzleText of none", text, ok, "", false)
		again, ok := impl.ParsePuzzle(puzzleTextByHand(p))
		wantPuzzle(t, "ParsePuzzle of "+puzzleTextByHand(p), again, ok, impl.Puzzle{}, false)
	}
}

func TestParsePuzzleFails(t *testing.T) {
	for _, text := range []string{
		"", " ", ";", "o10", "o10,", "o10:", ";0.0.1", "10;", "o;", "x10;", "O10;", "o010;", "o-5;", "o+5;", "o0;", "o21;", "u21;0.0.1", "r1000;", "o1001;", "o99999999999999999999;", " o10;", "o10 ;", "o10; ", "o10;\n", "o10;;",
		"o10;0.0.1;", "o10;;0.0.1", "o10;0.0.1;2.5.1", "o10;,", "o10;,0.0.1", "o10;0.0.1,", "o10;0.0.1,,2.5.1", "o10;0", "o10;0.0", "o10;0.0.", "o10;.0.1", "o10;0..1", "o10;..", "o10;.", "o10;0.0.1.", "o10;0.0.1.0", "o10;0.0.1.2.5.1",
		"o10;0.0.1,2.5", "o10;0,0,1", "o10;0-0-1", "o10;001", "o10;00.0.1", "o10;0.00.1", "o10;0.0.01", "o10;+0.0.1", "o10;0.0.+1", "o10;-0.0.1", "o10;0.-0.1", "o10;0.0.-1", "o10; 0.0.1", "o10;0. 0.1", "o10;0.0.1 ", "o10;0.0.1, 2.5.1",
		"o10;0.0.2", "o10;0.1.1", "o10;1.0.21", "o10;2.1.1", "o10;2.10.1", "o10;2.5.2", "o10;3.0.0", "o10;3.0.14", "o10;4.0.1", "o10;4.41.1", "o10;5.0.41", "o10;5.1.4", "o10;6.0.0", "o10;-1.0.0", "o10;0.0.1,2.5.2", "o10;2.5.2,0.0.1",
		"o10;0.0.99999999999999999999", "o10;99999999999999999999.0.1", "o10;0.99999999999999999999.1", "o10;0.0.18446744073709551617", "o10;a.0.1", "o10;0.b.1", "o10;0.0.c", "o10;0.0.0x1", "o10;4.1e1.1", "o10;4.1_0.1", "o10;4.1５.0", "ö10;0.0.1",
		"\x00", "o10;\x00", "o10;0.0.1\x00", "\xff", "o10\xff;", "o10;0.0.\xff", "o10;0.0.1\n", "o10\n;0.0.1", "o10;0.0.1,0.0.1,0.0.1,0.0.1,0.0.1,0.0.1,0.0.1", strings.Repeat("o10;", 5000), "o10;" + strings.Repeat("0.0.1,", 5000) + "0.0.1",
		"o10;" + strings.Repeat(",", 5000), "o10;" + strings.Repeat(".", 5000), strings.Repeat(";", 5000), "o" + strings.Repeat("9", 5000) + ";", "o10;0.0." + strings.Repeat("0", 5000) + "1",
	} {
		got, ok := impl.ParsePuzzle(text)
		if ok || !samePuzzle(got, impl.Puzzle{}) {
			t.Errorf("ParsePuzzle of %q is %v, %t", text, got, ok)
		}
	}
}

func TestNothingIsToldOfWhatIsNoPuzzle(t *testing.T) {
	for _, p := range noPuzzles() {
		for name, f := range map[string]func(impl.Puzzle) ([]int, bool){"Solutions": impl.Solutions, "NeedlessClues": impl.NeedlessClues, "LeftByClues": impl.LeftByClues} {
			got, ok := f(p)
			wantList(t, name+" of no puzzle", got, ok, nil, false)
		}
		for name, f := range map[string]func(impl.Puzzle) (int, bool){"CountSolutions": impl.CountSolutions, "FirstSolution": impl.FirstSolution, "BestClue": impl.BestClue} {
			got, ok := f(p)
			wantNumber(t, name+" of no puzzle", got, ok, 0, false)
		}
		least, greatest, ok := impl.RangeOfSolutions(p)
		wantRange(t, "RangeOfSolutions of no puzzle", least, greatest, ok, 0, 0, false)
		solved, ok := impl.IsSolved(p)
		wantTruth(t, "IsSolved of no puzzle", solved, ok, false, false)
		harder, ok := impl.HarderPuzzle(p)
		wantPuzzle(t, "HarderPuzzle of no puzzle", harder, ok, impl.Puzzle{}, false)
		for k := range min(len(p.Clues), 7) {
			dropped, ok := impl.DropClue(p, k)
			wantPuzzle(t, "DropClue of no puzzle", dropped, ok, impl.Puzzle{}, false)
		}
	}
}

func TestExampleOfChapter9(t *testing.T) {
	p := puzzle(t, "o10;0.0.1,2.5.1")
	wantPuzzle(t, "ParsePuzzle", p, true, impl.Puzzle{Street: impl.Street{Kind: 1, Plots: 10}, Clues: clues([3]int{0, 0, 1}, [3]int{2, 5, 1})}, true)
	wantSolutions(t, p, []int{10, 20})
	left, ok := impl.LeftByClues(p)
	wantList(t, "LeftByClues", left, ok, []int{20, 10, 2}, true)
	least, greatest, ok := impl.RangeOfSolutions(p)
	wantRange(t, "RangeOfSolutions", least, greatest, ok, 10, 20, true)
	more, ok := impl.AddClue(p, impl.Clue{Kind: 4, A: 15, B: 0})
	wantPuzzle(t, "AddClue", more, ok, puzzle(t, "o10;0.0.1,2.5.1,4.15.0"), true)
	wantSolutions(t, more, []int{10})
	wantSolutions(t, puzzle(t, "o10;5.0.4"), []int{3})
}
