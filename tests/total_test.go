package tests

import (
	"go/ast"
	"go/parser"
	"go/token"
	"math"
	"reflect"
	"slices"
	"strings"
	"testing"

	"loop.example/g01336/impl"
)

// Promise 11: every function accepts all arguments without panicking and modifies none of them.

func functionsOfChapter1() map[string]any {
	return map[string]any{
		"IsStreet": impl.IsStreet, "HousesOf": impl.HousesOf, "NumberAt": impl.NumberAt, "PlotOf": impl.PlotOf,
		"OppositeOf": impl.OppositeOf, "NextHouses": impl.NextHouses, "WalkBetween": impl.WalkBetween,
		"SideNumbers": impl.SideNumbers, "SideSum": impl.SideSum, "DigitsOnPlates": impl.DigitsOnPlates,
		"CountDigit": impl.CountDigit, "LastWithDigits": impl.LastWithDigits, "PlatesFrom": impl.PlatesFrom,
		"BalancedHouse": impl.BalancedHouse, "BalancedStreets": impl.BalancedStreets, "SumBetween": impl.SumBetween,
		"RangesWithSum": impl.RangesWithSum, "StreetText": impl.StreetText, "ParseStreet": impl.ParseStreet,
	}
}

func functionsOfChapter2() map[string]any {
	return map[string]any{
		"IsPlate": impl.IsPlate, "ComparePlates": impl.ComparePlates, "NextPlate": impl.NextPlate,
		"CountBetween": impl.CountBetween, "MiddlePlate": impl.MiddlePlate, "ArePlates": impl.ArePlates,
		"PlaceOfPlate": impl.PlaceOfPlate, "InsertBehind": impl.InsertBehind, "RoomBehind": impl.RoomBehind,
		"AddPlate": impl.AddPlate, "DropPlate": impl.DropPlate, "GapsOfPlates": impl.GapsOfPlates,
		"LettersOf": impl.LettersOf, "RenumberPlates": impl.RenumberPlates, "OldPlate": impl.OldPlate,
		"JoinPlates": impl.JoinPlates, "PartPlates": impl.PartPlates, "PlateText": impl.PlateText,
		"ParsePlate": impl.ParsePlate, "PlatesText": impl.PlatesText, "ParsePlates": impl.ParsePlates,
	}
}

func functionsOfChapter3() map[string]any {
	return map[string]any{
		"AreDeliveries": impl.AreDeliveries, "CountDelivered": impl.CountDelivered, "FewestCrossings": impl.FewestCrossings,
		"RouteSides": impl.RouteSides, "CountRoutes": impl.CountRoutes, "RouteCost": impl.RouteCost,
		"RouteCrossings": impl.RouteCrossings, "AroundCost": impl.AroundCost, "AroundIsBetter": impl.AroundIsBetter,
		"MirrorDeliveries": impl.MirrorDeliveries, "BackDeliveries": impl.BackDeliveries, "JoinDeliveries": impl.JoinDeliveries,
		"BusiestPart": impl.BusiestPart, "LongestFree": impl.LongestFree, "DeliveriesOf": impl.DeliveriesOf,
		"NumbersOf": impl.NumbersOf, "RouteNumbers": impl.RouteNumbers,
	}
}

func functionsOfChapter4() map[string]any {
	return map[string]any{
		"IsCity": impl.IsCity, "CornerDistance": impl.CornerDistance, "DetourOf": impl.DetourOf, "CountShortestWays": impl.CountShortestWays,
		"FirstShortestWay": impl.FirstShortestWay, "WalkWord": impl.WalkWord, "BackWay": impl.BackWay, "CornersReached": impl.CornersReached,
		"IsWholeCity": impl.IsWholeCity, "FarthestCorner": impl.FarthestCorner, "MeetingCorner": impl.MeetingCorner, "CenterCorner": impl.CenterCorner,
		"CloseBlock": impl.CloseBlock, "OpenBlock": impl.OpenBlock, "NeededBlocks": impl.NeededBlocks, "BestToOpen": impl.BestToOpen,
		"MirrorCity": impl.MirrorCity, "CityText": impl.CityText, "ParseCity": impl.ParseCity,
	}
}

func functionsOfChapter5() map[string]any {
	return map[string]any{
		"ArePeople": impl.ArePeople, "WalksTo": impl.WalksTo, "BestHouses": impl.BestHouses, "FarthestTo": impl.FarthestTo,
		"CenterHouses": impl.CenterHouses, "BoxesSum": impl.BoxesSum, "BoxOfEach": impl.BoxOfEach, "LeastBoxesSum": impl.LeastBoxesSum,
		"FirstBoxes": impl.FirstBoxes, "FarthestBoxes": impl.FarthestBoxes, "FewestBoxes": impl.FewestBoxes, "PeopleWithin": impl.PeopleWithin,
		"MeanHouse": impl.MeanHouse, "SumTable": impl.SumTable, "MovedPeople": impl.MovedPeople, "MirrorPeople": impl.MirrorPeople,
		"PeopleText": impl.PeopleText, "ParsePeople": impl.ParsePeople,
	}
}

func functionsOfChapter6() map[string]any {
	return map[string]any{
		"AreWays": impl.AreWays, "CanDrive": impl.CanDrive, "DriveWord": impl.DriveWord, "DriveDistance": impl.DriveDistance,
		"FirstDrive": impl.FirstDrive, "CountDrives": impl.CountDrives, "FewestTurns": impl.FewestTurns, "TurnsOfWord": impl.TurnsOfWord,
		"ThereAndBack": impl.ThereAndBack, "DrivenFrom": impl.DrivenFrom, "IsWholeWays": impl.IsWholeWays, "HasRing": impl.HasRing,
		"RoundOfBlock": impl.RoundOfBlock, "CountRounds": impl.CountRounds, "TurnWay": impl.TurnWay, "BackWays": impl.BackWays,
		"CountWholeWays": impl.CountWholeWays, "LongestDrive": impl.LongestDrive, "WaysText": impl.WaysText, "ParseWays": impl.ParseWays,
	}
}

func functionsOfChapter7() map[string]any {
	return map[string]any{
		"AreCosts": impl.AreCosts, "LeastPaint": impl.LeastPaint, "FirstPaint": impl.FirstPaint, "CountPaint": impl.CountPaint, "IsPainted": impl.IsPainted,
		"CountPaintings": impl.CountPaintings, "BestLoot": impl.BestLoot, "FirstLoot": impl.FirstLoot, "IsLoot": impl.IsLoot, "CountLoots": impl.CountLoots,
		"FewestLamps": impl.FewestLamps, "FirstLamps": impl.FirstLamps, "CountLamps": impl.CountLamps, "LitBy": impl.LitBy, "FewestGuards": impl.FewestGuards,
		"TurnRow": impl.TurnRow, "IsLitRow": impl.IsLitRow,
	}
}

func functionsOfChapter8() map[string]any {
	return map[string]any{
		"AreParcels": impl.AreParcels, "IsBagPlan": impl.IsBagPlan, "TripsOfPlan": impl.TripsOfPlan, "LengthOfPlan": impl.LengthOfPlan,
		"LengthWithoutBack": impl.LengthWithoutBack, "WeightsOfTrips": impl.WeightsOfTrips, "FewestTrips": impl.FewestTrips, "FirstFewestPlan": impl.FirstFewestPlan,
		"LeastLength": impl.LeastLength, "FirstShortestPlan": impl.FirstShortestPlan, "CountShortestPlans": impl.CountShortestPlans, "PackInOrder": impl.PackInOrder,
		"PackFarthestFirst": impl.PackFarthestFirst, "TripsBound": impl.TripsBound, "LightestBag": impl.LightestBag, "LettersLength": impl.LettersLength,
		"LettersTrips": impl.LettersTrips, "NamedPlan": impl.NamedPlan, "ParcelsText": impl.ParcelsText, "ParseParcels": impl.ParseParcels,
	}
}

func functionsOfChapter9() map[string]any {
	return map[string]any{
		"IsClue": impl.IsClue, "IsPuzzle": impl.IsPuzzle, "DoesFit": impl.DoesFit, "Solutions": impl.Solutions, "CountSolutions": impl.CountSolutions, "FirstSolution": impl.FirstSolution,
		"RangeOfSolutions": impl.RangeOfSolutions, "IsSolved": impl.IsSolved, "NeedlessClues": impl.NeedlessClues, "DropClue": impl.DropClue, "AddClue": impl.AddClue, "LeftByClues": impl.LeftByClues,
		"BestClue": impl.BestClue, "HarderPuzzle": impl.HarderPuzzle, "MakePuzzle": impl.MakePuzzle, "PuzzleText": impl.PuzzleText, "ParsePuzzle": impl.ParsePuzzle,
	}
}

func functionsOfChapter10() map[string]any {
	return map[string]any{
		"FirstDesk": impl.FirstDesk, "IsDesk": impl.IsDesk, "DeskLine": impl.DeskLine, "RunScript": impl.RunScript, "DeskAfter": impl.DeskAfter, "FailedLines": impl.FailedLines,
	}
}

// functionsByFile has the functions of all chapters, by the file of each chapter.
func functionsByFile() map[string]map[string]any {
	return map[string]map[string]any{
		"l1_number.go":   functionsOfChapter1(),
		"l2_insert.go":   functionsOfChapter2(),
		"l3_post.go":     functionsOfChapter3(),
		"l4_avenue.go":   functionsOfChapter4(),
		"l5_median.go":   functionsOfChapter5(),
		"l6_oneway.go":   functionsOfChapter6(),
		"l7_row.go":      functionsOfChapter7(),
		"l8_bag.go":      functionsOfChapter8(),
		"l9_puzzle.go":   functionsOfChapter9(),
		"l10_console.go": functionsOfChapter10(),
	}
}

// eachFunction runs a test for each function of each chapter.
func eachFunction(t *testing.T, test func(t *testing.T, name string, function reflect.Value)) {
	for _, functions := range functionsByFile() {
		for name, f := range functions {
			t.Run(name, func(t *testing.T) { test(t, name, reflect.ValueOf(f)) })
		}
	}
}

func someInts() []any {
	return []any{
		math.MinInt, math.MinInt + 1, -1000000, -1, 0, 1, 2, 5, 8, 9, 10, 11, 15, 58, 59, 60, 61, 1000, 1001,
		9999, 10000, 100000, 100001, 1000000, 1000001, math.MaxInt32 + 1, math.MaxInt - 1, math.MaxInt,
	}
}

func manyStreets() []any {
	var streets []any
	for _, kind := range []int{math.MinInt, -1, 0, 1, 2, 3, math.MaxInt} {
		for _, plots := range []int{math.MinInt, -1, 0, 1, 2, 5, 20, 21, 60, 61, 1000, 1001, math.MaxInt} {
			streets = append(streets, impl.Street{Kind: kind, Plots: plots})
		}
	}
	return streets
}

func manyPlates() []any {
	var plates []any
	for _, number := range []int{math.MinInt, -1, 0, 1, 12, 13, 9999, 10000, math.MaxInt} {
		for _, letter := range []int{math.MinInt, -1, 0, 1, 3, 26, 27, math.MaxInt} {
			plates = append(plates, impl.Plate{Number: number, Letter: letter})
		}
	}
	return plates
}

// spacious copies a list to the beginning of one with room behind its end, full of behind.
func spacious[T any](list []T, behind T) []T {
	const room = 7
	whole := append([]T(nil), list...)
	for range room {
		whole = append(whole, behind)
	}
	return whole[:len(list)]
}

// somePlateLists are given with room behind their ends, with a plate there that would fit.
func somePlateLists() []any {
	lists := []any{[]impl.Plate(nil)}
	for _, list := range [][]impl.Plate{
		platesOf(), platesOf([2]int{1, 0}), platesOf([2]int{9999, 26}), platesOf([2]int{12, 0}, [2]int{12, 3}, [2]int{15, 0}),
		platesOf([2]int{12, 25}, [2]int{12, 26}, [2]int{13, 0}), platesOf([2]int{1, 0}, [2]int{9999, 26}),
		platesOf([2]int{12, 3}, [2]int{12, 0}), platesOf([2]int{12, 0}, [2]int{12, 0}), platesOf([2]int{0, 0}),
		platesOf([2]int{12, 27}), platesOf([2]int{12, -1}), platesOf([2]int{12, 0}, [2]int{10000, 0}),
		platesOf([2]int{math.MinInt, math.MinInt}, [2]int{math.MaxInt, math.MaxInt}), platesOf([2]int{12, math.MaxInt}),
		numbered(59), numbered(60), numbered(61), numbered(5000),
	} {
		lists = append(lists, spacious(list, impl.Plate{Number: 9999, Letter: 26}))
	}
	return lists
}

// platesOf has plates, or what are none, by their numbers and letters.
func platesOf(pairs ...[2]int) []impl.Plate {
	var list []impl.Plate
	for _, pair := range pairs {
		list = append(list, impl.Plate{Number: pair[0], Letter: pair[1]})
	}
	return list
}

// numbered has plates without letters, even more than a list may have.
func numbered(count int) []impl.Plate {
	var list []impl.Plate
	for number := 1; number <= count; number++ {
		list = append(list, impl.Plate{Number: number})
	}
	return list
}

// someLists are given with room behind their ends, where a function that appends to an argument would write.
func someLists() []any {
	lists := []any{[]int(nil), []int{}}
	for _, number := range []int{math.MinInt, -1, 0, 1, 20, 100000, 100001, math.MaxInt} {
		for _, length := range []int{1, 2, 5, 9, 10, 11, 60, 61, 1000} {
			lists = append(lists, spacious(slices.Repeat([]int{number}, length), number))
		}
	}
	for _, list := range [][]int{
		{0, 1, 0, 0, 0}, {1, 4, 5, 6, 9}, {1, 2}, {1, 120}, {2, 1}, {9, 8, 7, 6, 5, 4, 3, 20, 1, 0},
		{0, 2}, {0, 3}, {0, 1, 2}, {2, 7, 9, 3, 1}, {4, 0, 4}, numbersUpTo(20), {0, 19}, {0, 20}, {-1, 0},
	} {
		lists = append(lists, spacious(list, list[len(list)-1]+1))
	}
	return append(lists, somePeople()...)
}

// somePeople are given with room behind their ends, where more people and more boxes would fit.
func somePeople() []any {
	lists := []any{[]int(nil)}
	for _, list := range [][]int{
		{1}, {0, 0, 1}, {1, 0, 0, 2, 1}, {1000, 0, 999, 1}, {1, 2, 4}, {0, 3}, slices.Repeat([]int{0}, 60), slices.Repeat([]int{1, 0, 1000}, 20),
		slices.Repeat([]int{1000}, 60), slices.Repeat([]int{1}, 61), {-1, 1}, {1, 1001}, {math.MinInt, 1}, {1, math.MaxInt, math.MaxInt},
	} {
		lists = append(lists, spacious(list, 5))
	}
	return lists
}

// someCorners are given with room behind their ends, with a number there that would fit.
func someCorners() []any {
	lists := []any{[]int(nil), []int{}, slices.Repeat([]int{0}, 100)}
	for _, list := range [][]int{
		{0}, {0, 0}, {1, 0}, {0, 1}, {1, 1}, {2, 0}, {2, 1}, {7, 0}, {7, 7}, {0, 0, 0}, {-1, 0}, {0, -1}, {3, 0}, {8, 8},
		{math.MinInt, math.MaxInt}, {math.MaxInt, math.MinInt},
	} {
		lists = append(lists, spacious(list, 0))
	}
	return lists
}

// manyPeople are lists of what may be corners, with room behind all ends.
func manyPeople() []any {
	var lists []any
	corners := someCorners()
	lists = append(lists, [][]int(nil), [][]int{})
	for _, corner := range corners {
		for _, count := range []int{1, 9, 10, 11, 100} {
			people := slices.Repeat([][]int{corner.([]int)}, count)
			lists = append(lists, spacious(people, []int{0, 0}))
		}
	}
	var all [][]int
	for _, corner := range corners {
		all = append(all, corner.([]int))
		lists = append(lists, spacious([][]int{{0, 0}, corner.([]int)}, []int{0, 0}), spacious([][]int{corner.([]int), {2, 1}, {0, 1}}, nil))
	}
	return append(lists, all, all[4:9])
}

// someCosts are lists of what may be costs, with room behind all ends, where one more house or colour would fit.
func someCosts() []any {
	lists := []any{[][]int(nil), [][]int{}, [][]int{nil}, [][]int{{}, {}}}
	for _, costs := range slices.Concat(noCosts(), longCosts()[:9], [][][]int{
		{{0}}, {{1000}}, {{3, 1, 2}}, {{1}, {1}}, {{1, 5}, {5, 1}, {1, 1}}, {{1, 5}, {5, 1}, {1, 1}, {2, 2}}, sameCosts(3, 3, 0), sameCosts(20, 1, 0), sameCosts(19, 2, 1000),
	}) {
		var roomy [][]int
		for _, prices := range costs {
			roomy = append(roomy, spacious(prices, 1))
		}
		lists = append(lists, spacious(roomy, []int{1, 1}))
	}
	return lists
}

// someParcelLists are given with room behind their ends, with a parcel there that would fit.
func someParcelLists() []any {
	lists := []any{[]impl.Parcel(nil), []impl.Parcel{}}
	for _, list := range slices.Concat(noParcels(), [][]impl.Parcel{
		parcels([2]int{3, 4}, [2]int{5, 3}, [2]int{1, 2}), sameParcels(1, 1, 1), sameParcels(1, 100, 1000), sameParcels(2, 9, 5), sameParcels(4, 1, 15), sameParcels(8, 100, 1000),
		mixedParcels(5, 9, 9, 1), mixedParcels(7, 100, 60, 2),
	}) {
		lists = append(lists, spacious(list, impl.Parcel{House: 2, Weight: 1}))
	}
	return lists
}

// somePlans are given with room behind their ends, with a trip there that there would be.
func somePlans() []any {
	lists := []any{[]int(nil), []int{}}
	for _, plan := range [][]int{
		{0}, {1}, {-1}, {math.MinInt}, {math.MaxInt}, {0, 0}, {0, 1}, {0, 2}, {0, 0, 0}, {0, 1, 0}, {0, 1, 1}, {0, 1, 2}, {0, 1, 3}, {0, math.MaxInt, 1}, {0, 0, math.MinInt}, {0, 0, 1, 1}, {0, 1, 0, 2, 1},
		{0, 1, 2, 3, 4, 0, 1}, numbersUpTo(7), numbersUpTo(8), make([]int, 8), {0, 0, 1, 1, 2, 2, 3, 3}, numbersUpTo(9), make([]int, 9), make([]int, 100),
	} {
		lists = append(lists, spacious(plan, 0))
	}
	return lists
}

func manyClues() []any {
	var list []any
	for _, kind := range []int{math.MinInt, -1, 0, 1, 2, 3, 4, 5, 6, math.MaxInt} {
		for _, a := range []int{math.MinInt, -1, 0, 2, 9, 40, 41, math.MaxInt} {
			for _, b := range []int{math.MinInt, -1, 0, 1, 13, 20, 40, math.MaxInt} {
				list = append(list, impl.Clue{Kind: kind, A: a, B: b})
			}
		}
	}
	return list
}

// cluesOrNone are lists of clues, and some with something that is none, alone or behind clues.
func cluesOrNone() [][]impl.Clue {
	lists := [][]impl.Clue{
		nil, clues([3]int{0, 0, 1}), clues([3]int{5, 0, 4}), clues([3]int{0, 0, 1}, [3]int{2, 5, 1}), clues([3]int{0, 0, 1}, [3]int{2, 5, 1}, [3]int{4, 3, 0}), clues([3]int{0, 0, 0}, [3]int{0, 0, 1}),
		clues([3]int{1, 0, 0}, [3]int{4, 2, 0}, [3]int{4, 1, 0}, [3]int{3, 0, 1}, [3]int{0, 0, 0}), slices.Repeat(clues([3]int{4, 3, 0}), 6), slices.Repeat(clues([3]int{4, 3, 0}), 7), slices.Repeat(clues([3]int{0, 0, 0}), 100),
	}
	for k, c := range noClues() {
		if k%7 == 0 {
			lists = append(lists, []impl.Clue{c}, append(clues([3]int{0, 0, 0}, [3]int{2, 5, 0}), c))
		}
	}
	return lists
}

// manyPuzzles have room behind the ends of their clues, with a clue there that would fit.
func manyPuzzles() []any {
	puzzles := []any{impl.Puzzle{}, impl.Puzzle{Street: impl.Street{Kind: 1, Plots: 10}, Clues: []impl.Clue{}}}
	for _, list := range cluesOrNone() {
		for _, s := range []impl.Street{{Kind: 0, Plots: 1}, {Kind: 0, Plots: 5}, {Kind: 1, Plots: 10}, {Kind: 2, Plots: 20}, {Kind: 2, Plots: 21}, {Kind: math.MinInt, Plots: math.MaxInt}} {
			puzzles = append(puzzles, impl.Puzzle{Street: s, Clues: spacious(list, impl.Clue{Kind: 4, A: 2, B: 0})})
		}
	}
	return puzzles
}

func manyBlocks() []any {
	var blocks []any
	for _, x := range []int{math.MinInt, -1, 0, 1, 2, 6, 7, 8, math.MaxInt} {
		for _, y := range []int{math.MinInt, -1, 0, 1, 7, math.MaxInt} {
			blocks = append(blocks, impl.Block{X: x, Y: y}, impl.Block{X: x, Y: y, Up: true})
		}
	}
	return blocks
}

// manyCities have room behind the ends of their closed blocks, with a block there that would fit.
func manyCities() []any {
	cities := []any{impl.City{}, impl.City{Wide: 3, High: 2, Closed: []impl.Block{}}}
	for _, c := range slices.Concat(noCities(), []impl.City{
		{Wide: 1, High: 1}, {Wide: 3, High: 2}, {Wide: 8, High: 8}, {Wide: 8, High: 1}, {Wide: 1, High: 8},
		{Wide: 3, High: 2, Closed: []impl.Block{{}}}, {Wide: 3, High: 2, Closed: []impl.Block{{}, {Up: true}}}, {Wide: 2, High: 2, Closed: blocksOf(2, 2)},
		{Wide: 3, High: 2, Closed: []impl.Block{{Y: 1}, {X: 1}}}, {Wide: 8, High: 8, Closed: blocksOf(8, 8)[:29]}, {Wide: 8, High: 8, Closed: blocksOf(8, 8)[:30]},
		mixedCity(8, 8, 30, 1), mixedCity(6, 6, 30, 2), mixedCity(5, 4, 10, 3), mixedCity(3, 2, 3, 4),
	}) {
		c.Closed = spacious(c.Closed, impl.Block{X: 6, Y: 7})
		cities = append(cities, c)
	}
	return cities
}

// someLines are those of the table, done, refused by a function or by their words, and what are no lines.
func someLines() []string {
	return []string{
		"", " ", "fly", "show", "tell", "live", "show ", " show", "show\n", "show\r", "where 6", "where 0", "where 01", "where ", "where", "where 6 6", "where 1000000", "where \xff", "where 99999999999999999999", "facing 3", "next 4", "walk 1 6 3",
		"walk 1 6 1001", "walk  1 6 3", "balance 8", "balance 2", "balance 999999", "plates 999999", "sums 15", "sums 100000", "sums 0", "cross 2", "sides 2", "sides 3", "route 2 5", "around 5", "houses", "order 2", "best", "center", "mean",
		"boxes 2", "boxes 5", "boxes 6", "far 2", "moved 3 0 2", "moved 0 1 1", "moved 0 0 1", "moved 999999 0 1", "street u5", "street r1", "street", "street o05", "mail bb", "mail -", "mail x", "mail " + strings.Repeat("l", 61),
		"people 1-2", "people 0", "people 5", "mirror", "back", "back back", "loot 2-7-9-3-1", "loot 0-0", "loot " + strings.Repeat("1-", 20) + "1", "lamps ##.#", "lamps ..", "ring ##.#", "ring x", "paint 3 3", "paint 20 5", "paint 21 3", "paint 3",
		"\x00", "\xff\xfe", "wo 1", strings.Repeat(" ", 3000), strings.Repeat(" ", 3001), strings.Repeat("x", 3000), strings.Repeat("x", 3001), strings.Repeat("where 6 ", 5000), "where " + strings.Repeat("9", 2994), "\n", strings.Repeat("\n", 5000),
	}
}

// someScripts have each of these lines, alone and between others, and as many lines and bytes as there may be.
func someScripts() []any {
	scripts := []any{strings.Repeat("show\n", 50), strings.Repeat("show\n", 51), strings.Repeat("\n", 50), strings.Repeat("x", 2999) + "\n", strings.Repeat("x", 3000) + "\n", strings.Repeat("moved 3 0 1\nmoved 0 3 1\n", 25), strings.Repeat("fly\nwhere 0\n", 25)}
	for _, line := range someLines() {
		scripts = append(scripts, line, line+"\n", "show\n"+line+"\n\n"+line+"\nlive\n", line+"\nshow")
	}
	return scripts
}

// manyDesks have room behind the ends of their people, where one more house would fit.
func manyDesks() []any {
	desks := []any{impl.Desk{}, impl.FirstDesk(), impl.Desk{Street: impl.Street{Kind: 1, Plots: 5}, Text: "lrb-l", People: []int{}}}
	for _, s := range []impl.Street{{Kind: 1, Plots: 5}, {Kind: 0, Plots: 1}, {Kind: 2, Plots: 1000}, {Kind: 2, Plots: 1001}, {Kind: math.MinInt, Plots: math.MaxInt}} {
		for _, text := range []string{"lrb-l", "-", strings.Repeat("b", 60), strings.Repeat("b", 61), "", "lr\xffbl"} {
			for _, people := range somePeople() {
				desks = append(desks, impl.Desk{Street: s, Text: text, People: people.([]int)})
			}
		}
	}
	return desks
}

func manyWays() []any {
	var all []any
	for _, w := range append(noWays(),
		ways("ew/sn"), ways("we/ns"), ways("ee/nn"), ways("eew/ssn"), ways("ewew/ns"), ways("ewewewew/sn"), ways("ew/snsnsnsn"),
		ways("eeeeeeee/nnnnnnnn"), ways("ewewewew/snsnsnsn"), ways("wweewewe/nsnnsnss"),
	) {
		all = append(all, w)
	}
	return all
}

func someTexts() []any {
	return []any{
		"", "r", "o5", "u1000", "u1001", "r0", "o05", "o-5", "5", " ", "\n", "\x00", "\xff", "o\xff\xfe5", "ö5", "o５",
		"12", "12c", "9999z", "12,12c,15", "1,9999z", "0", "10000", "12A", "012", "12cc", "12-", "-12", "12,", ",12", "12,,13", "13,12", "c",
		strings.Repeat("1,", 5000) + "1", strings.Repeat(",", 5000), strings.Repeat("9", 5000) + "z",
		"-", "l", "r", "b", "lr", "--", "bx", "lrb-l", "lrb-l-", "-----", "lllll", "lrbxl", "LRB-L", "lr\xffbl", "lrb\n",
		"e", "en", "nees", "wsne", "eens ", "E", "nxs", strings.Repeat("ew", 100), strings.Repeat("ew", 100) + "e", strings.Repeat("e", 5000),
		"1x1:", "3x2:0-0", "3x2:0-0,1|0", "8x8:", "3x2:1|0,0-0", "3x2:0-0,", "3x2:2-0", "0x0:", "9x9:", "3x2", ":", "x:-", "3x2:" + strings.Repeat("0-0,", 5000),
		"n", "s", "w", "ew", "sn", "enws", "ew/sn", "we/ns", "ee/nn", "/", "ew/", "/sn", "e/n", "sn/ew", "ew/sn/", "ew//sn", "ew/sn\n", "EW/SN", "ew\xff/sn",
		"ewewewew/snsnsnsn", "eeeeeeeee/nn", "ee/nnnnnnnnn", strings.Repeat("enws", 25), strings.Repeat("enws", 25) + "e", strings.Repeat("ew/", 5000), strings.Repeat("n", 5000),
		"#", ".", "##.#", "..", "###", ".#.", "##.#\n", "#\xff#", "#.x", "＃", strings.Repeat("#", 20), strings.Repeat(".", 20), strings.Repeat("#..#.", 4), strings.Repeat("#", 21), strings.Repeat("#.", 5000),
		"3*4", "3*4,5*3,1*2", "100*1000", "3*4,", ",3*4", "3*4*5", "3*", "*4", "*", "0*4", "101*4", "3*0", "3*1001", "03*4", "+3*4", "-3*-4", "3*4\n", "3\xff*4", "3*99999999999999999999",
		strings.Repeat("1*1,", 7) + "1*1", strings.Repeat("1*1,", 8) + "1*1", strings.Repeat("3*4,", 5000) + "3*4", strings.Repeat("*", 5000),
		"o10;", "r1;", "u20;", "u21;", "o10;0.0.1", "o10;0.0.1,2.5.1", "o10;5.0.4", "o10;0.0.1,", "o10;,", "o10;0.0.2", "o10;0.0", "o10;0.0.1.0", "o10;00.0.1", "o10;-1.0.0", "o10;0.0.1\n", "o10;0.0.\xff", "o10;0.0.99999999999999999999", ";", ";0.0.1",
		"o10;" + strings.Repeat("4.3.0,", 5) + "4.3.0", "o10;" + strings.Repeat("4.3.0,", 6) + "4.3.0", "o10;" + strings.Repeat("0.0.1,", 5000) + "0.0.1", strings.Repeat(";", 5000), "o10;" + strings.Repeat(".", 5000), strings.Repeat("o10;", 5000),
		"1-0-0-2-1", "1-1000", "1-1001", "1--1", "1-", "-1", "0-0", "01-1", "+1-1", "1-99999999999999999999", strings.Repeat("0-", 59) + "1", strings.Repeat("1-", 60) + "1",
		strings.Repeat("1-", 5000) + "1", strings.Repeat("-", 60), strings.Repeat("rl", 30), strings.Repeat("b", 60), strings.Repeat("l", 61), strings.Repeat("-", 5000),
		"u99999999999999999999", strings.Repeat("o", 5000), "u" + strings.Repeat("9", 5000), "r" + strings.Repeat("0", 5000) + "1",
	}
}

func valuesOf(t *testing.T, kind reflect.Type) []any {
	t.Helper()
	switch kind {
	case reflect.TypeFor[int]():
		return someInts()
	case reflect.TypeFor[impl.Street]():
		return manyStreets()
	case reflect.TypeFor[[]int]():
		return someLists()
	case reflect.TypeFor[string]():
		return someTexts()
	case reflect.TypeFor[impl.Plate]():
		return manyPlates()
	case reflect.TypeFor[[]impl.Plate]():
		return somePlateLists()
	case reflect.TypeFor[[]impl.Parcel]():
		return someParcelLists()
	case reflect.TypeFor[impl.City]():
		return manyCities()
	case reflect.TypeFor[impl.Block]():
		return manyBlocks()
	case reflect.TypeFor[[][]int]():
		return manyPeople()
	case reflect.TypeFor[impl.Ways]():
		return manyWays()
	case reflect.TypeFor[impl.Clue]():
		return manyClues()
	case reflect.TypeFor[impl.Puzzle]():
		return manyPuzzles()
	case reflect.TypeFor[impl.Desk]():
		return manyDesks()
	case reflect.TypeFor[bool]():
		return []any{false, true}
	}
	t.Fatalf("no values of type %v", kind)
	return nil
}

func anyOf(texts []string) []any {
	var values []any
	for _, text := range texts {
		values = append(values, text)
	}
	return values
}

// valuesFor has the values of a parameter: where all of someLists would be too many, lists of a city or of ways are tried as corners, those of parcels as plans, and lists with three numbers as people. Lists of lists are tried as corners in a city, otherwise as costs. Texts are tried as lines on a desk, and as scripts, too, where they are all that is given.
func valuesFor(t *testing.T, function reflect.Type, i int) []any {
	t.Helper()
	ofCorners := function.In(0) == reflect.TypeFor[impl.City]() || function.In(0) == reflect.TypeFor[impl.Ways]()
	if function.In(i) == reflect.TypeFor[[]int]() && ofCorners {
		return someCorners()
	}
	if function.In(i) == reflect.TypeFor[[]int]() && function.In(0) == reflect.TypeFor[[]impl.Parcel]() {
		return somePlans()
	}
	if function.In(i) == reflect.TypeFor[[]int]() && function.NumIn() == 4 {
		return somePeople()
	}
	if function.In(i) == reflect.TypeFor[[][]int]() && !ofCorners {
		return someCosts()
	}
	if function.In(i) == reflect.TypeFor[string]() && function.In(0) == reflect.TypeFor[impl.Desk]() {
		return anyOf(someLines())
	}
	if function.In(i) == reflect.TypeFor[string]() && function.NumIn() == 1 {
		return append(someTexts(), someScripts()...)
	}
	return valuesOf(t, function.In(i))
}

// eachCall calls visit with every choice of arguments for a function.
func eachCall(t *testing.T, function reflect.Value, visit func(arguments []reflect.Value)) {
	t.Helper()
	choices := make([][]any, function.Type().NumIn())
	for i := range choices {
		choices[i] = valuesFor(t, function.Type(), i)
	}
	arguments := make([]reflect.Value, len(choices))
	var choose func(i int)
	choose = func(i int) {
		if i == len(choices) {
			visit(arguments)
			return
		}
		for _, value := range choices[i] {
			arguments[i] = reflect.ValueOf(value)
			choose(i + 1)
		}
	}
	choose(0)
}

// wholeCopy copies a list with what is behind its end.
func wholeCopy[T any](list []T) []T {
	return append([]T(nil), list[:cap(list)]...)
}

// kept copies lists with what is behind their ends.
func kept(arguments []reflect.Value) []any {
	var copies []any
	for _, argument := range arguments {
		switch value := argument.Interface().(type) {
		case []int:
			copies = append(copies, wholeCopy(value))
		case []impl.Plate:
			copies = append(copies, wholeCopy(value))
		case []impl.Parcel:
			copies = append(copies, wholeCopy(value))
		case [][]int:
			var lists [][]int
			for _, list := range value[:cap(value)] {
				lists = append(lists, wholeCopy(list))
			}
			copies = append(copies, lists)
		case impl.City:
			value.Closed = wholeCopy(value.Closed)
			copies = append(copies, value)
		case impl.Puzzle:
			value.Clues = wholeCopy(value.Clues)
			copies = append(copies, value)
		case impl.Desk:
			value.People = wholeCopy(value.People)
			copies = append(copies, value)
		default:
			copies = append(copies, value)
		}
	}
	return copies
}

// cropped gives lists without any room behind their ends.
func cropped(arguments []reflect.Value) []reflect.Value {
	var tight []reflect.Value
	for _, argument := range arguments {
		switch value := argument.Interface().(type) {
		case [][]int:
			var lists [][]int
			for _, list := range value {
				lists = append(lists, slices.Clip(list))
			}
			argument = reflect.ValueOf(slices.Clip(lists))
		case impl.City:
			value.Closed = slices.Clip(value.Closed)
			argument = reflect.ValueOf(value)
		case impl.Puzzle:
			value.Clues = slices.Clip(value.Clues)
			argument = reflect.ValueOf(value)
		case impl.Desk:
			value.People = slices.Clip(value.People)
			argument = reflect.ValueOf(value)
		default:
			if argument.Kind() == reflect.Slice {
				argument = argument.Slice3(0, argument.Len(), argument.Len())
			}
		}
		tight = append(tight, argument)
	}
	return tight
}

type region struct{ from, to uintptr }

// canHoldLists reports whether values of a type can have lists in them: those of others need not be looked at one by one.
func canHoldLists(kind reflect.Type) bool {
	if kind.Kind() == reflect.Struct {
		for i := range kind.NumField() {
			if canHoldLists(kind.Field(i).Type) {
				return true
			}
		}
	}
	return kind.Kind() == reflect.Slice
}

// regionsOf returns the memory behind all the lists in a value, up to their capacity.
func regionsOf(v reflect.Value) []region {
	var found []region
	if v.Kind() == reflect.Struct {
		for _, field := range v.Fields() {
			found = append(found, regionsOf(field)...)
		}
	}
	if v.Kind() != reflect.Slice {
		return found
	}
	if v.Cap() > 0 {
		found = append(found, region{v.Pointer(), v.Pointer() + uintptr(v.Cap())*v.Type().Elem().Size()})
	}
	if !canHoldLists(v.Type().Elem()) {
		return found
	}
	for i := range v.Len() {
		found = append(found, regionsOf(v.Index(i))...)
	}
	return found
}

func regionsOfAll(values ...[]reflect.Value) []region {
	var found []region
	for _, list := range values {
		for _, v := range list {
			found = append(found, regionsOf(v)...)
		}
	}
	return found
}

func doOverlap(regions []region) bool {
	for i, a := range regions {
		for _, b := range regions[:i] {
			if a.from < b.to && b.from < a.to {
				return true
			}
		}
	}
	return false
}

// doMeet compares arguments with results alone, as a call may have the same list twice.
func doMeet(ours, theirs []region) bool {
	for _, a := range ours {
		if slices.ContainsFunc(theirs, func(b region) bool { return doOverlap([]region{a, b}) }) {
			return true
		}
	}
	return false
}

func isNothing(v reflect.Value) bool {
	if c, ok := v.Interface().(impl.City); ok {
		return c.Wide == 0 && c.High == 0 && len(c.Closed) == 0
	}
	if p, ok := v.Interface().(impl.Puzzle); ok {
		return p.Street == impl.Street{} && len(p.Clues) == 0
	}
	if d, ok := v.Interface().(impl.Desk); ok {
		return d.Street == impl.Street{} && d.Text == "" && len(d.People) == 0
	}
	return v.IsZero() || v.Kind() == reflect.Slice && v.Len() == 0
}

func interfacesOf(values []reflect.Value) []any {
	var list []any
	for _, v := range values {
		list = append(list, v.Interface())
	}
	return list
}

// callSafely returns the results of a call, or what it panicked with.
func callSafely(function reflect.Value, arguments []reflect.Value) (results []reflect.Value, panicked any) {
	defer func() { panicked = recover() }()
	return function.Call(arguments), nil
}

// canFail reports whether the last result of a function tells whether it succeeds.
func canFail(function reflect.Value) bool {
	return function.Type().Out(function.Type().NumOut()-1).Kind() == reflect.Bool
}

func TestFunctionsAcceptAllArguments(t *testing.T) {
	eachFunction(t, func(t *testing.T, name string, function reflect.Value) {
		succeeded, failed := 0, 0
		eachCall(t, function, func(arguments []reflect.Value) {
			before := kept(arguments)
			results, panicked := callSafely(function, arguments)
			if panicked != nil {
				t.Fatalf("%s%v panics: %v", name, interfacesOf(arguments), panicked)
			}
			if !reflect.DeepEqual(before, kept(arguments)) {
				t.Fatalf("%s changes %v to %v", name, before, kept(arguments))
			}
			last := len(results) - 1
			if !canFail(function) || results[last].Bool() {
				succeeded++
				return
			}
			failed++
			for _, v := range results[:last] {
				if !isNothing(v) {
					t.Fatalf("%s%v fails with %v", name, interfacesOf(arguments), v)
				}
			}
		})
		if succeeded == 0 || canFail(function) && failed == 0 {
			t.Errorf("%s: %d calls succeed, %d fail; some of both are needed", name, succeeded, failed)
		}
	})
}

func TestListsShareNoMemory(t *testing.T) {
	eachFunction(t, func(t *testing.T, name string, function reflect.Value) {
		eachCall(t, function, func(arguments []reflect.Value) {
			first := function.Call(arguments)
			if len(regionsOfAll(first)) == 0 {
				return
			}
			second := function.Call(arguments)
			if doOverlap(regionsOfAll(first, second)) || doMeet(regionsOfAll(arguments), regionsOfAll(first, second)) {
				t.Fatalf("%s%v shares memory", name, interfacesOf(arguments))
			}
			if !reflect.DeepEqual(interfacesOf(first), interfacesOf(second)) {
				t.Fatalf("%s%v is another one when called again", name, interfacesOf(arguments))
			}
		})
	})
}

func TestNothingBehindTheEndIsRead(t *testing.T) {
	eachFunction(t, func(t *testing.T, name string, function reflect.Value) {
		eachCall(t, function, func(arguments []reflect.Value) {
			if len(regionsOfAll(arguments)) == 0 {
				return
			}
			spacious, tight := function.Call(arguments), function.Call(cropped(arguments))
			if !reflect.DeepEqual(interfacesOf(spacious), interfacesOf(tight)) {
				t.Fatalf("%s%v is another one without room behind the ends", name, interfacesOf(arguments))
			}
		})
	})
}

// The list has its tenth number behind its end, where it is not to be read.
func TestPlatesFromReadsNothingBehindTheEnd(t *testing.T) {
	digits := tenTimes(20)
	if got, ok := impl.PlatesFrom(digits[:9]); got != 0 || ok {
		t.Error("PlatesFrom reads behind the end:", got, ok)
	}
	longer := append(tenTimes(20), -1)
	if got, ok := impl.PlatesFrom(longer[:10]); got != platesMade(digits) || !ok {
		t.Error("PlatesFrom reads behind the end:", got, ok)
	}
}

func TestAllFunctionsAreCalled(t *testing.T) {
	for name, functions := range functionsByFile() {
		file, err := parser.ParseFile(token.NewFileSet(), "../impl/"+name, nil, 0)
		if err != nil {
			t.Fatal(err)
		}
		for _, declared := range file.Decls {
			f, ok := declared.(*ast.FuncDecl)
			if ok && f.Recv == nil && f.Name.IsExported() && functions[f.Name.Name] == nil {
				t.Errorf("%s is not called with all arguments", f.Name.Name)
			}
		}
	}
}
