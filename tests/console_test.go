package tests

import (
	"fmt"
	"math"
	"regexp"
	"runtime"
	"slices"
	"strconv"
	"strings"
	"sync"
	"testing"

	"loop.example/g01336/impl"
)

// Promise 10: scripts do what the calls do that they name.

// deskOf is told by the texts of its parts.
func deskOf(t *testing.T, streetText, text, peopleText string) impl.Desk {
	t.Helper()
	people, ok := impl.ParsePeople(peopleText)
	if !ok {
		t.Fatalf("ParsePeople(%q) fails", peopleText)
	}
	return impl.Desk{Street: street(t, streetText), Text: text, People: people}
}

func someDesks(t *testing.T) []impl.Desk {
	t.Helper()
	return []impl.Desk{
		deskOf(t, "o5", "lrb-l", "1-0-0-2-1"), deskOf(t, "u5", "lrb-l", "1"), deskOf(t, "r5", "l-l-l", "0-0-1"), deskOf(t, "r5", "lrb-l", "1000-1000"),
		deskOf(t, "r1", "-", "0-1000"), deskOf(t, "o1", "b", "1-999"), deskOf(t, "u4", "lrb-l", "0-5-0-5-0"), deskOf(t, "u1000", strings.Repeat("br-l", 15), listText(mixedPeople(60, 1000, 3, false))),
		deskOf(t, "o60", strings.Repeat("rl", 30), listText(mixedPeople(60, 3, 4, true))), deskOf(t, "u60", strings.Repeat("-", 60), listText(slices.Repeat([]int{1000}, 60))),
		deskOf(t, "o5", "-----", "3-1-0-999-1"), deskOf(t, "u5", "rrrrr", "2-7-9-3-1"),
	}
}

// noDesks have a part each that is none, and good ones beside it.
func noDesks() []impl.Desk {
	good := impl.FirstDesk()
	var desks []impl.Desk
	for _, s := range noStreets() {
		desks = append(desks, impl.Desk{Street: s, Text: good.Text, People: good.People})
	}
	for _, text := range noDeliveries() {
		desks = append(desks, impl.Desk{Street: good.Street, Text: text, People: good.People})
	}
	for _, people := range noPeople() {
		desks = append(desks, impl.Desk{Street: good.Street, Text: good.Text, People: people})
	}
	return append(desks, impl.Desk{}, impl.Desk{Street: impl.Street{Kind: math.MinInt, Plots: math.MaxInt}, Text: "\xff", People: []int{math.MinInt}})
}

func sameDesk(a, b impl.Desk) bool {
	return a.Street == b.Street && a.Text == b.Text && slices.Equal(a.People, b.People)
}

func wantDesk(t *testing.T, what string, got impl.Desk, want impl.Desk) {
	t.Helper()
	if !sameDesk(got, want) {
		t.Errorf("%s leads to the desk %v; want %v", what, got, want)
	}
}

// wantLine checks a line on a desk, and that it is done again in the same way.
func wantLine(t *testing.T, d impl.Desk, line string, want impl.Desk, wantReply string) {
	t.Helper()
	for range 2 {
		got, reply, ok := impl.DeskLine(d, line)
		what := fmt.Sprintf("DeskLine of %v and %.80q", d, line)
		wantText(t, what, reply, ok, wantReply, true)
		wantDesk(t, what, got, want)
	}
}

// wantRefused checks that a line gets a reply and that nothing is turned.
func wantRefused(t *testing.T, d impl.Desk, line, reply string) {
	t.Helper()
	wantLine(t, d, line, d, reply)
}

func wantNoLine(t *testing.T, d impl.Desk, line string) {
	t.Helper()
	got, reply, ok := impl.DeskLine(d, line)
	what := fmt.Sprintf("DeskLine of %v and %.80q", d, line)
	wantText(t, what, reply, ok, "", false)
	wantDesk(t, what, got, impl.Desk{})
}

// wantScript checks all that is told of a script.
func wantScript(t *testing.T, script string, wantReplies []string, want impl.Desk) {
	t.Helper()
	what := fmt.Sprintf("of %.80q", script)
	replies, ok := impl.RunScript(script)
	if !slices.Equal(replies, wantReplies) || !ok {
		t.Errorf("RunScript %s is %q, %t; want %q", what, replies, ok, wantReplies)
	}
	got, ok := impl.DeskAfter(script)
	if !ok {
		t.Errorf("DeskAfter %s fails", what)
	}
	wantDesk(t, "DeskAfter "+what, got, want)
	var wantFailed []int
	for i, reply := range wantReplies {
		if reply == "no" || reply == "what" {
			wantFailed = append(wantFailed, i+1)
		}
	}
	failed, ok := impl.FailedLines(script)
	wantList(t, "FailedLines "+what, failed, ok, wantFailed, true)
}

func wantNoScript(t *testing.T, script string) {
	t.Helper()
	what := fmt.Sprintf("of %d bytes, %.80q", len(script), script)
	if replies, ok := impl.RunScript(script); len(replies) != 0 || ok {
		t.Errorf("RunScript %s is %q, %t", what, replies, ok)
	}
	got, ok := impl.DeskAfter(script)
	if ok {
		t.Errorf("DeskAfter %s succeeds", what)
	}
	wantDesk(t, "DeskAfter "+what, got, impl.Desk{})
	failed, ok := impl.FailedLines(script)
	wantList(t, "FailedLines "+what, failed, ok, nil, false)
}

func scriptOf(lines []string) string {
	script := ""
	for _, line := range lines {
		script += line + "\n"
	}
	return script
}

func TestLimitsOfScriptsAreThoseOfTheDocument(t *testing.T) {
	if impl.MaxScript != 3000 || impl.MaxLines != 50 {
		t.Error("limits", impl.MaxScript, impl.MaxLines)
	}
}

func TestFirstDesk(t *testing.T) {
	want := impl.Desk{Street: impl.Street{Kind: 1, Plots: 5}, Text: "lrb-l", People: []int{1, 0, 0, 2, 1}}
	first := impl.FirstDesk()
	wantDesk(t, "FirstDesk", first, want)
	first.People[0], first.People[4] = 7, 8
	wantDesk(t, "FirstDesk, when an earlier one was changed,", impl.FirstDesk(), want)
}

func TestIsDesk(t *testing.T) {
	for _, d := range append(someDesks(t), impl.FirstDesk()) {
		if !impl.IsDesk(d) {
			t.Errorf("%v is no desk", d)
		}
	}
	for _, d := range noDesks() {
		if impl.IsDesk(d) {
			t.Errorf("%v is a desk", d)
		}
	}
}

// A Text need not fit the Street.
func TestIsDeskByItsParts(t *testing.T) {
	for _, s := range someStreets() {
		for _, text := range []string{"l", "lrb-l", strings.Repeat("b", 60)} {
			for _, people := range [][]int{{1}, {1, 0, 0, 2, 1}, slices.Repeat([]int{1000}, 60)} {
				if d := (impl.Desk{Street: s, Text: text, People: people}); !impl.IsDesk(d) {
					t.Errorf("%v is no desk", d)
				}
			}
		}
	}
}

// exampleOfChapter10 has the lines of the document's example and their replies.
func exampleOfChapter10() [][2]string {
	return [][2]string{
		{"where 6", "1,2"}, {"facing 3", "4"}, {"next 4", "2,6"}, {"walk 1 6 3", "5"}, {"houses", "1,4,5,6,9"}, {"cross 2", "2"}, {"sides 2", "0,1,0,0,0"},
		{"order 2", "1,4,6,5,9"}, {"route 2 5", "14"}, {"around 5", "18"}, {"best", "3"}, {"center", "2"}, {"mean", "5/2"}, {"boxes 2", "0,3"},
		{"moved 3 0 2", "3-0-0-0-1"}, {"moved 3 0 2", "no"}, {"best", "0"}, {"street u5", "u5"}, {"facing 3", "8"}, {"balance 8", "6"}, {"sums 15", "1,5 4,6 7,8 15,15"},
		{"lamps ##.#", "0,2"}, {"ring ##.#", "0"}, {"loot 2-7-9-3-1", "0,2,4"}, {"paint 3 3", "12"}, {"fly", "what"},
	}
}

func TestExampleOfChapter10(t *testing.T) {
	var lines, replies []string
	d := impl.FirstDesk()
	for _, pair := range exampleOfChapter10() {
		lines, replies = append(lines, pair[0]), append(replies, pair[1])
		behind, reply, ok := impl.DeskLine(d, pair[0])
		wantText(t, "DeskLine of "+pair[0], reply, ok, pair[1], true)
		d = behind
	}
	want := deskOf(t, "u5", "lrb-l", "3-0-0-0-1")
	wantDesk(t, "the example line by line", d, want)
	wantScript(t, scriptOf(lines), replies, want)
	failed, ok := impl.FailedLines(scriptOf(lines))
	wantList(t, "FailedLines of the example", failed, ok, []int{16, 26}, true)
}

// Each line of the table changes the part of the desk that it should, and no other one.
func TestLinesThatTurnTheDesk(t *testing.T) {
	first := impl.FirstDesk()
	for _, c := range []struct{ line, reply, street, text, people string }{
		{"street u5", "u5", "u5", "lrb-l", "1-0-0-2-1"}, {"street r1000", "r1000", "r1000", "lrb-l", "1-0-0-2-1"}, {"street o5", "o5", "o5", "lrb-l", "1-0-0-2-1"},
		{"street r1", "r1", "r1", "lrb-l", "1-0-0-2-1"}, {"mail bb", "bb", "o5", "bb", "1-0-0-2-1"}, {"mail -", "-", "o5", "-", "1-0-0-2-1"},
		{"mail " + strings.Repeat("r", 60), strings.Repeat("r", 60), "o5", strings.Repeat("r", 60), "1-0-0-2-1"}, {"people 0-1000", "0-1000", "o5", "lrb-l", "0-1000"},
		{"people 7", "7", "o5", "lrb-l", "7"}, {"mirror", "rlb-r", "o5", "rlb-r", "1-0-0-2-1"}, {"back", "l-brl", "o5", "l-brl", "1-0-0-2-1"},
		{"moved 3 0 2", "3-0-0-0-1", "o5", "lrb-l", "3-0-0-0-1"}, {"moved 0 3 1", "0-0-0-3-1", "o5", "lrb-l", "0-0-0-3-1"}, {"moved 3 4 1", "1-0-0-1-2", "o5", "lrb-l", "1-0-0-1-2"},
		{"moved 4 1 1", "1-1-0-2-0", "o5", "lrb-l", "1-1-0-2-0"}, {"show", "o5", "o5", "lrb-l", "1-0-0-2-1"}, {"tell", "lrb-l", "o5", "lrb-l", "1-0-0-2-1"}, {"live", "1-0-0-2-1", "o5", "lrb-l", "1-0-0-2-1"},
	} {
		wantLine(t, first, c.line, deskOf(t, c.street, c.text, c.people), c.reply)
	}
}

// On the first desk the houses 1, 3, .. 9 face 2, 4, .. 10.
func TestQuestionsToTheFirstDesk(t *testing.T) {
	first := impl.FirstDesk()
	for _, pair := range [][2]string{
		{"where 1", "0,0"}, {"where 2", "1,0"}, {"where 10", "1,4"}, {"where 9", "0,4"}, {"where 0", "no"}, {"where 11", "no"}, {"facing 1", "2"}, {"facing 10", "9"}, {"facing 11", "no"},
		{"next 1", "3"}, {"next 2", "4"}, {"next 10", "8"}, {"next 5", "3,7"}, {"next 0", "no"}, {"next 11", "no"}, {"walk 1 1 1000", "0"}, {"walk 1 10 7", "11"}, {"walk 10 1 0", "4"},
		{"walk 9 3 1000", "3"}, {"walk 1 10 1000", "1004"}, {"walk 1 10 1001", "no"}, {"walk 0 1 1", "no"}, {"walk 1 11 1", "no"}, {"walk 11 1 1", "no"},
		{"balance 1", "1"}, {"balance 8", "6"}, {"balance 49", "35"}, {"balance 288", "204"}, {"balance 332928", "235416"}, {"balance 2", "no"}, {"balance 0", "no"}, {"balance 999999", "no"},
		{"plates 1", "1"}, {"plates 12", "15"}, {"plates 999999", "5888889"}, {"plates 0", "no"}, {"sums 1", "1,1"}, {"sums 9", "2,4 4,5 9,9"}, {"sums 16", "16,16"}, {"sums 0", "no"}, {"sums 100001", "no"},
		{"cross 0", "2"}, {"cross 1", "3"}, {"cross 2", "2"}, {"cross 3", "no"}, {"sides 0", "0,1,0,0,0"}, {"sides 1", "0,1,0,0,1"}, {"sides 3", "no"}, {"route 1 0", "4"}, {"route 1 1000", "3004"},
		{"route 0 10", "24"}, {"route 2 1001", "no"}, {"route 3 5", "no"}, {"around 0", "8"}, {"around 1000", "2008"}, {"around 1001", "no"}, {"houses", "1,4,5,6,9"}, {"order 0", "1,4,6,5,9"},
		{"order 1", "1,4,6,5,9"}, {"order 3", "no"}, {"best", "3"}, {"center", "2"}, {"mean", "5/2"}, {"boxes 1", "3"}, {"boxes 3", "0,3,4"}, {"boxes 5", "0,1,2,3,4"}, {"boxes 0", "no"}, {"boxes 6", "no"},
		{"far 1", "2"}, {"far 2", "1"}, {"far 3", "0"}, {"far 5", "0"}, {"far 0", "no"}, {"far 6", "no"}, {"loot 5", "0"}, {"loot 0-0-1", "0,2"}, {"loot 1-5-1", "1"}, {"loot 0-7", "1"},
		{"lamps #", "0"}, {"lamps ###", "1"}, {"lamps #..#", "0,2"}, {"ring #..#", "0"}, {"lamps .", "-"}, {"ring ....", "-"}, {"ring ##", "0"}, {"paint 1 5", "5"}, {"paint 2 1", "0"},
		{"paint 20 2", "2"}, {"paint 2 5", "20"}, {"paint 0 3", "no"}, {"paint 21 3", "no"}, {"paint 3 0", "no"}, {"paint 3 6", "no"},
	} {
		wantRefused(t, first, pair[0], pair[1])
	}
}

func TestQuestionsToOtherDesks(t *testing.T) {
	for _, c := range []struct{ street, text, people, line, reply string }{
		{"u5", "lrb-l", "1", "where 6", "1,4"}, {"u5", "lrb-l", "1", "next 8", "7,9"}, {"u5", "lrb-l", "1", "facing 3", "8"}, {"u5", "lrb-l", "1", "houses", "1,3,5,8,9"}, {"u5", "lrb-l", "1", "order 2", "1,9,8,3,5"},
		{"r5", "lrb-l", "1", "facing 3", "no"}, {"r5", "lrb-l", "1", "houses", "no"}, {"r5", "lrb-l", "1", "order 2", "no"}, {"r5", "lrb-l", "1", "sides 2", "0,1,0,0,0"}, {"r5", "l-l-l", "1", "houses", "1,3,5"},
		{"r5", "l-l-l", "1", "order 1", "1,3,5"}, {"r5", "l-l-l", "1", "where 5", "0,4"}, {"r5", "l-l-l", "1", "where 6", "no"}, {"o4", "lrb-l", "1", "houses", "no"}, {"o6", "lrb-l", "1", "order 2", "no"},
		{"o1000", "lrb-l", "1", "houses", "no"}, {"o1000", "lrb-l", "1", "where 2000", "1,999"}, {"o5", "-----", "1", "houses", "-"}, {"u5", "-----", "1", "order 1", "-"}, {"o5", "-----", "1", "around 5", "0"},
		{"r1", "-", "1", "next 1", "-"}, {"o1", "-", "1", "next 2", "-"}, {"r1", "-", "1", "sides 1", "1"}, {"r1", "-", "1", "tell", "-"}, {"r1", "-", "1", "back", "-"}, {"r1", "-", "1", "mirror", "-"},
		{"o5", "l", "1", "mean", "0/1"}, {"o5", "l", "1-1", "mean", "1/2"}, {"o5", "l", "0-0-7", "mean", "2/1"}, {"o5", "l", "2-0-1", "mean", "2/3"}, {"o5", "l", "1-1", "best", "0,1"}, {"o5", "l", "1-0-1", "best", "0,1,2"},
		{"o5", "l", "1-0-0-1", "center", "1,2"}, {"o5", "l", "1", "center", "0"}, {"o5", "l", "1", "boxes 1", "0"}, {"o5", "l", "1", "boxes 2", "no"}, {"o5", "l", "1", "far 2", "no"}, {"o5", "l", "1", "live", "1"},
		{"o5", "l", "1000-1", "moved 1 0 1", "no"}, {"o5", "l", "1-1", "moved 0 0 1", "no"}, {"o5", "l", "1-1", "moved 0 1 0", "no"}, {"o5", "l", "1-1", "moved 0 1 2", "no"}, {"o5", "l", "1-1", "moved 2 1 1", "no"}, {"o5", "l", "1-1", "moved 1 2 1", "no"},
	} {
		d := deskOf(t, c.street, c.text, c.people)
		wantRefused(t, d, c.line, c.reply)
	}
}

// asked is what a line asks: the words behind its name, and the numbers of those that are some.
type asked struct {
	desk  *impl.Desk
	words []string
	n     []int
}

// lineKind is a line of the table, with the call that it names.
type lineKind struct {
	form string
	call func(a asked) (string, bool)
}

func listReply(list []int, ok bool) (string, bool) {
	if len(list) == 0 {
		return "-", ok
	}
	return strings.Join(strings.Fields(strings.Trim(fmt.Sprint(list), "[]")), ","), ok
}

func numberReply(number int, ok bool) (string, bool) {
	return fmt.Sprint(number), ok
}

func listsReply(lists [][]int, ok bool) (string, bool) {
	var replies []string
	for _, list := range lists {
		reply, _ := listReply(list, ok)
		replies = append(replies, reply)
	}
	return strings.Join(replies, " "), ok
}

func kindsThatTurn() []lineKind {
	return []lineKind{
		{"street S", func(a asked) (string, bool) {
			a.desk.Street, _ = impl.ParseStreet(a.words[0])
			return a.words[0], true
		}},
		{"mail D", func(a asked) (string, bool) {
			a.desk.Text = a.words[0]
			return a.words[0], true
		}},
		{"people P", func(a asked) (string, bool) {
			a.desk.People, _ = impl.ParsePeople(a.words[0])
			return a.words[0], true
		}},
		{"mirror", func(a asked) (string, bool) {
			a.desk.Text, _ = impl.MirrorDeliveries(a.desk.Text)
			return a.desk.Text, true
		}},
		{"back", func(a asked) (string, bool) {
			a.desk.Text, _ = impl.BackDeliveries(a.desk.Text)
			return a.desk.Text, true
		}},
		{"moved N K M", func(a asked) (string, bool) {
			people, ok := impl.MovedPeople(a.desk.People, a.n[0], a.n[1], a.n[2])
			a.desk.People = people
			return listText(people), ok
		}},
	}
}

func kindsThatAskForNumbers() []lineKind {
	return []lineKind{
		{"show", func(a asked) (string, bool) { return impl.StreetText(a.desk.Street) }},
		{"tell", func(a asked) (string, bool) { return a.desk.Text, true }},
		{"live", func(a asked) (string, bool) { return impl.PeopleText(a.desk.People) }},
		{"where N", func(a asked) (string, bool) {
			side, plot, ok := impl.PlotOf(a.desk.Street, a.n[0])
			return fmt.Sprintf("%d,%d", side, plot), ok
		}},
		{"facing N", func(a asked) (string, bool) { return numberReply(impl.OppositeOf(a.desk.Street, a.n[0])) }},
		{"next N", func(a asked) (string, bool) { return listReply(impl.NextHouses(a.desk.Street, a.n[0])) }},
		{"walk N K M", func(a asked) (string, bool) {
			return numberReply(impl.WalkBetween(a.desk.Street, a.n[0], a.n[1], a.n[2]))
		}},
		{"balance N", func(a asked) (string, bool) { return numberReply(impl.BalancedHouse(a.n[0])) }},
		{"plates N", func(a asked) (string, bool) { return numberReply(impl.DigitsOnPlates(a.n[0])) }},
		{"sums N", func(a asked) (string, bool) { return listsReply(impl.RangesWithSum(a.n[0])) }},
	}
}

func kindsThatAskForRoutes() []lineKind {
	return []lineKind{
		{"cross N", func(a asked) (string, bool) { return numberReply(impl.FewestCrossings(a.desk.Text, a.n[0])) }},
		{"sides N", func(a asked) (string, bool) { return listReply(impl.RouteSides(a.desk.Text, a.n[0])) }},
		{"route N K", func(a asked) (string, bool) { return numberReply(impl.RouteCost(a.desk.Text, a.n[0], a.n[1])) }},
		{"around K", func(a asked) (string, bool) { return numberReply(impl.AroundCost(a.desk.Text, a.n[0])) }},
		{"houses", func(a asked) (string, bool) { return listReply(impl.NumbersOf(a.desk.Street, a.desk.Text)) }},
		{"order N", func(a asked) (string, bool) { return listReply(impl.RouteNumbers(a.desk.Street, a.desk.Text, a.n[0])) }},
	}
}

func kindsThatAskForBest() []lineKind {
	return []lineKind{
		{"best", func(a asked) (string, bool) { return listReply(impl.BestHouses(a.desk.People)) }},
		{"center", func(a asked) (string, bool) { return listReply(impl.CenterHouses(a.desk.People)) }},
		{"mean", func(a asked) (string, bool) {
			number, divisor, ok := impl.MeanHouse(a.desk.People)
			return fmt.Sprintf("%d/%d", number, divisor), ok
		}},
		{"boxes N", func(a asked) (string, bool) { return listReply(impl.FirstBoxes(a.desk.People, a.n[0])) }},
		{"far N", func(a asked) (string, bool) { return numberReply(impl.FarthestBoxes(a.desk.People, a.n[0])) }},
		{"loot P", func(a asked) (string, bool) {
			values, _ := impl.ParsePeople(a.words[0])
			return listReply(impl.FirstLoot(values, false))
		}},
		{"lamps R", func(a asked) (string, bool) { return listReply(impl.FirstLamps(a.words[0], false)) }},
		{"ring R", func(a asked) (string, bool) { return listReply(impl.FirstLamps(a.words[0], true)) }},
		{"paint N K", func(a asked) (string, bool) { return numberReply(impl.CountPaintings(a.n[0], a.n[1], false)) }},
	}
}

func lineKinds() []lineKind {
	return slices.Concat(kindsThatTurn(), kindsThatAskForNumbers(), kindsThatAskForRoutes(), kindsThatAskForBest())
}

// patternOf tells what a word of a kind looks like.
func patternOf(kind string) string {
	const living = `(0|[1-9][0-9]{0,2}|1000)`
	switch kind {
	case "S":
		return `[rou]([1-9][0-9]{0,2}|1000)`
	case "D":
		return `[lrb-]{1,60}`
	case "P":
		return living + `(-` + living + `){0,59}`
	case "R":
		return `[#.]{1,20}`
	}
	return `(0|[1-9][0-9]{0,5})`
}

// linePatterns tells what lines of each kind look like.
var linePatterns = sync.OnceValue(func() []*regexp.Regexp {
	var patterns []*regexp.Regexp
	for _, k := range lineKinds() {
		form := strings.Split(k.form, " ")
		pattern := form[0]
		for _, kind := range form[1:] {
			pattern += " " + patternOf(kind)
		}
		patterns = append(patterns, regexp.MustCompile(`\A`+pattern+`\z`))
	}
	return patterns
})

// isOfKind reports whether a line is one of a kind: of people somebody has to live somewhere.
func isOfKind(line string, k int) bool {
	form := lineKinds()[k].form
	return linePatterns()[k].MatchString(line) && (!strings.HasSuffix(form, "P") || strings.ContainsAny(line, "123456789"))
}

// executed returns the desk behind a line and its reply, by the call that it names.
func executed(d impl.Desk, line string) (impl.Desk, string) {
	for k, kind := range lineKinds() {
		if !isOfKind(line, k) {
			continue
		}
		words := strings.Split(line, " ")[1:]
		var numbers []int
		for _, word := range words {
			number, _ := strconv.Atoi(word)
			numbers = append(numbers, number)
		}
		behind := d
		reply, ok := kind.call(asked{desk: &behind, words: words, n: numbers})
		if !ok {
			return d, "no"
		}
		return behind, reply
	}
	return d, "what"
}

// wordsOfKind has words of a kind of the table, those at their limits too.
func wordsOfKind(kind string) []string {
	switch kind {
	case "S":
		return []string{"o5", "u5", "r5", "r1", "o4", "u60", "r1000", "o1000", "u1000"}
	case "D":
		return []string{"lrb-l", "-", "b", "l-l-l", "-----", "rrrrr", strings.Repeat("b", 60), mixedText(60, 1, "lrb-"), mixedText(59, 2, "lr--")}
	case "P":
		return []string{
			"1-0-0-2-1", "1", "1000", "0-1000", "3-0-1", "2-7-9-3-1", "0-0-0-0-1", listText(mixedNumbers(19, 1000, 5)), listText(mixedNumbers(20, 1000, 6)), listText(slices.Repeat([]int{1}, 21)),
			listText(slices.Repeat([]int{1000}, 20)), listText(slices.Repeat([]int{1000}, 60)), listText(mixedNumbers(60, 9, 7)),
		}
	case "R":
		return []string{"##.#", "....", "#", ".", "##", "#..#", "#####", strings.Repeat("#", 20), strings.Repeat(".", 20), mixedRow(20, 2, 3), mixedRow(19, 3, 4)}
	case "N":
		return []string{"0", "1", "2", "3", "4", "5", "6", "8", "9", "10", "11", "15", "20", "21", "60", "61", "120", "1000", "2000", "2001", "100000", "100001", "332928", "999999"}
	}
	return []string{"0", "1", "2", "3", "5", "6", "10", "59", "1000", "1001", "999999"}
}

// linesOfForm has all lines with some words of the kinds of a form.
func linesOfForm(form string) []string {
	parts := strings.Split(form, " ")
	lines := parts[:1:1]
	for _, kind := range parts[1:] {
		var longer []string
		for _, line := range lines {
			for _, word := range wordsOfKind(kind) {
				longer = append(longer, line+" "+word)
			}
		}
		lines = longer
	}
	return lines
}

func TestLinesDoWhatTheCallsDo(t *testing.T) {
	for _, d := range someDesks(t) {
		for k, kind := range lineKinds() {
			for _, line := range linesOfForm(kind.form) {
				if !isOfKind(line, k) {
					t.Fatalf("%q is not %s", line, kind.form)
				}
				want, reply := executed(d, line)
				wantLine(t, d, line, want, reply)
			}
		}
	}
}

// All numbers of houses of short streets, and one more on both ends.
func TestNumbersOnAllStreets(t *testing.T) {
	for kind := range 3 {
		for plots := 1; plots <= 12; plots++ {
			d := impl.FirstDesk()
			d.Street = impl.Street{Kind: kind, Plots: plots}
			d.Text = mixedText(plots, kind, "lrb-")
			for number := range 2*plots + 2 {
				for _, form := range []string{"where %d", "facing %d", "next %d", "order %d", "walk 1 %d 7", "walk %d 1 7", "walk 1 1 %d"} {
					line := fmt.Sprintf(form, number)
					want, reply := executed(d, line)
					wantLine(t, d, line, want, reply)
				}
			}
		}
	}
}

func noNumberWords() []string {
	return []string{
		"", "-1", "+1", "-0", "+0", "00", "01", "007", "000000", "0999999", "1000000", "1000001", "9999999", "2000000000", "9223372036854775807", "9223372036854775808", "18446744073709551617", "99999999999999999999999",
		"-999999", "1e3", "0x1", "1_0", "1.0", "1.", ".1", "1,2", "1/2", "a", "N", "-", "o5", "１", "٣", "\x00", "1\x00", "\xff", "1\xff", "1\t", "\t1", "1\r", "1\v", "\n", "1\n", "\n1", " 1", "1 ", "1 2", " ", "'1'", strings.Repeat("0", 2500) + "1", strings.Repeat("9", 2500),
	}
}

func wordsOfNoKind(kind string) []string {
	switch kind {
	case "S":
		return noStreetTexts()
	case "D":
		return noDeliveries()
	case "P":
		return noPeopleTexts()
	case "R":
		return noLampRows()
	}
	return noNumberWords()
}

// plainLine has the first words of each kind.
func plainLine(form string) []string {
	words := strings.Split(form, " ")
	for i, kind := range words[1:] {
		words[i+1] = wordsOfKind(kind)[1]
	}
	return words
}

func TestWordsThatAreNoneOfTheirKind(t *testing.T) {
	d := impl.FirstDesk()
	for _, k := range lineKinds() {
		for i, kind := range strings.Split(k.form, " ")[1:] {
			for _, word := range wordsOfNoKind(kind) {
				words := plainLine(k.form)
				words[i+1] = word
				line := strings.Join(words, " ")
				if strings.Contains(line, "\n") || len(line) > 3000 {
					wantNoLine(t, d, line)
				} else {
					wantRefused(t, d, line, "what")
				}
			}
		}
	}
}

// A word that is none of its kind is told of also where the function would fail anyway.
func TestWordsOfOtherKinds(t *testing.T) {
	d := impl.FirstDesk()
	for _, pair := range [][2]string{
		{"walk 0 x 1", "what"}, {"walk 0 0 x", "what"}, {"walk x 0 0", "what"}, {"walk 0 0 0", "no"}, {"walk 0 0 1000000", "what"}, {"walk 999999 999999 999999", "no"}, {"walk 1000000 1 1", "what"},
		{"moved 9 9 01", "what"}, {"moved 9 9 1", "no"}, {"paint 99 x", "what"}, {"paint x 99", "what"}, {"paint 99 99", "no"}, {"route 9 x", "what"}, {"route 9 9", "no"}, {"where o5", "what"}, {"where -", "what"},
		{"street 5", "what"}, {"street lrb-l", "what"}, {"mail 1-0", "what"}, {"mail o5", "what"}, {"mail ##.#", "what"}, {"people lrb-l", "what"}, {"people ##", "what"}, {"people 5", "5"}, {"loot ##.#", "what"}, {"loot 0-0", "what"},
		{"loot " + listText(slices.Repeat([]int{1}, 21)), "no"}, {"loot " + listText(slices.Repeat([]int{1}, 60)), "no"}, {"loot " + listText(slices.Repeat([]int{1}, 61)), "what"}, {"lamps 5", "what"}, {"lamps lrb-l", "what"}, {"ring -", "what"},
		{"lamps " + strings.Repeat("#", 21), "what"}, {"ring " + strings.Repeat(".", 21), "what"}, {"mail " + strings.Repeat("-", 61), "what"}, {"plates 999999", "5888889"}, {"plates 1000000", "what"}, {"balance 1000000", "what"}, {"sums 999999", "no"},
	} {
		want, reply := executed(d, pair[0])
		if reply != pair[1] {
			t.Errorf("the reply to %q by hand is %q; want %q", pair[0], reply, pair[1])
		}
		wantLine(t, d, pair[0], want, pair[1])
	}
}

func TestTooManyAndTooFewWords(t *testing.T) {
	d := impl.FirstDesk()
	for _, k := range lineKinds() {
		words := plainLine(k.form)
		line := strings.Join(words, " ")
		for _, wrong := range []string{
			line + " ", " " + line, line + "  ", line + " 1", line + " " + words[len(words)-1], line + " " + line, line + " x", line + " 1 1", "  " + line, line + "\t", line + "\r", line + "\x00", "\t" + line, line + ",", line + ";",
		} {
			wantRefused(t, d, wrong, "what")
		}
		for i := range words {
			fewer := strings.Join(append(slices.Clone(words[:i]), words[i+1:]...), " ")
			wantRefused(t, d, fewer, "what")
			emptied := slices.Insert(slices.Clone(words), i, "")
			wantRefused(t, d, strings.Join(emptied, " "), "what")
			tabbed := strings.Join(words[:i], " ") + "\t" + strings.Join(words[i:], " ")
			wantRefused(t, d, tabbed, "what")
		}
		if _, reply := executed(d, line); reply == "what" {
			t.Errorf("%q is of no kind", line)
		}
	}
}

// Even a line that could not be executed anyway has too many words.
func TestTooManyWordsBeforeAFunctionFails(t *testing.T) {
	d := impl.FirstDesk()
	for _, line := range []string{"where 0", "facing 99", "next 0", "balance 2", "plates 0", "sums 0", "cross 3", "sides 9", "route 3 0", "around 1001", "order 3", "boxes 0", "far 6", "paint 0 0", "moved 0 0 0", "walk 0 0 0"} {
		wantRefused(t, d, line, "no")
		wantRefused(t, d, line+" 1", "what")
		wantRefused(t, d, line+" ", "what")
	}
	other := deskOf(t, "o4", "lrb-l", "1")
	wantRefused(t, other, "houses", "no")
	wantRefused(t, other, "houses 1", "what")
}

func TestWordsThatLookLikeCommands(t *testing.T) {
	d := impl.FirstDesk()
	names := map[string]bool{}
	for _, k := range lineKinds() {
		names[strings.Split(k.form, " ")[0]] = true
	}
	for _, k := range lineKinds() {
		words := plainLine(k.form)
		name := words[0]
		for _, other := range []string{
			"", strings.ToUpper(name), strings.ToUpper(name[:1]) + name[1:], name + "s", name[1:], name[:len(name)-1], name + name, "x" + name, name + "\x00", name + "\xff", "\xef\xbb\xbf" + name, name + ":", "/" + name,
		} {
			words[0] = other
			if !names[other] {
				wantRefused(t, d, strings.Join(words, " "), "what")
			}
		}
	}
	for _, line := range []string{
		"", " ", "  ", "\t", "\r", "\x00", "\xff", "-", "no", "what", "fly", "N", "where N", "street S", "mail D", "people P", "loot P", "lamps R", "ring R", "walk N K M", "exit", "help", "#", "5", "o5", "lrb-l", "1-0-0-2-1", "##.#",
		"center ", "centre", "mirror mirror", "show tell", "street", "mail", "people", "moved", "где 1", "where1", "where\x006", "where\u00a06", "where\u30006", "MaxScript",
	} {
		wantRefused(t, d, line, "what")
	}
}

func TestNothingIsTurnedWhereAFunctionFails(t *testing.T) {
	for _, d := range someDesks(t) {
		for _, line := range []string{"moved 0 0 1", "moved 0 60 1", "moved 60 0 1", "moved 0 1 0", "moved 0 1 1001", "moved 999999 999999 999999", "where 999999", "paint 21 5"} {
			wantRefused(t, d, line, "no")
		}
	}
}

func TestLinesAtTheirLimit(t *testing.T) {
	d := impl.FirstDesk()
	for _, sign := range []string{" ", "x", "\xff", "\x00", "9", "-"} {
		for _, line := range []string{"", "where ", "mail ", "people ", "show"} {
			longest := line + strings.Repeat(sign, 3000-len(line))
			wantRefused(t, d, longest, "what")
			wantNoLine(t, d, longest+sign)
			wantNoLine(t, d, strings.Repeat(longest, 20))
		}
	}
}

func TestLinesWithANewlineInside(t *testing.T) {
	d := impl.FirstDesk()
	for _, line := range []string{"show", "where 6", "walk 1 6 3", "street u5", ""} {
		for i := range len(line) + 1 {
			wantNoLine(t, d, line[:i]+"\n"+line[i:])
		}
		wantNoLine(t, d, line+"\r\n")
		wantNoLine(t, d, line+"\n"+line+"\n")
	}
}

func TestLinesOnDesksThatAreNone(t *testing.T) {
	for _, d := range noDesks() {
		for _, k := range lineKinds() {
			wantNoLine(t, d, strings.Join(plainLine(k.form), " "))
		}
		for _, line := range []string{"", "fly", "street o5", "mail lrb-l", "people 1", "show ", "where 0", "\n", strings.Repeat("x", 3001)} {
			wantNoLine(t, d, line)
		}
	}
}

// mixedLines are drawn from lines of all kinds, those that are of none too, in an order that follows no plain pattern.
func mixedLines(many, seed int) []string {
	var lines []string
	kinds := lineKinds()
	for _, drawn := range mixedNumbers(many, 9999, seed) {
		kind := kinds[drawn%len(kinds)]
		words := strings.Split(kind.form, " ")
		for i, wordKind := range words[1:] {
			from := wordsOfKind(wordKind)
			words[i+1] = from[(drawn/7+i*drawn/3)%len(from)]
		}
		if drawn%11 == 0 {
			words[0] += "s"
		}
		lines = append(lines, strings.Join(words, " "))
	}
	return lines
}

// shortened takes off lines until they can be a script.
func shortened(lines []string) []string {
	for len(scriptOf(lines)) > 3000 {
		lines = lines[:len(lines)-1]
	}
	return lines
}

func TestScriptsAreExecutedLineByLine(t *testing.T) {
	turned, refused := 0, 0
	for seed := range 150 {
		lines := shortened(mixedLines(seed%51, seed))
		d := impl.FirstDesk()
		var replies []string
		for _, line := range lines {
			behind, reply := executed(d, line)
			wantLine(t, d, line, behind, reply)
			if !sameDesk(d, behind) {
				turned++
			}
			if reply == "no" {
				refused++
			}
			d, replies = behind, append(replies, reply)
		}
		wantScript(t, scriptOf(lines), replies, d)
	}
	if turned < 100 || refused < 100 {
		t.Errorf("just %d lines turn the desk, and %d functions fail", turned, refused)
	}
}

func TestSmallScripts(t *testing.T) {
	first := impl.FirstDesk()
	wantScript(t, "", nil, first)
	wantScript(t, "\n", []string{"what"}, first)
	wantScript(t, "\n\n\n", []string{"what", "what", "what"}, first)
	wantScript(t, "show\n", []string{"o5"}, first)
	wantScript(t, "show\n\nshow\n", []string{"o5", "what", "o5"}, first)
	wantScript(t, "show\r\n", []string{"what"}, first)
	wantScript(t, "show \n show\n", []string{"what", "what"}, first)
	wantScript(t, "where 11\nwhere 1\nwhere 0\n", []string{"no", "0,0", "no"}, first)
	wantScript(t, "street r2\nmail lr\nhouses\nmirror\nback\nhouses\nstreet u2\nhouses\n", []string{"r2", "lr", "no", "rl", "lr", "no", "u2", "1,3"}, deskOf(t, "u2", "lr", "1-0-0-2-1"))
	wantScript(t, "people 2-0\nmoved 0 1 1\nmoved 0 1 1\nmoved 0 1 1\nbest\nmean\n", []string{"2-0", "1-1", "0-2", "no", "1", "1/1"}, deskOf(t, "o5", "lrb-l", "0-2"))
	wantScript(t, "\xff\n\x00\n", []string{"what", "what"}, first)
}

func TestScriptsWithoutANewlineAtTheEnd(t *testing.T) {
	for _, script := range []string{"show", " ", "x", "\r", "show\nshow", "\nshow", "\n ", "show\n\nwhere 6", "show\n\x00", "show\n\xff", strings.Repeat("\n", 49) + "x", strings.Repeat("x", 3000)} {
		wantNoScript(t, script)
	}
}

func TestScriptsOfMaxLines(t *testing.T) {
	d := impl.FirstDesk()
	wantScript(t, strings.Repeat("show\n", 50), slices.Repeat([]string{"o5"}, 50), d)
	wantScript(t, strings.Repeat("\n", 50), slices.Repeat([]string{"what"}, 50), d)
	wantScript(t, strings.Repeat("where 0\n", 49)+"street u5\n", append(slices.Repeat([]string{"no"}, 49), "u5"), deskOf(t, "u5", "lrb-l", "1-0-0-2-1"))
	for _, script := range []string{strings.Repeat("show\n", 51), strings.Repeat("\n", 51), strings.Repeat("show\n", 50) + "\n", "\n" + strings.Repeat("show\n", 50), strings.Repeat("show\n", 50) + "show", strings.Repeat("\n", 3000), strings.Repeat("\n", 50) + " "} {
		wantNoScript(t, script)
	}
}

func TestScriptsOfMaxScriptBytes(t *testing.T) {
	d := impl.FirstDesk()
	wantScript(t, strings.Repeat("x", 2999)+"\n", []string{"what"}, d)
	wantScript(t, "show\n"+strings.Repeat(" ", 2994)+"\n", []string{"o5", "what"}, d)
	wantScript(t, strings.Repeat(strings.Repeat("x", 59)+"\n", 50), slices.Repeat([]string{"what"}, 50), d)
	wantScript(t, strings.Repeat("x", 2989)+"\nstreet u5\n", []string{"what", "u5"}, deskOf(t, "u5", "lrb-l", "1-0-0-2-1"))
	for _, script := range []string{
		strings.Repeat("x", 3000) + "\n", "show\n" + strings.Repeat(" ", 2995) + "\n", strings.Repeat(strings.Repeat("x", 59)+"\n", 49) + strings.Repeat("x", 60) + "\n", strings.Repeat("x", 2990) + "\nstreet u5\n", strings.Repeat("ö", 1500) + "\n", strings.Repeat("show\n", 5000),
	} {
		wantNoScript(t, script)
	}
}

// What is written into a desk turns neither the one that was given for it nor another one.
func TestDesksHavePeopleOfTheirOwn(t *testing.T) {
	for _, line := range []string{"show", "fly", "where 0", "moved 3 0 2", "people 1-0-0-2-1", "mirror", "live"} {
		d := impl.FirstDesk()
		behind, _, _ := impl.DeskLine(d, line)
		again, _, _ := impl.DeskLine(d, line)
		wanted := slices.Clone(again.People)
		behind.People[0], behind.People[4] = 500, 600
		wantDesk(t, "DeskLine of "+line+" on the desk that was given", d, impl.FirstDesk())
		wantList(t, "the people of another desk", again.People, true, wanted, true)
		d.People[1] = 700
		wantList(t, "the people of another desk", again.People, true, wanted, true)
	}
	after, _ := impl.DeskAfter("show\n")
	after.People[0] = 500
	again, _ := impl.DeskAfter("show\n")
	wantDesk(t, "DeskAfter, when an earlier one was changed,", again, impl.FirstDesk())
}

func TestTheConsoleLeavesNobodyBehind(t *testing.T) {
	before := runtime.NumGoroutine()
	for seed := range 20 {
		impl.RunScript(scriptOf(shortened(mixedLines(50, seed))))
	}
	wantNobodyLeft(t, before)
}
