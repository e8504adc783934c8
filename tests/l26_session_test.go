package tests

import (
	"maps"
	"math/rand/v2"
	"slices"
	"strconv"
	"strings"
	"testing"

	"loop.example/planargeometry/impl"
)

// commandNames has the commands that need points.
var commandNames = []string{"hull", "area", "inside", "simple", "diameter", "circle", "kd", "tree"}

// numbersText returns numbers separated by spaces.
func numbersText(list ...int) string {
	var texts []string
	for _, n := range list {
		texts = append(texts, strconv.Itoa(n))
	}
	return strings.Join(texts, " ")
}

// wantInterior returns the number of points inside of a polygon by the theorem
// of Pick, or -1 if it is not simple.
func wantInterior(p []impl.Point) int {
	if !simple(p) {
		return -1
	}
	boundary, area := 0, areaOf(p)
	for i := range p {
		boundary += stepsOf(edge(p, i))
	}
	return (max(area, -area) - boundary + 2) / 2
}

// wantAnswer returns the output that a command should have for points.
func wantAnswer(list []impl.Point, command string) string {
	switch command {
	case "hull":
		return pointsText(wantHull(list))
	case "area":
		return numbersText(areaOf(wantHull(list)))
	case "inside":
		return numbersText(wantInterior(list))
	case "simple":
		if simple(list) {
			return "yes"
		}
		return "no"
	case "diameter":
		want := wantDiameter(list)
		return numbersText(want[:]...)
	case "circle":
		return numbersText(wantSupport(list)...)
	case "kd":
		return numbersText(wantKd(list, 0, indicesWith(len(list), func(int) bool { return true }))...)
	case "tree":
		return numbersText(totalSteps(list, wantTree(list)))
	}
	return "what"
}

// wantSession returns the result that RunSession should have.
func wantSession(lines []string) string {
	var list []impl.Point
	output := ""
	for i, line := range lines {
		if i == 30 {
			break
		}
		answer := "what"
		if strings.HasPrefix(line, "points ") {
			answer = "no"
			if points, ok := wantPoints(line[7:]); ok {
				list, answer = points, "ok"
			}
		} else if len(list) > 0 {
			answer = wantAnswer(list, line)
		}
		output += answer + "\n"
	}
	return output
}

// checkSession fails the test unless a session has the right output and keeps
// its lines.
func checkSession(t *testing.T, lines []string) {
	t.Helper()
	before := slices.Clone(lines)
	if got, want := impl.RunSession(lines), wantSession(lines); got != want {
		t.Fatalf("RunSession(%q) = %q, want %q", lines, got, want)
	}
	if !slices.Equal(lines, before) {
		t.Fatalf("RunSession changes %q to %q", before, lines)
	}
}

// answers returns the lines of the output of a session.
func answers(lines []string) []string {
	output := impl.RunSession(lines)
	if output == "" {
		return nil
	}
	return strings.Split(strings.TrimSuffix(output, "\n"), "\n")
}

// sessionLists returns lists that a session can take: of one and two points,
// with points that occur twice or are on one line, simple polygons and others.
func sessionLists() [][]impl.Point {
	lists := append(someLists(), circleLists()...)
	lists = append(append(lists, kdLists()...), allPolygons()...)
	others := notSimple()
	for _, name := range slices.Sorted(maps.Keys(others)) {
		if _, ok := wantPoints(pointsText(others[name])); ok {
			lists = append(lists, others[name])
		}
	}
	return slices.DeleteFunc(lists, func(list []impl.Point) bool { return len(list) == 0 })
}

// otherLines returns lines that neither set points nor are a command.
func otherLines() []string {
	list := []string{
		"", " ", "what", "ok", "no", "help", "points", "point", "points\t1 1", "points,1 1", "points1 1", "points-1 1", "Points 1 1", "POINTS 1 1", "point 1 1", " points 1 1", "  points 1 1", "\tpoints 1 1", "xpoints 1 1",
		"1 1", "points\n", "points\n1 1", "points\x001 1", "points\u00a01 1", "hull area", "hull,area", "hull\narea", "hull points 1 1", "set points 1 1", "quit", "perimeter", "width", "closest", "hulls", "h", "k", "kd tree", "sim", "tre", "insid", "\x00", "\xff",
	}
	for _, name := range commandNames {
		list = append(list, name+" ", " "+name, name+" x", "x "+name, name+"x", "x"+name, name+"\n", "\n"+name, name+"\t", name+"\r", name+"\x00", name+",", name+" "+name, name+name, name+" 1 1", strings.ToUpper(name), strings.ToUpper(name[:1])+name[1:], name[1:], name[:len(name)-1])
	}
	return list
}

// badRests returns texts behind `points` and a space that are no list of points.
func badRests() []string {
	return []string{
		"", " ", "  ", "1", "1 ", " 1 1", "1 1 ", "1  1", "1 1,", ",1 1", "1 1,,2 2", "1 1, 2 2", "1 1 ,2 2", "1 1 1", "1,1", "01 1", "1 01", "-0 1", "1 -0", "+1 1", "1 +1", "1001 1", "1 -1001", "1/2 1", "1/1 1", "x", "1 x",
		"points 1 1", "hull", "1 1\n", "1 1\n2 2", "18446744073709551617 1", strings.Repeat("9", 3000) + " 1", pointsText(manyPoints(21)), pointsText(make([]impl.Point, 21)), pointsText(manyPoints(20)) + ",",
	}
}

// randomLine returns a line: often a command, sometimes one that sets points
// or fails.
func randomLine(r *rand.Rand, lists [][]impl.Point) string {
	switch n := r.IntN(20); {
	case n < 3:
		return "points " + pointsText(lists[r.IntN(len(lists))])
	case n < 5:
		return "points " + badRests()[r.IntN(len(badRests()))]
	case n < 8:
		return otherLines()[r.IntN(len(otherLines()))]
	}
	return commandNames[r.IntN(len(commandNames))]
}

// randomSessions returns sessions of up to 40 lines.
func randomSessions() [][]string {
	var sessions [][]string
	r := fixedRandom()
	lists := sessionLists()
	for range 300 {
		var lines []string
		for range r.IntN(41) {
			lines = append(lines, randomLine(r, lists))
		}
		sessions = append(sessions, lines)
	}
	return sessions
}

func TestP126OutputDependsOnlyOnPrecedingLines(t *testing.T) {
	for _, lines := range randomSessions() {
		checkSession(t, lines)
		all := impl.RunSession(lines)
		for n := range lines {
			part := impl.RunSession(lines[:n])
			if !strings.HasPrefix(all, part) || strings.Count(part, "\n") != min(n, 30) {
				t.Fatalf("RunSession(%q) = %q, all lines %q", lines[:n], part, all)
			}
		}
	}
}

func TestP126LinesAfterMaxLinesProduceNothing(t *testing.T) {
	for _, n := range []int{0, 1, 2, 28, 29, 30, 31, 32, 60, 100, 100000} {
		for _, line := range []string{"area", "help", "", "points 5 5", "points x"} {
			lines := append([]string{"points 0 0,4 0,0 3"}, slices.Repeat([]string{line}, n)...)[:n]
			checkSession(t, lines)
			if got := strings.Count(impl.RunSession(lines), "\n"); got != min(n, 30) {
				t.Errorf("RunSession of %d lines %q has %d lines of output", n, line, got)
			}
		}
	}
	lines := append(slices.Repeat([]string{"hull"}, 28), "points 1 2", "hull", "hull")
	if got, want := impl.RunSession(lines), strings.Repeat("what\n", 28)+"ok\n1 2\n"; got != want {
		t.Errorf("RunSession with points in the line 29 = %q, want %q", got, want)
	}
	late := append(slices.Repeat([]string{"hull"}, 30), "points 1 2", "hull")
	if got, want := impl.RunSession(late), strings.Repeat("what\n", 30); got != want {
		t.Errorf("RunSession with points in the line 31 = %q, want %q", got, want)
	}
}

func TestP126NoLinesHaveNoOutput(t *testing.T) {
	for _, lines := range [][]string{nil, {}, make([]string, 0, 5)} {
		if got := impl.RunSession(lines); got != "" {
			t.Errorf("RunSession(%q) = %q", lines, got)
		}
	}
	if got := impl.RunSession([]string{""}); got != "what\n" {
		t.Errorf("RunSession of an empty line = %q", got)
	}
	if got := impl.RunSession([]string{"", "points -1 -1", "", "hull"}); got != "what\nok\nwhat\n-1 -1\n" {
		t.Errorf("RunSession with empty lines = %q", got)
	}
}

func TestP126SessionsKeepNoState(t *testing.T) {
	lines := []string{"hull", "points 3 4,5 6", "hull"}
	for range 3 {
		if got := impl.RunSession(lines); got != "what\nok\n3 4,5 6\n" {
			t.Errorf("RunSession(%q) = %q", lines, got)
		}
		if got := impl.RunSession([]string{"hull"}); got != "what\n" {
			t.Errorf("RunSession without points = %q", got)
		}
	}
}

func TestP127SessionsPrintHulls(t *testing.T) {
	for _, list := range sessionLists() {
		got := answers([]string{"points " + pointsText(list), "hull", "area"})
		if want := []string{"ok", impl.EncodePoints(impl.Hull(list)), strconv.Itoa(impl.HullArea(list))}; !slices.Equal(got, want) {
			t.Fatalf("hull and area of %v are %q, want %q", list, got, want)
		}
	}
}

func TestP128SessionsKnowSimplePolygons(t *testing.T) {
	count := map[string]int{}
	for _, list := range sessionLists() {
		got := answers([]string{"points " + pointsText(list), "simple"})
		want := "no"
		if impl.IsSimple(list) {
			want = "yes"
		}
		if !slices.Equal(got, []string{"ok", want}) {
			t.Fatalf("simple of %v is %q, want %q", list, got, want)
		}
		count[want]++
	}
	if min(count["yes"], count["no"]) < 200 {
		t.Errorf("only these polygons: %v", count)
	}
}

func TestP127P128AllCommands(t *testing.T) {
	for _, list := range sessionLists() {
		checkSession(t, slices.Concat([]string{"points " + pointsText(list)}, commandNames))
	}
}

func TestP127P128OrdinarySessions(t *testing.T) {
	for points, want := range map[string][]string{
		// hull, area, inside, simple, diameter, circle, kd, tree
		"0 0,4 0,4 4,2 1,0 4":     {"0 0,4 0,4 4,0 4", "32", "4", "yes", "0 2 32", "0 2", "3 4 0 2 1", "14"},
		"0 4,2 1,4 4,4 0,0 0":     {"0 0,4 0,4 4,0 4", "32", "4", "yes", "0 3 32", "0 3", "1 0 4 2 3", "14"},
		"-3 -4":                   {"-3 -4", "0", "-1", "no", "0 0 0", "0", "0", "0"},
		"-3 -4,-3 -4":             {"-3 -4", "0", "-1", "no", "0 0 0", "0", "1 0", "0"},
		"-3 -4,3 4":               {"-3 -4,3 4", "0", "-1", "no", "0 1 100", "0 1", "1 0", "14"},
		"3 4,-3 -4":               {"-3 -4,3 4", "0", "-1", "no", "0 1 100", "0 1", "0 1", "14"},
		"-1 -1,-2 -2,-3 -3,-4 -4": {"-4 -4,-1 -1", "0", "-1", "no", "0 3 18", "0 3", "1 2 3 0", "6"},
		"0 0,2 2,2 0,0 2":         {"0 0,2 0,2 2,0 2", "8", "-1", "no", "0 1 8", "0 1", "2 3 0 1", "6"},
		"0 0,4 0,0 0,0 4":         {"0 0,4 0,0 4", "16", "-1", "no", "1 3 32", "1 3", "3 2 0 1", "8"},
		"0 0,2 0,1 2":             {"0 0,2 0,1 2", "4", "1", "yes", "0 2 5", "0 1 2", "2 0 1", "5"},
		"-5 -5,-1 -5,-1 -1,-5 -1": {"-5 -5,-1 -5,-1 -1,-5 -1", "32", "9", "yes", "0 2 32", "0 2", "1 3 0 2", "12"},
		"-5 -1,-1 -1,-1 -5,-5 -5": {"-5 -5,-1 -5,-1 -1,-5 -1", "32", "9", "yes", "0 2 32", "0 2", "2 0 3 1", "12"},
		"-1000 -1000,1000 1000":   {"-1000 -1000,1000 1000", "0", "-1", "no", "0 1 8000000", "0 1", "1 0", "4000"},
		"0 0,1 0,1 1,0 1,0 0,1 0": {"0 0,1 0,1 1,0 1", "2", "-1", "no", "0 2 2", "0 2", "1 4 0 3 2 5", "3"},
		"-1000 -1000,1000 -1000,1000 1000,-1000 1000": {"-1000 -1000,1000 -1000,1000 1000,-1000 1000", "8000000", "3996001", "yes", "0 2 8000000", "0 2", "1 3 0 2", "6000"},
	} {
		got := answers(append([]string{"points " + points}, commandNames...))
		if !slices.Equal(got, append([]string{"ok"}, want...)) {
			t.Errorf("points %s and all commands print %q, want ok and %q", points, got, want)
		}
	}
}

func TestP129SessionsNeedPoints(t *testing.T) {
	for _, name := range commandNames {
		for _, lines := range [][]string{{name}, {name, name}, {"points", name}, {"points ", name}, {"points x", name}, {"", name}, {"what", name}} {
			if got := answers(lines); len(got) != len(lines) || got[len(got)-1] != "what" {
				t.Errorf("RunSession(%q) = %q", lines, got)
			}
		}
		lines := []string{name, "points 1 -1,3 0,2 2", name}
		checkSession(t, lines)
		if got := answers(lines); len(got) != 3 || got[0] != "what" || got[1] != "ok" || got[2] == "what" {
			t.Errorf("RunSession(%q) = %q", lines, got)
		}
	}
}

func TestP129FailedPointsChangeNothing(t *testing.T) {
	before := []string{"points 0 0,4 0,4 4,2 1,0 4"}
	want := answers(append(before, commandNames...))
	for _, rest := range badRests() {
		got := answers(slices.Concat(before, []string{"points " + rest}, commandNames))
		if wanted := slices.Concat(want[:1], []string{"no"}, want[1:]); !slices.Equal(got, wanted) {
			t.Errorf("after points %q: %q, want %q", rest, got, wanted)
		}
		if got := impl.RunSession([]string{"points " + rest, "hull"}); got != "no\nwhat\n" {
			t.Errorf("RunSession of points %q and hull = %q", rest, got)
		}
		if got := impl.RunSession([]string{"points " + rest, "points 1 2", "hull"}); got != "no\nok\n1 2\n" {
			t.Errorf("RunSession of points %q and others = %q", rest, got)
		}
	}
}

func TestP129OtherLinesChangeNothing(t *testing.T) {
	before := []string{"points 0 0,4 0,4 4,2 1,0 4"}
	want := answers(append(before, commandNames...))
	for _, line := range otherLines() {
		got := answers(slices.Concat(before, []string{line}, commandNames))
		if wanted := slices.Concat(want[:1], []string{"what"}, want[1:]); !slices.Equal(got, wanted) {
			t.Errorf("after %q: %q, want %q", line, got, wanted)
		}
		if got := impl.RunSession([]string{line, "hull"}); got != "what\nwhat\n" {
			t.Errorf("RunSession of %q and hull = %q", line, got)
		}
	}
}

func TestP129LaterPointsReplaceEarlierOnes(t *testing.T) {
	lines := []string{"points 0 0,4 0,0 4", "area", "points -1 -1", "area", "hull", "points 0 0,1 0,1 1,0 1", "area", "points 5", "area", "points 2 2,2 2", "hull", "points 2 2", "kd"}
	want := "ok\n16\nok\n0\n-1 -1\nok\n2\nno\n2\nok\n2 2\nok\n0\n"
	if got := impl.RunSession(lines); got != want {
		t.Errorf("RunSession = %q, want %q", got, want)
	}
}

func TestP129NumberOfPoints(t *testing.T) {
	for n := range 25 {
		lines := []string{"points " + pointsText(manyPoints(n)), "kd", "hull"}
		checkSession(t, lines)
		want := "no"
		if 1 <= n && n <= 20 {
			want = "ok"
		}
		if got := answers(lines); len(got) != 3 || got[0] != want {
			t.Errorf("a session with %d points prints %q", n, got)
		}
	}
}
