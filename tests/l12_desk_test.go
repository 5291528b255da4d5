package tests

import (
	"fmt"
	"math"
	"regexp"
	"slices"
	"strconv"
	"strings"
	"sync"
	"testing"

	"loop.example/scopegraphs/impl"
)

func TestFormatNumbers(t *testing.T) {
	cases := []struct {
		list []int
		want string
	}{
		{nil, "-"},
		{[]int{}, "-"},
		{[]int{0}, "0"},
		{[]int{-1}, "-1"},
		{[]int{7}, "7"},
		{[]int{1, 0, -3}, "1 0 -3"},
		{[]int{5, 5, 5}, "5 5 5"},
		{[]int{10, 100, -20}, "10 100 -20"},
		{[]int{math.MaxInt, math.MinInt}, "9223372036854775807 -9223372036854775808"},
		{[]int{0, 0}, "0 0"},
		{make([]int, 3, 9), "0 0 0"},
	}
	for _, c := range cases {
		if got := impl.FormatNumbers(c.list); got != c.want {
			t.Errorf("FormatNumbers(%v) = %q, want %q", c.list, got, c.want)
		}
	}
	long := slices.Repeat([]int{-12}, 5000)
	if got := impl.FormatNumbers(long); got != strings.Repeat("-12 ", 4999)+"-12" {
		t.Errorf("FormatNumbers of 5000 numbers has %d bytes", len(got))
	}
}

// checkScript compares the output of a script, and shows it from the first line on that is another one.
func checkScript(t *testing.T, script string, want string) {
	t.Helper()
	got := impl.RunScript(script)
	if got == want {
		return
	}
	same := 0
	for i := 0; i < min(len(got), len(want)) && got[i] == want[i]; i++ {
		if got[i] == '\n' {
			same = i + 1
		}
	}
	t.Errorf("RunScript(%.500q) writes %.200q behind %d bytes, want %.200q", script, got[same:], same, want[same:])
}

// TestDocumentScript runs the example, of which each row is a line and its output.
func TestDocumentScript(t *testing.T) {
	rows := [][2]string{
		{"graph -,x,m=1,?x;0,y,x;0,!m,?y,?x", "-,x,m=1,?x;0,y,x;0,!m,?y,?x"},
		{"program", "{!m?y?x}xm{yx}?x"},
		{"table", "0.2>0.0;2.0>0.1;2.1>1.0;2.2>1.1"},
		{"states", "8 0 0 0"},
		{"names", "mxy"},
		{"own", "xmyx"},
		{"chain 2", "2 0"},
		{"within 0", "0 1 2"},
		{"blocks 0", "2"},
		{"path 1", "m"},
		{"imports 2", "1"},
		{"visible 2", "mxy"},
		{"clashes 2", "-"},
		{"seen 2", "0.1 1.0 1.1"},
		{"hidden 2", "0.0"},
		{"look 2 x", "1.1"},
		{"find 0 mx", "1.1"},
		{"means 2.2", "1.1"},
		{"state 2.2", "found"},
		{"users 0.1", "2.0"},
		{"hides 1.1", "0.0"},
		{"sees 0.0", "0"},
		{"changed 2.0", "2.1 2.2"},
		{"qualified 1.1", "mx"},
		{"good 1.1", "abcdefghijklmnopqrstuvwxz"},
		{"bad 1.1 y", "2.1 2.2"},
		{"conflicts 1.1", "1.0"},
		{"unused", "-"},
		{"fresh", "-,a,b=1,?a;0,c,d;0,!b,?c,?d"},
		{"fewest", "-,a,b=1,?a;0,a,b;0,!b,?a,?b"},
		{"greedy", "abab"},
		{"swap a b", "-,b,a=1,?b;0,b,a;0,!a,?b,?a"},
		{"rename 0.0 q", "-,q,a=1,?q;0,b,a;0,!a,?b,?a"},
		{"captured 2 b", "2.1"},
		{"addable 2", "cdefghijklmnopqrstuvwxyz"},
		{"add 2 b", "-,q,a=1,?q;0,b,a;0,!a,?b,?a,b"},
		{"clean", "-,q,a=1,?q;0,a;0,!a,?b,?a,b"},
		{"remove 2.3", "-,q,a=1,?q;0,a;0,!a,?b,?a"},
		{"states", "6 1 0 0"},
		{"move 0.2 2", "-,q,a=1;0,a;0,!a,?b,?a,?q"},
		{"import 0 a", "-,q,a=1,!a;0,a;0,!a,?b,?a,?q"},
		{"circles", "-"},
		{"program xm{y}{!m?y}", "-,x,m=1;0,y;0,!m,?y"},
		{"order", "-,x,m=2;0,!m,?y;0,y"},
		{"after", "0 1 2"},
		{"named abc", "-,a,b=2;0,!b,?c;0,c"},
		{"means 9.9", "no"},
		{"foo", "what"},
	}
	script, output := "", ""
	for _, row := range rows {
		script += row[0] + "\n"
		output += row[1] + "\n"
		// The last line may end with a newline or with the script.
		checkScript(t, script, output)
		checkScript(t, strings.TrimSuffix(script, "\n"), output)
	}
	checkScript(t, "\n\n"+strings.ReplaceAll(script, "\n", "\n\n"), output)
}

// checkTold checks the output of lines that leave the graph as it is.
func checkTold(t *testing.T, text string, lines map[string]string) {
	t.Helper()
	for line, want := range lines {
		checkScript(t, "graph "+text+"\n"+line+"\ngraph", text+"\n"+want+"\n"+text+"\n")
	}
}

// checkBecome checks the output of lines by which the graph becomes another one, and this graph.
func checkBecome(t *testing.T, text string, lines map[string]string) {
	t.Helper()
	for line, want := range lines {
		checkScript(t, "graph "+text+"\n"+line+"\ngraph\n", text+"\n"+want+"\n"+want+"\n")
	}
}

// deskGraph is the graph of the document's script.
const deskGraph = "-,x,m=1,?x;0,y,x;0,!m,?y,?x"

func TestLinesThatTell(t *testing.T) {
	checkTold(t, deskGraph, map[string]string{
		"graph": deskGraph, "program": "{!m?y?x}xm{yx}?x", "table": "0.2>0.0;2.0>0.1;2.1>1.0;2.2>1.1",
		"names": "mxy", "own": "xmyx", "greedy": "abab", "states": "8 0 0 0",
		"unused": "-", "circles": "-", "after": "0 2 1",
		"chain 0": "0", "chain 1": "1 0", "chain 2": "2 0", "within 0": "0 1 2", "within 1": "1", "within 2": "2",
		"blocks 0": "2", "blocks 1": "-", "blocks 2": "-", "path 0": "-", "path 1": "m", "path 2": "-",
		"imports 0": "-", "imports 1": "-", "imports 2": "1",
		"look 0 x": "0.0", "look 1 x": "1.1", "look 2 x": "1.1", "look 2 y": "1.0", "look 2 m": "0.1", "look 0 y": "-", "look 0 q": "-", "look 2 q": "-",
		"find 0 x": "0.0", "find 2 x": "1.1", "find 0 m": "0.1", "find 0 mx": "1.1", "find 2 my": "1.0", "find 0 mm": "-", "find 2 xx": "-", "find 2 q": "-", "find 2 mq": "-", "find 2 qx": "-",
		"visible 0": "mx", "visible 1": "mxy", "visible 2": "mxy", "free 0": without("mx"), "free 2": without("mxy"), "clashes 0": "-", "clashes 2": "-",
		"seen 0": "0.0 0.1", "seen 1": "0.1 1.0 1.1", "seen 2": "0.1 1.0 1.1", "hidden 0": "-", "hidden 1": "0.0", "hidden 2": "0.0",
		"addable 0": without("mx"), "addable 1": without("xy"), "addable 2": without("mxy"),
		"captured 0 x": "0.2", "captured 0 m": "2.0 2.1 2.2", "captured 2 y": "2.1", "captured 0 q": "-", "captured 2 q": "-",
		"means 0.0": "0.0", "means 0.2": "0.0", "means 2.0": "0.1", "means 2.2": "1.1", "state 0.0": "found", "state 0.2": "found", "state 2.0": "found",
		"qualified 0.0": "x", "qualified 0.1": "m", "qualified 1.0": "my", "qualified 1.1": "mx",
		"hides 0.0": "-", "hides 1.0": "-", "hides 1.1": "0.0", "sees 0.0": "0", "sees 0.1": "0 1 2", "sees 1.1": "1 2",
		"users 0.0": "0.2", "users 0.1": "2.0", "users 1.0": "2.1", "changed 0.0": "0.2", "changed 0.1": "2.0 2.1 2.2", "changed 0.2": "-", "changed 2.0": "2.1 2.2",
		"good 0.0": without("m"), "good 1.1": without("y"), "bad 0.0 m": "0.2 2.0 2.1 2.2", "bad 0.0 x": "-", "bad 0.0 q": "-", "bad 1.1 y": "2.1 2.2",
		"conflicts 0.0": "0.1", "conflicts 0.1": "0.0", "conflicts 1.0": "1.1", "conflicts 1.1": "1.0",
	})
	// What means nothing, or several declarations, and a scope without room.
	checkTold(t, "-,x,x,?x,?q,!x", map[string]string{
		"program": "xx?x?q!x", "table": "0.2>0.0 0.1;0.3>-;0.4>0.0 0.1", "names": "qx", "own": "xx", "states": "2 1 2 0", "unused": "-",
		"means 0.2": "0.0 0.1", "means 0.3": "-", "means 0.4": "0.0 0.1", "state 0.1": "found", "state 0.2": "ambiguous", "state 0.3": "missing", "state 0.4": "ambiguous",
		"clashes 0": "x", "visible 0": "x", "seen 0": "0.0 0.1", "hidden 0": "-", "sees 0.0": "-", "hides 0.0": "-", "users 0.0": "-", "changed 0.0": "0.2 0.4", "good 0.0": "x",
		"greedy": "no", "fresh": "no", "fewest": "no", "named ab": "no", "conflicts 0.0": "no", "addable 0": "no", "captured 0 a": "no", "add 0 a": "no", "import 0 a": "no",
	})
	checkTold(t, "-,x,!x,!q,!m,m=1;0", map[string]string{
		"states": "3 1 0 1", "state 0.1": "plain", "state 0.2": "missing", "state 0.3": "found", "state 0.4": "found", "table": "0.1>0.0;0.2>-;0.3>0.4", "imports 0": "1", "unused": "-",
	})
	checkTold(t, "-,m=1,n=2;0,!n,n=3;0,!m;1,!m", map[string]string{
		"circles": "1 3", "imports 1": "3", "imports 2": "1", "imports 3": "1", "path 3": "mn", "after": "0 1 3 2",
	})
	checkTold(t, "-,m=1,n=2;0,!n;0,!m,?x", map[string]string{"circles": "1 2", "states": "4 1 0 0", "unused": "-", "imports 1": "2", "greedy": "ab"})
	checkTold(t, "-,a,b,c,d,e;0,f,g,h", map[string]string{"greedy": "no", "fewest": "no", "own": "abcdefgh", "unused": "0.0 0.1 0.2 0.3 0.4 1.0 1.1 1.2", "conflicts 0.0": "-"})
}

func TestLinesThatChange(t *testing.T) {
	checkBecome(t, deskGraph, map[string]string{
		"graph -": "-", "graph -,x": "-,x", "graph " + deskGraph: deskGraph,
		"program ": "-", "program x": "-,x", "program xm{yx}?x{!m?y?x}": deskGraph,
		"order": "-,x,m=2,?x;0,!m,?y,?x;0,y,x", "clean": deskGraph,
		"fresh": "-,a,b=1,?a;0,c,d;0,!b,?c,?d", "fewest": "-,a,b=1,?a;0,a,b;0,!b,?a,?b",
		"named abcd": "-,a,b=1,?a;0,c,d;0,!b,?c,?d", "named yxwv": "-,y,x=1,?y;0,w,v;0,!x,?w,?v", "named aaaa": "-,a,a=1,?a;0,a,a;0,!a,?a,?a",
		"swap x y": "-,y,m=1,?y;0,x,y;0,!m,?x,?y", "swap q x": "-,q,m=1,?q;0,y,q;0,!m,?y,?q", "swap x x": deskGraph, "swap q r": deskGraph,
		"add 0 q": "-,x,m=1,?x,q;0,y,x;0,!m,?y,?x", "add 1 x": "-,x,m=1,?x;0,y,x,x;0,!m,?y,?x", "add 2 m": "-,x,m=1,?x;0,y,x;0,!m,?y,?x,m",
		"import 0 m": "-,x,m=1,?x,!m;0,y,x;0,!m,?y,?x", "import 2 q": "-,x,m=1,?x;0,y,x;0,!m,?y,?x,!q",
		"remove 0.0": "-,m=1,?x;0,y,x;0,!m,?y,?x", "remove 0.1": "-,x,?x;0,y,x;0,!m,?y,?x", "remove 2.2": "-,x,m=1,?x;0,y,x;0,!m,?y",
		"move 2.2 0": "-,x,m=1,?x,?x;0,y,x;0,!m,?y", "move 0.0 1": "-,m=1,?x;0,y,x,x;0,!m,?y,?x",
		"rename 0.0 q": "-,q,m=1,?q;0,y,x;0,!m,?y,?x", "rename 0.1 x": "-,x,x=1,?x;0,y,x;0,!x,?y,?x", "rename 1.0 y": deskGraph,
	})
	checkBecome(t, "-,x,m=1;0,x,y;0,!m,!m,?x", map[string]string{
		"clean": "-,m=1;0,x;0,!m,?x", "fresh": "-,a,b=1;0,c,d;0,!b,!b,?c", "fewest": "-,a,b=1;0,a,b;0,!b,!b,?a", "order": "-,x,m=2;0,!m,!m,?x;0,x,y",
	})
	checkBecome(t, "-,?q,!r,s", map[string]string{"fresh": "-,?z,!z,a", "fewest": "-,?z,!z,a", "clean": "-,?q", "swap q r": "-,?r,!q,s", "swap s q": "-,?s,!r,q"})
}

// TestEmptyTexts checks lines with results or rests that are empty.
func TestEmptyTexts(t *testing.T) {
	checkScript(t, "", "")
	checkScript(t, "\n", "")
	checkScript(t, strings.Repeat("\n", 50), "")
	checkTold(t, "-", map[string]string{
		"graph": "-", "program": "-", "table": "-", "names": "-", "own": "-", "greedy": "-", "states": "0 0 0 0", "unused": "-", "circles": "-", "after": "0",
		"chain 0": "0", "within 0": "0", "blocks 0": "-", "path 0": "-", "imports 0": "-", "look 0 x": "-", "find 0 x": "-", "find 0 xyz": "-",
		"visible 0": "-", "free 0": alphabet, "clashes 0": "-", "seen 0": "-", "hidden 0": "-", "addable 0": alphabet, "captured 0 x": "-",
		"order": "-", "clean": "-", "fresh": "-", "fewest": "-", "named ": "-", "swap x y": "-", "program ": "-", "graph -": "-",
		"graph ": "no", "swap ": "no", "add ": "no", "chain ": "no", "path ": "no", "look ": "no", "find ": "no", "means ": "no", "state ": "no", "rename ": "no", "move ": "no",
		"look 0 ": "no", "find 0 ": "no", "captured 0 ": "no", "add 0 ": "no", "import 0 ": "no",
		"order ": "what", "table ": "what", "states ": "what", "after ": "what", " ": "what", "  ": "what", " graph": "what", " graph -": "what",
	})
	checkBecome(t, "-", map[string]string{"add 0 x": "-,x", "import 0 x": "-,!x"})
	// The graph is this one at first, without a line that says so.
	for line, want := range map[string]string{"graph": "-", "program": "-", "table": "-", "own": "-", "states": "0 0 0 0", "add 0 x": "-,x", "order": "-", "chain 1": "no", "chain": "what"} {
		checkScript(t, line, want+"\n")
	}
}

// wrongRests holds, for each word with a rest, rests that do not fit to the document's graph.
var wrongRests = map[string][]string{
	"graph":   {"", "x", " -", "- ", "-,", "-,x;", "-,X", "-;1", "-,x,x,x,x,x,x", "0", "-\t", "-\r", "--", "-,x=1", "no"},
	"program": {"}", "{", " ", "x ", " x", "-", "X", "xxxxxx", "{}{}{}{}{}{}", "?", "x\r", deskGraph},
	"named":   {"", "abc", "abcde", "abcz", "zabc", "abcD", "abc{", "abcd ", " abcd", "a b c d", "ab cd", "-"},
	"swap":    {"", " ", "x", "x ", " x", "x  y", "x y ", " x y", "x y z", "xy x", "x xy", "X y", "x Y", "x 1", "x\ty", "x,y", "xy", "m xx"},
	"add":     {"", "0", "0 ", " x", "x", "x x", "x 0", "3 x", "-1 x", "00 x", "+0 x", "0 X", "0 xy", "0  x", "0 x ", " 0 x", "0 x x", "0 1", "0\tx", "0.0 x", "0,x", "100000000000000000 x", "18446744073709551616 x", "1e0 x"},
	"remove":  {"", "0", "0.", ".0", "0.3", "3.0", "0.-1", "-1.0", "00.0", "0.00", "0.0 ", " 0.0", "0.0 0.1", "0.0.0", "0 0", "0,0", "x", "x.y", "+0.0", "0.+0", "0.100000000000000000", "100000000000000000.0"},
	"move":    {"", "0.0", "0.0 ", " 1", "1", "0.0 0", "0.0 3", "0.0 -1", "0.0 01", "0.0  1", "0.0 1 ", "0.0 1 1", "0.1 2", "0.3 1", "3.0 1", "0 1", "1 0.0", "0.0 1.0", "0.0 x", "x 1", "0.0\t1", "0.0 100000000000000000"},
	"rename":  {"", "0.0", "0.0 ", " q", "q", "0.2 q", "2.0 q", "0.3 q", "3.0 q", "0 q", "q 0.0", "0.0 Q", "0.0 qr", "0.0  q", "0.0 q ", "0.0 q q", "0.0 0", "00.0 q", "0.0\tq"},
	"chain":   {"", "3", "-1", "00", "+0", "01", "0 ", " 0", "0 0", "0x", "x", "0.0", "0,1", "1e0", "٠", "100000000000000000", "99999999999999999", "18446744073709551616", "-9223372036854775808"},
	"look":    {"", "0", "0 ", " x", "x", "x 0", "0 X", "0 xy", "0  x", "0 x ", "0 x y", "3 x", "-1 x", "00 x", "0 0", "0\tx", "0 ?x", "0 é"},
	"find":    {"", "0", "0 ", " x", "x", "x 0", "0 X", "0 mX", "0 m.x", "0 m x", "0  mx", "0 mx ", "3 mx", "-1 mx", "00 mx", "0 qX", "0 m0"},
}

// sameRests tells which rests are those of other words: none of them fits there either.
var sameRests = map[string]string{
	"import": "add", "captured": "add", "bad": "rename",
	"within": "chain", "blocks": "chain", "path": "chain", "imports": "chain", "visible": "chain", "free": "chain", "clashes": "chain", "seen": "chain", "hidden": "chain", "addable": "chain",
	"means": "remove", "state": "remove", "qualified": "remove", "hides": "remove", "sees": "remove", "users": "remove", "changed": "remove", "good": "remove", "conflicts": "remove",
}

// TestWrongRests checks that lines with such rests change nothing, and those lines that lack a rest, too.
func TestWrongRests(t *testing.T) {
	checkWrong := func(word string, rests []string) {
		lines := map[string]string{}
		for _, rest := range rests {
			lines[word+" "+rest] = "no"
		}
		checkTold(t, deskGraph, lines)
	}
	for word, rests := range wrongRests {
		checkWrong(word, rests)
	}
	for word, other := range sameRests {
		checkWrong(word, wrongRests[other])
	}
	// Only declarations have these, but all items have others.
	for _, word := range []string{"qualified", "hides", "sees", "users", "good", "conflicts"} {
		checkWrong(word, []string{"0.2", "2.0", "2.1"})
	}
}

// TestUnknownLines checks lines that are none of those of the table.
func TestUnknownLines(t *testing.T) {
	lines := map[string]string{}
	for _, form := range deskForms {
		word, _, rested := strings.Cut(form, " ")
		switch {
		case rested && !slices.Contains(deskForms, word):
			lines[word] = "what"
		case !rested && !slices.ContainsFunc(deskForms, func(other string) bool { return strings.HasPrefix(other, word+" ") }):
			for _, rest := range []string{"", " ", "0", "x", "0.0", "-"} {
				lines[word+" "+rest] = "what"
			}
		}
		for _, other := range []string{" " + word, strings.ToUpper(word), strings.ToUpper(word[:1]) + word[1:], word[1:], word[:1], word[:len(word)-1], word[:len(word)-1] + "_", word + "s", word + "x", word + "\t", word + "\r", word + "\x00", word + ".", word + word, "\ufeff" + word} {
			lines[other], lines[other+" 0"], lines[other+" "] = "what", "what", "what"
		}
		lines[word+"\t0"], lines[word+"\u00a00"], lines[word+"=0"] = "what", "what", "what"
	}
	for _, line := range []string{"foo", "foo 1", "foo ", " ", "  ", "-", "0", "?", "x y z", "no", "what", "long", "full", "none", "found", "help", "quit", "\x00", "\xff", "\xff \xff", "é", "\t", "\r", "#", "graph\t-", strings.Repeat("x", 5000), strings.Repeat(" ", 5000)} {
		lines[line] = "what"
	}
	// A part of one word may be another one, such as that of "imports".
	for line := range lines {
		if formOf(line) != "" {
			delete(lines, line)
		}
	}
	checkTold(t, deskGraph, lines)
}

// deskForms are the lines of the table, as the document writes them.
var deskForms = strings.Split("graph G,program W,order,clean,fresh,fewest,named U,swap N M,add S N,import S N,remove P,move P S,rename P N,"+
	"graph,program,table,names,own,greedy,states,unused,circles,after,chain S,within S,blocks S,path S,imports S,look S N,find S Q,"+
	"visible S,free S,clashes S,seen S,hidden S,addable S,captured S N,means P,state P,qualified P,hides P,sees P,users P,changed P,good P,bad P N,conflicts P", ",")

// deskRests are what the letters of the table stand for; the others stand for any text.
var deskRests = map[string]string{"S": `(?:0|[1-9]\d{0,16})`, "P": `(?:0|[1-9]\d{0,16})\.(?:0|[1-9]\d{0,16})`}

// deskPatterns match the rests of all forms of lines.
var deskPatterns = func() map[string]*regexp.Regexp {
	patterns := map[string]*regexp.Regexp{}
	for _, form := range deskForms {
		patterns[form] = deskPattern(form)
	}
	return patterns
}()

// deskPattern matches the rest of a form of lines, in which only the last part may have spaces.
func deskPattern(form string) *regexp.Regexp {
	var parts []string
	kinds := strings.Split(form, " ")[1:]
	for i, kind := range kinds {
		part, known := deskRests[kind]
		switch {
		case known:
		case i == len(kinds)-1:
			part = `[\s\S]*`
		default:
			part = `[^ ]*`
		}
		parts = append(parts, "("+part+")")
	}
	return regexp.MustCompile("^" + strings.Join(parts, " ") + "$")
}

// deskArgs are a graph and what the parts of a rest are: a scope, a place and texts.
type deskArgs struct {
	g     impl.Graph
	s     int
	p     impl.Place
	texts []string
}

// deskAnswer is what a line does: it writes a text, and the graph becomes another one if this is not nil; if not ok, it is refused.
type deskAnswer struct {
	graph *impl.Graph
	text  string
	ok    bool
}

func answersGraph(g impl.Graph, ok bool) deskAnswer { return deskAnswer{&g, impl.FormatGraph(g), ok} }
func answersText(s string, ok bool) deskAnswer      { return deskAnswer{nil, s, ok} }
func answersPlaces(list []impl.Place, ok bool) deskAnswer {
	return deskAnswer{nil, impl.FormatPlaces(list), ok}
}
func answersNumbers(list []int, ok bool) deskAnswer {
	return deskAnswer{nil, strings.Trim(fmt.Sprint(list), "[]"), ok}
}

// deskFunctions are the functions of the table that leave the graph as it is.
var deskFunctions = map[string]func(a deskArgs) deskAnswer{
	"graph":        func(a deskArgs) deskAnswer { return answersText(impl.FormatGraph(a.g), true) },
	"program":      func(a deskArgs) deskAnswer { return answersText(impl.ProgramOf(a.g)) },
	"table":        func(a deskArgs) deskAnswer { return answersText(impl.TableOf(a.g), true) },
	"names":        func(a deskArgs) deskAnswer { return answersText(impl.NamesOf(a.g)) },
	"own":          func(a deskArgs) deskAnswer { return answersText(impl.OwnNames(a.g)) },
	"greedy":       func(a deskArgs) deskAnswer { return answersText(impl.GreedyNames(a.g)) },
	"states":       func(a deskArgs) deskAnswer { return answersText(statesText(a.g), true) },
	"unused":       func(a deskArgs) deskAnswer { return answersPlaces(impl.UnusedOf(a.g)) },
	"circles":      func(a deskArgs) deskAnswer { return answersNumbers(impl.ImportCircles(a.g)) },
	"after":        func(a deskArgs) deskAnswer { return answersNumbers(impl.ScopesAfter(a.g)) },
	"chain S":      func(a deskArgs) deskAnswer { return answersNumbers(impl.ChainOf(a.g, a.s)) },
	"within S":     func(a deskArgs) deskAnswer { return answersNumbers(impl.WithinOf(a.g, a.s)) },
	"blocks S":     func(a deskArgs) deskAnswer { return answersNumbers(impl.BlocksOf(a.g, a.s)) },
	"path S":       func(a deskArgs) deskAnswer { return answersText(impl.PathOf(a.g, a.s)) },
	"imports S":    func(a deskArgs) deskAnswer { return answersNumbers(impl.ImportedScopes(a.g, a.s)) },
	"look S N":     func(a deskArgs) deskAnswer { return answersPlaces(impl.LookUp(a.g, a.s, a.texts[0])) },
	"find S Q":     func(a deskArgs) deskAnswer { return answersPlaces(impl.FindPath(a.g, a.s, a.texts[0])) },
	"visible S":    func(a deskArgs) deskAnswer { return answersText(impl.VisibleNames(a.g, a.s)) },
	"free S":       func(a deskArgs) deskAnswer { return answersText(impl.FreeNames(a.g, a.s)) },
	"clashes S":    func(a deskArgs) deskAnswer { return answersText(impl.ClashesOf(a.g, a.s)) },
	"seen S":       func(a deskArgs) deskAnswer { return answersPlaces(impl.SeenFrom(a.g, a.s)) },
	"hidden S":     func(a deskArgs) deskAnswer { return answersPlaces(impl.HiddenFrom(a.g, a.s)) },
	"addable S":    func(a deskArgs) deskAnswer { return answersText(impl.AddableNames(a.g, a.s)) },
	"captured S N": func(a deskArgs) deskAnswer { return answersPlaces(impl.CapturedBy(a.g, a.s, a.texts[0])) },
	"means P":      func(a deskArgs) deskAnswer { return answersPlaces(impl.ResolveItem(a.g, a.p)) },
	"state P":      func(a deskArgs) deskAnswer { return answersState(impl.StateOf(a.g, a.p)) },
	"qualified P":  func(a deskArgs) deskAnswer { return answersText(impl.Qualified(a.g, a.p)) },
	"hides P":      func(a deskArgs) deskAnswer { return answersPlaces(impl.HidesOf(a.g, a.p)) },
	"sees P":       func(a deskArgs) deskAnswer { return answersNumbers(impl.SeesWhere(a.g, a.p)) },
	"users P":      func(a deskArgs) deskAnswer { return answersPlaces(impl.UsersOf(a.g, a.p)) },
	"changed P":    func(a deskArgs) deskAnswer { return answersPlaces(impl.ChangedBy(a.g, a.p)) },
	"good P":       func(a deskArgs) deskAnswer { return answersText(impl.GoodNames(a.g, a.p)) },
	"bad P N":      func(a deskArgs) deskAnswer { return answersPlaces(impl.RenameChanges(a.g, a.p, a.texts[0])) },
	"conflicts P":  func(a deskArgs) deskAnswer { return answersPlaces(impl.ConflictsOf(a.g, a.p)) },
}

// deskChanges are the functions of the table whose results the graph becomes.
var deskChanges = map[string]func(a deskArgs) (impl.Graph, bool){
	"graph G":    func(a deskArgs) (impl.Graph, bool) { return impl.ParseGraph(a.texts[0]) },
	"program W":  func(a deskArgs) (impl.Graph, bool) { return impl.GraphOf(a.texts[0]) },
	"order":      func(a deskArgs) (impl.Graph, bool) { return impl.InOrder(a.g) },
	"clean":      func(a deskArgs) (impl.Graph, bool) { return impl.RemoveUnused(a.g) },
	"fresh":      func(a deskArgs) (impl.Graph, bool) { return impl.FreshGraph(a.g) },
	"fewest":     func(a deskArgs) (impl.Graph, bool) { return impl.FewestGraph(a.g) },
	"named U":    func(a deskArgs) (impl.Graph, bool) { return impl.NamedGraph(a.g, a.texts[0]) },
	"swap N M":   func(a deskArgs) (impl.Graph, bool) { return impl.SwapNames(a.g, a.texts[0], a.texts[1]) },
	"import S N": func(a deskArgs) (impl.Graph, bool) { return impl.AddImport(a.g, a.s, a.texts[0]) },
	"remove P":   func(a deskArgs) (impl.Graph, bool) { return impl.RemoveItem(a.g, a.p) },
	"move P S":   func(a deskArgs) (impl.Graph, bool) { return impl.MoveItem(a.g, a.p, a.s) },
	"rename P N": func(a deskArgs) (impl.Graph, bool) { return impl.RenameAt(a.g, a.p, a.texts[0]) },
	"add S N": func(a deskArgs) (impl.Graph, bool) {
		h, _, ok := impl.AddDeclaration(a.g, a.s, a.texts[0])
		return h, ok
	},
}

// answersState writes the word of a state.
func answersState(state int) deskAnswer {
	return answersText(impl.NameOfState(state), state != impl.StateNone)
}

// statesText counts the states of all items one by one.
func statesText(g impl.Graph) string {
	counts := map[int]int{}
	for s, from := range g.Scopes {
		for i := range from.Items {
			counts[impl.StateOf(g, impl.Place{Scope: s, Index: i})]++
		}
	}
	return fmt.Sprintf("%d %d %d %d", counts[impl.StateFound], counts[impl.StateMissing], counts[impl.StateAmbiguous], counts[impl.StatePlain])
}

// formOf returns the form of a line, "" if it has none.
func formOf(line string) string {
	word, _, rested := strings.Cut(line, " ")
	for _, form := range deskForms {
		if other, _, has := strings.Cut(form, " "); other == word && has == rested {
			return form
		}
	}
	return ""
}

// argsOf matches the rest of a line of some form.
func argsOf(g impl.Graph, form string, line string) (deskArgs, bool) {
	_, rest, _ := strings.Cut(line, " ")
	found := deskPatterns[form].FindStringSubmatch(rest)
	if found == nil {
		return deskArgs{}, false
	}
	a := deskArgs{g: g}
	for i, kind := range strings.Split(form, " ")[1:] {
		switch part := found[i+1]; kind {
		case "S":
			a.s, _ = strconv.Atoi(part)
		case "P":
			fmt.Sscanf(part, "%d.%d", &a.p.Scope, &a.p.Index)
		default:
			a.texts = append(a.texts, part)
		}
	}
	return a, true
}

// deskModel finds the graph behind a line, its output, and what is counted for it.
func deskModel(g impl.Graph, line string) (impl.Graph, string, string) {
	form := formOf(line)
	if form == "" {
		return g, "what", "unknown"
	}
	a, ok := argsOf(g, form, line)
	if !ok {
		return g, "no", form + " with a wrong rest"
	}
	var answer deskAnswer
	if f := deskFunctions[form]; f != nil {
		answer = f(a)
	} else {
		answer = answersGraph(deskChanges[form](a))
	}
	switch {
	case !answer.ok:
		return g, "no", form + " without a result"
	case answer.text == "":
		return g, "-", form
	case answer.graph != nil:
		g = *answer.graph
	}
	return g, answer.text, form
}

// checkDeskModel runs lines, each with a line that shows the graph behind it, and compares their output with that of the model.
func checkDeskModel(t *testing.T, lines []string, counts map[string]int) {
	t.Helper()
	g, _ := impl.ParseGraph("-")
	var script, want []string
	for _, line := range lines {
		h, output, what := deskModel(g, line)
		g = h
		counts[what]++
		script = append(script, line, "graph")
		want = append(want, output, impl.FormatGraph(g))
	}
	if len(script) > impl.MaxLines {
		t.Fatalf("%d lines are too many for one script", len(script))
	}
	checkScript(t, strings.Join(script, "\n"), strings.Join(want, "\n")+"\n")
}

// deskTexts are texts for the parts of a rest: all scopes and places of a graph and those next to them, and some names.
func deskTexts(g impl.Graph, kind string) []string {
	var scopes, places []string
	for s := range len(g.Scopes) + 1 {
		scopes = append(scopes, strconv.Itoa(s))
		for i := range impl.MaxItems + 1 {
			places = append(places, fmt.Sprintf("%d.%d", s, i))
		}
	}
	own, _ := impl.OwnNames(g)
	return map[string][]string{
		"S": append(scopes, "-1", "00", ""), "P": append(places, "0", "0.-1", "00.0", ""),
		"N": {"m", "n", "x", "a", "b", "q", "", "mx", "X"}, "M": {"m", "x", "a", "z", "", "x m"}, "Q": {"m", "x", "mn", "nx", "ab", "mnx", "mq", "q", "", "m x", "mX"},
		"U": {own, strings.Repeat("a", len(own)), alphabet[:len(own)], strings.ReplaceAll(own, "x", "a"), "", own + "a", own + " "},
		"G": {"-", "-,x", "-;1", ""}, "W": {"", "x?x", "m{x}{!m?x}", "}", " "},
	}[kind]
}

// deskLines makes all lines of a form with such texts.
func deskLines(g impl.Graph, form string) []string {
	word, kinds, _ := strings.Cut(form, " ")
	lines := []string{word}
	for _, kind := range strings.Fields(kinds) {
		var longer []string
		for _, line := range lines {
			for _, text := range deskTexts(g, kind) {
				longer = append(longer, line+" "+text)
			}
		}
		lines = longer
	}
	return lines
}

// TestAllLines goes through all forms of lines with all texts for the parts of their rests, each from the same graphs.
func TestAllLines(t *testing.T) {
	t.Parallel()
	maker := &graphMaker{state: 3}
	counts := map[string]int{}
	for i := range 20 {
		// Only what means several declarations keeps a graph from having other names.
		g := maker.users(i)
		if i%4 < 2 {
			g = maker.nameable(i)
		}
		if own, _ := impl.OwnNames(g); len(own) > len(namingLetters) {
			continue
		}
		start := "graph " + impl.FormatGraph(g)
		var script []string
		for _, form := range deskForms {
			for _, line := range deskLines(g, form) {
				script = append(script, start, line)
				if len(script) == impl.MaxLines/2 {
					checkDeskModel(t, script, counts)
					script = nil
				}
			}
		}
		checkDeskModel(t, script, counts)
		stopIfFailed(t)
	}
	checkForms(t, counts)
}

// checkForms checks that all forms of lines have been seen with a result, and without one where there may be none.
func checkForms(t *testing.T, counts map[string]int) {
	t.Helper()
	for _, form := range deskForms {
		checkShown(t, counts, 10, form)
		_, _, rested := strings.Cut(form, " ")
		if rested {
			checkShown(t, counts, 10, form+" without a result")
		}
		if strings.ContainsAny(form, "SP") {
			checkShown(t, counts, 10, form+" with a wrong rest")
		}
	}
	for _, form := range []string{"fresh", "fewest", "greedy"} {
		checkShown(t, counts, 5, form+" without a result")
	}
}

// line makes a line for a graph: any form with texts that mostly fit, with a byte left out, put in or doubled now and then.
func (m *graphMaker) line(g impl.Graph) string {
	own, _ := impl.OwnNames(g)
	words := strings.Split(deskForms[m.below(len(deskForms))], " ")
	for i, kind := range words {
		texts := deskTexts(g, kind)
		switch {
		case i == 0:
			continue
		case kind == "G":
			texts = []string{impl.FormatGraph(m.nameable(m.below(99)))}
		case kind == "W":
			texts = []string{m.program(m.below(20))}
		case kind == "U":
			texts = []string{m.naming(len(own), 1+m.below(len(namingLetters)))}
		}
		words[i] = texts[m.below(len(texts))]
	}
	line := strings.Join(words, " ")
	at := m.below(len(line))
	switch m.below(10) {
	case 0:
		return line[:at] + line[at+1:]
	case 1:
		return line[:at] + string(" 0x.\t\x00"[m.below(6)]) + line[at:]
	case 2:
		return line[:at] + line[at:at+1] + line[at:]
	}
	return line
}

// TestManyScripts goes through scripts whose lines follow each other, so that each is executed with the graph that those ahead of it have left.
func TestManyScripts(t *testing.T) {
	t.Parallel()
	maker := &graphMaker{}
	counts := map[string]int{}
	for i := range 800 {
		g := maker.nameable(i)
		lines := []string{"graph " + impl.FormatGraph(g)}
		for len(lines) < impl.MaxLines/2 {
			line := maker.line(g)
			lines = append(lines, line)
			g, _, _ = deskModel(g, line)
		}
		checkDeskModel(t, lines, counts)
		stopIfFailed(t)
	}
	checkForms(t, counts)
	checkShown(t, counts, 5, "unknown", "swap N M with a wrong rest")
}

// TestScriptsRename checks the promise by itself: after a renaming that is good, the table is as before, and after another one it is not.
func TestScriptsRename(t *testing.T) {
	t.Parallel()
	maker := &graphMaker{state: 8}
	counts := map[string]int{}
	for i := range 1000 {
		g := maker.nameable(i)
		declared, _ := impl.PlacesOf(g, impl.ItemDeclares)
		if len(declared) == 0 {
			continue
		}
		p, name := placeText(declared[maker.below(len(declared))]), maker.name()
		output := impl.RunScript("graph " + impl.FormatGraph(g) + "\ntable\ngood " + p + "\nbad " + p + " " + name + "\nrename " + p + " " + name + "\ntable\nfresh\ntable\n")
		lines := strings.Split(output, "\n")
		good := strings.Contains(lines[2], name)
		if good != (lines[3] == "-") || good != (lines[1] == lines[5]) {
			t.Fatalf("for %q of %s in %q the output is %q", name, p, impl.FormatGraph(g), output)
		}
		counts[fmt.Sprintf("good: %v", good)]++
		if lines[6] == "no" {
			counts["not fresh"]++
		} else if lines[7] != lines[5] {
			t.Fatalf("for %q of %s in %q the output is %q", name, p, impl.FormatGraph(g), output)
		}
	}
	checkShown(t, counts, 50, "good: true", "good: false", "not fresh")
}

func TestMaxScript(t *testing.T) {
	checkScript(t, strings.Repeat("\n", impl.MaxScript), "")
	for length := impl.MaxScript + 1; length < 1<<25; length *= 4 {
		for _, part := range []string{"\n", "x", " ", "graph -\n", "\x00"} {
			if got := impl.RunScript(strings.Repeat(part, length/len(part)+1)[:length]); got != "long\n" {
				t.Errorf("RunScript of %d bytes of %q has %d bytes", length, part, len(got))
			}
		}
	}
	for start, want := range map[string]string{
		"graph -,x\n": "-,x\n", "graph\n": "-\n", "add 0 x\ngraph": "-,x\n-,x\n", "foo\n": "what\n",
	} {
		pad := strings.Repeat("\n", impl.MaxScript-len(start))
		checkScript(t, start+pad, want)
		checkScript(t, start+pad+"\n", "long\n")
	}
	// Lines of many bytes, with what is too long for any rest.
	for start, want := range map[string]string{"graph ": "no\n", "program ": "no\n", "named ": "no\n", "chain ": "no\n", "look 0 ": "no\n", "means ": "no\n", "swap x ": "no\n", "move 0.0 ": "no\n", "x": "what\n", "states ": "what\n", "": "what\n"} {
		for _, part := range []string{"x", "0", "-", " ", "{", ".", ";", ","} {
			checkScript(t, start+strings.Repeat(part, impl.MaxScript-len(start)), want)
			checkScript(t, start+strings.Repeat(part, impl.MaxScript-len(start)+1), "long\n")
		}
	}
	// A path may have any length.
	checkScript(t, "find 0 "+strings.Repeat("m", impl.MaxScript-7), "-\n")
}

func TestMaxLines(t *testing.T) {
	for _, lines := range []int{1, 50, impl.MaxLines - 1, impl.MaxLines} {
		script, want := strings.Repeat("graph\n", lines), strings.Repeat("-\n", lines)
		checkScript(t, script, want)
		checkScript(t, script[:len(script)-1], want)
		checkScript(t, strings.Repeat("\n", lines-1)+"graph", "-\n")
		checkScript(t, "graph"+strings.Repeat("\n", lines)+"\n\n", "-\n")
	}
	hundred, output := strings.Repeat("graph\n", impl.MaxLines), strings.Repeat("-\n", impl.MaxLines)
	// Only lines that are not empty end the script, and the first one does, whatever it is.
	for _, more := range []string{"graph", "graph\n", "foo", " ", "\ngraph", "\n\n\ngraph", "graph\ngraph\ngraph", "graph\n\ngraph\n", "chain 9", "fresh", "\r"} {
		checkScript(t, hundred+more, output+"full\n")
	}
	for _, more := range []string{"", "\n", strings.Repeat("\n", 1000)} {
		checkScript(t, hundred+more, output)
	}
	// Empty lines count, and so do wrong ones.
	checkScript(t, strings.Repeat("\n", impl.MaxLines)+"graph", "full\n")
	checkScript(t, strings.Repeat("\n", impl.MaxLines+1)+"graph\ngraph", "full\n")
	checkScript(t, strings.Repeat("\ngraph\n", impl.MaxLines/2), strings.Repeat("-\n", impl.MaxLines/2))
	checkScript(t, strings.Repeat("\ngraph\n", impl.MaxLines/2+1), strings.Repeat("-\n", impl.MaxLines/2)+"full\n")
	checkScript(t, strings.Repeat("foo\n", impl.MaxLines-1)+"add 0 x\ngraph", strings.Repeat("what\n", impl.MaxLines-1)+"-,x\nfull\n")
	checkScript(t, strings.Repeat("chain 1\n", impl.MaxLines)+"graph", strings.Repeat("no\n", impl.MaxLines)+"full\n")
}

// longGraph has a table of more bytes than there are in most of them.
const longGraph = "-,x,x,x,x,x;0,?x,?x,?x,?x,?x;0,?x,?x,?x,?x,?x;0,?x,?x,?x,?x,?x;0,?x,?x,?x,?x,?x;0,?x,?x,?x,?x,?x"

// scriptOf returns a script whose output has some number of bytes, the last line of which is long, and this output.
func scriptOf(t *testing.T, length int) (string, string) {
	t.Helper()
	script, output := "", ""
	lines := [][2]string{{"table", impl.TableOf(parse(t, longGraph))}, {"graph", longGraph}, {"free 0", without("x")}, {"foo", "what"}, {"chain 9", "no"}, {"path 0", "-"}}
	for left := length - len(longGraph) - 1; left > 0; {
		for _, line := range lines {
			// One byte alone could not be filled.
			if after := left - len(line[1]) - 1; after == 0 || after > 1 {
				// The longest ones come first here, and last in the script.
				script, output, left = line[0]+"\n"+script, line[1]+"\n"+output, after
				break
			}
		}
	}
	script, output = "graph "+longGraph+"\n"+script, longGraph+"\n"+output
	if lines := strings.Count(script, "\n"); len(output) != length || lines > impl.MaxLines-4 {
		t.Fatalf("the output of %d lines would have %d bytes", lines, len(output))
	}
	return script, output
}

func TestMaxOutput(t *testing.T) {
	for length := impl.MaxOutput - 5; length <= impl.MaxOutput+5; length++ {
		script, output := scriptOf(t, length)
		checkScript(t, script, output)
		checkScript(t, script+"\n\n\n", output)
		for line, want := range map[string]string{"graph": longGraph, "foo": "what", "chain 9": "no", "path 0": "-", "\ngraph": longGraph, "graph -": "-", "table": impl.TableOf(parse(t, longGraph))} {
			if length > impl.MaxOutput {
				want = "full"
			}
			checkScript(t, script+line, output+want+"\n")
			checkScript(t, script+line+"\n\n", output+want+"\n")
		}
	}
	// Whatever the last line before the limit writes is written as a whole, and nothing behind it is executed.
	script, output := scriptOf(t, impl.MaxOutput)
	table := impl.TableOf(parse(t, longGraph))
	checkScript(t, script+"table\ngraph\ngraph\n", output+table+"\nfull\n")
	checkScript(t, script+"table\n", output+table+"\n")
}

// TestScriptsKeepNothing checks that a script begins with no graph of another one, whichever are run at once.
func TestScriptsKeepNothing(t *testing.T) {
	scripts := []string{"graph -,x\nadd 0 y", "graph", "graph " + longGraph + "\ntable", "add 0 q\nstates", "program m{x}{!m?x}\nfewest\ngreedy\nrename 1.0 q", "states", "foo\nchain 7"}
	var want []string
	for _, script := range scripts {
		want = append(want, impl.RunScript(script))
	}
	if want[1] != "-\n" || want[3] != "-,q\n1 0 0 0\n" || want[5] != "0 0 0 0\n" {
		t.Errorf("scripts write %q", want)
	}
	var group sync.WaitGroup
	for i := range 140 {
		group.Go(func() {
			script := scripts[i%len(scripts)]
			if got := impl.RunScript(script); got != want[i%len(scripts)] {
				t.Errorf("RunScript(%q) = %q, want %q", script, got, want[i%len(scripts)])
			}
		})
	}
	group.Wait()
}

// TestNumbersStay checks that a list is neither changed nor read beyond its length.
func TestNumbersStay(t *testing.T) {
	list := []int{3, 1, 2, 9}
	if got := impl.FormatNumbers(list[:3]); got != "3 1 2" || !slices.Equal(list, []int{3, 1, 2, 9}) {
		t.Errorf("FormatNumbers = %q, and leaves %v", got, list)
	}
}

func TestLimitsOfScripts(t *testing.T) {
	if impl.MaxScript != 20000 || impl.MaxLines != 100 || impl.MaxOutput != 40000 {
		t.Errorf("the limits are %d, %d and %d", impl.MaxScript, impl.MaxLines, impl.MaxOutput)
	}
}
