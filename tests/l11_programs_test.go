package tests

import (
	"regexp"
	"slices"
	"strconv"
	"strings"
	"testing"

	"loop.example/scopegraphs/impl"
)

// programAnswer is what the functions must return for a program: the text of its graph, what its bytes name and its nesting.
type programAnswer struct {
	graph   string
	bytes   string
	nesting int
}

// bytesText writes the places of bytes with single spaces between them, "-" for a byte that is no name.
func bytesText(list []impl.Place) string {
	texts := make([]string, len(list))
	for i, p := range list {
		texts[i] = placeText(p)
		if p == (impl.Place{Scope: -1, Index: -1}) {
			texts[i] = "-"
		}
	}
	return strings.Join(texts, " ")
}

// checkProgram compares all functions of one program with what they must return.
func checkProgram(t *testing.T, p string, want programAnswer) {
	t.Helper()
	if !impl.ProgramValid(p) {
		t.Errorf("ProgramValid(%q) is false", p)
	}
	g, ok := impl.GraphOf(p)
	if h, _ := impl.ParseGraph(want.graph); !ok || !sameGraph(g, h) {
		t.Errorf("GraphOf(%q) = %v, %v, want %q", p, g, ok, want.graph)
	}
	if list, ok := impl.BytesOf(p); !ok || len(list) != len(p) || bytesText(list) != want.bytes {
		t.Errorf("BytesOf(%q) = %v, %v, want %s", p, list, ok, want.bytes)
	}
	if nesting := impl.NestingOf(p); nesting != want.nesting {
		t.Errorf("NestingOf(%q) = %d, want %d", p, nesting, want.nesting)
	}
}

// checkNoProgram checks that all functions refuse a text.
func checkNoProgram(t *testing.T, p string) {
	t.Helper()
	// A very long text is not of interest as a whole.
	shown := p[:min(len(p), 200)]
	if impl.ProgramValid(p) {
		t.Errorf("ProgramValid(%q) is true", shown)
	}
	if g, ok := impl.GraphOf(p); ok || len(g.Scopes) != 0 {
		t.Errorf("GraphOf(%q) = %v, %v", shown, g, ok)
	}
	if list, ok := impl.BytesOf(p); ok || len(list) != 0 {
		t.Errorf("BytesOf(%q) = %v, %v", shown, list, ok)
	}
	if nesting := impl.NestingOf(p); nesting != -1 {
		t.Errorf("NestingOf(%q) = %d", shown, nesting)
	}
}

// checkOwnProgram compares all functions of one graph with what they must return: its program, the text of the graph in order and the numbers of its scopes there.
func checkOwnProgram(t *testing.T, g impl.Graph, program string, order string, after []int) {
	t.Helper()
	text := impl.FormatGraph(g)
	if p, ok := impl.ProgramOf(g); !ok || p != program {
		t.Errorf("ProgramOf(%q) = %q, %v, want %q", text, p, ok, program)
	}
	if h, ok := impl.InOrder(g); !ok || impl.FormatGraph(h) != order {
		t.Errorf("InOrder(%q) = %v, %v, want %q", text, h, ok, order)
	}
	if list, ok := impl.ScopesAfter(g); !ok || !slices.Equal(list, after) {
		t.Errorf("ScopesAfter(%q) = %v, %v, want %v", text, list, ok, after)
	}
}

func TestGraphsOfPrograms(t *testing.T) {
	cases := map[string]programAnswer{
		// Those of the document.
		"xm{y}{!m?y}": {"-,x,m=1;0,y;0,!m,?y", "0.0 0.1 - 1.0 - - - 2.0 - 2.1 -", 1},
		"{!m?y}xm{y}": {"-,x,m=2;0,!m,?y;0,y", "- - 1.0 - 1.1 - 0.0 0.1 - 2.0 -", 1},
		// The least ones.
		"":       {"-", "", 0},
		"x":      {"-,x", "0.0", 0},
		"?x":     {"-,?x", "- 0.0", 0},
		"!x":     {"-,!x", "- 0.0", 0},
		"{}":     {"-;0", "- -", 1},
		"m{}":    {"-,m=1;0", "0.0 - -", 1},
		"az?a!z": {"-,a,z,?a,!z", "0.0 0.1 - 0.2 - 0.3", 0},
		// Only a name alone directly ahead of a bracket is that of a module.
		"?m{}":     {"-,?m;0", "- 0.0 - -", 1},
		"!m{}":     {"-,!m;0", "- 0.0 - -", 1},
		"?m{}m{}":  {"-,?m,m=2;0;0", "- 0.0 - - 0.1 - -", 1},
		"?mm{}":    {"-,?m,m=1;0", "- 0.0 0.1 - -", 1},
		"!mm{}":    {"-,!m,m=1;0", "- 0.0 0.1 - -", 1},
		"xm{}":     {"-,x,m=1;0", "0.0 0.1 - -", 1},
		"{}{}":     {"-;0;0", "- - - -", 1},
		"{}x":      {"-,x;0", "- - 0.0", 1},
		"{}m{}":    {"-,m=2;0;0", "- - 0.0 - -", 1},
		"m{}{}":    {"-,m=1;0;0", "0.0 - - - -", 1},
		"m{}x{}":   {"-,m=1,x=2;0;0", "0.0 - - 0.1 - -", 1},
		"m{}?x{}y": {"-,m=1,?x,y;0;0", "0.0 - - - 0.1 - - 0.2", 1},
		// Items of a scope stand ahead of those within it and behind them.
		"a{b}c":            {"-,a=1,c;0,b", "0.0 - 1.0 - 0.1", 1},
		"a{b{c}d}e":        {"-,a=1,e;0,b=2,d;1,c", "0.0 - 1.0 - 2.0 - 1.1 - 0.1", 2},
		"x{?x{!x}x}!x":     {"-,x=1,!x;0,?x,x;1,!x", "0.0 - - 1.0 - - 2.0 - 1.1 - - 0.1", 2},
		"{x{?x}}x":         {"-,x;0,x=2;1,?x", "- 1.0 - - 2.0 - - 0.0", 2},
		"?x{?x{?x}?x}?x":   {"-,?x,?x;0,?x,?x;1,?x", "- 0.0 - - 1.0 - - 2.0 - - 1.1 - - 0.1", 2},
		"{a}b{c}d":         {"-,b=2,d;0,a;0,c", "- 1.0 - 0.0 - 2.0 - 0.1", 1},
		"m{m{m{m{m{m}}}}}": {"-,m=1;0,m=2;1,m=3;2,m=4;3,m=5;4,m", "0.0 - 1.0 - 2.0 - 3.0 - 4.0 - 5.0 - - - - -", 5},
		// The numbers are those of the beginnings, wherever the scopes end.
		"{{}}{}":     {"-;0;1;0", "- - - - - -", 2},
		"{}{{}}":     {"-;0;0;2", "- - - - - -", 2},
		"{{}{}}{}":   {"-;0;1;1;0", "- - - - - - - -", 2},
		"{{{}}}{{}}": {"-;0;1;2;0;4", "- - - - - - - - - -", 3},
		"{}{{}{{}}}": {"-;0;0;2;2;4", "- - - - - - - - - -", 3},
		"{{{{{}}}}}": {"-;0;1;2;3;4", "- - - - - - - - - -", 5},
		"{}{}{}{}{}": {"-;0;0;0;0;0", "- - - - - - - - - -", 1},
		"m{n{x}}":    {"-,m=1;0,n=2;1,x", "0.0 - 1.0 - 2.0 - -", 2},
		"m{{x}}{}":   {"-,m=1;0;1,x;0", "0.0 - - 2.0 - - - -", 2},
		// As many items as there may be.
		"abcde":            {"-,a,b,c,d,e", "0.0 0.1 0.2 0.3 0.4", 0},
		"?x?x?x?x?x":       {"-,?x,?x,?x,?x,?x", "- 0.0 - 0.1 - 0.2 - 0.3 - 0.4", 0},
		"a{}b{}c{}d{}e{}":  {"-,a=1,b=2,c=3,d=4,e=5;0;0;0;0;0", "0.0 - - 0.1 - - 0.2 - - 0.3 - - 0.4 - -", 1},
		"ab{xxxxx}cde":     {"-,a,b=1,c,d,e;0,x,x,x,x,x", "0.0 0.1 - 1.0 1.1 1.2 1.3 1.4 - 0.2 0.3 0.4", 1},
		"ab{xxxxx}cde{}{}": {"-,a,b=1,c,d,e=2;0,x,x,x,x,x;0;0", "0.0 0.1 - 1.0 1.1 1.2 1.3 1.4 - 0.2 0.3 0.4 - - - -", 1},
	}
	for p, want := range cases {
		checkProgram(t, p, want)
	}
}

func TestNoPrograms(t *testing.T) {
	texts := []string{
		// Brackets that are not closed, or closed without having been opened.
		"{", "}", "}{", "{}}", "{{}", "m{", "m}", "m{x", "x}", "m{}}", "m{n{}", "{}{", "{}}{", "{{{{{", "?x}", "{}}x", "}x", "{x}}{", "{}}{}",
		// Marks without a name.
		"?", "!", "x?", "x!", "?{}", "!{}", "?}", "{?}", "{!}", "m{?}", "??x", "!!x", "?!x", "!?x", "?x?", "?{x}", "x{!}y",
		// What is nothing of these.
		"X", "?X", "!X", " ", "x ", " x", "x y", "{ }", "? x", "m {}", "x\n", "\x00", "{\x00}", "x\x00", "\xff", "?\xff", "é", "?é", "0", "x0", "-", "-,x", "x;y", "x,y", "m=1", "m={}", "(x)", "[x]", "<x>", "`", "|", "~", "?`", "?|", "m(){}",
		// Scopes that are too many, or too deep.
		"{}{}{}{}{}{}", "{{{{{{}}}}}}", "m{}m{}m{}m{}m{}{}", "{}{{}{{}{}{}}}", "{{}{}{}{}{}}", "{}{}{}{}m{}n{}",
		// Items that are too many.
		"abcdef", "?a?a?a?a?a?a", "!a!a!a!a!a!a", "{abcdef}", "m{abcdef}", "abcde{}f", "{a}bcdefg", "ab{}cd{}ef{}", "{{}{abcdef}}", "x{aaaaa}{aaaaa}{aaaaa}{aaaaa}{aaaaaa}",
		// Texts of other functions.
		"-,x,m=1;0,y;0,!m,?y", "program", "0.0",
	}
	for _, p := range texts {
		checkNoProgram(t, p)
	}
}

// TestProgramOfEveryByte puts each byte where something can stand.
func TestProgramOfEveryByte(t *testing.T) {
	for b := range 256 {
		letter := string([]byte{byte(b)})
		isName := letter >= "a" && letter <= "z"
		for _, around := range []string{"%", "?%", "!%", "{%}", "m{%}", "x%", "%x", "?x%", "{}%", "%{}", "?%{}", "m{?%}", "m%{}"} {
			p := strings.Replace(around, "%", letter, 1)
			if want, ok := programModel(p); ok {
				checkProgram(t, p, want)
			} else {
				checkNoProgram(t, p)
			}
			// Marks and brackets fit into some of them; any other byte fits only if it is a name.
			if !strings.Contains("?!{}", letter) && impl.ProgramValid(p) != isName {
				t.Errorf("ProgramValid(%q) is %v", p, !isName)
			}
		}
	}
}

// TestLongPrograms checks the limits: what is longer than the longest program of a valid graph is none.
func TestLongPrograms(t *testing.T) {
	scope := "{?x?x!x?x?x}"
	full := "?a!b?c!d?e" + strings.Repeat(scope, 5)
	want, ok := programModel(full)
	if len(full) != 70 || !ok {
		t.Fatalf("%q has %d bytes", full, len(full))
	}
	checkProgram(t, full, want)
	g, _ := impl.GraphOf(full)
	checkOwnProgram(t, g, strings.Repeat(scope, 5)+"?a!b?c!d?e", want.graph, []int{0, 1, 2, 3, 4, 5})
	nested := strings.Repeat("?a?a?a?aa{", 5) + "?a?a?a?aa" + strings.Repeat("}", 5)
	want, ok = programModel(nested)
	if !ok || want.nesting != 5 {
		t.Fatalf("%q has a nesting of %d", nested, want.nesting)
	}
	checkProgram(t, nested, want)
	for _, more := range []string{"x", "?x", "{}", "}", "{", " "} {
		checkNoProgram(t, full+more)
		checkNoProgram(t, more+full)
	}
	for _, part := range []string{"x", "?x", "{}", "{", "}", "m{", "{x", "!", " "} {
		for _, length := range []int{impl.MaxProgram - 1, impl.MaxProgram, impl.MaxProgram + 1, 1 << 24} {
			checkNoProgram(t, strings.Repeat(part, length/len(part)+1)[:length])
		}
	}
	half := 1 << 23
	checkNoProgram(t, strings.Repeat("{", half)+strings.Repeat("}", half))
}

func TestProgramsOfGraphs(t *testing.T) {
	cases := []struct {
		text    string
		program string
		order   string
		after   []int
	}{
		// Those of the document.
		{"-,x,m=1;0,y;0,!m,?y", "{!m?y}xm{y}", "-,x,m=2;0,!m,?y;0,y", []int{0, 2, 1}},
		{"-,x,m=1,?x;0,y,x;0,!m,?y,?x", "{!m?y?x}xm{yx}?x", "-,x,m=2,?x;0,!m,?y,?x;0,y,x", []int{0, 2, 1}},
		{"-,x,m=2;0,!m,?y;0,y", "{!m?y}xm{y}", "-,x,m=2;0,!m,?y;0,y", []int{0, 1, 2}},
		// The least ones.
		{"-", "", "-", []int{0}},
		{"-,x", "x", "-,x", []int{0}},
		{"-,a,?z,!m,z", "a?z!mz", "-,a,?z,!m,z", []int{0}},
		{"-;0", "{}", "-;0", []int{0, 1}},
		{"-,m=1;0", "m{}", "-,m=1;0", []int{0, 1}},
		// A name ahead of a block is no module's, since blocks come first.
		{"-,m;0", "{}m", "-,m;0", []int{0, 1}},
		{"-,m,?m;0,m;1,m", "{{m}m}m?m", "-,m,?m;0,m;1,m", []int{0, 1, 2}},
		// Blocks of all scopes stand ahead of modules, and each in ascending order.
		{"-,m=1,n=2;0;0;0;0", "{}{}m{}n{}", "-,m=3,n=4;0;0;0;0", []int{0, 3, 4, 1, 2}},
		{"-,m=2;0;0;0", "{}{}m{}", "-,m=3;0;0;0", []int{0, 1, 3, 2}},
		{"-;0,m=2,x;1;1,?x", "{{?x}m{}x}", "-;0,m=3,x;1,?x;1", []int{0, 1, 3, 2}},
		// Modules stand in the order of their declarations.
		{"-,b=2,a=1;0,x;0,y", "b{y}a{x}", "-,b=1,a=2;0,y;0,x", []int{0, 2, 1}},
		{"-,a=5,b=4,c=3,d=2,e=1;0;0;0;0;0", "a{}b{}c{}d{}e{}", "-,a=1,b=2,c=3,d=4,e=5;0;0;0;0;0", []int{0, 5, 4, 3, 2, 1}},
		// What lies within a scope comes ahead of what follows it.
		{"-;0;0;1", "{{}}{}", "-;0;1;0", []int{0, 1, 3, 2}},
		{"-;0;0;1;2", "{{}}{{}}", "-;0;1;0;3", []int{0, 1, 3, 2, 4}},
		{"-;0;0;0;1;2", "{{}}{{}}{}", "-;0;1;0;3;0", []int{0, 1, 3, 5, 2, 4}},
		{"-;0;0;2;1", "{{}}{{}}", "-;0;1;0;3", []int{0, 1, 3, 4, 2}},
		{"-,m=1;0,n=2;1,m=3;2,m=4;3,m=5;4,!m", "m{n{m{m{m{!m}}}}}", "-,m=1;0,n=2;1,m=3;2,m=4;3,m=5;4,!m", []int{0, 1, 2, 3, 4, 5}},
		{"-,x,m=1,y;0,n=3,!m;0,?x;1,z;2,?m", "{{?m}?x}xm{n{z}!m}y", "-,x,m=3,y;0,?x;1,?m;0,n=4,!m;3,z", []int{0, 3, 1, 4, 2}},
	}
	for _, c := range cases {
		checkOwnProgram(t, parse(t, c.text), c.program, c.order, c.after)
	}
	for _, c := range validGraphs {
		checkOwnModel(t, c.graph)
	}
}

func TestProgramsOfInvalidGraphs(t *testing.T) {
	for what, g := range invalidGraphs {
		if p, ok := impl.ProgramOf(g); ok || p != "" {
			t.Errorf("%s: ProgramOf = %q, %v", what, p, ok)
		}
		if h, ok := impl.InOrder(g); ok || len(h.Scopes) != 0 {
			t.Errorf("%s: InOrder = %v, %v", what, h, ok)
		}
		if list, ok := impl.ScopesAfter(g); ok || len(list) != 0 {
			t.Errorf("%s: ScopesAfter = %v, %v", what, list, ok)
		}
	}
}

// programText matches what is made of the parts of a program, whatever its brackets are, and programParts each of them.
var (
	programText  = regexp.MustCompile(`^([?!]?[a-z]|[{}])*$`)
	programParts = regexp.MustCompile(`[?!]?[a-z]|[{}]`)
)

// programModel finds what the functions must return for a text by going through its parts with a stack of the scopes that are open, and false if it is no program.
func programModel(p string) (programAnswer, bool) {
	if !programText.MatchString(p) {
		return programAnswer{}, false
	}
	places := slices.Repeat([]string{"-"}, len(p))
	scopes, open := []string{"-"}, []int{0}
	nesting := 0
	for _, ends := range programParts.FindAllStringIndex(p, -1) {
		part, here := p[ends[0]:ends[1]], open[len(open)-1]
		switch part {
		case "{":
			open = append(open, len(scopes))
			scopes = append(scopes, strconv.Itoa(here))
			nesting = max(nesting, strings.Count(p[:ends[1]], "{")-strings.Count(p[:ends[1]], "}"))
		case "}":
			open = open[:len(open)-1]
			if len(open) == 0 {
				return programAnswer{}, false
			}
		default:
			places[ends[1]-1] = strconv.Itoa(here) + "." + strconv.Itoa(strings.Count(scopes[here], ","))
			scopes[here] += "," + part
			if len(part) == 1 && strings.HasPrefix(p[ends[1]:], "{") {
				scopes[here] += "=" + strconv.Itoa(len(scopes))
			}
		}
	}
	text := strings.Join(scopes, ";")
	if len(open) != 1 || !isGraphText(text) {
		return programAnswer{}, false
	}
	return programAnswer{text, strings.Join(places, " "), nesting}, true
}

// checkText compares all functions of one text with the model, and tells whether it is a program.
func checkText(t *testing.T, p string, counts map[string]int) bool {
	t.Helper()
	want, ok := programModel(p)
	if !ok {
		counts["none"]++
		checkNoProgram(t, p)
		return false
	}
	counts["programs"]++
	counts["nested "+strconv.Itoa(want.nesting)]++
	if strings.Contains(want.graph, "=") {
		counts["with modules"]++
	}
	checkProgram(t, p, want)
	return true
}

// TestAllShortPrograms goes through all short texts of the bytes of programs and one other byte.
func TestAllShortPrograms(t *testing.T) {
	t.Parallel()
	counts := map[string]int{}
	texts := []string{""}
	for length := range 8 {
		var longer []string
		for _, p := range texts {
			checkText(t, p, counts)
			for _, part := range "x?!{} " {
				// The other byte is enough in the shorter ones.
				if length < 7 && (part != ' ' || length < 5) {
					longer = append(longer, p+string(part))
				}
			}
		}
		stopIfFailed(t)
		texts = longer
	}
	checkShown(t, counts, 20, "programs", "nested 0", "nested 1", "nested 2", "with modules", "none")
}

// program makes a text of parts with brackets that are closed, up to some number of scopes; only some are those of valid graphs.
func (m *graphMaker) program(parts int) string {
	p, open := "", 0
	for range parts {
		switch part := [...]string{"x", m.name(), "?x", "?" + m.name(), "!m", "{", m.name() + "{", "}"}[m.below(8)]; {
		case part == "}" && open == 0:
		case part == "}":
			open--
			p += part
		default:
			open += strings.Count(part, "{")
			p += part
		}
	}
	return p + strings.Repeat("}", open)
}

// TestManyPrograms goes through texts of programs of all lengths, and through what becomes of them if one byte is left out, put in or exchanged.
func TestManyPrograms(t *testing.T) {
	t.Parallel()
	m := &graphMaker{}
	counts, around := map[string]int{}, map[string]int{}
	for i := range 6000 {
		p := m.program(i % 30)
		if checkText(t, p, counts) && i%4 == 0 {
			for at := range len(p) {
				checkText(t, p[:at]+p[at+1:], around)
				for _, part := range "m?!{}M" {
					checkText(t, p[:at]+string(part)+p[at:], around)
					checkText(t, p[:at]+string(part)+p[at+1:], around)
				}
			}
		}
		stopIfFailed(t)
	}
	checkShown(t, counts, 100, "programs", "nested 0", "nested 1", "nested 2", "nested 3", "with modules", "none")
	checkShown(t, around, 1000, "programs", "nested 0", "nested 1", "nested 2", "nested 3", "with modules", "none")
}

// markedProgram writes the program of a graph with the number of each scope behind its opening bracket; parents have lower numbers than what lies in them.
func markedProgram(g impl.Graph) string {
	texts := make([]string, len(g.Scopes))
	for s := len(texts) - 1; s >= 0; s-- {
		items, modules := "", map[int]bool{}
		for _, x := range g.Scopes[s].Items {
			items += map[int]string{impl.ItemDeclares: "", impl.ItemRefers: "?", impl.ItemImports: "!"}[x.Kind] + x.Name
			if x.Scope != -1 {
				modules[x.Scope] = true
				items += texts[x.Scope]
			}
		}
		blocks := ""
		for b := s + 1; b < len(texts); b++ {
			if g.Scopes[b].Parent == s && !modules[b] {
				blocks += texts[b]
			}
		}
		texts[s] = "{" + strconv.Itoa(s) + blocks + items + "}"
	}
	return texts[0]
}

// scopeNumbers matches the numbers of a marked program.
var scopeNumbers = regexp.MustCompile(`[0-9]`)

// checkOwnModel compares all functions of one graph with what its marked program tells, and returns the numbers of its scopes there.
func checkOwnModel(t *testing.T, g impl.Graph) []int {
	t.Helper()
	marked := markedProgram(g)
	after := make([]int, len(g.Scopes))
	for i, number := range scopeNumbers.FindAllString(marked, -1) {
		s, _ := strconv.Atoi(number)
		after[s] = i
	}
	order := impl.Graph{Scopes: make([]impl.Scope, len(g.Scopes))}
	for s, from := range g.Scopes {
		to := impl.Scope{Parent: -1, Items: slices.Clone(from.Items)}
		if s > 0 {
			to.Parent = after[from.Parent]
		}
		for i, x := range to.Items {
			if x.Scope != -1 {
				to.Items[i].Scope = after[x.Scope]
			}
		}
		order.Scopes[after[s]] = to
	}
	program := scopeNumbers.ReplaceAllString(marked, "")
	checkOwnProgram(t, g, program[1:len(program)-1], impl.FormatGraph(order), after)
	return after
}

// TestProgramsOfAllTrees goes through all trees of scopes, with each choice of modules.
func TestProgramsOfAllTrees(t *testing.T) {
	eachTree([]int{-1}, func(parents []int) {
		for modules := 0; modules < 1<<len(parents); modules += 2 {
			checkOwnModel(t, parse(t, treeText(parents, modules, false)))
			checkOwnModel(t, parse(t, treeText(parents, modules, true)))
		}
		stopIfFailed(t)
	})
}

// TestManyGraphsInOrder goes through graphs of all sizes.
func TestManyGraphsInOrder(t *testing.T) {
	m := &graphMaker{}
	counts := map[string]int{}
	for i := range 6000 {
		g := m.graph(1 + i%impl.MaxScopes)
		after := checkOwnModel(t, g)
		if slices.IsSorted(after) {
			counts["in order"]++
		} else {
			counts["in another order"]++
		}
		p, _ := impl.ProgramOf(g)
		checkText(t, p, counts)
		stopIfFailed(t)
	}
	checkShown(t, counts, 500, "in order", "in another order", "nested 1", "nested 2", "nested 3", "with modules")
}

// TestProgramsAndGraphs checks the promise by itself: a graph is that of its program but for the numbers of its scopes, and a graph in order just that.
func TestProgramsAndGraphs(t *testing.T) {
	m := &graphMaker{state: 5}
	for i := range 3000 {
		g := m.graph(1 + i%impl.MaxScopes)
		p, _ := impl.ProgramOf(g)
		h, ok := impl.GraphOf(p)
		if order, _ := impl.InOrder(g); !ok || !sameGraph(h, order) {
			t.Fatalf("GraphOf(%q) = %v, %v, want %v", p, h, ok, order)
		}
		if q, _ := impl.ProgramOf(h); q != p {
			t.Fatalf("ProgramOf(%q) = %q, want %q", impl.FormatGraph(h), q, p)
		}
		if again, _ := impl.InOrder(h); !sameGraph(again, h) {
			t.Fatalf("InOrder(%q) = %q", impl.FormatGraph(h), impl.FormatGraph(again))
		}
		after, _ := impl.ScopesAfter(h)
		for s, number := range after {
			if number != s {
				t.Fatalf("ScopesAfter(%q) = %v", impl.FormatGraph(h), after)
			}
		}
	}
}

// TestMeaningsInOrder checks that all items mean the same in the graph in order, with the new numbers of their scopes.
func TestMeaningsInOrder(t *testing.T) {
	m := &graphMaker{state: 6}
	meant := 0
	for i := range 2000 {
		g := m.graph(1 + i%impl.MaxScopes)
		h, _ := impl.InOrder(g)
		after, _ := impl.ScopesAfter(g)
		for s, from := range g.Scopes {
			for j := range from.Items {
				before, _ := impl.ResolveItem(g, impl.Place{Scope: s, Index: j})
				list, _ := impl.ResolveItem(h, impl.Place{Scope: after[s], Index: j})
				want := map[impl.Place]bool{}
				for _, p := range before {
					want[impl.Place{Scope: after[p.Scope], Index: p.Index}] = true
				}
				meant += len(want)
				same := len(list) == len(want)
				for _, p := range list {
					same = same && want[p]
				}
				if !same {
					t.Fatalf("item %d of scope %d of %q means %v, and %v in order", j, s, impl.FormatGraph(g), before, list)
				}
			}
		}
	}
	if meant < 2000 {
		t.Errorf("only %d items mean something", meant)
	}
}

// TestBytesAreNames checks that each item is named by one byte, and each byte that is a letter names an item.
func TestBytesAreNames(t *testing.T) {
	m := &graphMaker{state: 7}
	for i := range 2000 {
		p, _ := impl.ProgramOf(m.graph(1 + i%impl.MaxScopes))
		g, _ := impl.GraphOf(p)
		list, _ := impl.BytesOf(p)
		seen := map[impl.Place]bool{}
		for at, place := range list {
			x, isItem := impl.ItemAt(g, place)
			isLetter := !strings.Contains("?!{}", p[at:at+1])
			if isItem != isLetter || isItem && x.Name != p[at:at+1] || isItem && seen[place] {
				t.Fatalf("BytesOf(%q) = %v at byte %d", p, list, at)
			}
			seen[place] = isItem
		}
		for s, from := range g.Scopes {
			for j := range from.Items {
				if !seen[impl.Place{Scope: s, Index: j}] {
					t.Fatalf("BytesOf(%q) = %v without %d.%d", p, list, s, j)
				}
			}
		}
	}
}

// TestProgramsStay checks that no function of the chapter changes a graph, or the memory behind its scopes and items.
func TestProgramsStay(t *testing.T) {
	g, check := watched(t)
	impl.ProgramOf(g)
	impl.InOrder(g)
	impl.ScopesAfter(g)
	check()
}

// TestProgramGraphsAreNew checks that graphs share no memory, even if they are in order already.
func TestProgramGraphsAreNew(t *testing.T) {
	for _, text := range []string{"-,x,?x,m=1;0,x,?x;0,!m,?x", "-,x,y,?x;0,x,?y;0,?y", "-,x,?x"} {
		checkNewGraph(t, "InOrder", roomy(t, text), impl.InOrder)
		p, _ := impl.ProgramOf(parse(t, text))
		checkNewGraph(t, "GraphOf", parse(t, text), func(impl.Graph) (impl.Graph, bool) { return impl.GraphOf(p) })
	}
}

// TestProgramListsAreNew checks that lists share no memory, their unused capacity included.
func TestProgramListsAreNew(t *testing.T) {
	g := parse(t, "-,x,m=1;0,y;0,!m,?y")
	checkNew(t, "ScopesAfter", func() []int { list, _ := impl.ScopesAfter(g); return list }, 9)
	checkNew(t, "BytesOf", func() []impl.Place { list, _ := impl.BytesOf("xm{y}"); return list }, impl.Place{Scope: 9, Index: 9})
}

func TestMaxProgram(t *testing.T) {
	if impl.MaxProgram != 120 {
		t.Errorf("MaxProgram is %d", impl.MaxProgram)
	}
}
