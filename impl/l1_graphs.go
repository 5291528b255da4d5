package impl

import (
	"errors"
	"iter"
	"maps"
	"slices"
	"strconv"
	"strings"
)

// Limits of graphs.
const (
	MaxScopes = 6
	MaxItems  = 5
)

// Kinds of items.
const (
	ItemNone = iota
	ItemDeclares
	ItemRefers
	ItemImports
)

// An Item declares, refers to or imports a name, and a declaration may be that of a module with a scope.
type Item struct {
	Kind  int
	Name  string
	Scope int
}

// A Scope has a parent and items.
type Scope struct {
	Parent int
	Items  []Item
}

// A Graph has scopes, of which the first one has no parent.
type Graph struct {
	Scopes []Scope
}

// A Place tells an item by its scope and its index there.
type Place struct {
	Scope int
	Index int
}

// What is wrong with a graph or a text.
var (
	errScopes = errors.New("a graph has 1 to MaxScopes scopes")
	errParent = errors.New("the first scope has no parent, and each other one an earlier scope")
	errItems  = errors.New("a scope has at most MaxItems items")
	errItem   = errors.New("an item has one of three kinds and one letter as its name")
	errModule = errors.New("a module has a scope of its own whose parent is where it is declared")
	errNumber = errors.New("a number is decimal, without leading zeros")
)

// maxDigits limits the numbers in texts, so that they fit into 64 bits.
const maxDigits = 17

// A node is a scope of a tree; its parent is nil if nothing lies around it.
type node struct {
	number int
	parent *node
	items  []Item
}

// A tree is a valid graph, with its items by their places and the places of modules by their scopes.
type tree struct {
	nodes   []*node
	items   map[Place]Item
	modules map[int]Place
}

// treeOf returns the tree of a graph, or what is wrong with it.
func treeOf(g Graph) (*tree, error) {
	if len(g.Scopes) < 1 || len(g.Scopes) > MaxScopes {
		return nil, errScopes
	}
	t := &tree{items: map[Place]Item{}, modules: map[int]Place{}}
	for _, s := range g.Scopes {
		if err := t.addNode(s); err != nil {
			return nil, err
		}
	}
	// A module's scope comes behind the scope that declares it, so that items need all nodes.
	for p, x := range t.all() {
		if err := t.addItem(p, x); err != nil {
			return nil, err
		}
	}
	return t, nil
}

// addNode adds the next scope, but not its items to the maps.
func (t *tree) addNode(s Scope) error {
	if len(s.Items) > MaxItems {
		return errItems
	}
	n := &node{number: len(t.nodes), items: s.Items}
	switch {
	case n.number == 0 && s.Parent == -1:
	case s.Parent >= 0 && s.Parent < n.number:
		n.parent = t.nodes[s.Parent]
	default:
		return errParent
	}
	t.nodes = append(t.nodes, n)
	return nil
}

// addItem enters an item at its place, and its scope if it declares a module.
func (t *tree) addItem(p Place, x Item) error {
	if x.Kind < ItemDeclares || x.Kind > ItemImports || !isName(x.Name) {
		return errItem
	}
	if x.Scope != -1 {
		if x.Kind != ItemDeclares || !t.isParent(p.Scope, x.Scope) {
			return errModule
		}
		if _, taken := t.modules[x.Scope]; taken {
			return errModule
		}
		t.modules[x.Scope] = p
	}
	t.items[p] = x
	return nil
}

// isParent reports whether a scope of the tree is the parent of the one with some number.
func (t *tree) isParent(parent int, number int) bool {
	if number < 0 || number >= len(t.nodes) {
		return false
	}
	return t.nodes[number].parent == t.nodes[parent]
}

// all yields the places and items by their scopes and then by their indices.
func (t *tree) all() iter.Seq2[Place, Item] {
	return func(yield func(Place, Item) bool) {
		for _, n := range t.nodes {
			for i, x := range n.items {
				if !yield(Place{n.number, i}, x) {
					return
				}
			}
		}
	}
}

// placesOf returns the places of all items of a kind.
func (t *tree) placesOf(kind int) []Place {
	var list []Place
	for p, x := range t.all() {
		if x.Kind == kind {
			list = append(list, p)
		}
	}
	return list
}

// isName reports whether a text is one letter from a to z.
func isName(s string) bool {
	return len(s) == 1 && s[0] >= 'a' && s[0] <= 'z'
}

// GraphValid reports whether a graph is valid.
func GraphValid(g Graph) bool {
	_, err := treeOf(g)
	return err == nil
}

// FormatGraph returns the text of a graph.
func FormatGraph(g Graph) string {
	t, err := treeOf(g)
	if err != nil {
		return ""
	}
	scopes := make([]string, 0, len(t.nodes))
	for _, n := range t.nodes {
		scopes = append(scopes, n.text())
	}
	return strings.Join(scopes, ";")
}

// text returns the text of a scope.
func (n *node) text() string {
	s := "-"
	if n.parent != nil {
		s = strconv.Itoa(n.parent.number)
	}
	for _, x := range n.items {
		s += "," + x.text()
	}
	return s
}

// text returns the text of an item.
func (x Item) text() string {
	switch {
	case x.Kind == ItemRefers:
		return "?" + x.Name
	case x.Kind == ItemImports:
		return "!" + x.Name
	case x.Scope != -1:
		return x.Name + "=" + strconv.Itoa(x.Scope)
	}
	return x.Name
}

// ParseGraph parses the text of a graph.
func ParseGraph(text string) (Graph, bool) {
	g, err := readGraph(text)
	// A text that can be read may still be that of no valid graph.
	if err != nil || FormatGraph(g) != text {
		return Graph{}, false
	}
	return g, true
}

// partsOf yields the parts of a text between separators with their indices; an empty text is one part.
func partsOf(text string, separator string) iter.Seq2[int, string] {
	return func(yield func(int, string) bool) {
		for i := 0; ; i++ {
			part, rest, more := strings.Cut(text, separator)
			if !yield(i, part) || !more {
				return
			}
			text = rest
		}
	}
}

// readGraph reads scopes, whatever their parents and modules are.
func readGraph(text string) (Graph, error) {
	var g Graph
	for i, part := range partsOf(text, ";") {
		// To stop here keeps the memory small, however long the text is.
		if i == MaxScopes {
			return Graph{}, errScopes
		}
		s, err := readScope(part)
		if err != nil {
			return Graph{}, err
		}
		g.Scopes = append(g.Scopes, s)
	}
	return g, nil
}

// readScope reads a parent and the items behind it.
func readScope(text string) (Scope, error) {
	var s Scope
	for i, part := range partsOf(text, ",") {
		if i == 0 {
			parent, err := readParent(part)
			if err != nil {
				return Scope{}, err
			}
			s.Parent = parent
			continue
		}
		if i > MaxItems {
			return Scope{}, errItems
		}
		x, err := readItem(part)
		if err != nil {
			return Scope{}, err
		}
		s.Items = append(s.Items, x)
	}
	return s, nil
}

// readParent reads the number of a scope, or that of none.
func readParent(text string) (int, error) {
	if text == "-" {
		return -1, nil
	}
	return readNumber(text)
}

// readItem reads a mark, a name and the scope of a module.
func readItem(text string) (Item, error) {
	x := Item{Kind: ItemDeclares, Scope: -1}
	if rest, found := strings.CutPrefix(text, "?"); found {
		x.Kind, text = ItemRefers, rest
	} else if rest, found := strings.CutPrefix(text, "!"); found {
		x.Kind, text = ItemImports, rest
	}
	name, number, isModule := strings.Cut(text, "=")
	if !isName(name) {
		return Item{}, errItem
	}
	// A clone, since a name that is a part of the text would keep all of it in memory.
	x.Name = strings.Clone(name)
	if isModule {
		scope, err := readNumber(number)
		if err != nil {
			return Item{}, err
		}
		x.Scope = scope
	}
	return x, nil
}

// readNumber reads a number from 0 on.
func readNumber(text string) (int, error) {
	if len(text) > maxDigits {
		return 0, errNumber
	}
	n, err := strconv.Atoi(text)
	// Atoi also takes signs and leading zeros.
	if err != nil || n < 0 || strconv.Itoa(n) != text {
		return 0, errNumber
	}
	return n, nil
}

// ItemAt returns the item at a place.
func ItemAt(g Graph, p Place) (Item, bool) {
	t, err := treeOf(g)
	if err != nil {
		return Item{}, false
	}
	x, ok := t.items[p]
	return x, ok
}

// PlacesOf returns the places of all items of a kind.
func PlacesOf(g Graph, kind int) ([]Place, bool) {
	t, err := treeOf(g)
	if err != nil || kind < ItemDeclares || kind > ItemImports {
		return nil, false
	}
	return t.placesOf(kind), true
}

// NamesOf returns all names of a graph.
func NamesOf(g Graph) (string, bool) {
	t, err := treeOf(g)
	if err != nil {
		return "", false
	}
	names := map[string]bool{}
	for _, x := range t.all() {
		names[x.Name] = true
	}
	return strings.Join(slices.Sorted(maps.Keys(names)), ""), true
}

// FormatPlaces returns the text of places.
func FormatPlaces(list []Place) string { return listText(list, Place.text) }

// listText returns the texts of elements with single spaces between them.
func listText[T any](list []T, text func(T) string) string {
	if len(list) == 0 {
		return "-"
	}
	texts := make([]string, 0, len(list))
	for _, x := range list {
		texts = append(texts, text(x))
	}
	return strings.Join(texts, " ")
}

// text returns the text of a place.
func (p Place) text() string {
	return strconv.Itoa(p.Scope) + "." + strconv.Itoa(p.Index)
}

// ParsePlace parses the text of one place.
func ParsePlace(s string) (Place, bool) {
	p, err := readPlace(s)
	return p, err == nil
}

// readPlace reads a scope and an index.
func readPlace(text string) (Place, error) {
	scope, index, _ := strings.Cut(text, ".")
	s, err := readNumber(scope)
	if err != nil {
		return Place{}, err
	}
	i, err := readNumber(index)
	if err != nil {
		return Place{}, err
	}
	return Place{s, i}, nil
}
