package tests

import (
	"math"
	"regexp"
	"slices"
	"strings"
	"testing"

	"loop.example/g00001/impl"
)

// opLetter is an operation as a kid's letter: e for all expressions, - for what is nowhere a kid.
func opLetter(op int) string {
	switch {
	case op >= impl.NLit && op <= impl.NScalar:
		return "e"
	case op >= impl.NStar && op <= impl.NJoin:
		return "siIFWGHSUQOKLTDJ"[op-impl.NStar:][:1]
	case op >= impl.NInsert && op <= impl.NUnique:
		return "-NnVRd-t--cfkpu"[op-impl.NInsert:][:1]
	}
	return "-"
}

// treeRule is a line of the table of operations: whether there is a name and a qual (-, ? or !), the numbers that N and M
// may be, and a pattern of the kids' letters.
type treeRule struct {
	names string
	n, m  []int
	kids  *regexp.Regexp
}

func upTo(least, most int) []int {
	var list []int
	for n := least; n <= most; n++ {
		list = append(list, n)
	}
	return list
}

func treeRules() map[int]treeRule {
	zero, flag := []int{0}, []int{0, 1}
	rules := map[int]treeRule{}
	add := func(names string, n, m []int, kids string, ops ...int) {
		for _, op := range ops {
			rules[op] = treeRule{names, n, m, regexp.MustCompile("^" + kids + "$")}
		}
	}
	add("--", zero, zero, "", impl.NLit, impl.NDefault, impl.NCommit, impl.NCheckpoint)
	add("!?", zero, zero, "", impl.NCol, impl.NTable)
	add("--", zero, zero, "e", impl.NNot, impl.NNeg, impl.NWhere, impl.NHaving, impl.NDefaultIs, impl.NCheck)
	add("--", []int{1, 2, 3, 4, 5, 6, 7, 8, 9, 10, 11, 12, 14, 15}, zero, "ee", impl.NBin)
	add("--", flag, zero, "e", impl.NIs)
	add("--", flag, zero, "ee", impl.NSame, impl.NLike)
	add("--", flag, zero, "ee+", impl.NIn)
	add("--", flag, zero, "eQ", impl.NInQuery)
	add("--", flag, zero, "eee", impl.NBetween)
	add("--", flag, flag, "e+", impl.NCase)
	add("--", upTo(1, 5), zero, "e", impl.NCast)
	add("!-", zero, zero, "e*", impl.NCall)
	add("--", upTo(1, 6), flag, "e?", impl.NAgg)
	add("--", zero, zero, "Q", impl.NExists, impl.NScalar, impl.NExplain)
	add("-?", zero, zero, "", impl.NStar)
	add("?-", zero, zero, "e", impl.NItem)
	add("--", zero, zero, "[si]+", impl.NItems)
	add("--", zero, zero, "[TDJ]+", impl.NFrom)
	add("--", zero, zero, "e+", impl.NGroup)
	add("--", flag, zero, "IF?W?G?H?", impl.NSelect)
	add("--", []int{1, 2}, flag, "[SUQ][SQ]", impl.NSetOp)
	add("--", zero, zero, "[SUQ]O?L?", impl.NQuery)
	add("--", zero, zero, "K+", impl.NOrder)
	add("--", flag, upTo(0, 2), "e", impl.NKey)
	add("--", nil, nil, "", impl.NLimit)
	add("!-", zero, zero, "Q", impl.NDerived)
	add("--", upTo(1, 3), zero, "[TDJ][TD]e?", impl.NJoin)
	add("!-", zero, zero, "N?[VQ]", impl.NInsert)
	add("--", zero, zero, "n+", impl.NNames, impl.NKeyOf, impl.NUnique)
	add("!-", zero, zero, "", impl.NName, impl.NDropTable, impl.NDropIndex, impl.NSavepoint, impl.NRelease)
	add("--", zero, zero, "R+", impl.NValues)
	add("--", zero, zero, "[ed]+", impl.NRow)
	add("!-", zero, zero, "t+W?", impl.NUpdate)
	add("!-", zero, zero, "[ed]", impl.NSet)
	add("!-", zero, zero, "W?", impl.NDelete)
	add("!-", zero, zero, "[ckpu]+", impl.NCreateTable)
	add("!-", upTo(1, 5), upTo(0, 7), "[fk]*", impl.NColumn)
	add("!!", flag, zero, "n+", impl.NCreateIndex)
	add("--", upTo(0, 2), zero, "", impl.NBegin)
	add("?-", zero, zero, "", impl.NRollback)
	return rules
}

var validName = regexp.MustCompile(`^[ -~]{1,30}$`)

// nameFits asks a name for the mark of its line.
func nameFits(mark byte, name string) bool {
	if name == "" {
		return mark != '!'
	}
	return mark != '-' && validName.MatchString(name)
}

func numberFits(n int, allowed []int) bool {
	return allowed == nil && n >= -1 || slices.Contains(allowed, n)
}

// nodeValid is the table of operations once more.
func nodeValid(rules map[int]treeRule, tree impl.Tree, node impl.Node) bool {
	rule, there := rules[node.Op]
	if !there || !nameFits(rule.names[0], node.Name) || !nameFits(rule.names[1], node.Qual) || !numberFits(node.N, rule.n) || !numberFits(node.M, rule.m) {
		return false
	}
	kids := ""
	for _, kid := range node.Kids {
		kids += opLetter(tree.Nodes[kid].Op)
	}
	if !rule.kids.MatchString(kids) || node.Op != impl.NLit && node.Val != null {
		return false
	}
	switch node.Op {
	case impl.NLit:
		return impl.ValueOK(node.Val) && (node.Val.N >= 0 || node.Val.Kind == impl.Date)
	case impl.NCase:
		pairs := len(kids) - node.N - node.M
		return pairs > 0 && pairs%2 == 0
	case impl.NAgg:
		return node.N == impl.AggAll && kids == "" && node.M == 0 || node.N > impl.AggAll && kids == "e"
	case impl.NLimit:
		return node.N >= 0 || node.M >= 0
	case impl.NJoin:
		return (node.N == impl.JoinCross) != strings.HasSuffix(kids, "e")
	case impl.NInQuery, impl.NScalar:
		return firstWord(tree, node.Kids[len(node.Kids)-1]) == impl.NSelect
	}
	return true
}

// firstWord is the operation whose text a query begins with.
func firstWord(tree impl.Tree, query int) int {
	at := tree.Nodes[query].Kids[0]
	for tree.Nodes[at].Op == impl.NSetOp {
		at = tree.Nodes[at].Kids[0]
	}
	return tree.Nodes[at].Op
}

// treeValid is TreeOK once more.
func treeValid(rules map[int]treeRule, tree impl.Tree) bool {
	count := len(tree.Nodes)
	if count < 1 || count > impl.MaxNodes || !standing(tree) {
		return false
	}
	for _, node := range tree.Nodes {
		if !nodeValid(rules, tree, node) {
			return false
		}
	}
	roots := []int{27, 40, 46, 48, 49, 55, 56, 57, 58, 59, 60, 61, 62, 63, 64}
	return slices.Contains(roots, tree.Nodes[count-1].Op) && height(tree, count-1) <= impl.MaxDepth
}

func height(tree impl.Tree, at int) int {
	most := 0
	for _, kid := range tree.Nodes[at].Kids {
		most = max(most, height(tree, kid))
	}
	return most + 1
}

// wantValidity asks TreeOK and Print of a tree, whether it is valid or not.
func wantValidity(t *testing.T, rules map[int]treeRule, tree impl.Tree) {
	t.Helper()
	want := treeValid(rules, tree)
	text, code := impl.Print(tree)
	if got := impl.TreeOK(tree); got != want || want != (code != impl.ErrBad) || code != impl.OK && text != "" {
		t.Fatalf("TreeOK(%v) = %v, Print: %q, %d; want %v", tree, got, text, code, want)
	}
}

func edgeNumbers() []int {
	return append(upTo(-3, 18), 64, 6000, math.MaxInt, math.MaxInt-1, math.MinInt, math.MinInt+1, math.MaxInt32, -math.MaxInt32)
}

func edgeNames() []string {
	return []string{
		"", "a", " ", "~", "A b", `"`, "select", strings.Repeat("n", impl.MaxName), strings.Repeat("n", impl.MaxName+1), "\x1f", "\x7f", "a\nb", "é", "\x00", "\xff", "a\x80",
	}
}

// edits are a node's neighbours: each has one field that is other than it was.
func edits(node impl.Node, at int) []impl.Node {
	var list []impl.Node
	edit := func(change func(n *impl.Node)) {
		changed := node
		changed.Kids = slices.Clone(node.Kids)
		change(&changed)
		list = append(list, changed)
	}
	for _, number := range edgeNumbers() {
		edit(func(n *impl.Node) { n.N = number })
		edit(func(n *impl.Node) { n.M = number })
		edit(func(n *impl.Node) { n.Pos = number })
		edit(func(n *impl.Node) { n.N, n.M = number, -1 })
		edit(func(n *impl.Node) { n.N, n.M = 1-n.N, 1-n.M })
	}
	for _, name := range edgeNames() {
		edit(func(n *impl.Node) { n.Name = name })
		edit(func(n *impl.Node) { n.Qual = name })
	}
	for _, value := range append(invalidValues(), null, intv(0), intv(-1), intv(5), decv(-1), decv(7), textv("a"), boolv(true), datev(-5), datev(impl.MaxDate)) {
		edit(func(n *impl.Node) { n.Val = value })
	}
	for op := -1; op < 68; op++ {
		edit(func(n *impl.Node) { n.Op = op })
	}
	edit(func(n *impl.Node) { n.Op = math.MinInt })
	edit(func(n *impl.Node) { n.Op = math.MaxInt })
	return append(list, kidEdits(node, at)...)
}

func kidEdits(node impl.Node, at int) []impl.Node {
	var list []impl.Node
	put := func(kids []int) {
		changed := node
		changed.Kids = kids
		list = append(list, changed)
	}
	put(nil)
	for _, kid := range []int{-1, 0, at - 1, at, at + 1, math.MaxInt, math.MinInt} {
		put(append(slices.Clone(node.Kids), kid))
		put(append([]int{kid}, node.Kids...))
		for i := range node.Kids {
			changed := slices.Clone(node.Kids)
			changed[i] = kid
			put(changed)
		}
	}
	for i := range node.Kids {
		put(slices.Delete(slices.Clone(node.Kids), i, i+1))
		changed := slices.Clone(node.Kids)
		changed[0], changed[i] = changed[i], changed[0]
		put(changed)
	}
	return list
}

func TestTreeOKAtEveryField(t *testing.T) {
	rules := treeRules()
	if len(rules) != len(opNames) {
		t.Fatalf("%d operations", len(rules))
	}
	tried := map[int]int{}
	for _, c := range parseCases() {
		tree, _, _ := impl.Parse(c.src)
		if !impl.TreeOK(tree) || !treeValid(rules, tree) {
			t.Fatalf("%q is not valid", c.src)
		}
		for at, node := range tree.Nodes {
			if tried[node.Op]++; tried[node.Op] > 4 {
				continue
			}
			for _, edited := range edits(node, at) {
				tree.Nodes[at] = edited
				wantValidity(t, rules, tree)
			}
			tree.Nodes[at] = node
		}
	}
}

// replanted has a tree's nodes as plants.
func replanted(tree impl.Tree) []*plant {
	var list []*plant
	for _, node := range tree.Nodes {
		p := newPlant(node)
		for _, kid := range node.Kids {
			p.kids = append(p.kids, list[kid])
		}
		list = append(list, p)
	}
	return list
}

// TestTreeOKAtEveryKid puts plants of each operation in the place of each kid, and beside it.
func TestTreeOKAtEveryKid(t *testing.T) {
	rules, samples, tried := treeRules(), map[int]*plant{}, map[int]int{}
	for _, c := range parseCases() {
		tree, _, _ := impl.Parse(c.src)
		for _, p := range replanted(tree) {
			if samples[p.Op] == nil {
				samples[p.Op] = p
			}
		}
	}
	for _, c := range parseCases() {
		tree, _, _ := impl.Parse(c.src)
		all := replanted(tree)
		root := all[len(all)-1]
		for _, p := range all {
			if tried[p.Op]++; tried[p.Op] > 2 {
				continue
			}
			kids := p.kids
			for _, sample := range samples {
				for at := range len(kids) + 1 {
					p.kids = slices.Insert(slices.Clone(kids), at, sample)
					wantValidity(t, rules, planted(root))
				}
				for at := range kids {
					p.kids = slices.Clone(kids)
					p.kids[at] = sample
					wantValidity(t, rules, planted(root))
				}
			}
			p.kids = kids
		}
	}
}

// TestTreeOKOfFirstTokens asks for the queries of which the first token must be SELECT.
func TestTreeOKOfFirstTokens(t *testing.T) {
	query := func(kids ...*plant) *plant { return newPlant(impl.Node{Op: impl.NQuery}, kids...) }
	sets := func(kids ...*plant) *plant { return newPlant(impl.Node{Op: impl.NSetOp, N: 1}, kids...) }
	selection := newPlant(impl.Node{Op: impl.NSelect}, newPlant(impl.Node{Op: impl.NItems}, newPlant(impl.Node{Op: impl.NStar})))
	column := newPlant(impl.Node{Op: impl.NCol, Name: "a"})
	for _, c := range []struct {
		query *plant
		want  bool
	}{
		{query(selection), true}, {query(query(selection)), false}, {query(sets(selection, query(selection))), true}, {query(sets(query(selection), selection)), false},
		{query(sets(sets(selection, selection), query(selection))), true}, {query(sets(sets(query(selection), selection), selection)), false},
	} {
		for op, want := range map[int]bool{impl.NInQuery: c.want, impl.NScalar: c.want, impl.NExists: true} {
			kids := []*plant{c.query}
			if op == impl.NInQuery {
				kids = []*plant{column, c.query}
			}
			tree := planted(newPlant(impl.Node{Op: impl.NDelete, Name: "t"}, newPlant(impl.Node{Op: impl.NWhere}, newPlant(impl.Node{Op: op}, kids...))))
			if _, code := impl.Print(tree); impl.TreeOK(tree) != want || (code == impl.OK) != want {
				t.Errorf("%s: %v, %d", dump(tree), impl.TreeOK(tree), code)
			}
		}
		for _, root := range []*plant{
			c.query, newPlant(impl.Node{Op: impl.NExplain}, c.query), newPlant(impl.Node{Op: impl.NInsert, Name: "t"}, c.query),
			query(newPlant(impl.Node{Op: impl.NSelect}, selection.kids[0], newPlant(impl.Node{Op: impl.NFrom}, newPlant(impl.Node{Op: impl.NDerived, Name: "t"}, c.query)))),
		} {
			if tree := planted(root); !impl.TreeOK(tree) {
				t.Errorf("%s is not valid", dump(tree))
			}
		}
	}
}

// TestTreeOKOfMovedNodes takes trees by chance, with nodes that are doubled, lost, changed with another, or hung elsewhere.
func TestTreeOKOfMovedNodes(t *testing.T) {
	t.Parallel()
	rules, numbers := treeRules(), &numberSource{state: 40}
	valid := 0
	for round := 0; round < 8000; round++ {
		g := grower{numbers}
		root := g.statement(round % 5)
		hang(g, root)
		tree := planted(root)
		nodes := tree.Nodes
		at, other := below(numbers, len(nodes)), below(numbers, len(nodes))
		switch round % 8 {
		case 0:
			nodes = slices.Delete(nodes, at, at+1)
		case 1:
			nodes = slices.Insert(nodes, at, nodes[other])
		case 2:
			nodes[at], nodes[other] = nodes[other], nodes[at]
		case 3:
			nodes = nodes[:at+1]
		case 4:
			nodes = nodes[at:]
		}
		tree.Nodes = nodes
		wantValidity(t, rules, tree)
		if impl.TreeOK(tree) {
			valid++
		}
	}
	if valid < 800 || valid > 7200 {
		t.Errorf("%d trees were valid", valid)
	}
}

// hang gives one plant another one's place, or another kid, or one kid less.
func hang(g grower, root *plant) {
	var all []*plant
	var gather func(p *plant)
	gather = func(p *plant) {
		all = append(all, p)
		for _, kid := range p.kids {
			gather(kid)
		}
	}
	gather(root)
	p, other := all[below(g.numberSource, len(all))], g.statement(2)
	for g.chance(2) && len(other.kids) > 0 {
		other = other.kids[below(g.numberSource, len(other.kids))]
	}
	switch below(g.numberSource, 4) {
	case 0:
		if len(p.kids) > 0 {
			p.kids[below(g.numberSource, len(p.kids))] = other
		}
	case 1:
		p.kids = append(p.kids, other)
	case 2:
		if len(p.kids) > 0 {
			p.kids = p.kids[1:]
		}
	}
}

func TestTreeOKOfRoots(t *testing.T) {
	if impl.TreeOK(impl.Tree{}) || impl.TreeOK(impl.Tree{Nodes: []impl.Node{}}) {
		t.Error("a tree without nodes is valid")
	}
	valid := map[int]bool{impl.NBegin: true, impl.NCommit: true, impl.NRollback: true, impl.NCheckpoint: true}
	for op := -2; op < 70; op++ {
		if impl.TreeOK(impl.Tree{Nodes: []impl.Node{{Op: op}}}) != valid[op] {
			t.Errorf("a node of operation %d alone", op)
		}
	}
	parts := planted(newPlant(impl.Node{Op: impl.NCommit}))
	if impl.TreeOK(impl.Tree{Nodes: append(parts.Nodes, parts.Nodes...)}) {
		t.Error("two roots are valid")
	}
}

// stars is a query of so many stars, and three nodes more.
func stars(count int) impl.Tree {
	items := newPlant(impl.Node{Op: impl.NItems})
	for range count {
		items.kids = append(items.kids, newPlant(impl.Node{Op: impl.NStar}))
	}
	return planted(newPlant(impl.Node{Op: impl.NQuery}, newPlant(impl.Node{Op: impl.NSelect}, items)))
}

func TestTreeOKMaxNodes(t *testing.T) {
	for count, want := range map[int]bool{1: true, impl.MaxNodes - 3: true, impl.MaxNodes - 2: false, impl.MaxNodes + 50: false} {
		tree := stars(count)
		text, code := impl.Print(tree)
		if impl.TreeOK(tree) != want || !want && code != impl.ErrBad || want && code == impl.ErrBad || (text == "") != (count > 1) {
			t.Errorf("%d nodes: %v, %d bytes, %d", len(tree.Nodes), impl.TreeOK(tree), len(text), code)
		}
	}
}

func TestTreeOKMaxDepth(t *testing.T) {
	for operators := range impl.MaxDepth + 20 {
		e := newPlant(impl.Node{Op: impl.NLit})
		for range operators {
			e = newPlant(impl.Node{Op: impl.NNot}, e)
		}
		for name, root := range map[string]*plant{
			"delete": newPlant(impl.Node{Op: impl.NDelete, Name: "t"}, newPlant(impl.Node{Op: impl.NWhere}, e)),
			"update": newPlant(impl.Node{Op: impl.NUpdate, Name: "t"}, newPlant(impl.Node{Op: impl.NSet, Name: "a"}, newPlant(impl.Node{Op: impl.NDefault})),
				newPlant(impl.Node{Op: impl.NSet, Name: "b"}, e)),
		} {
			tree, want := planted(root), operators+3 <= impl.MaxDepth
			if _, code := impl.Print(tree); impl.TreeOK(tree) != want || (code == impl.ErrBad) == want {
				t.Errorf("%s with %d operators: %v, %d", name, operators, impl.TreeOK(tree), code)
			}
		}
	}
}

// TestTreeOKFarTooDeep asks for trees that go down as far as their nodes reach.
func TestTreeOKFarTooDeep(t *testing.T) {
	for _, op := range []int{impl.NNot, impl.NQuery, impl.NSetOp, impl.NScalar} {
		var nodes []impl.Node
		for at := range impl.MaxNodes {
			node := impl.Node{Op: op}
			if at > 0 {
				node.Kids = []int{at - 1}
			}
			nodes = append(nodes, node)
		}
		nodes[impl.MaxNodes-1].Op = impl.NExplain
		if impl.TreeOK(impl.Tree{Nodes: nodes}) {
			t.Errorf("operation %d", op)
		}
	}
}
