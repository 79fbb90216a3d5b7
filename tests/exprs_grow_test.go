package tests

import (
	"regexp"
	"slices"
	"strconv"
	"strings"
	"sync"
	"testing"

	"loop.example/g00001/impl"
)

// branch is a node of an expression with its kids at hand.
type branch struct {
	impl.XNode
	kids []*branch
}

// newBranch gives the node the Kind that the table says.
func newBranch(node impl.XNode, kids ...*branch) *branch {
	node.Kind = tableKind(node, kindsOf(kids))
	return &branch{node, kids}
}

func kindsOf(list []*branch) []int {
	var kinds []int
	for _, b := range list {
		kinds = append(kinds, b.Kind)
	}
	return kinds
}

func constOf(v impl.Value) *branch { return newBranch(impl.XNode{Op: impl.XConst, Val: v}) }

func columnOf(kind, row, column int) *branch {
	return &branch{XNode: impl.XNode{Op: impl.XCol, Kind: kind, A: row, B: column}}
}

func binOf(op int, a, b *branch) *branch { return newBranch(impl.XNode{Op: impl.XBin, A: op}, a, b) }

func unOf(op int, a *branch) *branch { return newBranch(impl.XNode{Op: impl.XUn, A: op}, a) }

func castOf(kind int, a *branch) *branch { return newBranch(impl.XNode{Op: impl.XCast, A: kind}, a) }

// laid lays the nodes down in the one order that they have.
func laid(root *branch) impl.Expr {
	var nodes []impl.XNode
	var lay func(b *branch) int
	lay = func(b *branch) int {
		node := b.XNode
		node.Kids = nil
		for _, kid := range b.kids {
			node.Kids = append(node.Kids, lay(kid))
		}
		nodes = append(nodes, node)
		return len(nodes) - 1
	}
	lay(root)
	return impl.Expr{Nodes: nodes}
}

// upright is the inverse of laid.
func upright(e impl.Expr) *branch {
	var lift func(at int) *branch
	lift = func(at int) *branch {
		b := &branch{XNode: e.Nodes[at]}
		for _, kid := range b.Kids {
			b.kids = append(b.kids, lift(kid))
		}
		return b
	}
	return lift(len(e.Nodes) - 1)
}

func sameExpr(a, b impl.Expr) bool {
	return slices.EqualFunc(a.Nodes, b.Nodes, func(x, y impl.XNode) bool {
		return x.Op == y.Op && x.Kind == y.Kind && x.A == y.A && x.B == y.B && x.Val == y.Val && slices.Equal(x.Kids, y.Kids)
	})
}

func copyExpr(e impl.Expr) impl.Expr {
	copied := impl.Expr{Nodes: slices.Clone(e.Nodes)}
	for i := range copied.Nodes {
		copied.Nodes[i].Kids = slices.Clone(e.Nodes[i].Kids)
	}
	return copied
}

// kindLetters stand for the kinds, from Null to Date, in patterns and in names of columns.
const kindLetters = "nidtby"

var patterns sync.Map

func pattern(text string) *regexp.Regexp {
	kept, there := patterns.Load(text)
	if !there {
		kept = regexp.MustCompile("^(" + text + ")$")
		patterns.Store(text, kept)
	}
	return kept.(*regexp.Regexp)
}

// commonKindBy is the first kind, Null ahead of all, which put for K in a pattern (or Null with it) lets it match.
func commonKindBy(text, letters string) int {
	for kind, letter := range kindLetters {
		if pattern(strings.ReplaceAll(text, "K", "["+string(letter)+"n]")).MatchString(letters) {
			return kind
		}
	}
	return -1
}

// tableKind is the table of chapter 5: the Kind of a node whose kids have these kinds, or -1 if A, Val or the kids are not as said there.
func tableKind(node impl.XNode, kinds []int) int {
	letters := ""
	for _, kind := range kinds {
		letters += kindLetters[kind : kind+1]
	}
	flagged := node.A == 0 || node.A == 1
	switch op := node.Op; {
	case op == impl.XConst && letters == "" && impl.ValueOK(node.Val) && node.A == 0:
		return node.Val.Kind
	case op == impl.XCol && letters == "":
		return node.Kind
	case op == impl.XBin && len(letters) == 2 && node.A >= impl.OpAdd && node.A <= impl.OpOr:
		return impl.OpKind(node.A, kinds[0], kinds[1])
	case op == impl.XUn && len(letters) == 1 && node.A >= impl.OpNot && node.A <= impl.OpIsNull:
		return impl.OpKind(node.A, kinds[0], impl.Text)
	case op == impl.XIn && flagged && pattern("n.+|[id][idn]+|t[tn]+|b[bn]+|y[yn]+").MatchString(letters):
		return impl.Bool
	case op == impl.XLike && flagged && pattern("[tn][tn]").MatchString(letters):
		return impl.Bool
	case op == impl.XBetween && flagged && pattern("n..|[id][idn]{2}|t[tn]{2}|b[bn]{2}|y[yn]{2}").MatchString(letters):
		return impl.Bool
	case op == impl.XCase && node.A == 0:
		return commonKindBy("([bn]K)+", letters)
	case op == impl.XCase && node.A == 1:
		return commonKindBy("([bn]K)+K", letters)
	case op == impl.XCast && len(letters) == 1 && impl.CastKind(kinds[0], node.A):
		return node.A
	case op == impl.XCall:
		return wantedCallKind(node.A, kinds)
	case op == impl.XCoalesce && node.A == 0:
		return commonKindBy("K+", letters)
	}
	return -1
}

// exprForm is a node, and the kinds of the kids that it takes.
type exprForm struct {
	node  impl.XNode
	kinds []int
}

func kindLists(most int) [][]int {
	lists, first := [][]int{nil}, 0
	for length := 1; length <= most; length++ {
		end := len(lists)
		for ; first < end; first++ {
			for kind := range kindLetters {
				lists = append(lists, append(slices.Clone(lists[first]), kind))
			}
		}
	}
	return lists
}

// exprForms are all operations with up to three kids, by the Kind that they give and the operation.
var exprForms = sync.OnceValue(func() [6][12][]exprForm {
	var forms [6][12][]exprForm
	for _, kinds := range kindLists(3) {
		for op := impl.XBin; op <= impl.XCoalesce; op++ {
			for a := 0; a <= impl.OpIsNull; a++ {
				node := impl.XNode{Op: op, A: a}
				if kind := tableKind(node, kinds); kind >= 0 {
					forms[kind][op] = append(forms[kind][op], exprForm{node, kinds})
				}
			}
		}
	}
	return forms
})

// exprGrower makes valid plain expressions by chance, for lists of kinds.
type exprGrower struct {
	grower
	lists [][]int
	// named makes a branch of a kind that names a plan, or none; where it is nil all branches are plain.
	named func(kind int) *branch
}

// manyLists have columns of all kinds in each row.
func manyLists() [][]int {
	return [][]int{{1, 4, 0, 2, 3, 5, 1, 4}, {5, 4, 3, 2, 1, 0}, nil, {0, 1, 2, 3, 4, 5}}
}

// valueOf is a value of a kind: mostly one of a few that meet often.
func (g exprGrower) valueOf(kind int) impl.Value {
	few := [][]impl.Value{
		{null},
		{intv(0), intv(1), intv(2), intv(-1), intv(5), intv(9223372036854775807), intv(-9223372036854775808)},
		{decv(0), decv(10000), decv(20000), decv(-5000), decv(25000), decv(impl.MaxDec)},
		{textv(""), textv("a"), textv("ab"), textv("1"), textv("-2.5"), textv("true"), textv("2020-02-29"), textv("%"), textv("a_")},
		{boolv(false), boolv(true)},
		{datev(0), datev(1), datev(impl.MaxDate), datev(impl.MinDate)},
	}[kind]
	if g.chance(8) {
		all := valuesByKind()[kind]
		return all[below(g.numberSource, len(all))]
	}
	return few[below(g.numberSource, len(few))]
}

var valuesByKind = sync.OnceValue(func() [6][]impl.Value {
	var values [6][]impl.Value
	for _, v := range validValues() {
		values[v.Kind] = append(values[v.Kind], v)
	}
	return values
})

func (g exprGrower) leaf(kind int) *branch {
	if g.named != nil && g.chance(3) {
		if b := g.named(kind); b != nil {
			return b
		}
	}
	if !slices.ContainsFunc(g.lists, func(list []int) bool { return slices.Contains(list, kind) }) {
		return constOf(g.valueOf(kind))
	}
	switch below(g.numberSource, 12) {
	case 0:
		return castOf(kind, constOf(null))
	case 1, 2, 3, 4, 5:
		return constOf(g.valueOf(kind))
	}
	for {
		row := below(g.numberSource, len(g.lists))
		for offset := range g.lists[row] {
			column := (offset + int(g.state>>40)) % len(g.lists[row])
			if g.lists[row][column] == kind {
				return columnOf(kind, row, column)
			}
		}
	}
}

func (g exprGrower) ofKind(kind, size int) *branch {
	if size <= 0 || g.chance(5) {
		return g.leaf(kind)
	}
	for {
		forms := exprForms()[kind][impl.XBin+below(g.numberSource, 9)]
		if len(forms) == 0 {
			continue
		}
		form := forms[below(g.numberSource, len(forms))]
		// Most forms have a kid of kind Null; of what these give little is to be seen.
		if kind != impl.Null && slices.Contains(form.kinds, impl.Null) && !g.chance(4) {
			continue
		}
		var kids []*branch
		for _, kind := range g.longer(form) {
			kids = append(kids, g.ofKind(kind, size-1))
		}
		return newBranch(form.node, kids...)
	}
}

// longer repeats kinds of a form that may have any number of kids.
func (g exprGrower) longer(form exprForm) []int {
	kinds := slices.Clone(form.kinds)
	for g.chance(2) {
		switch form.node.Op {
		case impl.XIn, impl.XCoalesce:
			kinds = append(kinds, kinds[1:]...)
		case impl.XCase:
			kinds = append(slices.Clone(kinds[:2]), kinds...)
		}
		if len(kinds) > 8 {
			break
		}
	}
	return kinds
}

func (g exprGrower) any(size int) *branch { return g.ofKind(g.pick(0, 1, 2, 3, 4, 4, 4, 5), size) }

// rows are values for the lists, a fifth of them NULL.
func (g exprGrower) rows() [][]impl.Value {
	var rows [][]impl.Value
	for _, list := range g.lists {
		var row []impl.Value
		for _, kind := range list {
			if g.chance(5) {
				kind = impl.Null
			}
			row = append(row, g.valueOf(kind))
		}
		rows = append(rows, row)
	}
	return rows
}

// bound reads an expression of SQL. Its columns tell what they are: i0 is column 0, an Int, of row 0; r2.b1 column 1, a Bool, of row 2.
func bound(t *testing.T, src string) *branch {
	t.Helper()
	tree := parsed(t, "select "+src)
	for _, node := range tree.Nodes {
		if node.Op == impl.NItem {
			return boundNode(t, tree, node.Kids[0], nil)
		}
	}
	t.Fatalf("%s is no expression", src)
	return nil
}

// boundNode reads a node of a tree; named may make a branch of a call of its own.
func boundNode(t *testing.T, tree impl.Tree, at int, named func(call impl.Node) *branch) *branch {
	t.Helper()
	node := tree.Nodes[at]
	if node.Op == impl.NCall && named != nil {
		if made := named(node); made != nil {
			return made
		}
	}
	var kids []*branch
	for _, kid := range node.Kids {
		kids = append(kids, boundNode(t, tree, kid, named))
	}
	negatedIf := func(not bool, b *branch) *branch {
		if not {
			return unOf(impl.OpNot, b)
		}
		return b
	}
	switch node.Op {
	case impl.NLit:
		return constOf(node.Val)
	case impl.NCol:
		row, _ := strconv.Atoi(strings.TrimPrefix(node.Qual, "r"))
		column, err := strconv.Atoi(node.Name[1:])
		kind := strings.Index(kindLetters, node.Name[:1])
		if err != nil || kind < 0 {
			t.Fatalf("%s is no column", node.Name)
		}
		return columnOf(kind, row, column)
	case impl.NIs:
		return negatedIf(node.N == 1, unOf(impl.OpIsNull, kids[0]))
	case impl.NSame:
		return negatedIf(node.N == 0, binOf(impl.OpSame, kids[0], kids[1]))
	case impl.NCase:
		return newBranch(impl.XNode{Op: impl.XCase, A: node.N}, kids...)
	case impl.NCall:
		if node.Name == "coalesce" {
			return newBranch(impl.XNode{Op: impl.XCoalesce}, kids...)
		}
		return newBranch(impl.XNode{Op: impl.XCall, A: slices.Index(functionNames(), node.Name)}, kids...)
	}
	forms := map[int]impl.XNode{
		impl.NNot: {Op: impl.XUn, A: impl.OpNot}, impl.NNeg: {Op: impl.XUn, A: impl.OpNeg}, impl.NBin: {Op: impl.XBin, A: node.N},
		impl.NIn: {Op: impl.XIn, A: node.N}, impl.NLike: {Op: impl.XLike, A: node.N}, impl.NBetween: {Op: impl.XBetween, A: node.N},
		impl.NCast: {Op: impl.XCast, A: node.N},
	}
	form, there := forms[node.Op]
	if !there {
		t.Fatalf("no expression: operation %d", node.Op)
	}
	return newBranch(form, kids...)
}

// functionNames stand under the numbers of the functions.
func functionNames() []string {
	return strings.Fields("- abs length lower upper substr nullif year month day round trim least greatest")
}
