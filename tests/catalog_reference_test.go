package tests

import (
	"slices"
	"strings"

	"loop.example/g00001/impl"
)

// stopped is thrown where chapter 6 says a code and a position.
type stopped struct{ code, pos int }

// asked is what some work answers, or the code and position at which it was stopped.
func asked[T any](work func() T) (answer T, code, pos int) {
	defer func() {
		if at, is := recover().(stopped); is {
			code, pos = at.code, at.pos
		}
	}()
	return work(), impl.OK, 0
}

func stopIf(wrong bool, code, pos int) {
	if wrong {
		panic(stopped{code, pos})
	}
}

// firstIn is the first of the nodes that are in a node.
func firstIn(tree impl.Tree, at int) int {
	for len(tree.Nodes[at].Kids) > 0 {
		at = tree.Nodes[at].Kids[0]
	}
	return at
}

// wantedBinding goes over the nodes in their order, but for those in queries.
func wantedBinding(tree impl.Tree, at int, cols []impl.ColName) *branch {
	made := map[int]*branch{}
	for i := firstIn(tree, at); i <= at; i++ {
		if end := queryAround(tree, i, at); end >= 0 {
			i = end
			continue
		}
		var kids []*branch
		for _, kid := range tree.Nodes[i].Kids {
			kids = append(kids, made[kid])
		}
		made[i] = wantedMeaning(tree.Nodes[i], kids, cols)
		stopIf(len(laid(made[i]).Nodes) > 400, impl.ErrBig, tree.Nodes[i].Pos)
	}
	return made[at]
}

// queryAround is the first query up to a node that has node i in it, or -1.
func queryAround(tree impl.Tree, i, last int) int {
	for at := i; at <= last; at++ {
		if tree.Nodes[at].Op == impl.NQuery && firstIn(tree, at) <= i {
			return at
		}
	}
	return -1
}

func wantedMeaning(node impl.Node, kids []*branch, cols []impl.ColName) *branch {
	typed := func(form impl.XNode, kids ...*branch) *branch {
		b := newBranch(form, kids...)
		stopIf(b.Kind < 0, impl.ErrType, node.Pos)
		return b
	}
	negated := func(not bool, b *branch) *branch {
		if not {
			return typed(impl.XNode{Op: impl.XUn, A: impl.OpNot}, b)
		}
		return b
	}
	switch node.Op {
	case impl.NLit:
		return constOf(node.Val)
	case impl.NCol:
		return wantedColumn(node, cols)
	case impl.NIs:
		return negated(node.N == 1, typed(impl.XNode{Op: impl.XUn, A: impl.OpIsNull}, kids...))
	case impl.NSame:
		return negated(node.N == 0, typed(impl.XNode{Op: impl.XBin, A: impl.OpSame}, kids...))
	case impl.NCase:
		if node.M == 1 {
			operand := kids[0]
			kids = slices.Clone(kids[1:])
			for i := 0; i+1 < len(kids); i += 2 {
				kids[i] = typed(impl.XNode{Op: impl.XBin, A: impl.OpEq}, operand, kids[i])
			}
		}
		return typed(impl.XNode{Op: impl.XCase, A: node.N}, decsAmong(kids, func(i int) bool { return i%2 == 1 || i == len(kids)-1 })...)
	case impl.NCall:
		all := func(int) bool { return true }
		if node.Name == "coalesce" {
			stopIf(len(kids) == 0, impl.ErrWidth, node.Pos)
			return typed(impl.XNode{Op: impl.XCoalesce}, decsAmong(kids, all)...)
		}
		fn := slices.Index(functionNames()[1:], node.Name) + 1
		stopIf(fn == 0, impl.ErrColumn, node.Pos)
		widths := []int{0, 1, 1, 1, 1, 3, 2, 1, 1, 1, 1, 1, 2, 2}
		stopIf(len(kids) != widths[fn], impl.ErrWidth, node.Pos)
		if fn == impl.FnLeast || fn == impl.FnGreatest {
			kids = decsAmong(kids, all)
		}
		return typed(impl.XNode{Op: impl.XCall, A: fn}, kids...)
	case impl.NAgg, impl.NExists, impl.NScalar, impl.NInQuery:
		panic(stopped{impl.ErrGroup, node.Pos})
	}
	return typed(map[int]impl.XNode{
		impl.NNot: {Op: impl.XUn, A: impl.OpNot}, impl.NNeg: {Op: impl.XUn, A: impl.OpNeg}, impl.NBin: {Op: impl.XBin, A: node.N}, impl.NIn: {Op: impl.XIn, A: node.N},
		impl.NLike: {Op: impl.XLike, A: node.N}, impl.NBetween: {Op: impl.XBetween, A: node.N}, impl.NCast: {Op: impl.XCast, A: node.N},
	}[node.Op], kids...)
}

func wantedColumn(node impl.Node, cols []impl.ColName) *branch {
	var found []*branch
	for i, column := range cols {
		if column.Name == node.Name && (node.Qual == "" || node.Qual == column.Qual) {
			found = append(found, columnOf(column.Kind, 0, i))
		}
	}
	stopIf(len(found) == 0, impl.ErrColumn, node.Pos)
	stopIf(len(found) > 1, impl.ErrMany, node.Pos)
	return found[0]
}

// decsAmong casts Ints, of the kids that are values, if the values are of kinds Int, Dec and Null, the first two both there.
func decsAmong(kids []*branch, isValue func(i int) bool) []*branch {
	letters := ""
	for i, kid := range kids {
		if isValue(i) {
			letters += kindLetters[kid.Kind : kid.Kind+1]
		}
	}
	if !strings.Contains(letters, "i") || !strings.Contains(letters, "d") || strings.Trim(letters, "idn") != "" {
		return kids
	}
	list := slices.Clone(kids)
	for i, kid := range list {
		if isValue(i) && kid.Kind == impl.Int {
			list[i] = castOf(impl.Dec, kid)
		}
	}
	return list
}

// wantedDefine is Define, of a schema that is valid.
func wantedDefine(s impl.Schema, tree impl.Tree) (impl.Schema, int, int) {
	if !impl.TreeOK(tree) || !slices.Contains([]int{impl.NCreateTable, impl.NCreateIndex, impl.NDropTable, impl.NDropIndex}, tree.Nodes[len(tree.Nodes)-1].Op) {
		return impl.Schema{}, impl.ErrBad, 0
	}
	text, code := impl.Print(tree)
	if code != impl.OK {
		return impl.Schema{}, impl.ErrBig, 0
	}
	return asked(func() impl.Schema { return wantedChange(copySchema(s), tree, text) })
}

func tableNamed(s impl.Schema, name string) int {
	return slices.IndexFunc(s.Tables, func(t impl.Table) bool { return t.Name == name })
}

func indexNamed(s impl.Schema, name string) int {
	return slices.IndexFunc(s.Indexes, func(x impl.Index) bool { return x.Name == name })
}

func wantedChange(s impl.Schema, tree impl.Tree, text string) impl.Schema {
	root := tree.Nodes[len(tree.Nodes)-1]
	switch root.Op {
	case impl.NCreateTable:
		stopIf(tableNamed(s, root.Name) >= 0, impl.ErrExists, root.Pos)
		stopIf(len(s.Tables) >= 16 || s.Next >= 1000000, impl.ErrBig, root.Pos)
		s.Tables = append(s.Tables, wantedTable(tree, s.Next, text))
		s.Next++
	case impl.NCreateIndex:
		stopIf(indexNamed(s, root.Name) >= 0, impl.ErrExists, root.Pos)
		stopIf(len(s.Indexes) >= 24 || s.Next >= 1000000, impl.ErrBig, root.Pos)
		stopIf(tableNamed(s, root.Qual) < 0, impl.ErrTable, root.Pos)
		cols := wantedList(tree, root, s.Tables[tableNamed(s, root.Qual)].Cols)
		s.Indexes = append(s.Indexes, impl.Index{Name: root.Name, Table: root.Qual, Id: s.Next, Cols: cols, Unique: root.N == 1, Text: text})
		s.Next++
	case impl.NDropTable:
		stopIf(tableNamed(s, root.Name) < 0, impl.ErrTable, root.Pos)
		s.Tables = slices.DeleteFunc(s.Tables, func(t impl.Table) bool { return t.Name == root.Name })
		s.Indexes = slices.DeleteFunc(s.Indexes, func(x impl.Index) bool { return x.Table == root.Name })
	case impl.NDropIndex:
		stopIf(indexNamed(s, root.Name) < 0, impl.ErrTable, root.Pos)
		s.Indexes = slices.DeleteFunc(s.Indexes, func(x impl.Index) bool { return x.Name == root.Name })
	}
	return s
}

// wantedList are the columns that the names of a node name.
func wantedList(tree impl.Tree, node impl.Node, cols []impl.Column) []int {
	var list []int
	for _, kid := range node.Kids {
		name := tree.Nodes[kid]
		at := slices.IndexFunc(cols, func(c impl.Column) bool { return c.Name == name.Name })
		stopIf(at < 0, impl.ErrColumn, name.Pos)
		stopIf(slices.Contains(list, at), impl.ErrMany, name.Pos)
		list = append(list, at)
	}
	return list
}

// wantedTable goes three times over the elements, by the three rules.
func wantedTable(tree impl.Tree, id int, text string) impl.Table {
	root := tree.Nodes[len(tree.Nodes)-1]
	table := impl.Table{Name: root.Name, Id: id, Text: text}
	var names []impl.ColName
	for _, kid := range root.Kids {
		if element := tree.Nodes[kid]; element.Op == impl.NColumn {
			taken := slices.ContainsFunc(table.Cols, func(c impl.Column) bool { return c.Name == element.Name })
			stopIf(taken, impl.ErrExists, element.Pos)
			stopIf(len(table.Cols) >= 12, impl.ErrBig, element.Pos)
			table.Cols = append(table.Cols, wantedTableColumn(tree, element))
			names = append(names, impl.ColName{Qual: root.Name, Name: element.Name, Kind: element.N})
		}
	}
	stopIf(len(table.Cols) == 0, impl.ErrColumn, root.Pos)
	place := 0
	for _, kid := range root.Kids {
		element := tree.Nodes[kid]
		var list []int
		if element.Op == impl.NKeyOf || element.Op == impl.NUnique {
			list = wantedList(tree, element, table.Cols)
		} else if element.Op == impl.NColumn {
			list = []int{place}
			place++
		}
		if element.Op == impl.NKeyOf || element.Op == impl.NColumn && element.M/2%2 == 1 {
			stopIf(len(table.Primary) > 0, impl.ErrExists, element.Pos)
			table.Primary = list
		}
		if element.Op == impl.NUnique || element.Op == impl.NColumn && element.M/4 == 1 {
			stopIf(len(table.Uniques) >= 6, impl.ErrBig, root.Pos)
			table.Uniques = append(table.Uniques, list)
		}
	}
	for _, column := range table.Primary {
		table.Cols[column].NotNull = true
	}
	for _, kid := range root.Kids {
		for _, at := range append(slices.Clone(tree.Nodes[kid].Kids), kid) {
			if tree.Nodes[at].Op == impl.NCheck {
				table.Checks = append(table.Checks, wantedCheck(tree, tree.Nodes[at], names, len(table.Checks)))
			}
		}
	}
	return table
}

func wantedTableColumn(tree impl.Tree, element impl.Node) impl.Column {
	column := impl.Column{Name: element.Name, Kind: element.N, NotNull: element.M%2 == 1}
	for _, kid := range element.Kids {
		node := tree.Nodes[kid]
		if node.Op != impl.NDefaultIs {
			continue
		}
		stopIf(column.HasDefault, impl.ErrExists, node.Pos)
		v, code := wantedValue(wantedBinding(tree, node.Kids[0], nil), nil)
		stopIf(code != impl.OK, code, node.Pos)
		if v.Kind == impl.Int && column.Kind == impl.Dec {
			stopIf(v.N > impl.MaxDec/impl.Scale || v.N < -impl.MaxDec/impl.Scale, impl.ErrOverflow, node.Pos)
			v = decv(v.N * impl.Scale)
		}
		stopIf(v != null && v.Kind != column.Kind, impl.ErrType, node.Pos)
		column.HasDefault, column.Default = true, v
	}
	return column
}

func wantedCheck(tree impl.Tree, node impl.Node, names []impl.ColName, count int) impl.Expr {
	stopIf(count >= 6, impl.ErrBig, node.Pos)
	b := wantedBinding(tree, node.Kids[0], names)
	stopIf(b.Kind != impl.Bool && b.Kind != impl.Null, impl.ErrType, node.Pos)
	return laid(b)
}

// wantedSchemaOK is chapter 6's valid schema.
func wantedSchemaOK(s impl.Schema) bool {
	ok := len(s.Tables) <= 16 && len(s.Indexes) <= 24 && s.Next >= 1 && s.Next <= 1000000
	var ids []int
	for i, t := range s.Tables {
		ids = append(ids, t.Id)
		ok = ok && tableNamed(s, t.Name) == i
	}
	for i, x := range s.Indexes {
		ids = append(ids, x.Id)
		ok = ok && indexNamed(s, x.Name) == i
	}
	slices.Sort(ids)
	ok = ok && len(slices.Compact(slices.Clone(ids))) == len(ids) && (len(ids) == 0 || ids[0] >= 1 && ids[len(ids)-1] < s.Next)
	for i := 0; ok && i < len(s.Tables); i++ {
		made, code := fromText(impl.Schema{Next: s.Tables[i].Id}, s.Tables[i].Text)
		ok = code && len(made.Tables) == 1 && sameTable(made.Tables[0], s.Tables[i])
	}
	for i := 0; ok && i < len(s.Indexes); i++ {
		made, code := fromText(impl.Schema{Tables: s.Tables, Next: s.Indexes[i].Id}, s.Indexes[i].Text)
		ok = code && len(made.Indexes) == 1 && sameIndex(made.Indexes[0], s.Indexes[i])
	}
	return ok
}

func fromText(s impl.Schema, text string) (impl.Schema, bool) {
	tree, code, _ := impl.Parse(text)
	if code != impl.OK {
		return s, false
	}
	if printed, code := impl.Print(tree); code != impl.OK || printed != text {
		return s, false
	}
	made, code, _ := wantedDefine(s, tree)
	return made, code == impl.OK
}

// wantedRowCode is CheckRow, of a schema that is valid.
func wantedRowCode(s impl.Schema, table int, row []impl.Value) int {
	if table < 0 || table >= len(s.Tables) || len(row) != len(s.Tables[table].Cols) {
		return impl.ErrBad
	}
	code := impl.OK
	for i, column := range s.Tables[table].Cols {
		if !impl.ValueOK(row[i]) || row[i] != null && row[i].Kind != column.Kind {
			return impl.ErrBad
		}
		if row[i] == null && column.NotNull {
			code = impl.ErrNull
		}
	}
	for _, check := range s.Tables[table].Checks {
		if code != impl.OK {
			break
		}
		v, failed := wantedValue(upright(check), [][]impl.Value{row})
		if code = failed; v == boolv(false) {
			code = impl.ErrCheck
		}
	}
	return code
}

func copySchema(s impl.Schema) impl.Schema {
	copied := impl.Schema{Tables: slices.Clone(s.Tables), Indexes: slices.Clone(s.Indexes), Next: s.Next}
	for i, t := range copied.Tables {
		table := &copied.Tables[i]
		table.Cols, table.Primary, table.Uniques, table.Checks = slices.Clone(t.Cols), slices.Clone(t.Primary), cloned(t.Uniques), nil
		for _, check := range t.Checks {
			table.Checks = append(table.Checks, copyExpr(check))
		}
	}
	for i, x := range copied.Indexes {
		copied.Indexes[i].Cols = slices.Clone(x.Cols)
	}
	return copied
}

func sameTable(a, b impl.Table) bool {
	return a.Name == b.Name && a.Id == b.Id && a.Text == b.Text && slices.Equal(a.Cols, b.Cols) && slices.Equal(a.Primary, b.Primary) &&
		slices.EqualFunc(a.Uniques, b.Uniques, slices.Equal) && slices.EqualFunc(a.Checks, b.Checks, sameExpr)
}

func sameIndex(a, b impl.Index) bool {
	return a.Name == b.Name && a.Table == b.Table && a.Id == b.Id && a.Unique == b.Unique && a.Text == b.Text && slices.Equal(a.Cols, b.Cols)
}

func sameSchema(a, b impl.Schema) bool {
	return a.Next == b.Next && slices.EqualFunc(a.Tables, b.Tables, sameTable) && slices.EqualFunc(a.Indexes, b.Indexes, sameIndex)
}
