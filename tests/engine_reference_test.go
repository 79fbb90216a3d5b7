package tests

import (
	"fmt"
	"maps"
	"slices"

	"loop.example/g00001/impl"
)

// inn is an engine, chapter 17 once more, over the machine of chapter 15: it keeps whole copies of all rows. What a statement
// is refused with is thrown.
type inn struct {
	m      *machine
	schema impl.Schema
	rows   goods
	hidden int
	guests map[int]*stay
	past   []checkout
	at     int // how many operations there were
	met    *tally
}

// goods are rows under the numbers of their tables and under their keys in the store.
type goods map[int]map[string][]impl.Value

// stay is a transaction: all rows as it sees them, and what it has read and written.
type stay struct {
	mode, begin int
	now         goods
	wrote       map[deed]bool
	read        map[string]bool
	points      []respite
	ops         []int
}

// deed is something that is written: the row with a key, or the values of some columns of a table.
type deed struct {
	table     int
	key, cols string
	name      string
}

type respite struct {
	name  string
	now   goods
	wrote map[deed]bool
}

// checkout is a transaction that has committed; ops are the numbers of its statements, with the COMMIT.
type checkout struct {
	mode  int
	wrote map[deed]bool
	info  impl.TxnInfo
	ops   []int
}

func newInn(met *tally) *inn {
	return &inn{m: newMachine(), guests: map[int]*stay{}, met: met}
}

// wantedEngineRun is what EngineRun answers to operations that are not too many.
func wantedEngineRun(ops []impl.EngineOp, met *tally) ([]impl.EngineObs, *inn) {
	n := newInn(met)
	var list []impl.EngineObs
	for _, op := range ops {
		list = append(list, n.answer(op))
	}
	return list, n
}

func copiedGoods(g goods) goods {
	copied := goods{}
	for table, rows := range g {
		copied[table] = maps.Clone(rows)
	}
	return copied
}

func (n *inn) answer(op impl.EngineOp) impl.EngineObs {
	obs, code, pos := asked(func() impl.EngineObs { return n.operated(op) })
	if code != impl.OK {
		obs = impl.EngineObs{Code: code, Pos: pos}
	}
	n.at++
	return obs
}

func (n *inn) operated(op impl.EngineOp) impl.EngineObs {
	store := map[int]impl.StoreOp{
		impl.EOpen: {Kind: impl.SOpen}, impl.EArm: {Kind: impl.SArm, N: op.N, Choices: op.Choices}, impl.ECrash: {Kind: impl.SCrash, Choices: op.Choices},
	}
	switch op.Kind {
	case impl.EStatement:
		stopIf(op.Session < 1 || op.Session > 4, impl.ErrBad, 0)
		stopIf(n.m.state != "open", impl.ErrDown, 0)
		return n.statement(op.Session, op.Text)
	case impl.EOpen, impl.EArm, impl.ECrash:
		code := n.m.observed(store[op.Kind]).Code
		stopIf(code != impl.OK, code, 0)
	default:
		stopIf(true, impl.ErrBad, 0)
	}
	if op.Kind == impl.EOpen {
		n.guests = map[int]*stay{}
		n.load()
	}
	return impl.EngineObs{}
}

// load reads the pairs of the store.
func (n *inn) load() {
	w, ok := readWood(n.m.image)
	if !ok {
		panic("no tree")
	}
	n.schema, n.rows, n.hidden = impl.Schema{Next: 1}, goods{}, 1
	for _, pair := range w.top.pairs() {
		key, ok := wantedKeyValues(pair.Key)
		if !ok {
			panic("no key")
		}
		if key[0] == intv(0) {
			tree, _, _ := impl.Parse(string(pair.Val[1:]))
			n.schema.Next = key[1].N
			next, code, _ := impl.Define(n.schema, tree)
			isIndex := rootOf(tree).Op == impl.NCreateIndex
			if code != impl.OK || pair.Val[0] == 2 != isIndex || pair.Val[0] == 1 == isIndex {
				panic("no table and no index")
			}
			n.schema = next
			continue
		}
		row, ok := wantedRowValues(pair.Val)
		if !ok {
			panic("no row")
		}
		n.put(key[0].N, string(pair.Key), row)
		if len(n.tableOf(key[0].N).Primary) == 0 {
			n.hidden = max(n.hidden, key[1].N+1)
		}
	}
}

func rootOf(tree impl.Tree) impl.Node { return tree.Nodes[len(tree.Nodes)-1] }

func (n *inn) put(table int, key string, row []impl.Value) {
	if n.rows[table] == nil {
		n.rows[table] = map[string][]impl.Value{}
	}
	n.rows[table][key] = row
}

func (n *inn) placeOf(table int) int {
	return slices.IndexFunc(n.schema.Tables, func(t impl.Table) bool { return t.Id == table })
}

func (n *inn) tableOf(table int) impl.Table { return n.schema.Tables[n.placeOf(table)] }

func (n *inn) statement(who int, text string) impl.EngineObs {
	tree, code, pos := impl.Parse(text)
	stopIf(code != impl.OK, code, pos)
	root, guest := rootOf(tree), n.guests[who]
	if guest != nil {
		guest.ops = append(guest.ops, n.at)
	}
	switch root.Op {
	case impl.NQuery, impl.NExplain, impl.NInsert, impl.NUpdate, impl.NDelete:
		if guest != nil {
			return n.work(guest, tree)
		}
		return n.workAlone(tree)
	case impl.NCheckpoint:
		code := n.m.observed(impl.StoreOp{Kind: impl.SCheck}).Code
		stopIf(code != impl.OK, code, 0)
	case impl.NBegin:
		stopIf(guest != nil, impl.ErrState, 0)
		n.guests[who] = n.newStay([]int{1, 1, 2}[root.N])
	case impl.NCommit, impl.NRollback, impl.NSavepoint, impl.NRelease:
		stopIf(guest == nil, impl.ErrState, 0)
		n.guide(who, guest, root)
	default:
		stopIf(guest != nil, impl.ErrState, 0)
		stopIf(len(n.guests) > 0, impl.ErrBusy, 0)
		n.define(tree)
	}
	return impl.EngineObs{}
}

func (n *inn) newStay(mode int) *stay {
	return &stay{mode: mode, begin: len(n.past), now: copiedGoods(n.rows), wrote: map[deed]bool{}, read: map[string]bool{}}
}

func (n *inn) workAlone(tree impl.Tree) impl.EngineObs {
	alone, hidden := n.newStay(2), n.hidden
	alone.ops = []int{n.at}
	obs := n.work(alone, tree)
	if code := n.checkOut(alone); code != impl.OK {
		n.hidden = hidden
		stopIf(true, code, 0)
	}
	return obs
}

func (n *inn) guide(who int, guest *stay, root impl.Node) {
	at := -1
	for i, point := range guest.points {
		if point.name == root.Name {
			at = i
		}
	}
	switch {
	case root.Op == impl.NCommit:
		delete(n.guests, who)
		code := n.checkOut(guest)
		stopIf(code != impl.OK, code, 0)
	case root.Op == impl.NRollback && root.Name == "":
		delete(n.guests, who)
	case root.Op == impl.NSavepoint:
		stopIf(len(guest.points) == 8, impl.ErrBig, 0)
		guest.points = append(guest.points, respite{root.Name, copiedGoods(guest.now), maps.Clone(guest.wrote)})
	default:
		stopIf(at < 0, impl.ErrPoint, 0)
		if root.Op == impl.NRelease {
			guest.points = guest.points[:at]
			return
		}
		guest.points = guest.points[:at+1]
		guest.now, guest.wrote = copiedGoods(guest.points[at].now), maps.Clone(guest.points[at].wrote)
	}
}

// stateOf are all rows in the order of their keys.
func (n *inn) stateOf(g goods) impl.State {
	var st impl.State
	for _, table := range n.schema.Tables {
		rows := impl.Rows{Id: table.Id}
		for _, key := range slices.Sorted(maps.Keys(g[table.Id])) {
			rows.Rows = append(rows.Rows, g[table.Id][key])
		}
		st.Tables = append(st.Tables, rows)
	}
	return st
}

func (n *inn) chosen(st impl.State, p impl.Plan) impl.Phys {
	p, code := impl.Rewrite(n.schema, p)
	stopIf(code != impl.OK, code, 0)
	f, code := impl.Choose(n.schema, wantedStats(n.schema, st), p)
	stopIf(code != impl.OK, code, 0)
	return f
}

func (n *inn) executed(st impl.State, p impl.Plan, most int) [][]impl.Value {
	rows, _, code := impl.Execute(n.schema, st, n.chosen(st, p))
	stopIf(code != impl.OK, code, 0)
	stopIf(len(rows) > most, impl.ErrBig, 0)
	return rows
}

func (n *inn) look(guest *stay, p impl.Plan) {
	for _, node := range p.Nodes {
		if node.Op == impl.PScan {
			guest.read[n.tableOf(node.Table).Name] = true
		}
	}
}

func (n *inn) work(guest *stay, tree impl.Tree) impl.EngineObs {
	st, op := n.stateOf(guest.now), rootOf(tree).Op
	if op == impl.NQuery || op == impl.NExplain {
		p, names, code, pos := impl.Bind(n.schema, tree)
		stopIf(code != impl.OK, code, pos)
		if op == impl.NExplain {
			return impl.EngineObs{Text: impl.Explain(n.chosen(st, p))}
		}
		n.look(guest, p)
		rows := n.executed(st, p, 500)
		return impl.EngineObs{Count: len(rows), Names: names, Rows: rows}
	}
	change, code, pos := impl.BindChange(n.schema, tree)
	stopIf(code != impl.OK, code, pos)
	n.look(guest, change.Plan)
	count, code, _ := asked(func() int { return n.change(guest, st, change) })
	if code != impl.OK {
		guest.read[n.tableOf(change.Table).Name] = true
		stopIf(true, code, 0)
	}
	return impl.EngineObs{Count: count}
}

// change does what the rows of a change's plan say, and answers how many they are.
func (n *inn) change(guest *stay, st impl.State, change impl.Change) int {
	given := n.executed(st, change.Plan, 400)
	want, code := impl.ApplyRows(n.schema, st, change.Kind, change.Table, given)
	stopIf(code != impl.OK, code, 0)
	table, next := n.tableOf(change.Table), copiedGoods(guest.now)
	if next[table.Id] == nil {
		next[table.Id] = map[string][]impl.Value{}
	}
	keys := slices.Sorted(maps.Keys(next[table.Id]))
	hidden, from, wrote := n.hidden, 0, map[deed]bool{}
	come := map[string][]impl.Value{}
	for _, row := range given {
		key := ""
		if change.Kind != impl.ChInsert {
			old := row[:len(table.Cols)]
			for !alike(guest.now[table.Id][keys[from]], old) {
				from++
			}
			key, row = keys[from], row[len(old):]
			from++
			delete(next[table.Id], key)
			n.note(wrote, table, key, old)
		}
		if change.Kind != impl.ChDelete {
			key, hidden = keyBehind(table, key, row, hidden)
			come[key] = row
			n.note(wrote, table, key, row)
		}
	}
	maps.Copy(next[table.Id], come)
	if !sameState(n.stateOf(next), want) {
		panic(fmt.Sprintf("%v is not %v", n.stateOf(next), want))
	}
	maps.Copy(guest.wrote, wrote)
	guest.now, n.hidden = next, hidden
	return len(given)
}

// keyBehind is the key of a new row, which had another one, or none; and the next hidden number.
func keyBehind(table impl.Table, had string, row []impl.Value, hidden int) (string, int) {
	key := had
	if len(table.Primary) > 0 || had == "" {
		parts := append([]impl.Value{intv(table.Id)}, columnsOf(row, table.Primary)...)
		if len(table.Primary) == 0 {
			parts = append(parts, intv(hidden))
			hidden++
		}
		made, code := wantedKeyBytes(parts)
		stopIf(code != impl.OK, impl.ErrBig, 0)
		key = string(made)
	}
	_, code := wantedRowBytes(row)
	stopIf(code != impl.OK, impl.ErrBig, 0)
	return key, hidden
}

// note adds what a row writes.
func (n *inn) note(wrote map[deed]bool, table impl.Table, key string, row []impl.Value) {
	wrote[deed{table: table.Id, key: key, name: table.Name}] = true
	lists := slices.Clone(table.Uniques)
	for _, index := range n.schema.Indexes {
		if index.Unique && index.Table == table.Name {
			lists = append(lists, index.Cols)
		}
	}
	for _, cols := range lists {
		if values := columnsOf(row, cols); !slices.Contains(values, null) {
			wrote[deed{table: table.Id, key: fmt.Sprintf("%#v", values), cols: fmt.Sprint(cols), name: table.Name}] = true
		}
	}
}

// infoOf is what a transaction is in a history; tables are their places.
func (n *inn) infoOf(guest *stay) impl.TxnInfo {
	info := impl.TxnInfo{Begin: guest.begin, Commit: len(n.past) + 1}
	for place, table := range n.schema.Tables {
		if guest.read[table.Name] {
			info.Reads = append(info.Reads, place)
		}
		for what := range guest.wrote {
			if what.table == table.Id && !slices.Contains(info.Writes, place) {
				info.Writes = append(info.Writes, place)
			}
		}
	}
	return info
}

func (n *inn) checkOut(guest *stay) int {
	for _, other := range n.past[guest.begin:] {
		for what := range guest.wrote {
			if other.wrote[what] {
				n.met.add(map[bool]string{true: "conflict of a row", false: "conflict of values"}[what.cols == ""])
				return impl.ErrConflict
			}
		}
	}
	info := n.infoOf(guest)
	if guest.mode == 2 {
		if code := wantedCertify(n.serialPast(), info); code != impl.OK {
			return code
		}
	}
	next, batch := copiedGoods(n.rows), []impl.StoreOp(nil)
	for what := range guest.wrote {
		if what.cols != "" {
			continue
		}
		row, there := guest.now[what.table][what.key]
		_, was := n.rows[what.table][what.key]
		if there {
			if next[what.table] == nil {
				next[what.table] = map[string][]impl.Value{}
			}
			next[what.table][what.key] = row
			bytes, _ := wantedRowBytes(row)
			batch = append(batch, impl.StoreOp{Kind: impl.SPut, Key: []byte(what.key), Val: bytes})
		} else if was {
			delete(next[what.table], what.key)
			batch = append(batch, impl.StoreOp{Kind: impl.SDrop, Key: []byte(what.key)})
		}
	}
	for _, rows := range next {
		if len(rows) > 400 {
			return impl.ErrBig
		}
	}
	if code := n.stored(batch); code != impl.OK {
		return code
	}
	n.rows = next
	n.past = append(n.past, checkout{guest.mode, guest.wrote, info, guest.ops})
	return impl.OK
}

func (n *inn) serialPast() []impl.TxnInfo {
	var h []impl.TxnInfo
	for _, other := range n.past {
		if other.mode == 2 {
			h = append(h, other.info)
		}
	}
	return h
}

func (n *inn) stored(batch []impl.StoreOp) int {
	slices.SortFunc(batch, func(a, b impl.StoreOp) int { return slices.Compare(a.Key, b.Key) })
	for _, op := range batch {
		n.m.observed(op)
	}
	return n.m.observed(impl.StoreOp{Kind: impl.SCommit}).Code
}

// entries are the tables and indexes of a schema, under their keys in the store.
func entries(s impl.Schema) map[string]string {
	list := map[string]string{}
	under := func(id int, mark, text string) {
		key, _ := wantedKeyBytes([]impl.Value{intv(0), intv(id)})
		list[string(key)] = mark + text
	}
	for _, table := range s.Tables {
		under(table.Id, "\x01", table.Text)
	}
	for _, index := range s.Indexes {
		under(index.Id, "\x02", index.Text)
	}
	return list
}

func (n *inn) define(tree impl.Tree) {
	next, code, pos := impl.Define(n.schema, tree)
	stopIf(code != impl.OK, code, pos)
	var batch []impl.StoreOp
	was, is := entries(n.schema), entries(next)
	for key, val := range is {
		if _, there := was[key]; !there {
			stopIf(len(val) > 4000, impl.ErrBig, 0)
			batch = append(batch, impl.StoreOp{Kind: impl.SPut, Key: []byte(key), Val: []byte(val)})
		}
	}
	for key := range was {
		if _, there := is[key]; !there {
			batch = append(batch, impl.StoreOp{Kind: impl.SDrop, Key: []byte(key)})
		}
	}
	st, kept := n.stateOf(n.rows), goods{}
	for i, table := range n.schema.Tables {
		if at := tableNamed(next, table.Name); at >= 0 {
			kept[table.Id] = n.rows[table.Id]
			stopIf(!wantedKeys(next, next.Tables[at], st.Tables[i].Rows), impl.ErrUnique, 0)
			continue
		}
		for key := range n.rows[table.Id] {
			batch = append(batch, impl.StoreOp{Kind: impl.SDrop, Key: []byte(key)})
		}
	}
	code = n.stored(batch)
	stopIf(code != impl.OK, code, 0)
	n.schema, n.rows = next, kept
}
