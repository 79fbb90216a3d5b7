package tests

import (
	"fmt"
	"slices"
	"testing"

	"loop.example/g00001/impl"
)

func sameEngineObs(a, b impl.EngineObs) bool {
	return a.Code == b.Code && a.Pos == b.Pos && a.Count == b.Count && slices.Equal(a.Names, b.Names) && sameValues(a.Rows, b.Rows) && a.Text == b.Text
}

// verbOf tells a statement by its first word.
func verbOf(op impl.EngineOp) string {
	if op.Kind != impl.EStatement {
		return fmt.Sprint("kind ", op.Kind)
	}
	tree, code, _ := impl.Parse(op.Text)
	if code != impl.OK {
		return "none"
	}
	return fmt.Sprint("op ", rootOf(tree).Op)
}

func toldEngineOps(ops []impl.EngineOp) string {
	text := ""
	for i, op := range ops {
		text += fmt.Sprintf("%d: kind %d session %d N %d %v %s\n", i, op.Kind, op.Session, op.N, op.Choices, op.Text)
	}
	return text
}

// wantEngineAnswers asks EngineRun for what the reference answers.
func wantEngineAnswers(t *testing.T, ops []impl.EngineOp, want []impl.EngineObs, met *tally) {
	t.Helper()
	before := copiedEngineOps(ops)
	got, code := impl.EngineRun(ops)
	if code != impl.OK || len(got) != len(want) {
		t.Fatalf("%d, %d answers", code, len(got))
	}
	for i := range want {
		if !sameEngineObs(got[i], want[i]) {
			t.Fatalf("%s%+v\nwant\n%+v", toldEngineOps(ops[:i+1]), got[i], want[i])
		}
		met.add(fmt.Sprintf("%s code %d", verbOf(ops[i]), got[i].Code))
	}
	if !slices.EqualFunc(ops, before, sameEngineOp) {
		t.Fatalf("EngineRun has written into its argument")
	}
}

func copiedEngineOps(ops []impl.EngineOp) []impl.EngineOp {
	ops = slices.Clone(ops)
	for i := range ops {
		ops[i].Choices = slices.Clone(ops[i].Choices)
	}
	return ops
}

func sameEngineOp(a, b impl.EngineOp) bool {
	return a.Kind == b.Kind && a.Session == b.Session && a.N == b.N && a.Text == b.Text && slices.Equal(a.Choices, b.Choices)
}

// TestEngineByChance holds runs of all sorts against chapter 17 once more.
func TestEngineByChance(t *testing.T) {
	t.Parallel()
	var met tally
	atOnce(t, 8, func(t *testing.T, run int) {
		for round := range 60 {
			g := newInnGrower(810000+run*1000+round, &met)
			ops, want := g.grownRun(g.pick(30, 60, 120))
			wantEngineAnswers(t, ops, want, &met)
		}
	})
	met.wantAtLeast(t, map[string]int{
		"kind 2 code 0": 500, "kind 2 code 22": 100, "kind 2 code 27": 1, "kind 3 code 0": 400, "kind 4 code 0": 100, "none code 3": 80, "op 27 code 0": 3000, "op 27 code 7": 50, "op 27 code 15": 30,
		"op 40 code 0": 2000, "op 40 code 5": 30, "op 40 code 17": 300, "op 40 code 18": 500, "op 40 code 19": 20, "op 40 code 25": 1, "op 40 code 27": 40, "op 46 code 0": 1500, "op 46 code 14": 30,
		"op 46 code 18": 80, "op 46 code 27": 20, "op 48 code 0": 500, "op 48 code 27": 10, "op 49 code 0": 500, "op 49 code 22": 40, "op 49 code 24": 15, "op 55 code 0": 50, "op 55 code 18": 5,
		"op 56 code 0": 15, "op 57 code 0": 5, "op 58 code 0": 1500, "op 59 code 0": 800, "op 59 code 20": 30, "op 59 code 21": 20, "op 59 code 25": 1, "op 59 code 27": 30, "op 60 code 0": 300,
		"op 60 code 23": 40, "op 61 code 0": 400, "op 62 code 0": 50, "op 62 code 23": 20, "op 63 code 0": 150, "op 64 code 0": 20, "conflict of a row": 30, "conflict of values": 8,
	})
}

// bagged is an answer without the order of its rows.
func bagged(o impl.EngineObs) impl.EngineObs {
	o.Rows = sortedRows(o.Rows)
	return o
}

// isLeftOpen tells whether an answer may hang on how much work or room there was.
func isLeftOpen(o impl.EngineObs) bool {
	return o.Code == impl.ErrFuel || o.Code == impl.ErrBig || o.Code == impl.ErrFull
}

// mirror follows statements that are transactions by themselves, by their meaning.
type mirror struct {
	schema impl.Schema
	state  impl.State
	lost   bool // a change meant too much work to follow it
}

// follow asks for the answer that a statement means, and goes on with what it leaves; it tells what it has met.
func (m *mirror) follow(t *testing.T, text string, got impl.EngineObs) string {
	t.Helper()
	tree, code, pos := impl.Parse(text)
	if code != impl.OK {
		return wantCodes(t, text, got, code, pos)
	}
	root := rootOf(tree)
	switch root.Op {
	case impl.NQuery:
		p, names, code, pos := impl.Bind(m.schema, tree)
		if code != impl.OK {
			return wantCodes(t, text, got, code, pos)
		}
		if isLeftOpen(got) {
			return "left open"
		}
		if got.Code == impl.OK && (!slices.Equal(got.Names, names) || got.Count != len(got.Rows)) {
			t.Fatalf("%s: %v, %d rows", text, got.Names, got.Count)
		}
		return "query " + wantBagOf(t, m.schema, m.state, p, got.Rows, got.Code, text)
	case impl.NInsert, impl.NUpdate, impl.NDelete:
		change, code, pos := impl.BindChange(m.schema, tree)
		if code != impl.OK {
			return wantCodes(t, text, got, code, pos)
		}
		if isLeftOpen(got) {
			return "left open"
		}
		return m.followChange(t, text, got, change)
	}
	return m.followDefinition(t, text, got, tree)
}

func wantCodes(t *testing.T, text string, got impl.EngineObs, code, pos int) string {
	t.Helper()
	if !sameEngineObs(got, impl.EngineObs{Code: code, Pos: pos}) {
		t.Fatalf("%s: %+v, not %d at %d", text, got, code, pos)
	}
	return fmt.Sprint("code ", code)
}

func (m *mirror) followChange(t *testing.T, text string, got impl.EngineObs, change impl.Change) string {
	t.Helper()
	rows, code := impl.Meaning(m.schema, m.state, change.Plan)
	if code == impl.ErrFuel {
		m.lost = true
		return "too much to mean"
	}
	if code != impl.OK {
		return wantCodes(t, text, got, code, 0)
	}
	if change.Kind == impl.ChInsert {
		// The rows come in the order in which the plan gives them.
		planned := (&inn{schema: m.schema}).executed(m.state, change.Plan, 400)
		if !sameValues(sortedRows(planned), sortedRows(rows)) {
			t.Fatalf("%s gives %v and means %v", text, planned, rows)
		}
		rows = planned
	}
	next, code := wantedApply(m.schema, m.state, change.Kind, change.Table, rows)
	if code != impl.OK {
		return wantCodes(t, text, got, code, 0)
	}
	if !sameEngineObs(got, impl.EngineObs{Count: len(rows)}) {
		t.Fatalf("%s: %+v, not %d rows", text, got, len(rows))
	}
	m.state = next
	return fmt.Sprint("change ", change.Kind)
}

func (m *mirror) followDefinition(t *testing.T, text string, got impl.EngineObs, tree impl.Tree) string {
	t.Helper()
	if rootOf(tree).Op > impl.NDropIndex || got.Code == impl.ErrUnique || isLeftOpen(got) {
		return "other"
	}
	next, code, pos := impl.Define(m.schema, tree)
	if code != impl.OK {
		return wantCodes(t, text, got, code, pos)
	}
	if got.Code != impl.OK {
		t.Fatalf("%s: %+v", text, got)
	}
	st := emptyState(next)
	for i, table := range next.Tables {
		for _, rows := range m.state.Tables {
			if rows.Id == table.Id {
				st.Tables[i] = rows
			}
		}
	}
	m.schema, m.state = next, st
	return "definition"
}

// TestPromise21 has statements that are transactions by themselves answered as they mean, with the rows that there are then.
func TestPromise21(t *testing.T) {
	t.Parallel()
	var met tally
	atOnce(t, 8, func(t *testing.T, run int) {
		for round := range 30 {
			g := newInnGrower(210000+run*1000+round, &met)
			g.machine, g.begins, g.odd = 1000000, []string{"select 1"}, g.pick(2, 3, 6)
			ops, _ := g.grownRun(g.pick(30, 60, 150))
			got, _ := impl.EngineRun(ops)
			m := &mirror{schema: impl.Schema{Next: 1}}
			for i := 1; i < len(ops) && !m.lost; i++ {
				met.add(m.follow(t, ops[i].Text, got[i]))
			}
		}
	})
	met.wantAtLeast(t, map[string]int{
		"query code 0": 3000, "query code 0 in order": 100, "query code 15": 30, "code 7": 100, "code 14": 15, "code 17": 200, "code 18": 300, "change 1": 800, "change 2": 800, "change 3": 300, "definition": 500,
	})
}

// allTables asks a session for all rows of all tables.
func allTables(s impl.Schema, session int) []impl.EngineOp {
	var ops []impl.EngineOp
	for _, table := range s.Tables {
		ops = append(ops, statementOp(session, "select * from "+impl.NameText(table.Name)))
	}
	return ops
}

// TestPromise23 runs serializable transactions that interleave once more, one behind the other in their SerialOrder: they are
// answered alike, and leave the same rows.
func TestPromise23(t *testing.T) {
	t.Parallel()
	var met tally
	atOnce(t, 8, func(t *testing.T, run int) {
		for round := range 40 {
			g := newInnGrower(230000+run*1000+round, &met)
			g.machine, g.begins, g.defining, g.odd, g.plain = 1000000, []string{"begin serializable"}, 1000000, 1000000, true
			g.sessions = max(g.sessions, 2)
			ops, want := g.grownRun(g.pick(40, 80, 130))
			wantEngineAnswers(t, ops, want, &met)
			met.add(wantSerial(t, g.inn, ops, want, &met))
		}
	})
	met.wantAtLeast(t, map[string]int{"order of commits": 50, "another order": 50, "op 59 code 21": 60, "op 59 code 20": 50, "statement alike": 4000, "statement alike, refused": 200})
}

// wantSerial runs what has committed in its order. The definitions stand ahead of all.
func wantSerial(t *testing.T, n *inn, ops []impl.EngineOp, want []impl.EngineObs, met *tally) string {
	t.Helper()
	if slices.ContainsFunc(want, isLeftOpen) || len(n.past) == 0 {
		return "left open"
	}
	order, code := impl.SerialOrder(n.serialPast())
	if code != impl.OK {
		t.Fatalf("%s has no order: %d", toldInfos(n.serialPast()), code)
	}
	first := n.past[0].ops[0]
	for _, c := range n.past {
		first = min(first, c.ops[0])
	}
	again := []impl.EngineOp{{Kind: impl.EOpen}}
	for _, op := range ops[1:first] {
		if verbOf(op) == "op 49" {
			again = append(again, op)
		}
	}
	numbers := slices.Repeat([]int{-1}, len(again))
	for _, i := range order {
		if c := n.past[i]; len(c.ops) > 1 || verbOf(ops[c.ops[0]]) == "op 59" {
			again, numbers = append(again, statementOp(1, "begin serializable")), append(numbers, -1)
		}
		for _, at := range n.past[i].ops {
			again, numbers = append(again, statementOp(1, ops[at].Text)), append(numbers, at)
		}
	}
	if len(again) > impl.MaxOps-len(n.schema.Tables) {
		return "too many operations"
	}
	wantAlike(t, n, ops, want, again, numbers, met)
	return map[bool]string{true: "order of commits", false: "another order"}[slices.IsSorted(order)]
}

// wantAlike runs operations once more in another order, each of which has a number in the first one, or -1.
func wantAlike(t *testing.T, n *inn, ops []impl.EngineOp, want []impl.EngineObs, again []impl.EngineOp, numbers []int, met *tally) {
	t.Helper()
	got, _ := impl.EngineRun(slices.Concat(again, allTables(n.schema, 1)))
	for i, at := range numbers {
		if at < 0 || verbOf(again[i]) == "op 63" {
			continue
		}
		if !sameEngineObs(bagged(got[i]), bagged(want[at])) {
			t.Fatalf("%s\none behind the other\n%s%+v\nnot %+v, as %d", toldEngineOps(ops), toldEngineOps(again[:i+1]), got[i], want[at], at)
		}
		met.add(map[bool]string{true: "statement alike", false: "statement alike, refused"}[got[i].Code == impl.OK])
	}
	st := n.stateOf(n.rows)
	for i, o := range got[len(again):] {
		if o.Code != impl.OK || !sameValues(sortedRows(o.Rows), sortedRows(st.Tables[i].Rows)) {
			t.Fatalf("%s\none behind the other\n%s%v\nnot %v", toldEngineOps(ops), toldEngineOps(again), o, st.Tables[i])
		}
	}
}

// TestPromise24 looks at what is committed at any time of any script: all keys and conditions hold.
func TestPromise24(t *testing.T) {
	t.Parallel()
	var met tally
	atOnce(t, 8, func(t *testing.T, run int) {
		for round := range 15 {
			g := newInnGrower(240000+run*1000+round, &met)
			ops, _ := g.grownRun(g.pick(30, 60, 120))
			for range 3 {
				wantWhole(t, ops[:below(g.numberSource, len(ops))+1], &met)
			}
			wantWhole(t, ops, &met)
		}
	})
	met.wantAtLeast(t, map[string]int{"rows": 1500, "tables with unique columns": 300, "tables with rows and conditions": 50})
}

// wantWhole asks a free session for all tables behind some operations; if there is none, or the engine is down, the machine
// crashes and is opened.
func wantWhole(t *testing.T, ops []impl.EngineOp, met *tally) {
	t.Helper()
	var none tally
	_, n := wantedEngineRun(ops, &none)
	session := 1
	for n.guests[session] != nil {
		session++
	}
	run := slices.Clone(ops)
	if n.m.state != "open" || session > 4 {
		session = 1
		run = append(run, impl.EngineOp{Kind: impl.ECrash}, impl.EngineOp{Kind: impl.EOpen})
		_, n = wantedEngineRun(run, &none)
	}
	got, _ := impl.EngineRun(slices.Concat(run, allTables(n.schema, session)))
	st := emptyState(n.schema)
	for i, o := range got[len(run):] {
		table := n.schema.Tables[i]
		st.Tables[i].Rows = o.Rows
		for range o.Rows {
			met.add("rows")
		}
		if len(table.Uniques) > 0 || slices.ContainsFunc(n.schema.Indexes, func(x impl.Index) bool { return x.Unique && x.Table == table.Name }) {
			met.add("tables with unique columns")
		}
		if len(table.Checks) > 0 && len(o.Rows) > 0 {
			met.add("tables with rows and conditions")
		}
	}
	if !wantedStateOK(n.schema, st) {
		t.Fatalf("%s\nleaves %v", toldEngineOps(run), st)
	}
}
