package tests

import (
	"fmt"
	"math"
	"runtime"
	"slices"
	"strings"
	"testing"
	"time"

	"loop.example/g00001/impl"
)

// TestPromise25 asks a transaction the same questions again and again, while others change what it has asked for.
func TestPromise25(t *testing.T) {
	t.Parallel()
	var met tally
	atOnce(t, 8, func(t *testing.T, run int) {
		for round := range 15 {
			g := newInnGrower(250000+run*1000+round, &met)
			g.machine, g.defining, g.sessions, g.plain = 1000000, 1000000, 4, round%2 == 0
			wantSameAllAlong(t, g, &met)
		}
	})
	met.wantAtLeast(t, map[string]int{"same all along": 300, "same at the savepoint": 600, "nothing left": 600, "others have changed something": 50, "own changes are seen": 60})
}

// asking has a script that goes on with what the reference says of it.
type asking struct {
	*innGrower
	ops []impl.EngineOp
}

func (a *asking) say(session int, text string) int {
	a.ops = append(a.ops, statementOp(session, text))
	a.answer(a.ops[len(a.ops)-1])
	return len(a.ops) - 1
}

// others let the sessions 2 to 4 do something.
func (a *asking) others(size int) {
	for range size {
		session := 2 + below(a.numberSource, 3)
		a.say(session, a.statementOf(session))
	}
}

func (a *asking) ask(session int, questions []string) []int {
	var numbers []int
	for _, text := range questions {
		numbers = append(numbers, a.say(session, text))
	}
	return numbers
}

func wantSameAllAlong(t *testing.T, g *innGrower, met *tally) {
	t.Helper()
	a := &asking{innGrower: g}
	for _, op := range g.beginning() {
		if op.Kind == impl.EStatement && op.Text == "" {
			op.Text = g.insertOfValues(g.anyTable())
		}
		a.ops = append(a.ops, op)
		a.answer(op)
	}
	a.others(10)
	questions := []string{g.question(), g.question()}
	for _, table := range g.schema.Tables {
		questions = append(questions, "select * from "+impl.NameText(table.Name))
	}
	// Each list has the numbers of questions that must all be answered alike.
	rounds := map[string][][]int{}
	a.say(1, g.word("begin", "begin snapshot", "begin serializable"))
	first := a.ask(1, questions)
	a.others(8)
	rounds["same all along"] = append(rounds["same all along"], first, a.ask(1, questions))
	for range 3 {
		a.say(1, g.changeText())
	}
	a.say(1, "savepoint here")
	point := a.ask(1, questions)
	a.others(4)
	for range 3 {
		a.say(1, g.changeText())
	}
	a.say(1, "savepoint there")
	a.say(1, g.changeText())
	own := a.ask(1, questions)
	a.say(1, "rollback to here")
	rounds["same at the savepoint"] = append(rounds["same at the savepoint"], point, a.ask(1, questions))
	a.others(4)
	a.say(1, "rollback to here")
	rounds["same at the savepoint"] = append(rounds["same at the savepoint"], point, a.ask(1, questions))
	for session := 2; session <= 4; session++ {
		a.say(session, "rollback")
	}
	before := a.ask(2, questions)
	a.say(1, "rollback")
	rounds["nothing left"] = append(rounds["nothing left"], before, a.ask(2, questions), before, a.ask(1, questions))
	wantRounds(t, a.ops, rounds, met)
	met.add(apart(a.ops, first, before, "others have changed something"))
	met.add(apart(a.ops, point, own, "own changes are seen"))
}

// wantRounds asks for equal answers in each two lists of numbers.
func wantRounds(t *testing.T, ops []impl.EngineOp, rounds map[string][][]int, met *tally) {
	t.Helper()
	got, code := impl.EngineRun(ops)
	if code != impl.OK {
		t.Fatalf("%d operations", len(ops))
	}
	for what, lists := range rounds {
		for i := 0; i < len(lists); i += 2 {
			for k, at := range lists[i] {
				if again := lists[i+1][k]; !sameEngineObs(got[at], got[again]) {
					t.Fatalf("%s%s: %d is %+v\n%d is %+v", toldEngineOps(ops), what, at, got[at], again, got[again])
				}
				met.add(what)
			}
		}
	}
}

// apart tells what it is called if two rounds of questions are not all answered alike.
func apart(ops []impl.EngineOp, one, two []int, what string) string {
	got, _ := impl.EngineRun(ops)
	for i := range one {
		if !sameEngineObs(got[one[i]], got[two[i]]) {
			return what
		}
	}
	return "not: " + what
}

// TestPromise26 writes operations as lines, among lines that are none, and asks for what EngineRun answers.
func TestPromise26(t *testing.T) {
	t.Parallel()
	var met tally
	atOnce(t, 8, func(t *testing.T, run int) {
		for round := range 20 {
			g := newInnGrower(260000+run*1000+round, &met)
			ops, _ := g.grownRun(g.pick(10, 40, 90))
			var script strings.Builder
			var lines []string
			for _, op := range ops {
				line := strings.ReplaceAll(strings.TrimSuffix(scriptText([]impl.EngineOp{op}), "\n"), "\n", " ")
				if op.Kind != impl.EStatement {
					line = strings.Repeat(" ", g.pick(0, 0, 2)) + strings.ReplaceAll(line, " ", strings.Repeat(" ", g.pick(1, 3))) + strings.Repeat(" ", g.pick(0, 1))
				}
				if g.chance(8) {
					lines = append(lines, g.word("", "  ", "# open", "#", "wait", "1 :", " # x", "open now", "arm", "arm 1 2 x", "crash 1234567890", "7: select 1", "\t", "1"))
				}
				lines = append(lines, line)
			}
			if g.chance(20) {
				lines = append(lines, slices.Repeat([]string{g.word("wait", "# "+strings.Repeat("x", 300))}, 200)...)
			}
			script.WriteString(strings.Join(lines, "\n") + g.word("", "\n", "\n\n"))
			met.add(wantToldLines(t, script.String(), lines, &met))
		}
	})
	met.wantAtLeast(t, map[string]int{"script": 100, "line skipped": 100, "line that is none": 150, "line done": 4000, "too much": 3})
}

// wantToldLines asks RunScript for the answers of EngineRun, line by line.
func wantToldLines(t *testing.T, script string, lines []string, met *tally) string {
	t.Helper()
	var ops []impl.EngineOp
	var told []string
	count := 0
	for _, line := range lines {
		if strings.Trim(line, " ") == "" || line[0] == '#' {
			met.add("line skipped")
			continue
		}
		count++
		op, ok := wantedOpLine(line)
		if !ok {
			met.add("line that is none")
			told = append(told, toldWord)
			continue
		}
		met.add("line done")
		ops, told = append(ops, op), append(told, "")
	}
	answers, _ := impl.EngineRun(ops)
	next := 0
	for i := range told {
		if told[i] == "" {
			told[i] = toldEngineObs(ops[next], answers[next])
			next++
		}
	}
	want, what := strings.Join(told, ""), "script"
	if len(script) > impl.MaxScript || count > impl.MaxOps || len(want) > impl.MaxTold {
		want, what = "error 5 at 0\n", "too much"
	}
	if got := impl.RunScript(script); got != want {
		t.Fatalf("%s\nis told\n%s\nnot\n%s", script, got, want)
	}
	return what
}

// TestPromise12OfEngine runs scripts with and without indexes that are not unique.
func TestPromise12OfEngine(t *testing.T) {
	t.Parallel()
	var met tally
	atOnce(t, 8, func(t *testing.T, run int) {
		for round := range 12 {
			g := newInnGrower(120000+run*1000+round, &met)
			g.machine, g.defining, g.odd, g.plain, g.fill = 1000000, 1000000, g.pick(6, 20, 1000000), true, g.pick(5, 20, 40)
			ops := explained(g, must1(g.grownRun(g.pick(80, 130))))
			want := must1(impl.EngineRun(ops))
			tables := 0
			for verbOf(ops[1+tables]) == "op 49" {
				tables++
			}
			with := slices.Clone(ops[:1+tables])
			for i := range 10 {
				table := g.anyTable()
				cols := impl.NameText(g.anyColumn(table).Name)
				if other := impl.NameText(g.anyColumn(table).Name); other != cols {
					cols += ", " + other
				}
				with = append(with, statementOp(1, fmt.Sprintf("create index i%d on %s (%s)", i, impl.NameText(table.Name), cols)))
			}
			got, _ := impl.EngineRun(slices.Concat(with, ops[1+tables:]))
			for i, o := range got[len(with):] {
				at := 1 + tables + i
				if isLeftOpen(o) || isLeftOpen(want[at]) {
					met.add("left open")
					break
				}
				if verbOf(ops[at]) == "op 63" {
					met.add(map[bool]string{true: "same plan", false: "another plan"}[o.Text == want[at].Text])
					continue
				}
				if !sameEngineObs(bagged(o), bagged(want[at])) {
					t.Fatalf("%s%+v\nand with indexes %+v", toldEngineOps(ops[:at+1]), want[at], o)
				}
				met.add("same answer")
			}
		}
	})
	met.wantAtLeast(t, map[string]int{"same answer": 4000, "another plan": 10, "same plan": 50})
}

// explained has some of the queries explained, too.
func explained(g *innGrower, ops []impl.EngineOp) []impl.EngineOp {
	var list []impl.EngineOp
	for _, op := range ops {
		if verbOf(op) == "op 27" && len(list) < 150 && g.chance(2) {
			list = append(list, statementOp(op.Session, "explain "+op.Text))
		}
		list = append(list, op)
	}
	return list
}

// literalOf is a value as a statement writes it; of the least Int there is no literal.
func literalOf(v impl.Value) string {
	if v == intv(math.MinInt) {
		return "-9223372036854775807 - 1"
	}
	return impl.Show(v)
}

// loading is a script that has an engine in a state: all tables and indexes by their texts, all rows by literals.
func loading(t *testing.T, s impl.Schema, st impl.State) []impl.EngineOp {
	t.Helper()
	ops := []impl.EngineOp{{Kind: impl.EOpen}}
	for _, table := range s.Tables {
		ops = append(ops, statementOp(1, table.Text))
	}
	for _, index := range s.Indexes {
		ops = append(ops, statementOp(1, index.Text))
	}
	for i, table := range s.Tables {
		for rows := range slices.Chunk(st.Tables[i].Rows, 6) {
			var list []string
			for _, row := range rows {
				var values []string
				for _, v := range row {
					values = append(values, literalOf(v))
				}
				list = append(list, "("+strings.Join(values, ", ")+")")
			}
			ops = append(ops, statementOp(2, "insert into "+impl.NameText(table.Name)+" values "+strings.Join(list, ", ")))
		}
	}
	for i, o := range must1(impl.EngineRun(ops)) {
		if o.Code != impl.OK {
			t.Fatalf("%s%+v", toldEngineOps(ops[:i+1]), o)
		}
	}
	return ops
}

// answered asks an engine that is loaded questions, as many as there may be.
func answered(t *testing.T, load []impl.EngineOp, questions []*plant) []impl.EngineObs {
	t.Helper()
	ops := slices.Clone(load)
	for _, question := range questions {
		text, code := impl.Print(planted(question))
		if code != impl.OK {
			text = "select"
		}
		ops = append(ops, statementOp(1, text))
	}
	got, code := impl.EngineRun(ops)
	if code != impl.OK {
		t.Fatalf("%d operations", len(ops))
	}
	return got[len(load):]
}

// TestPromise13OfEngine asks for the rows for which conditions are true, false and NULL; for COUNTs of queries; and for queries
// twice less themselves.
func TestPromise13OfEngine(t *testing.T) {
	t.Parallel()
	var met tally
	s := estate(t)
	atOnce(t, 8, func(t *testing.T, run int) {
		numbers := &numberSource{state: uint64(1300 + run)}
		for _, st := range grownStates(numbers, s, 4, 8) {
			load := loading(t, s, st)
			wantPartsOfEngine(t, numbers, s, st, load, &met)
			wantCountsOfEngine(t, numbers, s, load, &met)
		}
	})
	met.wantAtLeast(t, map[string]int{"whole": 500, "true": 150, "false": 200, "NULL": 100, "counted": 300, "twice less itself": 200})
}

func wantPartsOfEngine(t *testing.T, numbers *numberSource, s impl.Schema, st impl.State, load []impl.EngineOp, met *tally) {
	t.Helper()
	var questions []*plant
	var tables []int
	for round := range 50 {
		at := below(numbers, len(s.Tables))
		q := newQueryGrower(numbers, s, round%3)
		q.levels = [][]impl.ColName{scanned(s.Tables[at], s.Tables[at].Name).cols}
		condition := q.expr(impl.Bool, 1+round%3)
		for _, part := range []*plant{condition, newPlant(impl.Node{Op: impl.NNot}, condition), newPlant(impl.Node{Op: impl.NIs}, condition)} {
			questions = append(questions, selectWhere(s.Tables[at].Name, part))
		}
		tables = append(tables, at)
	}
	got := answered(t, load, questions)
	for i, at := range tables {
		parts := got[3*i : 3*i+3]
		if slices.ContainsFunc(parts, func(o impl.EngineObs) bool { return o.Code != impl.OK }) {
			met.add("fails")
			continue
		}
		met.add("whole")
		for k, what := range []string{"true", "false", "NULL"} {
			if parts[k].Count > 0 {
				met.add(what)
			}
		}
		if !sameValues(sortedRows(slices.Concat(parts[0].Rows, parts[1].Rows, parts[2].Rows)), sortedRows(st.Tables[at].Rows)) {
			t.Fatalf("%v\nis apart %v", st.Tables[at].Rows, parts)
		}
	}
}

func wantCountsOfEngine(t *testing.T, numbers *numberSource, s impl.Schema, load []impl.EngineOp, met *tally) {
	t.Helper()
	var questions []*plant
	for round := range 50 {
		q := newQueryGrower(numbers, s, round%3)
		query := q.query(q.kinds(1, 3), false)
		star := newPlant(impl.Node{Op: impl.NItem}, newPlant(impl.Node{Op: impl.NAgg, N: impl.AggAll}))
		counted := newPlant(impl.Node{Op: impl.NQuery}, newPlant(impl.Node{Op: impl.NSelect}, newPlant(impl.Node{Op: impl.NItems}, star),
			newPlant(impl.Node{Op: impl.NFrom}, newPlant(impl.Node{Op: impl.NDerived, Name: "q"}, query))))
		twice := newPlant(impl.Node{Op: impl.NQuery}, newPlant(impl.Node{Op: impl.NSetOp, N: impl.SetUnion, M: 1}, query, query))
		less := newPlant(impl.Node{Op: impl.NQuery}, newPlant(impl.Node{Op: impl.NSetOp, N: impl.SetExcept, M: 1}, twice, query))
		questions = append(questions, query, counted, less)
	}
	got := answered(t, load, questions)
	for i := 0; i < len(got); i += 3 {
		query, counted, less := got[i], got[i+1], got[i+2]
		if query.Code != impl.OK {
			continue
		}
		if counted.Code == impl.OK {
			met.add("counted")
			if toldRows(counted.Rows) != fmt.Sprintf("%d;", query.Count) {
				t.Fatalf("%d rows: %v", query.Count, counted.Rows)
			}
		}
		if less.Code == impl.OK {
			met.add("twice less itself")
			if !sameValues(sortedRows(less.Rows), sortedRows(query.Rows)) {
				t.Fatalf("%v\nis not %v", less.Rows, query.Rows)
			}
		}
	}
}

// TestPromise3OfEngine: what Show writes stands in an INSERT, and is told again, behind a crash, too.
func TestPromise3OfEngine(t *testing.T) {
	t.Parallel()
	kinds := []string{"", "int", "decimal", "text", "boolean", "date"}
	for chunk := range slices.Chunk(validValues(), 20) {
		ops := []impl.EngineOp{{Kind: impl.EOpen}}
		for _, kind := range kinds[1:] {
			ops = append(ops, statementOp(1, fmt.Sprintf("create table t_%s (n int primary key, v %s)", kind, kind)))
		}
		var want []impl.Value
		var asks []impl.EngineOp
		for i, v := range chunk {
			if v == intv(math.MinInt) {
				continue
			}
			kind := kinds[v.Kind]
			if v == null {
				kind = kinds[1+i%5]
			}
			ops = append(ops, statementOp(1, fmt.Sprintf("insert into t_%s values (%d, %s)", kind, i, impl.Show(v))))
			asks = append(asks, statementOp(2, fmt.Sprintf("select v, %s as l from t_%s where n = %d and v is not distinct from %s", impl.Show(v), kind, i, impl.Show(v))))
			want = append(want, v)
		}
		ops = append(ops, impl.EngineOp{Kind: impl.ECrash}, impl.EngineOp{Kind: impl.EOpen})
		got := must1(impl.EngineRun(slices.Concat(ops, asks)))
		told := impl.RunScript(scriptText(slices.Concat(ops, asks)))
		for i, o := range got {
			if o.Code != impl.OK {
				t.Fatalf("%s: %+v", slices.Concat(ops, asks)[i].Text, o)
			}
		}
		for i, v := range want {
			o := got[len(ops)+i]
			if !sameEngineObs(o, impl.EngineObs{Count: 1, Names: []string{"v", "l"}, Rows: [][]impl.Value{{v, v}}}) {
				t.Errorf("%s: %+v", impl.Show(v), o)
			}
			line := toldEngineObs(asks[i], o)
			if !strings.Contains(line, "v|l\n") || !strings.Contains(told, line) {
				t.Errorf("%s is told otherwise than %q", impl.Show(v), line)
			}
		}
	}
}

// TestPromise1OfEngine hands in whatever there may be.
func TestPromise1OfEngine(t *testing.T) {
	t.Parallel()
	var met tally
	atOnce(t, 8, func(t *testing.T, run int) {
		for round := range 60 {
			g := newInnGrower(10000+run*1000+round, &met)
			ops, _ := g.grownRun(g.pick(1, 10, 40))
			for range 1 + len(ops)/4 {
				g.spoilOp(&ops[below(g.numberSource, len(ops))])
			}
			want, _ := wantedEngineRun(ops, &met)
			wantEngineAnswers(t, ops, want, &met)
			script := g.spoilText(scriptText(ops))
			wantToldLines(t, script, strings.Split(script, "\n"), &met)
			text := g.spoilText(ops[len(ops)-1].Text)
			wantQuery(t, impl.Schema{Next: 1}, impl.State{}, text)
		}
	})
	met.wantAtLeast(t, map[string]int{"kind -1 code 1": 3, "kind 2 code 0": 150, "kind 3 code 0": 50, "none code 27": 20, "op 40 code 0": 200, "line that is none": 80, "line done": 4000})
}

func (g *innGrower) spoilOp(op *impl.EngineOp) {
	switch below(g.numberSource, 6) {
	case 0:
		op.Kind = g.pick(append(oddNumbers(), 1, 2, 3, 4, 3, 4)...)
	case 1:
		op.Session = g.pick(oddNumbers()...)
	case 2:
		op.N = g.pick(oddNumbers()...)
	case 3:
		op.Choices = nil
		for range g.pick(0, 1, 10, 1000) {
			op.Choices = append(op.Choices, g.pick(oddNumbers()...))
		}
	default:
		op.Text = g.spoilText(op.Text)
	}
}

// spoilText changes some bytes.
func (g *innGrower) spoilText(text string) string {
	for range g.pick(0, 1, 1, 3) {
		at := below(g.numberSource, len(text)+1)
		end := min(len(text), at+g.pick(0, 1, 1, 20))
		text = text[:at] + g.word("", "\x00", "\xff", "'", "\"", "(", ")", ";", "--", "select ", "1", "\n", " ", "é", "#", ":", "null", strings.Repeat("x", 31), strings.Repeat("(", 200)) + text[end:]
	}
	return text
}

// TestPromise1OfMuchScript hands in far more than is let, whose answer must not take long.
func TestPromise1OfMuchScript(t *testing.T) {
	t.Parallel()
	begin := time.Now()
	for _, text := range []string{strings.Repeat("\n", 5000000), strings.Repeat("1:select 1\n", 500000), strings.Repeat("x", 5000000), "open\n1:" + strings.Repeat("(", 39000)} {
		impl.RunScript(text)
	}
	impl.EngineRun(make([]impl.EngineOp, 1000000))
	impl.EngineRun([]impl.EngineOp{{Kind: impl.EOpen}, {Kind: impl.EArm, Choices: make([]int, 1000000)}, statementOp(1, strings.Repeat("select ", 500000)), {Kind: impl.ECrash, Choices: make([]int, 1000000)}})
	impl.Query(impl.Schema{Next: 1}, impl.State{Tables: make([]impl.Rows, 1000000)}, strings.Repeat("select ", 500000))
	if spent := time.Since(begin); spent > 20*time.Second {
		t.Errorf("%v", spent)
	}
}

// TestSessionsEnd is not run beside others: it counts goroutines.
func TestSessionsEnd(t *testing.T) {
	before := runtime.NumGoroutine()
	for range 20 {
		impl.EngineRun([]impl.EngineOp{{Kind: impl.EOpen}, statementOp(1, "select 1"), statementOp(4, "begin"), statementOp(3, "nothing")})
		impl.EngineRun(nil)
		impl.EngineRun(make([]impl.EngineOp, impl.MaxOps+1))
		impl.RunScript("open\n2:select 1\n3:begin\n")
	}
	// One that has told that it is at its end may be a moment away from it.
	for range 100 {
		if runtime.NumGoroutine() <= before {
			return
		}
		time.Sleep(10 * time.Millisecond)
	}
	t.Errorf("%d goroutines, of %d", runtime.NumGoroutine(), before)
}
