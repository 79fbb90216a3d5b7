package tests

import (
	"fmt"
	"slices"
	"strings"
	"testing"

	"loop.example/g00001/impl"
)

// wantStepsOf asks that the last line of a script takes as many steps as the last of some commits of a store, and that it would
// take another number with other commits.
func wantStepsOf(t *testing.T, script string, same, other [][]impl.StoreOp) {
	t.Helper()
	ops, _ := engineLines(t, script)
	got, want := engineSteps(t, ops), storeSteps(same...)
	if got != want {
		t.Errorf("%s\ntakes %d steps, not %d", script, got, want)
	}
	if apart := storeSteps(other...); apart == want {
		t.Errorf("%s\ntakes %d steps either way", script, want)
	}
}

func hiddenKey(n int) []impl.Value { return []impl.Value{intv(n)} }

// numberedRows are rows of a table of one column, with the numbers and values from one to another; the values begin at first.
func numberedRows(table, from, to, first int) []impl.StoreOp {
	var batch []impl.StoreOp
	for n := from; n <= to; n++ {
		batch = append(batch, rowPut(table, hiddenKey(n), intv(first+n-from)))
	}
	return batch
}

func entryW() []impl.StoreOp {
	return []impl.StoreOp{entryPut(1, 1, "CREATE TABLE w ( k INT )")}
}

// wantNumbersFrom asks for the hidden numbers that the rows of an INSERT into the first table, w, get behind a script, whose
// commits the batches are. It tells them by steps: a page that has numbers up to 255 and above has room for fewer rows, since
// their keys have less in common. So it looks for so many rows that these numbers and others take different steps.
func wantNumbersFrom(t *testing.T, script string, from, other int, ahead ...[]impl.StoreOp) {
	t.Helper()
	for inserts := 1; inserts <= 4; inserts++ {
		script += "1: insert into w " + rowsOfValues(1, 45) + "\n"
		for last := 5; last <= 40; last++ {
			behind := func(from int) [][]impl.StoreOp {
				batches := slices.Clone(ahead)
				for range inserts {
					batches = append(batches, numberedRows(1, from, from+44, 1))
					from += 45
				}
				return append(batches, numberedRows(1, from, from+last-1, 1))
			}
			if storeSteps(behind(from)...) != storeSteps(behind(other)...) {
				wantStepsOf(t, script+"1: insert into w "+rowsOfValues(1, last), behind(from), behind(other))
				return
			}
		}
	}
	t.Fatalf("%s\nnothing tells %d from %d", script, from, other)
}

func TestEngineHiddenNumbers(t *testing.T) {
	t.Parallel()
	const table = "open\n1: create table w (k int)\n"
	hundred := "insert into w " + rowsOfValues(1, 100) + "\n"
	wantNumbersFrom(t, table, 1, 201, entryW())
	// What is rolled back takes numbers all the same.
	for _, back := range []string{"rollback", "rollback to s\n1: commit"} {
		wantNumbersFrom(t, table+"1: begin\n1: savepoint s\n1: "+hundred+"1: "+hundred+"1: "+back+"\n", 201, 1, entryW())
	}
	// What fails takes none: by its values, by its rows.
	second := []impl.StoreOp{entryPut(2, 1, "CREATE TABLE v ( k INT NOT NULL )")}
	for _, fails := range []string{"insert into v select k / 0 from (select 1 as k) as q\n", "insert into v " + rowsOfValues(1, 99) + ", (null)\n"} {
		wantNumbersFrom(t, table+"1: create table v (k int not null)\n1: "+fails+"1: begin\n1: "+fails+"1: rollback\n", 1, 201, entryW(), second)
	}
	// So do rows that have a primary key.
	third := []impl.StoreOp{entryPut(2, 1, "CREATE TABLE p ( k INT PRIMARY KEY )")}
	keyed := "1: insert into p " + rowsOfValues(1, 100) + "\n1: insert into p " + rowsOfValues(101, 200) + "\n"
	wantNumbersFrom(t, table+"1: create table p (k int primary key)\n1: begin\n"+keyed+"1: rollback\n", 1, 201, entryW(), third)
	// By its commit, for which there is no room.
	full := numberedRows(1, 1, 100, 1)
	wantNumbersFrom(t, table+"1: "+hundred+"1: "+hundred, 1, 201, entryW(), full, full)
	// A transaction of several statements has taken its numbers when it fails to commit.
	both := numberedRows(1, 1, 200, 1)
	wantNumbersFrom(t, table+"1: begin\n1: "+hundred+"1: "+hundred+"1: commit\n", 201, 1, entryW(), both)
}

// TestEngineKeepsHiddenNumbers: a row that is changed has the number that it had, and so stays where it stands.
func TestEngineKeepsHiddenNumbers(t *testing.T) {
	t.Parallel()
	moved := numberedRows(1, 4, 6, 11)
	for n := 1; n <= 3; n++ {
		moved = append(moved, dropOf(rowPut(1, hiddenKey(n))))
	}
	wantStepsOf(t, "open\n1: create table w (k int)\n1: insert into w values (1), (2), (3)\n1: update w set k = k + 10",
		[][]impl.StoreOp{entryW(), numberedRows(1, 1, 3, 1), numberedRows(1, 1, 3, 11)}, [][]impl.StoreOp{entryW(), numberedRows(1, 1, 3, 1), moved})
	wantScript(t, `
		open
		1: create table w (k int, s text)
		1: insert into w values (3, 'a'), (1, 'b'), (2, 'c'), (1, 'b') -> 4 rows
		1: update w set k = 9 where k = 1 -> 2 rows
		1: select * from w -> k|s; 3|a; 9|b; 2|c; 9|b; 4 rows
		1: begin
		1: delete from w where k = 3 -> 1 rows
		1: insert into w values (0, 'd') -> 1 rows
		2: insert into w values (0, 'e') -> 1 rows
		1: insert into w values (0, 'f') -> 1 rows
		1: update w set k = k + 1 where k < 3 -> 3 rows
		1: commit
		1: select * from w -> k|s; 9|b; 3|c; 9|b; 1|d; 0|e; 1|f; 6 rows
		crash
		open
		1: select * from w -> k|s; 9|b; 3|c; 9|b; 1|d; 0|e; 1|f; 6 rows
		1: delete from w where s = 'f' -> 1 rows
		1: insert into w values (7, 'g') -> 1 rows
		1: select s from w -> s; b; c; b; d; e; g; 6 rows`)
}

// TestEngineHiddenNumbersBehindOpenings: the next one is then above the greatest that there is, in all tables.
func TestEngineHiddenNumbersBehindOpenings(t *testing.T) {
	t.Parallel()
	hundred := "1: insert into w " + rowsOfValues(1, 100) + "\n"
	taken := "1: begin\n" + hundred + hundred + "1: rollback\n"
	crash, open := []impl.StoreOp{{Kind: impl.SCrash}}, []impl.StoreOp{{Kind: impl.SOpen}}
	second := []impl.StoreOp{entryPut(2, 1, "CREATE TABLE v ( k INT )")}
	begin := "open\n1: create table w (k int)\n1: create table v (k int)\n"
	wantNumbersFrom(t, begin+taken+"crash\nopen\n", 1, 201, entryW(), second, crash, open)
	for table, name := range []string{"w", "v"} {
		one := []impl.StoreOp{rowPut(table+1, hiddenKey(201), intv(1))}
		wantNumbersFrom(t, begin+taken+"1: insert into "+name+" values (1)\ncrash\nopen\n", 202, 2, entryW(), second, one, crash, open)
	}
	// It is just the next one.
	two := []impl.StoreOp{rowPut(2, hiddenKey(200), intv(1))}
	wantNumbersFrom(t, begin+"1: begin\n"+hundred+"1: insert into w "+rowsOfValues(1, 99)+"\n1: rollback\n1: insert into v values (1)\ncrash\nopen\n", 201, 202, entryW(), second, two, crash, open)
	// Of a table with a primary key there are no hidden numbers.
	third, key := []impl.StoreOp{entryPut(3, 1, "CREATE TABLE p ( k INT PRIMARY KEY )")}, []impl.StoreOp{rowPut(3, hiddenKey(201), intv(201))}
	wantNumbersFrom(t, begin+"1: create table p (k int primary key)\n1: insert into p values (201)\ncrash\nopen\n", 1, 202, entryW(), second, third, key, crash, open)
}

// longText is a text that takes some pages.
func longText(letter string) string { return strings.Repeat(letter, 250) }

// TestEngineBatch: what a commit does with the store.
func TestEngineBatch(t *testing.T) {
	t.Parallel()
	entries := [][]impl.StoreOp{
		{entryPut(1, 1, "CREATE TABLE b ( id INT PRIMARY KEY , t TEXT )")}, {entryPut(2, 1, "CREATE TABLE a ( id TEXT PRIMARY KEY , t TEXT )")}, {entryPut(3, 2, "CREATE INDEX i ON b ( t )")},
	}
	row := func(table, id int, letter string) impl.StoreOp {
		key := intv(id)
		if table == 2 {
			key = textv(fmt.Sprint(id))
		}
		return rowPut(table, []impl.Value{key}, key, textv(longText(letter)))
	}
	begin := "open\n1: create table b (id int primary key, t text)\n1: create table a (id text primary key, t text)\n1: create index i on b (t)\n"
	first := []impl.StoreOp{row(1, -1, "m"), row(1, 2, "m"), row(1, 3, "m"), row(1, 10, "m"), row(2, 1, "m"), row(2, 10, "m"), row(2, 2, "m")}
	filling := fmt.Sprintf("1: begin\n1: insert into a values ('2', %[1]s), ('10', %[1]s)\n1: insert into b values (10, %[1]s), (3, %[1]s), (-1, %[1]s)\n1: insert into a values ('1', %[1]s)\n1: insert into b values (2, %[1]s)\n1: commit", "'"+longText("m")+"'")
	before := append(entries, first)
	behind := func(batch []impl.StoreOp) [][]impl.StoreOp { return append(slices.Clone(before), batch) }
	// Rows that are changed are put, also where nothing is other than it was; those that go are dropped, but for those that
	// were not committed; one that comes again is put.
	script := begin + filling + fmt.Sprintf("\n1: begin\n1: delete from a where id <> '2'\n1: update b set t = t where id = 3\n1: insert into b values (4, %[1]s), (5, %[1]s)\n1: delete from b where id in (4, 10)\n"+
		"1: update b set id = 10 - id where id = 5 or id = 2\n1: insert into a values ('1', %[1]s), ('0', %[1]s)\n1: delete from a where id = '0'\n1: commit", "'"+longText("n")+"'")
	want := []impl.StoreOp{dropOf(row(1, 2, "")), row(1, 3, "m"), row(1, 5, "n"), row(1, 8, "m"), dropOf(row(1, 10, "")), row(2, 1, "n"), dropOf(row(2, 10, ""))}
	wantStepsOf(t, script, behind(want), behind(slices.Delete(slices.Clone(want), 1, 2)))
	wantStepsOf(t, script, behind(want), behind(slices.Delete(slices.Clone(want), 4, 5)))
	wantStepsOf(t, script, behind(want), behind(slices.Insert(slices.Clone(want), 2, row(1, 4, "n"), dropOf(row(1, 4, "")))))
	// A table goes with its entry, those of its indexes, and its rows; an index with its entry.
	gone := []impl.StoreOp{dropOf(entries[0][0]), dropOf(entries[2][0]), dropOf(first[0]), dropOf(first[1]), dropOf(first[2]), dropOf(first[3])}
	for i := range gone {
		wantStepsOf(t, begin+filling+"\n1: drop table b", behind(gone), behind(slices.Delete(slices.Clone(gone), i, i+1)))
	}
	wantStepsOf(t, begin+filling+"\n1: drop index i", behind(gone[1:2]), behind(gone[:2]))
}

// TestEngineBatchInOrder: changes come in rising order of their keys, whatever the order of the statements was, and of the
// tables' names. Of other orders many take other steps.
func TestEngineBatchInOrder(t *testing.T) {
	t.Parallel()
	var met tally
	atOnce(t, 8, func(t *testing.T, run int) {
		for round := range 12 {
			g := grower{&numberSource{state: uint64(91000 + 100*run + round)}}
			wantBatchInOrder(t, g, round%3 == 2, &met)
		}
	})
	met.wantAtLeast(t, map[string]int{"the other way round takes other steps": 20, "in order of statements takes other steps": 15, "rows first takes other steps": 5})
}

// wantBatchInOrder fills two tables by chance, then changes both in a transaction, or drops one.
func wantBatchInOrder(t *testing.T, g grower, drops bool, met *tally) {
	t.Helper()
	names := []string{"", "z", "a"}
	texts := []string{"CREATE TABLE z ( id INT PRIMARY KEY , t TEXT )", "CREATE TABLE a ( id INT PRIMARY KEY , t TEXT )", "CREATE INDEX i ON z ( t )"}
	entries := [][]impl.StoreOp{{entryPut(1, 1, texts[0])}, {entryPut(2, 1, texts[1])}, {entryPut(3, 2, texts[2])}}
	script := "open\n1:" + strings.Join(texts, "\n1:") + "\n1: begin\n"
	var first, last, gone []impl.StoreOp
	for _, at := range shuffled(g, 12) {
		table, id, text := 1+at%2, at/2, strings.Repeat("m", g.pick(1, 50, 250))
		row := rowPut(table, []impl.Value{intv(id)}, intv(id), textv(text))
		first = append(first, row)
		script += fmt.Sprintf("1: insert into %s values (%d, '%s')\n", names[table], id, text)
		if table == 1 {
			gone = append(gone, dropOf(row))
		}
	}
	script += "1: commit\n"
	if drops {
		sorted := append([]impl.StoreOp{dropOf(entries[0][0]), dropOf(entries[2][0])}, sortedBatch(gone)...)
		rowsFirst := append(sortedBatch(gone), sorted[:2]...)
		wantOrderedSteps(t, script+"1: drop table z", append(entries, sortedBatch(first)), sorted, map[string][]impl.StoreOp{"rows first": rowsFirst}, met)
		return
	}
	script += "1: begin\n"
	for _, at := range shuffled(g, 20)[:6] {
		table, id, text := 1+at%2, at/2, strings.Repeat("n", g.pick(1, 50, 250))
		put := rowPut(table, []impl.Value{intv(id)}, intv(id), textv(text))
		switch {
		case id > 5:
			script += fmt.Sprintf("1: insert into %s values (%d, '%s')\n", names[table], id, text)
			last = append(last, put)
		case g.chance(2):
			script += fmt.Sprintf("1: update %s set t = '%s' where id = %d\n", names[table], text, id)
			last = append(last, put)
		default:
			script += fmt.Sprintf("1: delete from %s where id = %d\n", names[table], id)
			last = append(last, dropOf(put))
		}
	}
	turned := sortedBatch(last)
	slices.Reverse(turned)
	wantOrderedSteps(t, script+"1: commit", append(entries, sortedBatch(first)), sortedBatch(last), map[string][]impl.StoreOp{"the other way round": turned, "in order of statements": last}, met)
}

func sortedBatch(batch []impl.StoreOp) []impl.StoreOp {
	return slices.SortedFunc(slices.Values(batch), func(a, b impl.StoreOp) int { return slices.Compare(a.Key, b.Key) })
}

// shuffled are the numbers below some in any order.
func shuffled(g grower, size int) []int {
	var list []int
	for i := range size {
		list = slices.Insert(list, below(g.numberSource, i+1), i)
	}
	return list
}

func wantOrderedSteps(t *testing.T, script string, ahead [][]impl.StoreOp, batch []impl.StoreOp, others map[string][]impl.StoreOp, met *tally) {
	t.Helper()
	ops, _ := engineLines(t, script)
	got, want := engineSteps(t, ops), storeSteps(append(slices.Clone(ahead), batch)...)
	if got != want {
		t.Fatalf("%s\ntakes %d steps, not %d", script, got, want)
	}
	for what, other := range others {
		if storeSteps(append(slices.Clone(ahead), other)...) != want {
			met.add(what + " takes other steps")
		}
	}
}

// TestEngineWithoutSteps: what changes nothing takes no step; a change that leaves all as it was takes some.
func TestEngineWithoutSteps(t *testing.T) {
	t.Parallel()
	begin := "open\n1: create table t (id int primary key)\n1: insert into t values (1)\n"
	for line, steps := range map[string]int{
		"select id from t": 0, "explain select id from t": 0, "begin": 0, "begin\n1: commit": 0, "begin\n1: select id from t\n1: commit": 0, "insert into t select id from t where false": 0,
		"delete from t where id = 2": 0, "begin\n1: insert into t values (2)": 0, "begin\n1: insert into t values (2)\n1: delete from t where id = 2\n1: commit": 0,
		"begin\n1: savepoint s\n1: delete from t\n1: rollback to s\n1: commit": 0, "begin\n1: delete from t\n1: rollback": 0,
		"update t set id = id": 2, "begin\n1: update t set id = 1\n1: commit": 2,
	} {
		ops, _ := engineLines(t, begin+"1: "+line)
		if got := engineSteps(t, ops); got != steps {
			t.Errorf("%s: %d steps, not %d", line, got, steps)
		}
	}
	// A checkpoint is that of the store.
	ops, _ := engineLines(t, begin+"1: checkpoint")
	entry, row := entryPut(1, 1, "CREATE TABLE t ( id INT PRIMARY KEY )"), rowPut(1, hiddenKey(1), intv(1))
	if got, want := engineSteps(t, ops), storeSteps([]impl.StoreOp{entry}, []impl.StoreOp{row}, []impl.StoreOp{{Kind: impl.SCheck}}); got != want {
		t.Errorf("checkpoint: %d steps, not %d", got, want)
	}
}

// TestEngineMaxKey: the key of a row is the table's number in 9 bytes, then its own.
func TestEngineMaxKey(t *testing.T) {
	t.Parallel()
	text := func(size int) string { return "'" + strings.Repeat("k", size) + "'" }
	noughts := func(size int) string { return "'" + strings.Repeat("\x00", size) + "'" }
	wantScript(t, `
		open
		1: create table t (k text primary key, a int)
		1: insert into t values (`+text(108)+`, 1) -> 1 rows
		1: insert into t values (`+text(109)+`, 1) -> ErrBig
		1: insert into t values (`+noughts(54)+`, 2) -> 1 rows
		1: insert into t values (`+noughts(55)+`, 2) -> ErrBig
		1: insert into t values ('a', 3), (`+text(109)+`, 1), ('b', 3) -> ErrBig
		1: insert into t values (`+text(108)+`, 1), (`+text(109)+`, 1) -> ErrUnique
		1: update t set k = k || 'k' where a = 1 -> ErrBig
		1: update t set k = k || '' -> 2 rows
		1: select a, length(k) from t -> a|column2; 2|54; 1|108; 2 rows
		1: begin
		1: insert into t values (`+text(109)+`, 1) -> ErrBig
		1: select count(*) from t -> column1; 2; 1 rows
		1: commit
		1: create table u (a int, d decimal, b boolean, e date, t text, primary key (a, d, b, e, t))
		1: insert into u values (1, 1, true, date '2020-01-01', `+text(83)+`) -> 1 rows
		1: insert into u values (1, 1, true, date '2020-01-01', `+text(84)+`) -> ErrBig
		1: create table v (t text, u text)
		1: create unique index i on v (t)
		1: create table w (t text unique, primary key (t))
		1: insert into v values (`+text(255)+`, `+text(255)+`) -> 1 rows
		1: insert into w values (`+text(255)+`) -> ErrBig
		1: insert into w values (`+text(108)+`) -> 1 rows
		crash
		open
		1: select a, length(k) from t -> a|column2; 2|54; 1|108; 2 rows
		1: select length(t) from u -> column1; 83; 1 rows
		1: select length(t) from v -> column1; 255; 1 rows`)
}

// TestEngineMaxVal: three texts of 1020 bytes take 3069 bytes with what stands ahead of them, and the number of values one.
func TestEngineMaxVal(t *testing.T) {
	t.Parallel()
	long := "'" + strings.Repeat("𝄞", 255) + "'"
	last := func(size int) string {
		return "'" + strings.Repeat("𝄞", size/4) + strings.Repeat("a", size%4) + "'"
	}
	for _, key := range []string{"", " primary key"} {
		wantScript(t, `
			open
			1: create table t (n int`+key+`, a text, b text, c text, d text)
			1: insert into t values (1, `+long+`, `+long+`, `+long+`, `+last(925)+`) -> 1 rows
			1: insert into t values (2, `+long+`, `+long+`, `+long+`, `+last(926)+`) -> ErrBig
			1: insert into t values (64, `+long+`, `+long+`, `+long+`, `+last(925)+`) -> ErrBig
			1: insert into t values (63, null, `+long+`, `+long+`, `+long+`) -> 1 rows
			1: update t set d = d || 'a' where n = 1 -> ErrBig
			1: update t set n = 64 where n = 1 -> ErrBig
			1: begin
			1: update t set n = n - 1 -> 2 rows
			1: update t set a = 'x' where n = 62 -> 1 rows
			1: update t set n = n + 2000 -> ErrBig
			1: commit
			crash
			open
			1: select n, length(d), d = `+last(925)+`, d = `+long+` from t -> n|column2|column3|column4; 0|232|true|false; 62|255|false|true; 2 rows`)
	}
}

// TestEngineMaxText: the value of a table's entry is a byte and its text.
func TestEngineMaxText(t *testing.T) {
	t.Parallel()
	long := strings.Repeat("𝄞", 255)
	table := func(size int) string {
		text := "CREATE TABLE t ( a TEXT DEFAULT '" + long + "' , b TEXT DEFAULT '" + long + "' , c TEXT DEFAULT '" + long + "' , d TEXT DEFAULT '"
		rest := size - len(text) - 3
		return text + strings.Repeat("𝄞", rest/4) + strings.Repeat("a", rest%4) + "' )"
	}
	for _, size := range []int{3998, 3999, 4000, 4001} {
		if len(table(size)) != size {
			t.Fatalf("%d bytes", len(table(size)))
		}
		if size <= 3999 {
			wantScript(t, "open\n1:"+table(size)+"\n1: insert into t (a) values (default) -> 1 rows\ncrash\nopen\n1: select count(*) from t where c = '"+long+"' -> column1; 1; 1 rows")
			continue
		}
		wantScript(t, "open\n1:"+table(size)+" -> ErrBig\n1: select a from t -> ErrTable 15\n1: create table u (a int)\n1: explain select a from u -> project where #0 (est 1 cost 2);   scan table 1 (est 1 cost 1)")
	}
}

// TestEngineFull: a commit for which the store has no room changes nothing, and the engine goes on.
func TestEngineFull(t *testing.T) {
	t.Parallel()
	wantScript(t, `
		open
		1: create table w (k int)
		1: insert into w `+rowsOfValues(1, 100)+` -> ErrFull
		1: select k from w -> k; 0 rows
		1: insert into w `+rowsOfValues(1, 45)+` -> 45 rows
		1: begin
		1: insert into w `+rowsOfValues(101, 200)+` -> 100 rows
		1: select count(*) from w -> column1; 145; 1 rows
		1: commit -> ErrFull
		1: commit -> ErrState
		1: select count(*) from w -> column1; 45; 1 rows
		2: insert into w `+rowsOfValues(46, 90)+` -> 45 rows
		2: update w set k = k + 1 -> ErrFull
		2: delete from w -> ErrFull
		2: drop table w -> ErrFull
		2: select count(*), min(k), max(k) from w -> column1|column2|column3; 90|1|90; 1 rows
		2: delete from w where k > 45 -> 45 rows
		2: drop table w
		2: create table w (z int)
		crash
		open
		2: select z from w -> z; 0 rows`)
}

// TestEngineManyRows: more rows than a scan of the store tells are all there behind an opening.
func TestEngineManyRows(t *testing.T) {
	t.Parallel()
	ops := []impl.EngineOp{{Kind: impl.EOpen}}
	for table := range 11 {
		ops = append(ops, statementOp(1, fmt.Sprintf("create table w%d (k int)", table)))
		for range 9 {
			ops = append(ops, statementOp(1, fmt.Sprintf("insert into w%d %s", table, rowsOfValues(1, 43))))
		}
	}
	ops = append(ops, impl.EngineOp{Kind: impl.ECrash}, impl.EngineOp{Kind: impl.EOpen})
	total := ""
	for table := range 11 {
		ops = append(ops, statementOp(1, fmt.Sprintf("select count(*) from w%d", table)))
		total += "387;"
	}
	got, _ := impl.EngineRun(ops)
	told := ""
	for i, o := range got {
		if o.Code != impl.OK {
			t.Fatalf("%d: %d", i, o.Code)
		}
		told += toldRows(o.Rows)
	}
	if told != total {
		t.Errorf("%s", told)
	}
}
