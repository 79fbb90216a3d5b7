package tests

import (
	"fmt"
	"slices"
	"strings"
	"testing"

	"loop.example/g00001/impl"
)

// ground are tables with keys of each sort and some rows.
const ground = `
	open
	1: create table x (id int primary key, a int unique, b text not null default 'd' check (b <> 'bad'))
	1: create table y (k int)
	1: create table z (k int)
	1: create table v (t text primary key)
	1: insert into x values (1, 1, 'p'), (2, 2, 'q') -> 2 rows
	1: insert into z values (77) -> 1 rows`

// deedCase are statements of a transaction, with their answers, and the tables that it has read or written by them.
type deedCase struct{ lines, tables string }

func readCases() []deedCase {
	return []deedCase{
		{"1: select 1 -> column1; 1; 1 rows", ""},
		{"1: select count(*) from x -> column1; 2; 1 rows", "x"},
		{"1: select id from x where id = 2 -> id; 2; 1 rows", "x"},
		{"1: select id from x where false -> id; 0 rows", "x"},
		{"1: select id from x limit 0 -> id; 0 rows", "x"},
		{"1: select x.id from x, z where x.id = 1 -> id; 1; 1 rows", "x z"},
		{"1: select 1 where exists (select 1 from z) -> column1; 1; 1 rows", "z"},
		{"1: select id from x where id in (select k from z) -> id; 0 rows", "x z"},
		{"1: select (select max(k) from z), (select count(*) from v) -> column1|column2; 77|0; 1 rows", "v z"},
		{"1: explain select count(*) from v -> project where #0 (est 1 cost 4);   group (est 1 cost 3);     project (est 1 cost 2);       scan table 4 (est 1 cost 1)", ""},
		{"1: select nope from x -> ErrColumn 8", ""},
		{"1: select id from x, nope -> ErrTable 19", ""},
		{"1: select id / 0 from x -> ErrZero", "x"},
		{"1: select x.id from x, z where x.id / (z.k - 77) = 1 -> ErrZero", "x z"},
		{"1: insert into x values (9, 9, 'q') -> 1 rows", ""},
		{"1: insert into x (id) select k from z -> 1 rows", "z"},
		{"1: insert into x select id + 5, a + 5, b from x -> 2 rows", "x"},
		{"1: insert into x values ((select max(k) from z), 9, 'q') -> 1 rows", "z"},
		{"1: insert into x values (1, 9, 'q') -> ErrUnique", "x"},
		{"1: insert into x values (9, 1, 'q') -> ErrUnique", "x"},
		{"1: insert into x values (9, 9, 'bad') -> ErrCheck", "x"},
		{"1: insert into x values (null, 9, 'q') -> ErrNull", "x"},
		{"1: insert into x values (1 / 0, 9, 'q') -> ErrZero", "x"},
		{"1: insert into v values ('" + strings.Repeat("k", 200) + "') -> ErrBig", "v"},
		{"1: insert into x (id, a) values (9) -> ErrWidth 30", ""},
		{"1: insert into x (id, nope) values (9, 9) -> ErrColumn 20", ""},
		{"1: insert into x (id) select nope from z -> ErrColumn 27", ""},
		{"1: update x set a = 9 where id = 1 -> 1 rows", "x"},
		{"1: update x set a = 9 where false -> 0 rows", "x"},
		{"1: update z set k = 3 where k in (select id from x) -> 0 rows", "x z"},
		{"1: update x set a = 'q' -> ErrType 18", ""},
		{"1: update x set a = 9 -> ErrUnique", "x"},
		{"1: delete from z where k = 5 -> 0 rows", "z"},
		{"1: delete from z -> 1 rows", "z"},
		{"1: delete from x where a / 0 = 1 -> ErrZero", "x"},
		{"1: delete from x where nope -> ErrColumn 21", ""},
		{"1: savepoint s\n1: select k from z -> k; 77; 1 rows\n1: insert into x values (1, 9, 'q') -> ErrUnique\n1: rollback to s", "x z"},
		{"1: savepoint s\n1: insert into x values (9, 9, 'q') -> 1 rows\n1: rollback to s", ""},
		{"1: selec\t -> ErrSyntax 1", ""},
	}
}

// TestEngineReads: a transaction that has written y, which another one has read, is in danger just if it has read what that one
// has written.
func TestEngineReads(t *testing.T) {
	t.Parallel()
	rows := map[string]string{"x": "(50, 50, 'n')", "z": "(50)", "v": "('n')"}
	for _, c := range readCases() {
		for table, row := range rows {
			end := "1: commit"
			if slices.Contains(strings.Fields(c.tables), table) {
				end = "1: commit -> ErrDanger"
			}
			wantScript(t, ground+`
				1: begin serializable
				`+c.lines+`
				1: insert into y values (1) -> 1 rows
				2: begin serializable
				2: select k from y -> k; 0 rows
				2: insert into `+table+` values `+row+` -> 1 rows
				2: commit
				`+end)
		}
	}
}

func writeCases() []deedCase {
	return []deedCase{
		{"1: insert into x values (9, 9, 'q') -> 1 rows", "x"},
		{"1: insert into x select id, a, b from x where false -> 0 rows", ""},
		{"1: insert into x values (1, 9, 'q') -> ErrUnique", ""},
		{"1: update x set b = b where id = 1 -> 1 rows", "x"},
		{"1: update x set b = 'n' where id = 100 -> 0 rows", ""},
		{"1: update x set b = 'bad' -> ErrCheck", ""},
		{"1: delete from x where id = 1 -> 1 rows", "x"},
		{"1: delete from x where id = 100 -> 0 rows", ""},
		{"1: insert into x values (9, 9, 'q') -> 1 rows\n1: delete from x where id = 9 -> 1 rows", "x"},
		{"1: savepoint s\n1: insert into x values (9, 9, 'q') -> 1 rows\n1: rollback to s", ""},
		{"1: savepoint s\n1: insert into x values (9, 9, 'q') -> 1 rows\n1: release s", "x"},
		{"1: insert into z values (3), (4) -> 2 rows", "z"},
		{"1: insert into z values (3) -> 1 rows\n1: update x set a = null -> 2 rows", "x z"},
		{"1: delete from z -> 1 rows\n1: insert into v values ('m') -> 1 rows", "z v"},
		{"1: select id from x -> id; 1; 2; 2 rows", ""},
		{"1: explain select id from v -> ErrColumn 16", ""},
	}
}

// TestEngineWrites: a transaction that has read y, which another one has written, is in danger just if it has written what that
// one has read.
func TestEngineWrites(t *testing.T) {
	t.Parallel()
	for _, c := range writeCases() {
		for _, table := range []string{"x", "z", "v"} {
			end := "1: commit"
			if slices.Contains(strings.Fields(c.tables), table) {
				end = "1: commit -> ErrDanger"
			}
			wantScript(t, ground+`
				1: begin serializable
				`+c.lines+`
				1: select k from y -> k; 0 rows
				2: begin serializable
				2: select count(*) from `+table+` where false -> column1; 0; 1 rows
				2: insert into y values (1) -> 1 rows
				2: commit
				`+end)
		}
	}
}

// TestEngineDangers: who takes part in a history, and who does not.
func TestEngineDangers(t *testing.T) {
	t.Parallel()
	for _, c := range []struct{ lines, end string }{
		// A statement by itself is a serializable transaction.
		{"1: begin serializable\n1: select k from z -> k; 77; 1 rows\n1: insert into y values (1) -> 1 rows\n2: select k from y -> k; 0 rows\n3: insert into z values (1) -> 1 rows", "ErrDanger"},
		{"1: begin serializable\n1: select k from z -> k; 77; 1 rows\n1: insert into y values (1) -> 1 rows\n2: select nope from y -> ErrColumn 8\n3: insert into z values (1) -> 1 rows", ""},
		{"1: begin serializable\n1: select k from z -> k; 77; 1 rows\n1: insert into y values (1) -> 1 rows\n2: explain select t from v -> project where #0 (est 1 cost 2);   scan table 4 (est 1 cost 1)\n3: insert into z values (1) -> 1 rows", ""},
		// One that fails is in no history, whatever it has read.
		{"1: begin serializable\n1: select k from z -> k; 77; 1 rows\n1: insert into x values (8, 8, 'q') -> 1 rows\n2: insert into x values (1, 9, 'q') -> ErrUnique\n2: select a / 0 from x -> ErrZero\n3: insert into z values (1) -> 1 rows", ""},
		// So is one that is rolled back.
		{"1: begin serializable\n1: select k from z -> k; 77; 1 rows\n1: insert into y values (1) -> 1 rows\n2: begin serializable\n2: select k from y -> k; 0 rows\n2: rollback\n3: insert into z values (1) -> 1 rows", ""},
		// Snapshot transactions are in none, nor are they looked at.
		{"1: begin serializable\n1: select k from z -> k; 77; 1 rows\n1: insert into y values (1) -> 1 rows\n2: begin\n2: select k from y -> k; 0 rows\n2: insert into z values (1) -> 1 rows\n2: commit", ""},
		{"1: begin snapshot\n1: select k from z -> k; 77; 1 rows\n1: insert into y values (1) -> 1 rows\n2: begin serializable\n2: select k from y -> k; 0 rows\n2: insert into z values (1) -> 1 rows\n2: commit", ""},
		// One behind the other there is no danger.
		{"2: begin serializable\n2: select k from y -> k; 0 rows\n2: insert into z values (1) -> 1 rows\n2: commit\n1: begin serializable\n1: select k from z -> k; 77; 1; 2 rows\n1: insert into y values (1) -> 1 rows", ""},
		// The one that commits first is in danger, too, and it is found when the other one comes.
		{"1: begin serializable\n2: begin serializable\n3: begin serializable\n1: select k from z -> k; 77; 1 rows\n2: select k from y -> k; 0 rows\n2: insert into z values (1) -> 1 rows\n3: insert into y values (1) -> 1 rows\n3: commit\n2: commit", "ErrDanger"},
		// A conflict is looked for ahead of that.
		{"1: begin serializable\n1: select k from z -> k; 77; 1 rows\n1: insert into y values (1) -> 1 rows\n1: update x set b = 'n' -> 2 rows\n2: begin serializable\n2: select k from y -> k; 0 rows\n2: insert into z values (1) -> 1 rows\n2: delete from x where id = 2 -> 1 rows\n2: commit", "ErrConflict"},
	} {
		end := "1: commit"
		if c.end != "" {
			end += " -> " + c.end
		}
		wantScript(t, ground+"\n"+c.lines+"\n"+end+"\n1: commit -> ErrState\n1: rollback -> ErrState")
	}
}

// TestEngineConflicts has two transactions of which the first commits, and perhaps a third line of the second one.
func TestEngineConflicts(t *testing.T) {
	t.Parallel()
	const clear, conflict = "", " -> ErrConflict"
	for _, c := range []struct{ first, second, end string }{
		// Keys: ahead and behind a change, of rows that were put in, changed, deleted.
		{"insert into c values (10, 10, 10, 10)", "insert into c values (10, 11, 11, 11)", conflict},
		{"insert into c values (10, 10, 10, 10)", "insert into c values (11, 11, 11, 11)", clear},
		{"update c set b = 9 where id = 1", "update c set d = 9 where id = 1", conflict},
		{"update c set b = 9 where id = 1", "update c set d = 9 where id = 2", clear},
		{"update c set b = b where id = 1", "delete from c where id = 1", conflict},
		{"delete from c where id = 1", "update c set b = 9 where id = 1", conflict},
		{"delete from c where id = 1", "delete from c where id = 1", conflict},
		{"delete from c where id = 1", "delete from c where id = 2", clear},
		{"update c set id = 10 where id = 1", "insert into c values (10, 11, 11, 11)", conflict},
		{"update c set id = 10 where id = 1", "update c set b = 9 where id = 1", conflict},
		{"update c set id = 10 where id = 1", "update c set id = 10 where id = 2", conflict},
		{"update c set id = 10 where id = 1", "update c set id = 11 where id = 2", clear},
		{"insert into c values (10, 10, 10, 10)", "insert into e values (10, 10)", clear},
		{"update c set b = 9 where id = 100", "update c set b = 9 where id = 1", clear},
		// Values of Uniques.
		{"insert into c values (10, 10, 10, 10)", "insert into c values (11, 10, 11, 11)", conflict},
		{"insert into c values (10, null, 10, 10)", "insert into c values (11, null, 11, 11)", clear},
		{"update c set a = 10 where id = 1", "update c set a = 10 where id = 2", conflict},
		{"update c set a = 10 where id = 1", "update c set a = 11 where id = 2", clear},
		{"update c set a = null where id = 1", "update c set a = null where id = 2", clear},
		{"insert into c values (10, 7, 8, 10)", "insert into c values (11, 8, 7, 11)", clear},
		{"insert into c values (10, 10, 7, 8)", "insert into c values (11, 11, 7, 8)", conflict},
		{"insert into c values (10, 10, 7, 8)", "insert into c values (11, 11, 7, 9)", clear},
		{"insert into c values (10, 10, 7, 8)", "insert into c values (11, 11, 8, 7)", clear},
		{"insert into c values (10, 10, 7, null)", "insert into c values (11, 11, 7, null)", clear},
		// Values of unique indexes.
		{"insert into e values (10, 10)", "insert into e values (10, 11)", conflict},
		{"insert into e values (10, 10)", "insert into e values (11, 10)", clear},
		{"insert into e values (null, 10)", "insert into e values (null, 10)", clear},
		{"update e set f = 10 where f = 1", "update e set f = 10 where f = 2", conflict},
		{"update e set f = 10 where f = 1", "update e set g = 10 where f = 2", clear},
		{"update e set g = 10 where f = 1", "update e set g = 10 where f = 1", conflict},
		{"insert into w values (1)", "insert into w values (1)", clear},
		// The same values in other columns are others.
		{"insert into g values (7, 8)", "insert into g values (8, 7)", clear},
		{"insert into g values (7, 8)", "insert into g values (9, 8)", conflict},
		{"insert into g values (7, 8)", "insert into g values (null, 8)", conflict},
	} {
		for _, mode := range []string{"begin", "begin serializable"} {
			// Where the two do not read each other's tables, there is no danger.
			if mode == "begin serializable" && !strings.HasPrefix(c.first+c.second, "insert") {
				continue
			}
			wantConflict(t, mode, []string{c.first}, []string{c.second}, c.end)
		}
	}
}

// wantConflict has the statements of two transactions done in turn, and the first one commit ahead of the second.
func wantConflict(t *testing.T, mode string, first, second []string, end string) {
	t.Helper()
	ops, want := engineLines(t, `
		open
		1: create table c (id int primary key, a int unique, b int, d int, unique (b, d))
		1: create table e (f int, g int)
		1: create unique index i on e (f)
		1: create index j on e (g)
		1: create table w (k int)
		1: create table g (p int unique, q int)
		1: create unique index l on g (q)
		1: insert into c values (1, 1, 1, 1), (2, 2, 2, 2), (3, null, 3, null) -> 3 rows
		1: insert into e values (1, 1), (2, 2) -> 2 rows
		1: `+mode+`
		2: `+mode)
	for _, text := range first {
		ops, want = append(ops, statementOp(1, text)), append(want, "")
	}
	for _, text := range second {
		ops, want = append(ops, statementOp(2, text)), append(want, "")
	}
	more, ends := engineLines(t, "1: commit\n2: commit"+end+"\n2: commit -> ErrState")
	ops, want = append(ops, more...), append(want, ends...)
	got, _ := impl.EngineRun(ops)
	for i, o := range got {
		told := toldEngineObs(ops[i], o)
		if want[i] == "" && o.Code != impl.OK || want[i] != "" && told != want[i] {
			t.Fatalf("%s%swant %s", toldEngineOps(ops[:i+1]), told, want[i])
		}
	}
}

// TestEngineConflictsOfMany are those of more than one statement, and of other ways to commit.
func TestEngineConflictsOfMany(t *testing.T) {
	t.Parallel()
	in := func(id, a int) string { return fmt.Sprintf("insert into c values (%d, %d, %d, %d)", id, a, id, id) }
	// What is put in and changed or deleted again is written all the same, its values ahead of that, too.
	wantConflict(t, "begin", []string{in(10, 10), "delete from c where id = 10"}, []string{in(10, 11)}, " -> ErrConflict")
	wantConflict(t, "begin", []string{in(10, 10), "delete from c where id = 10"}, []string{in(11, 10)}, " -> ErrConflict")
	wantConflict(t, "begin", []string{in(10, 10), "update c set a = 20 where id = 10"}, []string{in(11, 10)}, " -> ErrConflict")
	wantConflict(t, "begin", []string{in(10, 10), "update c set id = 20 where id = 10"}, []string{in(10, 11)}, " -> ErrConflict")
	wantConflict(t, "begin", []string{in(11, 10)}, []string{in(10, 10), "update c set a = 20 where id = 10"}, " -> ErrConflict")
	wantConflict(t, "begin", []string{"delete from c where id = 1", "delete from c where id = 1"}, []string{"delete from c where id = 2"}, "")
	wantConflict(t, "begin", []string{"insert into e values (10, 1)", "update e set f = 11 where f = 10"}, []string{"insert into e values (10, 2)"}, " -> ErrConflict")
	// What a savepoint takes back is not written.
	wantConflict(t, "begin", []string{"savepoint s", in(10, 10), "rollback to s"}, []string{in(10, 10)}, "")
	wantConflict(t, "begin", []string{in(10, 10)}, []string{"savepoint s", in(10, 10), "rollback to s", in(11, 11)}, "")
	wantConflict(t, "begin", []string{in(10, 10)}, []string{"savepoint s", in(10, 10), "release s"}, " -> ErrConflict")
	wantConflict(t, "begin", []string{in(10, 10)}, []string{in(10, 11), "savepoint s", "delete from c where id = 10", "rollback to s"}, " -> ErrConflict")
	wantScript(t, ground+`
		1: begin
		1: update x set b = 'n' where id = 1 -> 1 rows
		2: update x set b = 'm' where id = 2 -> 1 rows
		2: begin
		2: update x set b = 'o' where id = 1 -> 1 rows
		2: rollback
		1: commit
		1: begin
		1: update x set b = 'k' where id = 2 -> 1 rows
		2: insert into x values (1, 9, 'q') -> ErrUnique
		2: update x set b = 'l' where id = 2 -> 1 rows
		1: select b from x where id = 2 -> b; k; 1 rows
		1: commit -> ErrConflict
		1: select b from x -> b; n; l; 2 rows
		1: update x set b = 'k' where id = 2 -> 1 rows
		1: begin
		1: commit
		1: begin
		2: delete from x -> 2 rows
		1: insert into x values (1, 1, 'q') -> ErrUnique
		1: select id from x -> id; 1; 2; 2 rows
		1: commit
		1: insert into x values (1, 1, 'q') -> 1 rows`)
}

// rowsOfValues is VALUES of numbers from one to another.
func rowsOfValues(from, to int) string {
	var rows []string
	for i := from; i <= to; i++ {
		rows = append(rows, fmt.Sprintf("(%d)", i))
	}
	return "values " + strings.Join(rows, ", ")
}

// crowd is a script in which the table w has so many rows, committed by not too many at once.
func crowd(table string, size int) string {
	script := "open\n1: create table w (k int" + table + ")"
	for from := 1; from <= size; from += 45 {
		to := min(from+44, size)
		script += fmt.Sprintf("\n1: insert into w %s -> %d rows", rowsOfValues(from, to), to-from+1)
	}
	return script
}

// TestEngineMaxRows: no statement, and no commit, has more than MaxRows rows in a table.
func TestEngineMaxRows(t *testing.T) {
	t.Parallel()
	for _, table := range []string{"", " primary key"} {
		wantScript(t, crowd(table, 390)+`
			1: begin
			2: begin
			1: insert into w `+rowsOfValues(501, 510)+` -> 10 rows
			1: insert into w values (520) -> ErrBig
			2: insert into w values (530) -> 1 rows
			2: commit
			1: select count(*) from w -> column1; 400; 1 rows
			1: commit -> ErrBig
			1: commit -> ErrState
			1: select count(*), max(k) from w -> column1|column2; 391|530; 1 rows
			1: begin
			1: insert into w `+rowsOfValues(501, 509)+` -> 9 rows
			1: savepoint s
			1: delete from w where k <= 10 -> 10 rows
			1: insert into w `+rowsOfValues(601, 610)+` -> 10 rows
			3: begin serializable
			3: delete from w where k = 77 -> 1 rows
			1: commit
			3: insert into w values (700) -> 1 rows
			3: insert into w values (701) -> 1 rows
			3: commit -> ErrBig
			1: select count(*), min(k) from w -> column1|column2; 400|11; 1 rows
			1: insert into w values (800) -> ErrBig
			1: insert into w select k + 1000 from w -> ErrBig
			1: update w set k = k where k = 11 -> 1 rows
			2: begin
			2: delete from w where k = 11 -> 1 rows
			2: insert into w values (11) -> 1 rows
			2: insert into w values (12) -> ErrBig
			2: delete from w where k = 12 -> 1 rows
			1: delete from w where k = 13 -> 1 rows
			2: insert into w values (900) -> 1 rows
			2: commit
			1: select count(*) from w -> column1; 399; 1 rows`)
	}
}

// TestEngineManyNewRows: a change of more than MaxRows rows is too great, whatever else is wrong with them.
func TestEngineManyNewRows(t *testing.T) {
	t.Parallel()
	wantScript(t, `
		open
		1: create table w (k int)
		1: create table n (k int not null)
		1: insert into w `+rowsOfValues(1, 20)+` -> 20 rows
		1: insert into n select null from w a, w b -> ErrNull
		1: insert into n select 1 from w a, w b union all select null -> ErrBig
		1: insert into n select 1 / (a.k - 20) from w a, w b union all select null -> ErrZero
		1: begin
		1: insert into n select a.k from w a, w b -> 400 rows
		1: insert into n values (1) -> ErrBig
		1: insert into n values (null) -> ErrNull
		1: update n set k = k + 1 -> 400 rows
		1: update n set k = null where k = 3 -> ErrNull
		1: delete from n -> 400 rows
		1: insert into n values (1) -> 1 rows
		1: commit
		1: select * from n -> k; 1; 1 rows`)
}

// TestEngineOrderOfCommit: danger is looked for ahead of MaxRows, and both ahead of the store.
func TestEngineOrderOfCommit(t *testing.T) {
	t.Parallel()
	wantScript(t, crowd("", 400)+`
		1: create table y (k int)
		1: delete from w where k = 400 -> 1 rows
		1: begin serializable
		1: select k from y -> k; 0 rows
		1: insert into w values (501) -> 1 rows
		2: begin serializable
		2: select count(*) from w -> column1; 399; 1 rows
		2: insert into w values (502) -> 1 rows
		2: insert into y values (7) -> 1 rows
		2: commit
		arm 0
		1: commit -> ErrDanger
		1: begin
		2: delete from w where k = 100000 -> 0 rows
		1: delete from w where k = 100000 -> 0 rows
		1: insert into w values (501) -> ErrBig
		arm -1
		2: delete from w where k = 1 -> 1 rows
		1: commit
		1: begin
		1: insert into w values (503) -> 1 rows
		2: insert into w values (504) -> 1 rows
		arm 0
		1: commit -> ErrBig
		1: select count(*) from w -> column1; 400; 1 rows
		1: insert into w values (503) -> ErrBig
		1: update w set k = 0 where k = 2 -> ErrDown
		open
		1: select count(*) from w -> column1; 400; 1 rows`)
}
