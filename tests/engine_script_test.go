package tests

import (
	"fmt"
	"strings"
	"testing"

	"loop.example/g00001/impl"
)

type scriptCase struct{ text, told string }

func wantTold(t *testing.T, cases []scriptCase) {
	t.Helper()
	for _, c := range cases {
		if told := impl.RunScript(c.text); told != c.told {
			t.Errorf("%.300q\nis told %.300q\nnot %.300q", c.text, told, c.told)
		}
	}
}

const (
	toldWord = "error 30 at 0\n"
	toldOne  = "column1\n1\n1 rows\n"
)

func TestScriptLines(t *testing.T) {
	t.Parallel()
	wantTold(t, []scriptCase{
		// Lines that are skipped.
		{"", ""}, {"\n", ""}, {"\n\n\n", ""}, {" ", ""}, {"      \n  \n", ""}, {"#", ""}, {"# open", ""}, {"#\n#1: select 1\n", ""}, {"##\n \n#", ""},
		// Lines that are not, and are none.
		{"\t", toldWord}, {"\r\n", toldWord}, {" #", toldWord}, {" # note\n", toldWord}, {"wait", toldWord}, {"Open", toldWord}, {"OPEN", toldWord}, {"open open", toldWord}, {"open 1", toldWord},
		{"open;", toldWord}, {"open\t", toldWord}, {"open\r", toldWord}, {"opened", toldWord}, {"\x00", toldWord}, {"é", toldWord}, {"select 1", toldWord}, {":", toldWord}, {": select 1", toldWord},
		{"0: select 1", toldWord}, {"5: select 1", toldWord}, {"9:", toldWord}, {"11: select 1", toldWord}, {"1", toldWord}, {"1 : select 1", toldWord}, {" 1: select 1", toldWord}, {"a: select 1", toldWord},
		{"-1: select 1", toldWord}, {"1;select 1", toldWord},
		// The words of the machine.
		{"open", "ok\n"}, {"  open", "ok\n"}, {"open   ", "ok\n"}, {"   open   \n", "ok\n"}, {"crash", "ok\n"}, {" crash 1   2  3 ", "ok\n"}, {"arm 1", "ok\n"}, {"  arm   0 ", "ok\n"}, {"arm -1", "ok\n"}, {"arm 3 1 2 3", "ok\n"},
		{"arm", toldWord}, {"arms 1", toldWord}, {"arm x", toldWord}, {"arm 1 x", toldWord}, {"arm 1,2", toldWord}, {"crash x", toldWord}, {"crash 1 2 -", toldWord}, {"crashed", toldWord}, {"arm1", toldWord}, {"crash1", toldWord},
		// The last line need not be ended.
		{"open\nopen", "ok\nerror 22 at 0\n"}, {"open\nopen\n", "ok\nerror 22 at 0\n"}, {"open\n\n1:select 1", "ok\n" + toldOne},
		{"1:select 1\n", "error 27 at 0\n"}, {"wait\nopen\nwait\n1:select 1\nwait", toldWord + "ok\n" + toldWord + toldOne + toldWord},
	})
	for session := 1; session <= impl.MaxSessions; session++ {
		wantTold(t, []scriptCase{{fmt.Sprintf("open\n%d:select 1", session), "ok\n" + toldOne}})
	}
}

func TestScriptNumbers(t *testing.T) {
	t.Parallel()
	for word, ok := range map[string]bool{
		"0": true, "7": true, "-0": true, "-7": true, "007": true, "999999999": true, "-999999999": true, "000000000": true, "123456789": true,
		"1000000000": false, "-1000000000": false, "0000000000": false, "-": false, "--1": false, "+1": false, "1-": false, "1.0": false, "0x1": false, "1e3": false, "٣": false, "1_0": false, "−1": false,
	} {
		want := map[bool]string{true: "ok\n", false: toldWord}[ok]
		wantTold(t, []scriptCase{{"arm " + word, want}, {"crash " + word, want}, {"arm 5 " + word, want}, {"crash 1 2 " + word + " 3", want}})
	}
	// The numbers are told to the machine: the step to crash at, and what of each write is done.
	steps := "open\n1:create table t (a int)\narm %s\n1:insert into t values (1)\nopen\n1:select a from t\n"
	there, not := "a\n1\n1 rows\n", "a\n0 rows\n"
	// The statement writes three blocks of the log, then syncs them.
	for word, told := range map[string]string{
		"-1": "1 rows\nerror 22 at 0\n" + there, "-5 1": "1 rows\nerror 22 at 0\n" + there, "4": "1 rows\nerror 22 at 0\n" + there, "999999999": "1 rows\nerror 22 at 0\n" + there,
		"0": "error 27 at 0\nok\n" + not, "2 8 8": "error 27 at 0\nok\n" + not, "3": "error 27 at 0\nok\n" + not, "3 8 8": "error 27 at 0\nok\n" + not, "3 8 0 8": "error 27 at 0\nok\n" + not, "3 8 8 0": "error 27 at 0\nok\n" + not,
		"3 8 8 8": "error 27 at 0\nok\n" + there, "3 008 17 26": "error 27 at 0\nok\n" + there, "3 -9 -18 8": "error 27 at 0\nok\n" + there, "03 8 8 8 0": "error 27 at 0\nok\n" + there,
	} {
		wantTold(t, []scriptCase{{fmt.Sprintf(steps, word), "ok\nok\nok\n" + told}})
	}
}

func TestScriptAnswers(t *testing.T) {
	t.Parallel()
	wantTold(t, []scriptCase{
		{"open\n1:create table t (a int, b text, c decimal, d boolean, e date)\n1:insert into t values (1, 'x', 1.5, true, date '2020-02-29'), (-1, '', -2, false, null)\n1:select * from t\n1:update t set a = 0\n1:delete from t where a = 1\n1:explain select a from t\n1:select a from t where a = 9\n",
			"ok\nok\n2 rows\na|b|c|d|e\n1|x|1.5|true|2020-02-29\n-1||-2|false|NULL\n2 rows\n2 rows\n0 rows\nproject where #0 (est 2 cost 4)\n  scan table 1 (est 2 cost 2)\na\n0 rows\n"},
		{"open\n1:begin\n1:savepoint s\n1:rollback to s\n1:release s\n1:commit\n1:begin serializable\n1:rollback\n1:checkpoint\n1:commit\n", "ok\nok\nok\nok\nok\nok\nok\nok\nok\nerror 22 at 0\n"},
		{"open\n1:select\n1: select 'x\n1:  select z\n1:create table t (a int);\n1:insert into t values (1, 2)\n", "ok\nerror 3 at 6\nerror 2 at 8\nerror 7 at 9\nok\nerror 12 at 21\n"},
		{"open\n1:select 1 -- a note # 1:\n2:#\n3:-- nothing\n", "ok\n" + toldOne + "error 2 at 0\nerror 3 at 10\n"},
		// The signs that end a part or a line are written with a backslash, in names and in values.
		{"open\n1:select 'a|b', 'a\\b', '\\|', '' as \"|\\|\", 'a\\nb', '\\\\' as \"\\\"\n", "ok\ncolumn1|column2|column3|\\|\\\\\\||column5|\\\\\na\\|b|a\\\\b|\\\\\\|||a\\\\nb|\\\\\\\\\n1 rows\n"},
		{"open\n1:select 'a\tb\rc\x00d''e\"f' as x\n", "ok\nx\na\tb\rc\x00d'e\"f\n1 rows\n"},
	})
}

// TestScriptBreaks: no literal of a line can hold a byte 10.
func TestScriptBreaks(t *testing.T) {
	t.Parallel()
	wantTold(t, []scriptCase{{"open\n1:select 'a\nb'\n", "ok\nerror 2 at 7\n" + toldWord}})
}

func TestScriptMaxScript(t *testing.T) {
	t.Parallel()
	const tooBig = "error 5 at 0\n"
	begin := "open\n1:select 1\n#"
	for _, size := range []int{impl.MaxScript - 1, impl.MaxScript, impl.MaxScript + 1, 10 * impl.MaxScript} {
		want := "ok\n" + toldOne
		if size > impl.MaxScript {
			want = tooBig
		}
		wantTold(t, []scriptCase{{begin + strings.Repeat("x", size-len(begin)), want}, {begin[:len(begin)-1] + strings.Repeat("\n", size-len(begin)+1), want}})
	}
	for lines := impl.MaxOps - 1; lines <= impl.MaxOps+1; lines++ {
		wants := []string{"ok\n" + strings.Repeat("error 22 at 0\n", lines-1), strings.Repeat(toldWord, lines), "ok\n" + strings.Repeat(toldOne, lines-1)}
		if lines > impl.MaxOps {
			wants = []string{tooBig, tooBig, tooBig}
		}
		wantTold(t, []scriptCase{
			{strings.Repeat("open\n", lines), wants[0]}, {strings.Repeat("wait\n# and so on\n\n", lines), wants[1]}, {"open\n" + strings.Repeat("   \n3:select 1\n", lines-1), wants[2]},
		})
	}
}

// TestScriptMaxTold has an answer of MaxTold bytes, and of one more.
func TestScriptMaxTold(t *testing.T) {
	t.Parallel()
	// Each row is told in 251 bytes, each answer in 500 of them, 4 bytes of its name and 9 of its count.
	begin := "open\n1:create table t (a text)\n"
	told := "ok\nok\n"
	for range 10 {
		begin += "1:insert into t values ('" + strings.Repeat("m", 250) + "')" + strings.Repeat(", ('"+strings.Repeat("m", 250)+"')", 9) + "\n"
		told += "10 rows\n"
	}
	all := "1:select a as abc from t, (select 1 as n union all select 2 union all select 3 union all select 4 union all select 5) as q\n"
	answer := "abc\n" + strings.Repeat(strings.Repeat("m", 250)+"\n", 500) + "500 rows\n"
	begin, told = begin+strings.Repeat(all, 3), told+strings.Repeat(answer, 3)
	// What is left is told by some rows more, but for the last bytes, which a text tells.
	count := (impl.MaxTold - len(told) - 26) / 251
	begin += fmt.Sprintf("1:select a from t limit %d\n", count)
	told += "a\n" + strings.Repeat(strings.Repeat("m", 250)+"\n", count) + fmt.Sprintf("%d rows\n", count)
	left := impl.MaxTold - len(told) - len("x\n\n1 rows\n")
	for size := left - 1; size <= left+2; size++ {
		want := told + "x\n" + strings.Repeat("z", size) + "\n1 rows\n"
		if size > left {
			want = "error 5 at 0\n"
		}
		if got := impl.RunScript(begin + "1:select '" + strings.Repeat("z", size) + "' as x\n"); got != want {
			t.Errorf("%d bytes, not %d: %.100q", len(got), len(want), got)
		}
	}
}

// TestScriptFarTooMuch tells nothing of answers that would be far too long.
func TestScriptFarTooMuch(t *testing.T) {
	t.Parallel()
	script := "open\n1:create table t (a text)\n"
	for range 4 {
		script += "1:insert into t values ('" + strings.Repeat("𝄞", 255) + "')" + strings.Repeat(", ('"+strings.Repeat("𝄞", 255)+"')", 4) + "\n"
	}
	script += strings.Repeat("1:select t.a, u.a from t, t as u\n", 100)
	wantTold(t, []scriptCase{{script, "error 5 at 0\n"}})
}
