package tests

import (
	"fmt"
	"slices"
	"sort"
	"strings"
	"testing"

	"loop.example/g00001/impl"
)

// codeNames are the codes by their names.
var codeNames = map[string]int{
	"ErrBad": 1, "ErrToken": 2, "ErrSyntax": 3, "ErrDeep": 4, "ErrBig": 5, "ErrTable": 6, "ErrColumn": 7, "ErrMany": 8, "ErrExists": 9, "ErrType": 10,
	"ErrGroup": 11, "ErrWidth": 12, "ErrOverflow": 13, "ErrZero": 14, "ErrCast": 15, "ErrRows": 16, "ErrNull": 17, "ErrUnique": 18, "ErrCheck": 19, "ErrConflict": 20,
	"ErrDanger": 21, "ErrState": 22, "ErrPoint": 23, "ErrBusy": 24, "ErrFull": 25, "ErrIO": 26, "ErrDown": 27, "ErrCorrupt": 28, "ErrFuel": 29, "ErrWord": 30,
}

// toldWanted is what stands behind the arrow of a line, as a script answers it: lines with ; between, or the name of a code
// and a position, which is 0 where there is none.
func toldWanted(text string) string {
	words := strings.Fields(text)
	if len(words) > 0 && codeNames[words[0]] > 0 {
		return fmt.Sprintf("error %d at %s\n", codeNames[words[0]], append(words[1:], "0")[0])
	}
	told := ""
	for _, line := range strings.Split(text, ";") {
		told += strings.TrimPrefix(line, " ") + "\n"
	}
	return told
}

// engineLines reads a script with its answers, such as: open -> ok; 1: select 1 as a -> a; 1; 1 rows. Without an arrow the answer
// is ok. A line that is no operation is refused here.
func engineLines(t *testing.T, text string) (ops []impl.EngineOp, want []string) {
	t.Helper()
	for _, line := range strings.Split(text, "\n") {
		line = strings.TrimSpace(line)
		if line == "" {
			continue
		}
		said, answer, there := strings.Cut(line, " -> ")
		if !there {
			answer = "ok"
		}
		op, ok := wantedOpLine(strings.TrimSpace(said))
		if !ok {
			t.Fatalf("no operation: %s", line)
		}
		ops, want = append(ops, op), append(want, toldWanted(answer))
	}
	return ops, want
}

// wantScript asks EngineRun for the answers that a script has beside its lines, and RunScript for all of them.
func wantScript(t *testing.T, text string) []impl.EngineObs {
	t.Helper()
	ops, want := engineLines(t, text)
	got, code := impl.EngineRun(ops)
	if code != impl.OK || len(got) != len(want) {
		t.Fatalf("%d, %d answers", code, len(got))
	}
	for i := range got {
		if told := toldEngineObs(ops[i], got[i]); told != want[i] {
			t.Fatalf("%s%swant\n%s", toldEngineOps(ops[:i+1]), told, want[i])
		}
		if fault := overfull(ops[i], got[i]); fault != "" {
			t.Errorf("%s%+v: %s", toldEngineOps(ops[:i+1]), got[i], fault)
		}
	}
	if told := impl.RunScript(scriptText(ops)); told != strings.Join(want, "") {
		t.Errorf("%sis told\n%s", toldEngineOps(ops), told)
	}
	return got
}

// scriptText writes operations as lines.
func scriptText(ops []impl.EngineOp) string {
	var text strings.Builder
	for _, op := range ops {
		switch op.Kind {
		case impl.EStatement:
			fmt.Fprintf(&text, "%d:%s\n", op.Session, op.Text)
		case impl.EOpen:
			text.WriteString("open\n")
		default:
			numbers := op.Choices
			if op.Kind == impl.EArm {
				numbers = append([]int{op.N}, op.Choices...)
			}
			text.WriteString(strings.TrimSpace(map[int]string{impl.EArm: "arm ", impl.ECrash: "crash "}[op.Kind]+strings.Trim(fmt.Sprint(numbers), "[]")) + "\n")
		}
	}
	return text.String()
}

// overfull tells what of an answer should be zero.
func overfull(op impl.EngineOp, o impl.EngineObs) string {
	verb := verbOf(op)
	isQuery, isChange := verb == "op 27" && o.Code == 0, (verb == "op 40" || verb == "op 46" || verb == "op 48") && o.Code == 0
	switch {
	case o.Code == 0 && o.Pos != 0:
		return "a position without a code"
	case !isQuery && !isChange && o.Count != 0 || isQuery && o.Count != len(o.Rows):
		return "Count"
	case !isQuery && len(o.Names)+len(o.Rows) > 0 || isQuery && len(o.Names) == 0:
		return "Names or Rows"
	case (verb != "op 63" || o.Code != 0) != (o.Text == ""):
		return "Text"
	}
	return ""
}

// toldEngineObs is what a script tells of an answer, chapter 17 once more.
func toldEngineObs(op impl.EngineOp, o impl.EngineObs) string {
	if o.Code != impl.OK {
		return fmt.Sprintf("error %d at %d\n", o.Code, o.Pos)
	}
	lined := func(parts []string) string {
		for i := range parts {
			parts[i] = strings.ReplaceAll(strings.ReplaceAll(strings.ReplaceAll(parts[i], `\`, `\\`), "|", `\|`), "\n", `\n`)
		}
		return strings.Join(parts, "|") + "\n"
	}
	switch verbOf(op) {
	case "op 27":
		told := lined(append([]string(nil), o.Names...))
		for _, row := range o.Rows {
			var parts []string
			for _, v := range row {
				parts = append(parts, impl.Plain(v))
			}
			told += lined(parts)
		}
		return told + fmt.Sprintf("%d rows\n", o.Count)
	case "op 40", "op 46", "op 48":
		return fmt.Sprintf("%d rows\n", o.Count)
	case "op 63":
		return o.Text
	}
	return "ok\n"
}

// wantedOpLine is the operation that a line of a script is, chapter 17 once more.
func wantedOpLine(line string) (impl.EngineOp, bool) {
	if len(line) > 1 && strings.Contains("1234", line[:1]) && line[1] == ':' {
		return statementOp(int(line[0]-'0'), line[2:]), true
	}
	var words []string
	for _, word := range strings.Split(line, " ") {
		if word != "" {
			words = append(words, word)
		}
	}
	var numbers []int
	for _, word := range words[1:] {
		digits := strings.TrimPrefix(word, "-")
		if len(digits) < 1 || len(digits) > 9 || strings.Trim(digits, "0123456789") != "" {
			return impl.EngineOp{}, false
		}
		numbers = append(numbers, numbersIn([]string{word})...)
	}
	switch {
	case words[0] == "open" && len(words) == 1:
		return impl.EngineOp{Kind: impl.EOpen}, true
	case words[0] == "crash":
		return impl.EngineOp{Kind: impl.ECrash, Choices: numbers}, true
	case words[0] == "arm" && len(numbers) > 0:
		return impl.EngineOp{Kind: impl.EArm, N: numbers[0], Choices: numbers[1:]}, true
	}
	return impl.EngineOp{}, false
}

// engineSteps is how many steps the last operation of a script takes: with so many ahead of the crash it is done.
func engineSteps(t *testing.T, ops []impl.EngineOp) int {
	t.Helper()
	last := len(ops) - 1
	return sort.Search(2000, func(steps int) bool {
		got, code := impl.EngineRun(slices.Concat(ops[:last], []impl.EngineOp{{Kind: impl.EArm, N: steps}, ops[last]}))
		if code != impl.OK {
			t.Fatalf("%d", code)
		}
		end := got[last+1].Code
		if end != impl.ErrDown && end != impl.OK {
			t.Fatalf("%s%d", toldEngineOps(ops), end)
		}
		return end == impl.OK
	})
}

// storeSteps is how many steps the last of some commits takes in a store that was opened; each has its batch of changes, or is
// a single operation that is no change.
func storeSteps(batches ...[]impl.StoreOp) int {
	m := newMachine()
	m.observed(impl.StoreOp{Kind: impl.SOpen})
	steps := 0
	for _, batch := range batches {
		before := m.writes + m.syncs
		if len(batch) != 1 || batch[0].Kind <= impl.SDrop && batch[0].Kind != impl.SOpen {
			batch = append(slices.Clone(batch), impl.StoreOp{Kind: impl.SCommit})
		}
		for _, op := range batch {
			m.observed(op)
		}
		steps = m.writes + m.syncs - before
	}
	return steps
}

// entryPut is the change that a definition makes, whose normal form is the text.
func entryPut(id int, mark byte, text string) impl.StoreOp {
	key, _ := wantedKeyBytes([]impl.Value{intv(0), intv(id)})
	return impl.StoreOp{Kind: impl.SPut, Key: key, Val: append([]byte{mark}, text...)}
}

func rowPut(table int, key []impl.Value, row ...impl.Value) impl.StoreOp {
	bytes, _ := wantedKeyBytes(append([]impl.Value{intv(table)}, key...))
	val, _ := wantedRowBytes(row)
	return impl.StoreOp{Kind: impl.SPut, Key: bytes, Val: val}
}

// dropOf is the change that takes away what another one has put.
func dropOf(put impl.StoreOp) impl.StoreOp { return impl.StoreOp{Kind: impl.SDrop, Key: put.Key} }
