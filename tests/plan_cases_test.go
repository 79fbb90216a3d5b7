package tests

import (
	"regexp"
	"strings"
	"testing"

	"loop.example/g00001/impl"
)

// farmStats has 100 rows in t, 50 in u, 20 in "k 1", 200 in p.
func farmStats() impl.Stats {
	return impl.Stats{Tables: []impl.TableStats{
		{Id: 1, Rows: 100, Distinct: []int{100, 10, 20, 50, 5, 25}}, {Id: 3, Rows: 50, Distinct: []int{25, 10, 5, 50, 2, 0}},
		{Id: 4, Rows: 20, Distinct: []int{4}}, {Id: 5, Rows: 200, Distinct: []int{40, 100, 200, 8}},
	}}
}

var expectation = regexp.MustCompile(` \(est (\d+) cost (\d+)\)$`)

// toldChoice tells a physical plan in a line: a node as Explain does, with a dash for each node around it, Est and Cost with a colon between; of a QSeek A and B, too.
func toldChoice(f impl.Phys) string {
	var seeks []string
	for _, n := range f.Nodes {
		if n.Op == impl.QSeek {
			seeks = append(seeks, strings.Repeat("=", n.A)+map[int]string{0: "", 1: ">", 3: ">=", 4: "<", 12: "<=", 5: "> <", 7: ">= <", 13: "> <=", 15: ">= <="}[n.B])
		}
	}
	lines := strings.Split(strings.TrimSuffix(impl.Explain(f), "\n"), "\n")
	for i, line := range lines {
		text := strings.TrimLeft(line, " ")
		text = strings.Repeat("-", (len(line)-len(text))/2) + text
		if strings.Contains(text, "seek ") {
			text = strings.Replace(text, " where", " ["+seeks[0]+"]", 1)
			seeks = seeks[1:]
		}
		lines[i] = strings.Replace(expectation.ReplaceAllString(text, " $1:$2"), " where", "", 1)
	}
	return strings.Join(lines, "; ")
}

// choiceCase is a plan over the farm, and what is chosen.
type choiceCase struct{ plan, want string }

// wantChoices asks for what is chosen, the reference for the same, and for the plan's meaning.
func wantChoices(t *testing.T, x impl.Stats, cases []choiceCase) {
	t.Helper()
	s := farm(t)
	states := []impl.State{emptyState(s), packedState(s, 3), packedState(s, 9)}
	for _, c := range cases {
		p := readPlan(t, s, c.plan)
		if !impl.PlanOK(s, p) {
			t.Errorf("%s is not valid", c.plan)
			continue
		}
		f, code := wantChoice(t, s, x, p)
		if code != impl.OK || toldChoice(f) != c.want {
			t.Errorf("\n{%q, %q},", c.plan, toldChoice(f))
		}
		for _, st := range states {
			wantExecuted(t, s, st, p, f)
		}
	}
}

// fourStats has for each table of the farm a number of rows, and of values in each of its columns.
func fourStats(s impl.Schema, t, u, k, p [2]int) impl.Stats {
	var x impl.Stats
	for i, numbers := range [][2]int{t, u, k, p} {
		x.Tables = append(x.Tables, evenStats(s, numbers[0], numbers[1]).Tables[i])
	}
	return x
}
