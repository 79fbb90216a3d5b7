package tests

import (
	"go/ast"
	"go/parser"
	"go/token"
	"path/filepath"
	"slices"
	"testing"
)

// farReaching come to the tables of package unicode, which are greater than a call may reach (LANGUAGE.md, rule 3a).
func farReaching() []string {
	return []string{
		"ToUpper", "ToLower", "ToTitle", "Title", "EqualFold", "Fields", "FieldsSeq", "TrimSpace", "ToUpperSpecial", "ToLowerSpecial", "ToTitleSpecial",
	}
}

// nearReaching are the functions of package strconv that come neither to its tables of characters, which quote what an
// error tells of, nor to those of its powers.
func nearReaching() []string { return []string{"Itoa", "FormatInt", "FormatUint", "FormatBool"} }

func TestNoCallReachesGreatTables(t *testing.T) {
	files, err := filepath.Glob("../impl/*.go")
	if err != nil || len(files) == 0 {
		t.Fatalf("no files of the program: %v", err)
	}
	for _, name := range files {
		positions := token.NewFileSet()
		file, err := parser.ParseFile(positions, name, nil, parser.SkipObjectResolution)
		if err != nil {
			t.Fatal(err)
		}
		ast.Inspect(file, func(n ast.Node) bool {
			selector, ok := n.(*ast.SelectorExpr)
			if !ok {
				return true
			}
			from, ok := selector.X.(*ast.Ident)
			if !ok {
				return true
			}
			text := from.Name == "strings" || from.Name == "bytes"
			far := text && slices.Contains(farReaching(), selector.Sel.Name) || from.Name == "strconv" && !slices.Contains(nearReaching(), selector.Sel.Name)
			if from.Name == "unicode" || far {
				t.Errorf("%s: %s.%s", positions.Position(n.Pos()), from.Name, selector.Sel.Name)
			}
			return true
		})
	}
}
