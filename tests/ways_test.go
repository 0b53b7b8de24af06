package tests

import (
	"go/ast"
	"go/parser"
	"go/token"
	"testing"
)

func hasTypeSwitch(t *testing.T, path string) bool {
	f, err := parser.ParseFile(token.NewFileSet(), path, nil, parser.SkipObjectResolution)
	if err != nil {
		t.Fatal(err)
	}
	found := false
	ast.Inspect(f, func(n ast.Node) bool {
		if _, ok := n.(*ast.TypeSwitchStmt); ok {
			found = true
		}
		return true
	})
	return found
}
