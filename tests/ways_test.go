package tests

import (
	"go/ast"
	"go/parser"
	"go/token"
	"testing"
)

func hasNode(t *testing.T, path string, is func(ast.Node) bool) bool {
	f, err := parser.ParseFile(token.NewFileSet(), path, nil, parser.SkipObjectResolution)
	if err != nil {
		t.Fatal(err)
	}
	found := false
	ast.Inspect(f, func(n ast.Node) bool {
		found = found || n != nil && is(n)
		return true
	})
	return found
}

func hasTypeSwitch(t *testing.T, path string) bool {
	return hasNode(t, path, func(n ast.Node) bool {
		_, is := n.(*ast.TypeSwitchStmt)
		return is
	})
}

func hasBranch(t *testing.T, path string, tok token.Token) bool {
	return hasNode(t, path, func(n ast.Node) bool {
		b, is := n.(*ast.BranchStmt)
		return is && b.Tok == tok
	})
}
