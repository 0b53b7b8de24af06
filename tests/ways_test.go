package tests

import (
	"go/ast"
	"go/parser"
	"go/token"
	"testing"
)

func hasNode(t *testing.T, path string, is func(ast.Node) bool) bool {
	f, err := parser.ParseFile(token.NewFileSet(), path, nil, parser.SkipObjectResolution)
	if err != nil {
		t.Fatal(err)
	}
	found := false
	ast.Inspect(f, func(n ast.Node) bool {
		found = found || n != nil && is(n)
		return true
	})
	return found
}

func hasTypeSwitch(t *testing.T, path string) bool {
	return hasNode(t, path, func(n ast.Node) bool {
		_, is := n.(*ast.TypeSwitchStmt)
		return is
	})
}

func hasBranch(t *testing.T, path string, tok token.Token) bool {
	return hasNode(t, path, func(n ast.Node) bool {
		b, is := n.(*ast.BranchStmt)
		return is && b.Tok == tok
	})
}

// hasRangeOverFunction asks for a range over what a function of the file makes
// as an iterator.
func hasRangeOverFunction(t *testing.T, path string) bool {
	makes := map[string]bool{}
	hasNode(t, path, func(n ast.Node) bool {
		if f, is := n.(*ast.FuncDecl); is && f.Type.Results != nil && len(f.Type.Results.List) == 1 {
			makes[f.Name.Name] = iteratorType(f.Type.Results.List[0].Type)
		}
		return false
	})
	return hasNode(t, path, func(n ast.Node) bool {
		r, is := n.(*ast.RangeStmt)
		if !is {
			return false
		}
		call, is := r.X.(*ast.CallExpr)
		if !is {
			return false
		}
		made, is := call.Fun.(*ast.Ident)
		return is && makes[made.Name]
	})
}

func iteratorType(e ast.Expr) bool {
	switch x := e.(type) {
	case *ast.FuncType:
		return true
	case *ast.IndexExpr:
		return iteratorType(x.X)
	case *ast.IndexListExpr:
		return iteratorType(x.X)
	case *ast.SelectorExpr:
		from, is := x.X.(*ast.Ident)
		return is && from.Name == "iter"
	}
	return false
}
