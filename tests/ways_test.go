package tests

import (
	"go/ast"
	"go/parser"
	"go/token"
	"slices"
	"testing"
)

func hasNode(t *testing.T, path string, is func(ast.Node) bool) bool {
	f, err := parser.ParseFile(token.NewFileSet(), path, nil, parser.SkipObjectResolution)
	if err != nil {
		t.Fatal(err)
	}
	found := false
	ast.Inspect(f, func(n ast.Node) bool {
		found = found || n != nil && is(n)
		return true
	})
	return found
}

func hasTypeSwitch(t *testing.T, path string) bool {
	return hasNode(t, path, func(n ast.Node) bool {
		_, is := n.(*ast.TypeSwitchStmt)
		return is
	})
}

func hasBranch(t *testing.T, path string, tok token.Token) bool {
	return hasNode(t, path, func(n ast.Node) bool {
		b, is := n.(*ast.BranchStmt)
		return is && b.Tok == tok
	})
}

// hasFunctionField asks for a struct of the file with a function in a field,
// the function's type written there or named in the file.
func hasFunctionField(t *testing.T, path string) bool {
	named := map[string]bool{}
	hasNode(t, path, func(n ast.Node) bool {
		if spec, is := n.(*ast.TypeSpec); is {
			_, named[spec.Name.Name] = spec.Type.(*ast.FuncType)
		}
		return false
	})
	return hasNode(t, path, func(n ast.Node) bool {
		s, is := n.(*ast.StructType)
		return is && slices.ContainsFunc(s.Fields.List, func(f *ast.Field) bool {
			if name, is := f.Type.(*ast.Ident); is {
				return named[name.Name]
			}
			_, is := f.Type.(*ast.FuncType)
			return is
		})
	})
}

// hasRangeOverFunction asks for a range over what a function of the file makes
// as an iterator.
func hasRangeOverFunction(t *testing.T, path string) bool {
	makes := map[string]bool{}
	hasNode(t, path, func(n ast.Node) bool {
		if f, is := n.(*ast.FuncDecl); is && f.Type.Results != nil && len(f.Type.Results.List) == 1 {
			makes[f.Name.Name] = iteratorType(f.Type.Results.List[0].Type)
		}
		return false
	})
	return hasNode(t, path, func(n ast.Node) bool {
		r, is := n.(*ast.RangeStmt)
		if !is {
			return false
		}
		call, is := r.X.(*ast.CallExpr)
		if !is {
			return false
		}
		made, is := call.Fun.(*ast.Ident)
		return is && makes[made.Name]
	})
}

func iteratorType(e ast.Expr) bool {
	switch x := e.(type) {
	case *ast.FuncType:
		return true
	case *ast.IndexExpr:
		return iteratorType(x.X)
	case *ast.IndexListExpr:
		return iteratorType(x.X)
	case *ast.SelectorExpr:
		from, is := x.X.(*ast.Ident)
		return is && from.Name == "iter"
	}
	return false
}

func hasCall(t *testing.T, path string, name string) bool {
	return hasNode(t, path, func(n ast.Node) bool {
		call, is := n.(*ast.CallExpr)
		if !is {
			return false
		}
		called, is := call.Fun.(*ast.Ident)
		return is && called.Name == name
	})
}

// hasCallOf asks for a call of what another package or value has by that name.
func hasCallOf(t *testing.T, path string, of string, name string) bool {
	return hasNode(t, path, func(n ast.Node) bool {
		call, is := n.(*ast.CallExpr)
		if !is {
			return false
		}
		called, is := call.Fun.(*ast.SelectorExpr)
		if !is {
			return false
		}
		owner, is := called.X.(*ast.Ident)
		return is && owner.Name == of && called.Sel.Name == name
	})
}

// structsOf are the names of the structs that the file declares.
func structsOf(t *testing.T, path string) map[string]bool {
	out := map[string]bool{}
	hasNode(t, path, func(n ast.Node) bool {
		if spec, is := n.(*ast.TypeSpec); is {
			_, out[spec.Name.Name] = spec.Type.(*ast.StructType)
		}
		return false
	})
	return out
}

func hasMapOfStructs(t *testing.T, path string) bool {
	structs := structsOf(t, path)
	return hasNode(t, path, func(n ast.Node) bool {
		m, is := n.(*ast.MapType)
		if !is {
			return false
		}
		key, is := m.Key.(*ast.Ident)
		return is && structs[key.Name]
	})
}

// hasStructCompared asks for a struct of the file, written out, on one side of
// a == or !=.
func hasStructCompared(t *testing.T, path string) bool {
	structs := structsOf(t, path)
	writtenOut := func(e ast.Expr) bool {
		literal, is := ast.Unparen(e).(*ast.CompositeLit)
		if !is {
			return false
		}
		name, is := literal.Type.(*ast.Ident)
		return is && structs[name.Name]
	}
	return hasNode(t, path, func(n ast.Node) bool {
		b, is := n.(*ast.BinaryExpr)
		return is && (b.Op == token.EQL || b.Op == token.NEQ) && (writtenOut(b.X) || writtenOut(b.Y))
	})
}
