// Package ways_test looks at the source of the layers: the language features that their chapters ask for, and what they import.
package ways_test

import (
	"go/ast"
	"go/importer"
	"go/parser"
	"go/token"
	"go/types"
	"path/filepath"
	"slices"
	"strings"
	"testing"
)

// layers are those that are built, the layers that they may call, and the features that their chapters ask for.
var layers = []struct {
	name  string
	calls []string
	ways  []string
}{
	{"plane", []string{"api"}, []string{"embedding", "promoted", "range-function", "map by arrays", "label", "generic-function"}},
	{"faces", []string{"api", "plane"}, []string{"embedding", "promoted", "range-function", "map by arrays", "label", "generic-function"}},
	{"cartoon", []string{"api", "plane", "faces"}, []string{"map of functions", "panic", "recover", "defer", "closure", "array", "range-function", "variadic", "function as parameter"}},
	{"days", []string{"api", "cartoon"}, []string{"set with methods", "range-function", "closure", "map", "struct-compared", "panic", "recover", "defer"}},
	{"order", []string{"api"}, []string{"set with methods", "closure", "map", "range-function", "method-value", "array", "label", "generic-function"}},
	{"pigment", []string{"api"}, []string{"function-field", "array of functions in fields", "array-compared", "closure", "range-function", "panic", "recover", "defer"}},
	{"crew", []string{"api", "cartoon", "days", "pigment"}, []string{"array of structs", "range-function", "closure", "map", "delete", "slice of functions", "panic", "recover", "defer", "assertion", "generic-function", "struct-compared"}},
	{"reading", []string{"api", "order"}, []string{"array", "label", "range-function", "function-field", "map of functions in fields", "generic-function"}},
	{"keep", []string{"api"}, []string{"array", "array-compared", "method-expression", "map of functions", "type-switch", "closure", "panic", "recover", "defer", "generic-function"}},
	{"site", []string{"api", "plane", "faces", "cartoon", "days", "order", "pigment", "crew", "reading", "keep"}, []string{"map of functions", "method-expression", "closure", "panic", "recover", "defer", "array", "embedding", "promoted"}},
}

// library is what LANGUAGE.md allows of the standard library.
var library = []string{"bytes", "cmp", "container/heap", "errors", "iter", "maps", "math", "math/bits", "slices", "sort", "strconv", "strings", "sync", "sync/atomic", "unicode", "unicode/utf8"}

// longest is how many lines a function may have.
const longest = 60

// source reads the packages of the module from their files, so that their types are known.
type source struct {
	files *token.FileSet
	info  *types.Info
	trees map[string][]*ast.File
	known map[string]*types.Package
	other types.Importer
}

func (s source) Import(path string) (*types.Package, error) {
	folder, own := strings.CutPrefix(path, "giornata/")
	if !own {
		return s.other.Import(path)
	}
	if s.known[path] != nil {
		return s.known[path], nil
	}
	names, err := filepath.Glob(filepath.Join("..", folder, "*.go"))
	if err != nil {
		return nil, err
	}
	for _, name := range names {
		if strings.HasSuffix(name, "_test.go") {
			continue
		}
		tree, err := parser.ParseFile(s.files, name, nil, 0)
		if err != nil {
			return nil, err
		}
		s.trees[path] = append(s.trees[path], tree)
	}
	p, err := (&types.Config{Importer: s}).Check(path, s.files, s.trees[path], s.info)
	s.known[path] = p
	return p, err
}

func newSource() source {
	s := source{files: token.NewFileSet(), trees: map[string][]*ast.File{}, known: map[string]*types.Package{}, info: &types.Info{
		Types: map[ast.Expr]types.TypeAndValue{}, Selections: map[*ast.SelectorExpr]*types.Selection{}, Uses: map[*ast.Ident]types.Object{}, Defs: map[*ast.Ident]types.Object{}}}
	s.other = importer.ForCompiler(s.files, "source", nil)
	return s
}

// Ways: the features that the chapters ask for.
func TestWays(t *testing.T) {
	s := newSource()
	for _, layer := range layers {
		path := "giornata/" + layer.name
		if _, err := s.Import(path); err != nil {
			t.Fatal(err)
		}
		found := map[string]bool{}
		for _, tree := range s.trees[path] {
			ast.Inspect(tree, func(n ast.Node) bool {
				found[s.way(n)] = true
				found["method-value"] = found["method-value"] || s.rangesMethod(n)
				return true
			})
		}
		for _, word := range layer.ways {
			if !found[word] {
				t.Errorf("package %s has no %s", layer.name, word)
			}
		}
	}
}

// A layer calls those layers alone that the document lists, and LANGUAGE.md's packages; functions are not too long.
func TestLanguage(t *testing.T) {
	s := newSource()
	for _, layer := range layers {
		path := "giornata/" + layer.name
		if _, err := s.Import(path); err != nil {
			t.Fatal(err)
		}
		allowed := slices.Clone(library)
		for _, name := range layer.calls {
			allowed = append(allowed, "giornata/"+name)
		}
		for _, tree := range s.trees[path] {
			for _, x := range tree.Imports {
				if name := strings.Trim(x.Path.Value, `"`); !slices.Contains(allowed, name) {
					t.Errorf("package %s imports %s", layer.name, name)
				}
			}
			for _, x := range tree.Decls {
				if f, ok := x.(*ast.FuncDecl); ok && s.line(f.End())-s.line(f.Pos()) >= longest {
					t.Errorf("the function %s of package %s has more than %d lines", f.Name.Name, layer.name, longest)
				}
			}
		}
	}
}

func (s source) line(p token.Pos) int { return s.files.Position(p).Line }

// way returns the word for a feature that a part of the source is.
func (s source) way(n ast.Node) string {
	switch x := n.(type) {
	case *ast.StructType:
		for _, f := range x.Fields.List {
			if len(f.Names) == 0 {
				return "embedding"
			}
			if _, ok := f.Type.(*ast.FuncType); ok {
				return "function-field"
			}
		}
	case *ast.SelectorExpr:
		l := s.info.Selections[x]
		if l != nil && l.Kind() != types.FieldVal && len(l.Index()) > 1 {
			return "promoted"
		}
		if l != nil && l.Kind() == types.MethodExpr {
			return "method-expression"
		}
	case *ast.RangeStmt:
		if _, ok := s.info.Types[x.X].Type.Underlying().(*types.Signature); ok {
			return "range-function"
		}
	case *ast.MapType:
		if _, ok := s.info.Types[x.Key].Type.Underlying().(*types.Array); ok {
			return "map by arrays"
		}
		if _, ok := s.info.Types[x.Value].Type.Underlying().(*types.Signature); ok {
			return "map of functions"
		}
		if s.hasFunction(x.Value) {
			return "map of functions in fields"
		}
		return "map"
	case *ast.BinaryExpr:
		if x.Op == token.EQL {
			return s.compared(x.X)
		}
	case *ast.ArrayType:
		return s.list(x)
	case *ast.TypeAssertExpr:
		if x.Type != nil {
			return "assertion"
		}
	case *ast.TypeSwitchStmt:
		return "type-switch"
	case *ast.LabeledStmt:
		return "label"
	case *ast.DeferStmt:
		return "defer"
	case *ast.FuncLit:
		return "closure"
	case *ast.Ellipsis:
		return "variadic"
	case *ast.CallExpr:
		return s.builtin(x)
	case *ast.FuncDecl:
		return s.shape(x)
	}
	return ""
}

// list returns the word for a type of lists.
func (s source) list(x *ast.ArrayType) string {
	of := s.info.Types[x.Elt].Type.Underlying()
	_, isFunction := of.(*types.Signature)
	_, isStruct := of.(*types.Struct)
	switch {
	case x.Len == nil && isFunction:
		return "slice of functions"
	case x.Len != nil && s.hasFunction(x.Elt):
		return "array of functions in fields"
	case x.Len != nil && isStruct:
		return "array of structs"
	case x.Len != nil:
		return "array"
	}
	return ""
}

// compared returns the word for what is compared, if it is several values at once.
func (s source) compared(x ast.Expr) string {
	switch s.info.Types[x].Type.Underlying().(type) {
	case *types.Struct:
		return "struct-compared"
	case *types.Array:
		return "array-compared"
	}
	return ""
}

// hasFunction reports whether a type is a struct with a function in a field.
func (s source) hasFunction(x ast.Expr) bool {
	l, ok := s.info.Types[x].Type.Underlying().(*types.Struct)
	for i := 0; ok && i < l.NumFields(); i++ {
		if _, is := l.Field(i).Type().Underlying().(*types.Signature); is {
			return true
		}
	}
	return false
}

// rangesMethod reports whether a part of the source ranges over a method value.
func (s source) rangesMethod(n ast.Node) bool {
	x, ok := n.(*ast.RangeStmt)
	if !ok {
		return false
	}
	f, ok := x.X.(*ast.SelectorExpr)
	return ok && s.info.Selections[f] != nil && s.info.Selections[f].Kind() == types.MethodVal
}

// builtin returns the name of the built-in function that is called.
func (s source) builtin(x *ast.CallExpr) string {
	if f, ok := x.Fun.(*ast.Ident); ok {
		if b, ok := s.info.Uses[f].(*types.Builtin); ok {
			return b.Name()
		}
	}
	return ""
}

func (s source) shape(x *ast.FuncDecl) string {
	if x.Type.TypeParams != nil {
		return "generic-function"
	}
	if x.Recv != nil {
		if b, ok := s.info.Types[x.Recv.List[0].Type].Type.Underlying().(*types.Basic); ok && b.Info()&types.IsUnsigned != 0 {
			return "set with methods"
		}
	}
	for _, p := range x.Type.Params.List {
		if _, ok := p.Type.(*ast.FuncType); ok {
			return "function as parameter"
		}
	}
	return ""
}
