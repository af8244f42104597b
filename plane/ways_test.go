package plane_test

import (
	"go/ast"
	"go/importer"
	"go/parser"
	"go/token"
	"go/types"
	"path/filepath"
	"slices"
	"strings"
	"testing"
)

// source reads the packages of the module from their files, so that their types are known.
type source struct {
	files *token.FileSet
	info  *types.Info
	trees map[string][]*ast.File
	other types.Importer
}

func (s source) Import(path string) (*types.Package, error) {
	folder, own := strings.CutPrefix(path, "giornata/")
	if !own {
		return s.other.Import(path)
	}
	names, err := filepath.Glob(filepath.Join("..", folder, "*.go"))
	if err != nil {
		return nil, err
	}
	for _, name := range names {
		if strings.HasSuffix(name, "_test.go") {
			continue
		}
		tree, err := parser.ParseFile(s.files, name, nil, 0)
		if err != nil {
			return nil, err
		}
		s.trees[path] = append(s.trees[path], tree)
	}
	return (&types.Config{Importer: s}).Check(path, s.files, s.trees[path], s.info)
}

// Ways: the features that the chapter asks for, and LANGUAGE.md's list of imports.
func TestWays(t *testing.T) {
	s := source{files: token.NewFileSet(), trees: map[string][]*ast.File{}, info: &types.Info{
		Types: map[ast.Expr]types.TypeAndValue{}, Selections: map[*ast.SelectorExpr]*types.Selection{}, Uses: map[*ast.Ident]types.Object{}, Defs: map[*ast.Ident]types.Object{}}}
	s.other = importer.ForCompiler(s.files, "source", nil)
	if _, err := s.Import("giornata/plane"); err != nil {
		t.Fatal(err)
	}
	found := map[string]bool{}
	for _, tree := range s.trees["giornata/plane"] {
		for _, x := range tree.Imports {
			checkImport(t, strings.Trim(x.Path.Value, `"`))
		}
		ast.Inspect(tree, func(n ast.Node) bool {
			if word := s.way(n); word != "" {
				found[word] = true
			}
			return true
		})
	}
	for _, word := range []string{"embedding", "promoted", "range-function", "map by arrays", "label", "generic-function"} {
		if !found[word] {
			t.Errorf("package plane has no %s", word)
		}
	}
}

func checkImport(t *testing.T, path string) {
	t.Helper()
	allowed := []string{"giornata/api", "bytes", "cmp", "container/heap", "errors", "iter", "maps", "math", "math/bits", "slices", "sort", "strconv", "strings", "sync", "sync/atomic", "unicode", "unicode/utf8"}
	if !slices.Contains(allowed, path) {
		t.Errorf("package plane imports %s", path)
	}
}

func (s source) way(n ast.Node) string {
	switch x := n.(type) {
	case *ast.StructType:
		for _, f := range x.Fields.List {
			if len(f.Names) == 0 {
				return "embedding"
			}
		}
	case *ast.SelectorExpr:
		if l := s.info.Selections[x]; l != nil && l.Kind() != types.FieldVal && len(l.Index()) > 1 {
			return "promoted"
		}
	case *ast.RangeStmt:
		if _, ok := s.info.Types[x.X].Type.Underlying().(*types.Signature); ok {
			return "range-function"
		}
	case *ast.MapType:
		if _, ok := s.info.Types[x.Key].Type.Underlying().(*types.Array); ok {
			return "map by arrays"
		}
	case *ast.LabeledStmt:
		return "label"
	case *ast.FuncDecl:
		if x.Type.TypeParams != nil {
			return "generic-function"
		}
	}
	return ""
}
