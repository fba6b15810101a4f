package tests

import (
	"bytes"
	"go/ast"
	"go/format"
	"go/parser"
	"go/token"
	"os"
	"path/filepath"
	"slices"
	"strconv"
	"strings"
	"testing"
)

// longestFunction is how many lines a function of the program may have.
const longestFunction = 60

// allowedImports is what the program may take from the library.
var allowedImports = strings.Fields("bytes cmp container/heap errors iter maps math math/bits slices sort strconv strings sync sync/atomic unicode unicode/utf8")

func programFiles(t *testing.T) []string {
	files, err := filepath.Glob("../impl/*")
	if err != nil || len(files) == 0 {
		t.Fatal("no files of the program:", err)
	}
	return files
}

func TestTheProgramKeepsToItsLanguage(t *testing.T) {
	for _, name := range programFiles(t) {
		text, err := os.ReadFile(name)
		if err != nil {
			t.Fatal(err)
		}
		files := token.NewFileSet()
		file, err := parser.ParseFile(files, name, text, parser.ParseComments)
		if err != nil {
			t.Fatal(err)
		}
		if laid, err := format.Source(text); err != nil || !bytes.Equal(laid, text) {
			t.Errorf("%s: not in gofmt's layout", name)
		}
		checkImports(t, name, file)
		checkComments(t, name, file)
		checkLengths(t, name, files, file)
		checkVariables(t, name, file)
	}
}

func checkImports(t *testing.T, name string, file *ast.File) {
	for _, x := range file.Imports {
		if path, err := strconv.Unquote(x.Path.Value); err != nil || !slices.Contains(allowedImports, path) {
			t.Errorf("%s: imports %s", name, x.Path.Value)
		}
	}
}

func checkComments(t *testing.T, name string, file *ast.File) {
	for _, group := range file.Comments {
		for _, c := range group.List {
			if strings.HasPrefix(c.Text, "//go:") || strings.HasPrefix(c.Text, "// +build") {
				t.Errorf("%s: %s", name, c.Text)
			}
		}
	}
}

func checkLengths(t *testing.T, name string, files *token.FileSet, file *ast.File) {
	for _, d := range file.Decls {
		f, ok := d.(*ast.FuncDecl)
		if !ok {
			continue
		}
		if lines := files.Position(f.End()).Line - files.Position(f.Pos()).Line + 1; lines > longestFunction {
			t.Errorf("%s: %s has %d lines", name, f.Name.Name, lines)
		}
	}
}

// madeOnce are the variables at package level that have no value of their own, as the document's chapter 'Ways' asks.
var madeOnce = []string{"readersOnce", "readersMade"}

// checkVariables asks that what stands at package level is a table that is written out, or an error of one text.
func checkVariables(t *testing.T, name string, file *ast.File) {
	for _, d := range file.Decls {
		list, ok := d.(*ast.GenDecl)
		if !ok || list.Tok != token.VAR {
			continue
		}
		for _, x := range list.Specs {
			v := x.(*ast.ValueSpec)
			for i, own := range v.Names {
				if !slices.Contains(madeOnce, own.Name) && (len(v.Values) != len(v.Names) || !writtenOut(v.Values[i])) {
					t.Errorf("%s: the variable %s has no value that is written out", name, own.Name)
				}
			}
		}
	}
}

// writtenOut tells whether a value is a literal, or made by errors.New of one.
func writtenOut(x ast.Expr) bool {
	switch x := x.(type) {
	case *ast.BasicLit, *ast.CompositeLit:
		return true
	case *ast.CallExpr:
		from, ok := x.Fun.(*ast.SelectorExpr)
		if !ok || len(x.Args) != 1 || from.Sel.Name != "New" {
			return false
		}
		pkg, ok := from.X.(*ast.Ident)
		return ok && pkg.Name == "errors" && writtenOut(x.Args[0])
	}
	return false
}
