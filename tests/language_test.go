package tests

import (
	"bytes"
	"go/ast"
	"go/format"
	"go/parser"
	"go/token"
	"os"
	"path/filepath"
	"slices"
	"strconv"
	"strings"
	"testing"
)

// longestFunction is how many lines a function of the program may have.
const longestFunction = 60

// allowedImports is what the program may take from the library.
var allowedImports = strings.Fields("bytes cmp container/heap errors iter maps math math/bits slices sort strconv strings sync sync/atomic unicode unicode/utf8")

func programFiles(t *testing.T) []string {
	files, err := filepath.Glob("../impl/*")
	if err != nil || len(files) == 0 {
		t.Fatal("no files of the program:", err)
	}
	return files
}

func TestTheProgramKeepsToItsLanguage(t *testing.T) {
	for _, name := range programFiles(t) {
		text, err := os.ReadFile(name)
		if err != nil {
			t.Fatal(err)
		}
		files := token.NewFileSet()
		file, err := parser.ParseFile(files, name, text, parser.ParseComments)
		if err != nil {
			t.Fatal(err)
		}
		if laid, err := format.Source(text); err != nil || !bytes.Equal(laid, text) {
			t.Errorf("%s: not in gofmt's layout", name)
		}
		checkImports(t, name, file)
		checkComments(t, name, file)
		checkLengths(t, name, files, file)
	}
}

func checkImports(t *testing.T, name string, file *ast.File) {
	for _, x := range file.Imports {
		if path, err := strconv.Unquote(x.Path.Value); err != nil || !slices.Contains(allowedImports, path) {
			t.Errorf("%s: imports %s", name, x.Path.Value)
		}
	}
}

func checkComments(t *testing.T, name string, file *ast.File) {
	for _, group := range file.Comments {
		for _, c := range group.List {
			if strings.HasPrefix(c.Text, "//go:") || strings.HasPrefix(c.Text, "// +build") {
				t.Errorf("%s: %s", name, c.Text)
			}
		}
	}
}

func checkLengths(t *testing.T, name string, files *token.FileSet, file *ast.File) {
	for _, d := range file.Decls {
		f, ok := d.(*ast.FuncDecl)
		if !ok {
			continue
		}
		if lines := files.Position(f.End()).Line - files.Position(f.Pos()).Line + 1; lines > longestFunction {
			t.Errorf("%s: %s has %d lines", name, f.Name.Name, lines)
		}
	}
}
