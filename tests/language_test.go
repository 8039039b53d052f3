package tests

import (
	"bytes"
	"go/ast"
	"go/format"
	"go/parser"
	"go/token"
	"os"
	"path/filepath"
	"strings"
	"testing"
)

// allowedImports and maxLines are the language page's.
const allowedImports = " bytes cmp container/heap errors iter maps math math/big math/bits slices sort strconv strings sync sync/atomic unicode unicode/utf8 "
const maxLines = 60

func TestProgramKeepsToTheLanguage(t *testing.T) {
	files, err := filepath.Glob("../impl/*")
	if err != nil || len(files) == 0 {
		t.Fatal("no program", err)
	}
	for _, name := range files {
		if strings.HasSuffix(name, "_test.go") {
			continue
		}
		if !strings.HasSuffix(name, ".go") {
			t.Errorf("%s is no Go file", name)
			continue
		}
		source, err := os.ReadFile(name)
		if err != nil {
			t.Fatal(err)
		}
		checkLayout(t, name, source)
		checkFile(t, name, source)
	}
}

func checkLayout(t *testing.T, name string, source []byte) {
	laid, err := format.Source(source)
	if err != nil {
		t.Fatal(name, err)
	}
	if !bytes.Equal(laid, source) {
		t.Errorf("%s: not in gofmt's layout", name)
	}
}

func checkFile(t *testing.T, name string, source []byte) {
	set := token.NewFileSet()
	file, err := parser.ParseFile(set, name, source, parser.ParseComments)
	if err != nil {
		t.Fatal(err)
	}
	for _, i := range file.Imports {
		if path := strings.Trim(i.Path.Value, `"`); !strings.Contains(allowedImports, " "+path+" ") {
			t.Errorf("%s: import of %s", name, path)
		}
	}
	for _, group := range file.Comments {
		for _, c := range group.List {
			if strings.HasPrefix(c.Text, "//go:") || strings.HasPrefix(c.Text, "// +build") {
				t.Errorf("%s: %s", name, c.Text)
			}
		}
	}
	for _, d := range file.Decls {
		f, ok := d.(*ast.FuncDecl)
		if ok && set.Position(f.End()).Line-set.Position(f.Pos()).Line >= maxLines {
			t.Errorf("%s: %s is too long", name, f.Name.Name)
		}
	}
}
