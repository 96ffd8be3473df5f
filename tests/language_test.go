package tests

import (
	"bytes"
	"go/ast"
	"go/format"
	"go/parser"
	"go/token"
	"os"
	"path/filepath"
	"strconv"
	"strings"
	"testing"
)

const (
	permittedImports = " bytes cmp container/heap errors iter maps math math/bits slices sort strconv strings sync sync/atomic unicode unicode/utf8 "
	mostLines        = 60
)

// TestLanguage checks the rules of the program's language that its text shows.
func TestLanguage(t *testing.T) {
	names, err := filepath.Glob("../impl/*")
	if err != nil || len(names) == 0 {
		t.Fatalf("package impl is not there: %v", err)
	}
	for _, name := range names {
		if !strings.HasSuffix(name, ".go") {
			t.Errorf("%s is no Go file", name)
			continue
		}
		text, err := os.ReadFile(name)
		if err != nil {
			t.Fatal(err)
		}
		checkLayout(t, name, text)
		checkSyntax(t, name, text)
	}
}

func checkLayout(t *testing.T, name string, text []byte) {
	if pretty, err := format.Source(text); err != nil || !bytes.Equal(pretty, text) {
		t.Errorf("%s does not have gofmt's layout", name)
	}
	for _, directive := range []string{"//go:", "// +build"} {
		if bytes.Contains(text, []byte(directive)) {
			t.Errorf("%s has a directive", name)
		}
	}
}

func checkSyntax(t *testing.T, name string, text []byte) {
	files := token.NewFileSet()
	file, err := parser.ParseFile(files, name, text, parser.SkipObjectResolution)
	if err != nil {
		t.Fatal(err)
	}
	for _, i := range file.Imports {
		path, err := strconv.Unquote(i.Path.Value)
		if err != nil || !strings.Contains(permittedImports, " "+path+" ") {
			t.Errorf("%s imports %s", name, i.Path.Value)
		}
	}
	for _, d := range file.Decls {
		if f, ok := d.(*ast.FuncDecl); ok {
			if lines := files.Position(f.End()).Line - files.Position(f.Pos()).Line + 1; lines > mostLines {
				t.Errorf("%s: %s has %d lines", name, f.Name.Name, lines)
			}
		}
	}
}
