package dec

import (
	"go/ast"
	"go/parser"
	"go/token"
	"path/filepath"
	"slices"
	"strings"
	"testing"
)

func TestFormsAreMadeOnce(t *testing.T) {
	made := makeForms()
	first, again := all(), all()
	if !slices.Equal(first, made[:]) {
		t.Errorf("%+v is not %+v", first, made)
	}
	if &first[0] != &again[0] {
		t.Error("the forms were made twice")
	}
	for i, f := range made {
		if f.op == 0 {
			t.Errorf("form %d is empty", i)
		}
	}
}

// TestWhoNamesTheOnce: Decode and Encode make their forms, and Ok alone reads those that are made once.
func TestWhoNamesTheOnce(t *testing.T) {
	names := namesByFunction(t)
	for start, want := range map[string]bool{"Decode": false, "Encode": false, "Ok": true} {
		met := reached(names, start)
		for _, v := range []string{"formsOnce", "forms"} {
			if met[v] != want {
				t.Errorf("%s comes to %s: %v", start, v, met[v])
			}
		}
		if !met["makeForms"] {
			t.Errorf("%s makes no forms", start)
		}
	}
	for f := range names {
		if ast.IsExported(f) && f != "Decode" && f != "Encode" && f != "Ok" {
			t.Errorf("%s is none of the chapter's functions", f)
		}
	}
}

// namesByFunction tells what each function names; methods of one name count as one.
func namesByFunction(t *testing.T) map[string][]string {
	files, err := filepath.Glob("*.go")
	if err != nil {
		t.Fatal(err)
	}
	names := map[string][]string{}
	for _, path := range files {
		if strings.HasSuffix(path, "_test.go") {
			continue
		}
		file, err := parser.ParseFile(token.NewFileSet(), path, nil, 0)
		if err != nil {
			t.Fatal(err)
		}
		for _, d := range file.Decls {
			if f, ok := d.(*ast.FuncDecl); ok {
				names[f.Name.Name] = append(names[f.Name.Name], namesIn(f.Body)...)
			}
		}
	}
	return names
}

func namesIn(n ast.Node) []string {
	var l []string
	ast.Inspect(n, func(n ast.Node) bool {
		if x, ok := n.(*ast.Ident); ok {
			l = append(l, x.Name)
		}
		return true
	})
	return l
}

// reached are all the names that start and what it calls come to.
func reached(names map[string][]string, start string) map[string]bool {
	met := map[string]bool{}
	for work := []string{start}; len(work) > 0; {
		name := work[len(work)-1]
		work = work[:len(work)-1]
		if !met[name] {
			met[name] = true
			work = append(work, names[name]...)
		}
	}
	return met
}
