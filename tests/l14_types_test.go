package tests

import (
	"math/rand"
	"slices"
	"strconv"
	"strings"
	"testing"

	"loop.example/g00916/impl"
)

// soundText is the text of a sound program: x is remembered, and b, y and z are used nowhere, but z is
// the guard.
const soundText = "program p; in a b c; var x y z; out q r; guard z; q = on(x or a, 3); x = a and not x; y = c; z = true; r = latch(a, rise(c)); end;"

func parse(t *testing.T, text string) impl.Program {
	t.Helper()
	p, code := impl.ParseProgram(text)
	if code != impl.ErrNone {
		t.Fatalf("%q is no program: %d", text, code)
	}
	return p
}

// parseParts returns the program p with some names, a guard and lines, none where they are empty.
func parseParts(t *testing.T, inputs string, vars string, outputs string, guard string, list string) impl.Program {
	t.Helper()
	text := "program p; in " + inputs + "; "
	if vars != "" {
		text += "var " + vars + "; "
	}
	text += "out " + outputs + "; "
	if guard != "" {
		text += "guard " + guard + "; "
	}
	return parse(t, text+list+" end;")
}

// copyProgram returns a program that shares no memory with p, apart from texts.
func copyProgram(p impl.Program) impl.Program {
	p.Inputs, p.Vars, p.Outputs, p.Lines = slices.Clone(p.Inputs), slices.Clone(p.Vars), slices.Clone(p.Outputs), slices.Clone(p.Lines)
	for i := range p.Lines {
		p.Lines[i].Terms = slices.Clone(p.Lines[i].Terms)
	}
	return p
}

// timesIn tells how often a name is one of some names.
func timesIn(names []string, name string) int {
	count := 0
	for _, other := range names {
		if other == name {
			count++
		}
	}
	return count
}

func declaredBy(p impl.Program) []string { return slices.Concat(p.Inputs, p.Vars, p.Outputs) }

// isUsedBy tells whether a name is used in the terms of a line.
func isUsedBy(line impl.Line, name string) bool {
	return slices.ContainsFunc(line.Terms, func(one impl.Term) bool { return one.Kind == impl.TermName && one.Name == name })
}

// faultBy returns the number of the first rule that a written program does not keep, as the rules are
// written down.
func faultBy(p impl.Program) int64 {
	names, readable, assignable := declaredBy(p), slices.Concat(p.Inputs, p.Vars), slices.Concat(p.Vars, p.Outputs)
	broken := [7]bool{}
	for _, name := range names {
		broken[1] = broken[1] || timesIn(names, name) > 1
	}
	broken[2] = p.Guard != "" && timesIn(readable, p.Guard) == 0
	for i, line := range p.Lines {
		broken[3] = broken[3] || timesIn(assignable, line.Target) == 0
		for j, other := range p.Lines {
			broken[4] = broken[4] || i != j && line.Target == other.Target
		}
		for _, one := range line.Terms {
			broken[6] = broken[6] || one.Kind == impl.TermName && timesIn(readable, one.Name) == 0
		}
	}
	for _, name := range assignable {
		isTarget := func(line impl.Line) bool { return line.Target == name }
		broken[5] = broken[5] || !slices.ContainsFunc(p.Lines, isTarget)
	}
	for rule, isBroken := range broken {
		if isBroken {
			return int64(rule)
		}
	}
	return 0
}

// linesBy returns the indices of the lines in whose terms a name is used.
func linesBy(p impl.Program, name string) []int64 {
	var list []int64
	for i := range p.Lines {
		if isUsedBy(p.Lines[i], name) {
			list = append(list, int64(i))
		}
	}
	return list
}

// lineBy returns the index of the first line with a target, or -1.
func lineBy(p impl.Program, name string) int64 {
	for i := range p.Lines {
		if p.Lines[i].Target == name {
			return int64(i)
		}
	}
	return -1
}

// rememberedBy returns the variables of a sound program that have their old value where they are used:
// at that time no line that is done has given them a new one.
func rememberedBy(p impl.Program) []string {
	isOld, isRemembered := map[string]bool{}, map[string]bool{}
	for _, name := range p.Vars {
		isOld[name] = true
	}
	for _, line := range p.Lines {
		for _, one := range line.Terms {
			if isOld[one.Name] {
				isRemembered[one.Name] = true
			}
		}
		isOld[line.Target] = false
	}
	return slices.DeleteFunc(slices.Clone(p.Vars), func(name string) bool { return !isRemembered[name] })
}

func unusedBy(p impl.Program) []string {
	return slices.DeleteFunc(slices.Concat(p.Inputs, p.Vars), func(name string) bool {
		return name == p.Guard || slices.ContainsFunc(p.Lines, func(line impl.Line) bool { return isUsedBy(line, name) })
	})
}

// renamedBy replaces each place of a program where a name of it may stand.
func renamedBy(p impl.Program, from string, to string) impl.Program {
	renamed := copyProgram(p)
	places := []*string{&renamed.Guard}
	for _, names := range [][]string{renamed.Inputs, renamed.Vars, renamed.Outputs} {
		for i := range names {
			places = append(places, &names[i])
		}
	}
	for i := range renamed.Lines {
		places = append(places, &renamed.Lines[i].Target)
		for j := range renamed.Lines[i].Terms {
			places = append(places, &renamed.Lines[i].Terms[j].Name)
		}
	}
	for _, place := range places {
		if *place == from {
			*place = to
		}
	}
	return renamed
}

func functionBlocksBy(p impl.Program) []impl.Term {
	var list []impl.Term
	for _, line := range p.Lines {
		for _, one := range line.Terms {
			if slices.Contains(blockKeywords, operators[one.Kind]) {
				list = append(list, one)
			}
		}
	}
	return list
}

func checkFault(t *testing.T, p impl.Program, want int64, code int64) {
	t.Helper()
	if got, gotCode := impl.ProgramFault(p); got != want || gotCode != code {
		t.Errorf("ProgramFault(%v) = %d, %d, want %d, %d", p, got, gotCode, want, code)
	}
	if got := impl.IsSound(p); got != (code == impl.ErrNone && want == 0) {
		t.Errorf("IsSound(%v) = %t", p, got)
	}
}

func checkLineOf(t *testing.T, p impl.Program, name string, want int64, code int64) {
	t.Helper()
	if got, gotCode := impl.LineOf(p, name); got != want || gotCode != code {
		t.Errorf("LineOf(%v, %q) = %d, %d, want %d, %d", p, name, got, gotCode, want, code)
	}
}

func checkUsesOf(t *testing.T, p impl.Program, name string, want []int64, code int64) {
	t.Helper()
	if got, gotCode := impl.UsesOf(p, name); !slices.Equal(got, want) || gotCode != code {
		t.Errorf("UsesOf(%v, %q) = %v, %d, want %v, %d", p, name, got, gotCode, want, code)
	}
}

func checkRemembered(t *testing.T, p impl.Program, want []string, code int64) {
	t.Helper()
	if got, gotCode := impl.RememberedVars(p); !slices.Equal(got, want) || gotCode != code {
		t.Errorf("RememberedVars(%v) = %v, %d, want %v, %d", p, got, gotCode, want, code)
	}
}

func checkUnused(t *testing.T, p impl.Program, want []string, code int64) {
	t.Helper()
	if got, gotCode := impl.UnusedNames(p); !slices.Equal(got, want) || gotCode != code {
		t.Errorf("UnusedNames(%v) = %v, %d, want %v, %d", p, got, gotCode, want, code)
	}
}

func checkRenamed(t *testing.T, p impl.Program, from string, to string, want impl.Program, code int64) {
	t.Helper()
	if got, gotCode := impl.RenameIn(p, from, to); !sameProgram(got, want) || gotCode != code {
		t.Errorf("RenameIn(%v, %q, %q) = %v, %d, want %v, %d", p, from, to, got, gotCode, want, code)
	}
}

func checkNotRenamed(t *testing.T, p impl.Program, from string, to string, code int64) {
	t.Helper()
	checkRenamed(t, p, from, to, impl.Program{}, code)
}

func checkBlocksIn(t *testing.T, p impl.Program, want []impl.Term, code int64) {
	t.Helper()
	if got, gotCode := impl.BlocksIn(p); !slices.Equal(got, want) || gotCode != code {
		t.Errorf("BlocksIn(%v) = %v, %d, want %v, %d", p, got, gotCode, want, code)
	}
}

// otherNames are names that none of the programs here has, and texts that are no names.
var otherNames = slices.Concat([]string{"new1", "other_"}, keywords, signTexts, noTokenTexts, []string{"", "0", "3", "a b", "a ", " a", "a;", "A", longWord + "w"})

// checkNoSound checks the functions that want a sound program with one that is written and not sound,
// or with one that is not written.
func checkNoSound(t *testing.T, p impl.Program, code int64) {
	t.Helper()
	checkRemembered(t, p, nil, code)
	checkUnused(t, p, nil, code)
	for _, from := range append(declaredBy(p), "new1", "", "end") {
		for _, to := range []string{"new2", from, "a", "", "end"} {
			checkNotRenamed(t, p, from, to, code)
		}
	}
}

// checkNothingOf checks all functions with a program that is not written.
func checkNothingOf(t *testing.T, p impl.Program) {
	t.Helper()
	checkFault(t, p, 0, impl.ErrInvalid)
	checkNoSound(t, p, impl.ErrInvalid)
	checkBlocksIn(t, p, nil, impl.ErrInvalid)
	for _, name := range append(declaredBy(p), "a", "q", "x", "new1", "", "end") {
		checkLineOf(t, p, name, 0, impl.ErrInvalid)
		checkUsesOf(t, p, name, nil, impl.ErrInvalid)
	}
}

// placeText returns a text that tells the place of a name in a sound program.
func placeText(p impl.Program, name string) string {
	for i, names := range [][]string{p.Inputs, p.Vars, p.Outputs} {
		if at := slices.Index(names, name); at >= 0 {
			return "name" + strconv.Itoa(i) + "_" + strconv.Itoa(at)
		}
	}
	return name
}

// behaviourOf returns a sound program with places instead of names. It says all that a scan does, which
// depends on names only by their places.
func behaviourOf(p impl.Program) impl.Program {
	nameless := copyProgram(p)
	for _, names := range [][]string{nameless.Inputs, nameless.Vars, nameless.Outputs} {
		for i := range names {
			names[i] = placeText(p, names[i])
		}
	}
	nameless.Guard = placeText(p, p.Guard)
	for _, line := range nameless.Lines {
		for j := range line.Terms {
			line.Terms[j].Name = placeText(p, line.Terms[j].Name)
		}
	}
	for i := range nameless.Lines {
		nameless.Lines[i].Target = placeText(p, nameless.Lines[i].Target)
	}
	return nameless
}

// checkBehavesAlike checks promise 14 for a sound program and a name of it.
func checkBehavesAlike(t *testing.T, p impl.Program, from string, to string) {
	t.Helper()
	checkRenamed(t, p, from, to, renamedBy(p, from, to), impl.ErrNone)
	renamed, _ := impl.RenameIn(p, from, to)
	checkFault(t, renamed, 0, impl.ErrNone)
	checkRenamed(t, renamed, to, from, p, impl.ErrNone)
	if !sameProgram(behaviourOf(renamed), behaviourOf(p)) {
		t.Errorf("%v behaves in another way than %v", renamed, p)
	}
	blocks, _ := impl.BlocksIn(p)
	checkBlocksIn(t, renamed, blocks, impl.ErrNone)
	line, code := impl.LineOf(p, from)
	checkLineOf(t, renamed, to, line, code)
	uses, _ := impl.UsesOf(p, from)
	checkUsesOf(t, renamed, to, uses, impl.ErrNone)
}

// checkRenamings checks all renamings of a sound program to new names, to its own, and to what is no
// name.
func checkRenamings(t *testing.T, p impl.Program) {
	t.Helper()
	names := declaredBy(p)
	for i, from := range names {
		checkBehavesAlike(t, p, from, "new1")
		checkBehavesAlike(t, p, from, from)
		checkRenamed(t, p, from, from, p, impl.ErrNone)
		for j, to := range names {
			if i != j {
				checkNotRenamed(t, p, from, to, impl.ErrRange)
			}
		}
		for _, to := range []string{"end", "", "A", "a b", "3"} {
			checkNotRenamed(t, p, from, to, impl.ErrRange)
			checkNotRenamed(t, p, to, from, impl.ErrNotFound)
			checkNotRenamed(t, p, to, to, impl.ErrNotFound)
		}
		checkNotRenamed(t, p, "new1", from, impl.ErrNotFound)
	}
	checkNotRenamed(t, p, "new1", "new2", impl.ErrNotFound)
	checkNotRenamed(t, p, "new1", "new1", impl.ErrNotFound)
}

// checkRulesBy checks all functions with a written program, against the definitions.
func checkRulesBy(t *testing.T, p impl.Program) {
	t.Helper()
	fault := faultBy(p)
	checkFault(t, p, fault, impl.ErrNone)
	checkBlocksIn(t, p, functionBlocksBy(p), impl.ErrNone)
	for _, name := range append(declaredBy(p), "a", "b", "c", "new1", "end", "") {
		checkUsesOf(t, p, name, linesBy(p, name), impl.ErrNone)
		if line := lineBy(p, name); line >= 0 {
			checkLineOf(t, p, name, line, impl.ErrNone)
		} else {
			checkLineOf(t, p, name, 0, impl.ErrNotFound)
		}
	}
	if fault != 0 {
		checkNoSound(t, p, impl.ErrState)
		return
	}
	checkRemembered(t, p, rememberedBy(p), impl.ErrNone)
	checkUnused(t, p, unusedBy(p), impl.ErrNone)
	checkRenamings(t, p)
}

// greatestSound returns a sound program with MaxNames names in each list and MaxLines lines.
func greatestSound() impl.Program {
	p := impl.Program{Name: "p", Guard: "v19"}
	for i := range impl.MaxNames {
		number := strconv.Itoa(i)
		p.Inputs, p.Vars, p.Outputs = append(p.Inputs, "i"+number), append(p.Vars, "v"+number), append(p.Outputs, "o"+number)
		p.Lines = slices.Concat(p.Lines, lines("v"+number, "i"+number), lines("o"+number, "v"+number+" rise"))
	}
	return p
}

func TestSoundPrograms(t *testing.T) {
	for _, text := range []string{
		plainProgram, wholeProgram, soundText,
		"program p; in a; out q; guard a; q = a; end;", "program p; in a; var x; out q; guard x; x = a; q = x; end;", "program p; in a; var x; out q; x = a; q = x; end;", "program p; in a; var x; out q; q = x; x = a; end;",
		"program a; in a; out q; q = a; end;", "program q; in a; out q; q = a; end;", "program x; in a; var x; out q; guard x; x = x; q = x; end;", "program p; in a; out q; q = true; end;",
		"program p; in a b c; var x y; out q r; guard b; r = x; y = c or a; q = y; x = false; end;",
	} {
		p := parse(t, text)
		checkFault(t, p, 0, impl.ErrNone)
		checkRulesBy(t, p)
	}
	p := greatestSound()
	if len(p.Lines) != impl.MaxLines {
		t.Errorf("there are %d lines", len(p.Lines))
	}
	checkFault(t, p, 0, impl.ErrNone)
	checkRulesBy(t, p)
	slices.Reverse(p.Lines)
	checkFault(t, p, 0, impl.ErrNone)
	checkRulesBy(t, p)
}

// TestOneBrokenRule has programs that keep all rules but one.
func TestOneBrokenRule(t *testing.T) {
	for rule, texts := range [][]string{
		{plainProgram},
		{
			"program p; in a a; out q; q = a; end;", "program p; in a b a; out q; q = a; end;", "program p; in a b c b; out q; q = a; end;", "program p; in a a a; out q; q = a; end;",
			"program p; in a; var x x; out q; x = a; q = a; end;", "program p; in a; var x y x; out q; x = a; y = a; q = a; end;", "program p; in a; out q q; q = a; end;", "program p; in a; out q r q; q = a; r = a; end;",
			"program p; in a; var a; out q; a = a; q = a; end;", "program p; in a x; var x; out q; x = a; q = x; end;", "program p; in x a; var y x; out q; x = a; y = a; q = x; end;",
			"program p; in a; out a; a = a; end;", "program p; in a q; out q; q = a; end;", "program p; in a; var x; out x; x = a; end;", "program p; in a; var x y; out q y; x = a; y = a; q = x; end;", "program p; in a; var a; out a; guard a; a = a; end;",
		},
		{
			"program p; in a; out q; guard q; q = a; end;", "program p; in a; out q r; guard r; q = a; r = a; end;", "program p; in a; out q; guard b; q = a; end;", "program p; in a; out q; guard p; q = a; end;", "program p; in a; var x; out q; guard y; x = a; q = a; end;", "program p; in a; var x; out q; guard q; x = a; q = a; end;",
		},
		{
			"program p; in a; out q; q = a; a = a; end;", "program p; in a; out q; a = a; q = a; end;", "program p; in a b; out q; q = a; b = true; end;", "program p; in a; out q; q = a; r = a; end;", "program p; in a; out q; p = a; q = a; end;",
			"program p; in a; var x; out q; x = a; r = a; q = a; end;", "program p; in a; var x; out q; guard x; x = a; a = x; q = a; end;",
		},
		{
			"program p; in a; out q; q = a; q = a; end;", "program p; in a; out q r; q = a; r = a; q = a; end;", "program p; in a; out q r; r = a; q = a; q = true; end;", "program p; in a; var x; out q; x = a; x = not x; q = x; end;", "program p; in a; var x; out q; x = a; q = x; x = x; end;", "program p; in a; var x y; out q; x = a; y = a; q = x; y = y; end;", "program p; in a; out q; q = a; q = a; q = a; end;",
		},
		{
			"program p; in a; var x; out q; q = a; end;", "program p; in a; out q r; q = a; end;", "program p; in a; out q r; r = a; end;", "program p; in a; var x y; out q; q = a; x = a; end;", "program p; in a; var x y; out q; q = y; y = a; end;", "program p; in a; var x; out q; x = a; end;", "program p; in a; var x; out q; guard x; q = a; end;", "program p; in a; var x; out q; q = x; end;",
		},
		{
			"program p; in a; out q; q = b; end;", "program p; in a; out q; q = q; end;", "program p; in a; out q; q = p; end;", "program p; in a; out q r; q = a; r = q; end;", "program p; in a; out q r; q = r; r = a; end;", "program p; in a; var x; out q; x = q; q = x; end;", "program p; in a; var x; out q; x = a; q = a or (x and not on(y, 3)); end;", "program p; in a; out q; q = a and b; end;", "program p; in a; out q; q = b and a; end;", "program p; in a; out q r; q = a; r = latch(a, rise(b)); end;",
		},
	} {
		for _, text := range texts {
			p := parse(t, text)
			checkFault(t, p, int64(rule), impl.ErrNone)
			checkRulesBy(t, p)
		}
	}
}

// TestSeveralBrokenRules breaks all sets of the rules.
func TestSeveralBrokenRules(t *testing.T) {
	breaks := []func(p *impl.Program){
		func(p *impl.Program) { p.Inputs = append(p.Inputs, "a") },
		func(p *impl.Program) { p.Guard = "q" },
		func(p *impl.Program) { p.Lines = append(p.Lines, lines("b", "a")...) },
		func(p *impl.Program) { p.Lines = append(p.Lines, lines("x", "x")...) },
		func(p *impl.Program) { p.Vars = append(p.Vars, "y") },
		func(p *impl.Program) { p.Lines[0].Terms = terms("q") },
	}
	for set := range 1 << len(breaks) {
		p, first := guarded(), 0
		for i := len(breaks) - 1; i >= 0; i-- {
			if set>>i&1 == 1 {
				breaks[i](&p)
				first = i + 1
			}
		}
		checkFault(t, p, int64(first), impl.ErrNone)
		checkRulesBy(t, p)
	}
}

// TestRulesOfGreatPrograms breaks the rules at the ends of long lists.
func TestRulesOfGreatPrograms(t *testing.T) {
	last := impl.MaxLines - 1
	for rule, changes := range [][]func(p *impl.Program){
		{func(p *impl.Program) {}, func(p *impl.Program) { p.Guard = "" }, func(p *impl.Program) { p.Guard = "i19" }, func(p *impl.Program) { p.Guard = "v0" }, func(p *impl.Program) { p.Lines[last].Terms = terms("v19") }, func(p *impl.Program) { p.Name = "o19" }},
		{func(p *impl.Program) { p.Inputs[19] = "i0" }, func(p *impl.Program) { p.Vars[19] = "v18" }, func(p *impl.Program) { p.Outputs[19] = "o0" }, func(p *impl.Program) { p.Inputs[19] = "o19" }, func(p *impl.Program) { p.Outputs[0] = "v19" }, func(p *impl.Program) { p.Vars[0] = "i19" }},
		{func(p *impl.Program) { p.Guard = "o19" }, func(p *impl.Program) { p.Guard = "o0" }, func(p *impl.Program) { p.Guard = "i20" }},
		{func(p *impl.Program) { p.Lines[last].Target = "i19" }, func(p *impl.Program) { p.Lines[last].Target = "o20" }, func(p *impl.Program) { p.Lines[0].Target = "i0" }},
		{func(p *impl.Program) { p.Lines[last].Target = "v0" }, func(p *impl.Program) { p.Lines[last].Target = "o18" }, func(p *impl.Program) { p.Lines[0].Target = "o0" }},
		{func(p *impl.Program) { p.Lines = p.Lines[:last] }, func(p *impl.Program) { p.Lines = p.Lines[1:] }, func(p *impl.Program) { p.Lines = p.Lines[:1] }},
		{func(p *impl.Program) { p.Lines[last].Terms = terms("o0") }, func(p *impl.Program) { p.Lines[last].Terms[0].Name = "o19" }, func(p *impl.Program) { p.Lines[0].Terms[0].Name = "i20" }},
	} {
		for _, change := range changes {
			p := greatestSound()
			change(&p)
			checkFault(t, p, int64(rule), impl.ErrNone)
			if faultBy(p) != int64(rule) {
				t.Errorf("%v breaks another rule than %d", p, rule)
			}
		}
	}
}

func TestLinesAndUses(t *testing.T) {
	p := parse(t, soundText)
	for name, line := range map[string]int64{"q": 0, "x": 1, "y": 2, "z": 3, "r": 4} {
		checkLineOf(t, p, name, line, impl.ErrNone)
	}
	for _, name := range append([]string{"a", "b", "c", "p"}, otherNames...) {
		checkLineOf(t, p, name, 0, impl.ErrNotFound)
	}
	for name, uses := range map[string][]int64{"a": {0, 1, 4}, "b": nil, "c": {2, 4}, "x": {0, 1}, "y": nil, "z": nil, "q": nil, "r": nil, "p": nil} {
		checkUsesOf(t, p, name, uses, impl.ErrNone)
	}
	for _, name := range otherNames {
		checkUsesOf(t, p, name, nil, impl.ErrNone)
	}
	unsound := parseParts(t, "a", "", "q q", "b", "q = a and a or (b and a); r = true; b = rise(q); q = off(a, 3); r = a or a; q = not b;")
	for name, line := range map[string]int64{"q": 0, "r": 1, "b": 2} {
		checkLineOf(t, unsound, name, line, impl.ErrNone)
	}
	for name, uses := range map[string][]int64{"a": {0, 3, 4}, "b": {0, 5}, "q": {2}, "r": nil} {
		checkUsesOf(t, unsound, name, uses, impl.ErrNone)
	}
	checkLineOf(t, unsound, "a", 0, impl.ErrNotFound)
	all := program()
	all.Lines = manyLines(impl.MaxLines)
	checkLineOf(t, all, "q", 0, impl.ErrNone)
	checkLineOf(t, all, "a", 0, impl.ErrNotFound)
	checkUsesOf(t, all, "a", rising(impl.MaxLines), impl.ErrNone)
	all.Lines[impl.MaxLines-1].Target = "z"
	checkLineOf(t, all, "z", impl.MaxLines-1, impl.ErrNone)
}

func TestRememberedVars(t *testing.T) {
	for list, want := range map[string]string{
		"x = a; q = a;": "", "x = a; q = x;": "", "q = x; x = a;": "x", "x = x; q = a;": "x", "q = a; x = a and not x;": "x", "q = a; x = a or rise(x);": "x",
		"q = x; x = x;": "x", "x = x; q = x;": "x", "q = x or x; x = a;": "x", "q = a; x = a;": "", "q = on(x, 3); x = a;": "x", "q = not true; x = latch(a, x);": "x",
	} {
		checkRemembered(t, parseParts(t, "a", "x", "q", "", list), strings.Fields(want), impl.ErrNone)
		checkRemembered(t, parseParts(t, "a", "x", "q", "x", list), strings.Fields(want), impl.ErrNone)
	}
	for list, want := range map[string]string{
		"x = y; y = z; z = x; q = a; r = a;": "y z", "z = a; y = z; x = y; q = x; r = y;": "", "q = z or y; r = x; z = a; x = a; y = a;": "x y z", "q = z; z = a; r = z; x = a; y = x;": "z", "r = a; x = x; y = x; z = y and z; q = z;": "x z",
		"q = x; x = y; r = y; y = a; z = a;": "x y", "z = b; q = y; x = z; y = x; r = a;": "y", "y = a; x = y or z; z = x; q = a; r = not x;": "z",
	} {
		checkRemembered(t, parseParts(t, "a b", "x y z", "q r", "", list), strings.Fields(want), impl.ErrNone)
		reversed := strings.Fields(want)
		slices.Reverse(reversed)
		checkRemembered(t, parseParts(t, "a b", "z y x", "r q", "b", list), reversed, impl.ErrNone)
	}
	checkRemembered(t, program(), nil, impl.ErrNone)
	checkRemembered(t, parse(t, soundText), []string{"x"}, impl.ErrNone)
	p := greatestSound()
	checkRemembered(t, p, nil, impl.ErrNone)
	slices.Reverse(p.Lines)
	checkRemembered(t, p, p.Vars, impl.ErrNone)
}

func TestUnusedNames(t *testing.T) {
	for _, c := range [][5]string{
		{"a", "", "", "q = a;", ""}, {"a", "", "", "q = true;", "a"}, {"a", "", "a", "q = true;", ""}, {"a b", "", "", "q = a;", "b"}, {"a b", "", "b", "q = a;", ""}, {"a b", "", "a", "q = a;", "b"}, {"b a c", "", "", "q = false;", "b a c"}, {"b a c", "", "a", "q = false;", "b c"},
		{"a", "x", "", "x = a; q = x;", ""}, {"a", "x", "", "x = a; q = a;", "x"}, {"a", "x", "x", "x = a; q = a;", ""}, {"a", "x", "a", "x = a; q = a;", "x"}, {"a", "x", "", "x = x; q = true;", "a"}, {"a", "x", "", "x = true; q = true;", "a x"}, {"a", "x", "x", "x = true; q = true;", "a"}, {"a", "x", "a", "x = true; q = true;", "x"},
		{"b a", "y x", "", "x = true; q = false; y = true;", "b a y x"}, {"b a", "y x", "y", "x = true; q = b; y = true;", "a x"}, {"b a", "y x", "x", "x = rise(x); q = latch(a, on(a, 1)); y = true;", "b y"}, {"b a", "y x", "", "x = y; q = x; y = not a;", "b"},
	} {
		checkUnused(t, parseParts(t, c[0], c[1], "q", c[2], c[3]), strings.Fields(c[4]), impl.ErrNone)
	}
	checkUnused(t, parse(t, soundText), []string{"b", "y"}, impl.ErrNone)
	p := greatestSound()
	checkUnused(t, p, nil, impl.ErrNone)
	for i := range p.Lines {
		p.Lines[i].Terms = terms("true")
	}
	checkUnused(t, p, append(p.Inputs, p.Vars[:19]...), impl.ErrNone)
	p.Guard = ""
	checkUnused(t, p, append(p.Inputs, p.Vars...), impl.ErrNone)
	p.Guard = "i0"
	checkUnused(t, p, append(p.Inputs[1:], p.Vars...), impl.ErrNone)
}

func TestRenamings(t *testing.T) {
	p := parse(t, soundText)
	for renaming, want := range map[string]string{
		"a d": "program p; in d b c; var x y z; out q r; guard z; q = on(x or d, 3); x = d and not x; y = c; z = true; r = latch(d, rise(c)); end;",
		"b d": "program p; in a d c; var x y z; out q r; guard z; q = on(x or a, 3); x = a and not x; y = c; z = true; r = latch(a, rise(c)); end;",
		"x d": "program p; in a b c; var d y z; out q r; guard z; q = on(d or a, 3); d = a and not d; y = c; z = true; r = latch(a, rise(c)); end;",
		"y d": "program p; in a b c; var x d z; out q r; guard z; q = on(x or a, 3); x = a and not x; d = c; z = true; r = latch(a, rise(c)); end;",
		"z d": "program p; in a b c; var x y d; out q r; guard d; q = on(x or a, 3); x = a and not x; y = c; d = true; r = latch(a, rise(c)); end;",
		"q d": "program p; in a b c; var x y z; out d r; guard z; d = on(x or a, 3); x = a and not x; y = c; z = true; r = latch(a, rise(c)); end;",
		"r p": "program p; in a b c; var x y z; out q p; guard z; q = on(x or a, 3); x = a and not x; y = c; z = true; p = latch(a, rise(c)); end;",
		"a a": soundText, "z z": soundText, "r r": soundText,
	} {
		from, to, _ := strings.Cut(renaming, " ")
		checkRenamed(t, p, from, to, parse(t, want), impl.ErrNone)
		checkBehavesAlike(t, p, from, to)
	}
	checkRenamings(t, p)
	for _, from := range []string{"a", "b", "c", "x", "y", "z", "q", "r"} {
		for _, to := range []string{"p", "d", "inn", "true1", "end_", "on1", longWord, "a_", "ab"} {
			checkBehavesAlike(t, p, from, to)
		}
		for _, to := range slices.DeleteFunc(slices.Clone(otherNames), isNameBy) {
			checkNotRenamed(t, p, from, to, impl.ErrRange)
		}
	}
	for _, from := range append([]string{"p"}, otherNames...) {
		for _, to := range append([]string{from, "a", "q", "d", "p"}, otherNames...) {
			checkNotRenamed(t, p, from, to, impl.ErrNotFound)
		}
	}
}

// TestNameOfTheProgram has programs that are called like one of their names.
func TestNameOfTheProgram(t *testing.T) {
	for _, name := range []string{"a", "b", "x", "q"} {
		p := guarded()
		p.Name = name
		checkRenamings(t, p)
		renamed, code := impl.RenameIn(p, name, "new1")
		if renamed.Name != name || code != impl.ErrNone {
			t.Errorf("the program %s became %v, %d", name, renamed, code)
		}
		checkNotRenamed(t, renamed, name, "d", impl.ErrNotFound)
		p = guarded()
		checkRenamed(t, p, name, "p", renamedBy(p, name, "p"), impl.ErrNone)
		checkBehavesAlike(t, p, name, "p")
	}
}

func TestFunctionBlocksOfPrograms(t *testing.T) {
	for list, want := range map[string]string{
		"q = a;": "", "q = not a and (true or false);": "", "q = on(a, 3);": "on 3", "q = off(a, 0);": "off 0", "q = rise(a);": "rise", "q = latch(a, b);": "latch", "q = count(a, b, 9999);": "count 9999", "q = pair(a, b, 1);": "pair 1",
		"q = on(a, 3) and off(b, 4) or rise(a);": "on 3 off 4 rise", "q = rise(on(a, 1));": "on 1 rise", "q = on(on(on(a, 1), 2), 3);": "on 1 on 2 on 3", "q = latch(rise(a), on(b, 2));": "rise on 2 latch", "q = pair(count(a, latch(a, b), 5), off(not rise(b), 6), 7);": "latch count 5 rise off 6 pair 7",
		"q = on(a, 1); r = off(a, 2); q = rise(a);": "on 1 off 2 rise", "q = a; r = rise(a) or rise(b); q = a;": "rise rise", "q = a; r = b;": "", "q = on(a, 3); r = on(a, 3); z = on(a, 3);": "on 3 on 3 on 3", "q = latch(y, pair(z, z, 4)); end_ = count(rise(a), true, 6); r = not b;": "pair 4 latch rise count 6",
	} {
		for _, inputs := range []string{"a b", "c", "a a"} {
			checkBlocksIn(t, parseParts(t, inputs, "", "q", "", list), terms(want), impl.ErrNone)
		}
	}
	p := program()
	most := slices.Concat(terms("a"), slices.Repeat(terms("rise"), impl.MaxTerms-1))
	p.Lines = slices.Repeat([]impl.Line{{Target: "q", Terms: most}}, impl.MaxLines)
	checkBlocksIn(t, p, slices.Repeat(terms("rise"), (impl.MaxTerms-1)*impl.MaxLines), impl.ErrNone)
}

func TestProgramsThatAreNotWrittenHaveNoRules(t *testing.T) {
	for _, change := range []func(p *impl.Program){
		func(p *impl.Program) { *p = impl.Program{} },
		func(p *impl.Program) { p.Name = "" }, func(p *impl.Program) { p.Name = "end" }, func(p *impl.Program) { p.Name = "A" },
		func(p *impl.Program) { p.Inputs = nil }, func(p *impl.Program) { p.Outputs = []string{} }, func(p *impl.Program) { p.Lines = nil }, func(p *impl.Program) { p.Inputs[0] = "" }, func(p *impl.Program) { p.Vars[0] = "in" }, func(p *impl.Program) { p.Outputs[0] = "q " }, func(p *impl.Program) { p.Guard = "guard" }, func(p *impl.Program) { p.Guard = " " },
		func(p *impl.Program) { p.Inputs = manyNames(impl.MaxNames + 1) }, func(p *impl.Program) { p.Vars = manyNames(impl.MaxNames + 1) }, func(p *impl.Program) { p.Outputs = manyNames(impl.MaxNames + 1) }, func(p *impl.Program) { p.Lines = manyLines(impl.MaxLines + 1) },
		func(p *impl.Program) { p.Lines[0].Target = "" }, func(p *impl.Program) { p.Lines[1].Target = "or" }, func(p *impl.Program) { p.Lines[1].Terms = nil }, func(p *impl.Program) { p.Lines[1].Terms = terms("a b") }, func(p *impl.Program) { p.Lines[0].Terms[0].Name = "true" }, func(p *impl.Program) { p.Lines[0].Terms[0].Name = "" }, func(p *impl.Program) { p.Lines[0].Terms[0].Number = 1 }, func(p *impl.Program) { p.Lines[1].Terms = slices.Repeat(terms("a"), impl.MaxTerms+1) }, func(p *impl.Program) { p.Lines[1].Terms[3].Kind = 13 }, func(p *impl.Program) { p.Lines[1].Terms[3].Number = -1 }, func(p *impl.Program) { p.Lines[1].Terms[3].Name = "a" },
	} {
		p := guarded()
		change(&p)
		checkNothingOf(t, p)
		// A program that is not written and would break rules, too.
		p = guarded()
		p.Guard, p.Lines[0].Target = "q", "q"
		change(&p)
		checkNothingOf(t, p)
	}
}

// TestEachSmallProgram has all programs with few names and lines.
func TestEachSmallProgram(t *testing.T) {
	names := []string{"a", "b", "c"}
	var lists [][]string
	eachList(names, 2, func(list []string) { lists = append(lists, slices.Clone(list)) })
	var lineLists [][]impl.Line
	var small []impl.Line
	for _, target := range names {
		for _, words := range []string{"a", "b", "c"} {
			small = append(small, lines(target, words)...)
		}
		small = append(small, lines(target, "a b latch")...)
	}
	eachList(small, 2, func(list []impl.Line) { lineLists = append(lineLists, slices.Clone(list)) })
	for _, inputs := range lists[1:] {
		for _, vars := range lists {
			for _, output := range names {
				for _, guard := range append([]string{"", "d"}, names...) {
					for _, list := range lineLists[1:] {
						checkSmall(t, programOf("p", inputs, vars, []string{output}, guard, list))
					}
				}
			}
		}
	}
}

// checkSmall checks a written program, and all that is asked of it only if few rules are broken.
func checkSmall(t *testing.T, p impl.Program) {
	t.Helper()
	if fault := faultBy(p); fault > 0 && fault < 5 {
		checkFault(t, p, fault, impl.ErrNone)
		checkRemembered(t, p, nil, impl.ErrState)
		return
	}
	checkRulesBy(t, p)
}

// mixedSound returns a random sound program with at most some names in each list.
func mixedSound(random *rand.Rand, most int) impl.Program {
	names := manyNames(60)
	random.Shuffle(len(names), func(i int, j int) { names[i], names[j] = names[j], names[i] })
	inputs, vars, outputs := 1+random.Intn(most), random.Intn(most+1), 1+random.Intn(most)
	p := programOf("p", names[:inputs:inputs], names[20:20+vars:20+vars], names[40:40+outputs:40+outputs], "", nil)
	readable := slices.Concat(p.Inputs, p.Vars)
	if guard := random.Intn(2 * len(readable)); guard < len(readable) {
		p.Guard = readable[guard]
	}
	for _, target := range slices.Concat(p.Vars, p.Outputs) {
		list := mixedTree(random, 1+random.Intn(12))
		for i := range list {
			if list[i].Kind == impl.TermName {
				list[i].Name = readable[random.Intn(len(readable))]
			}
		}
		p.Lines = append(p.Lines, impl.Line{Target: target, Terms: list})
	}
	random.Shuffle(len(p.Lines), func(i int, j int) { p.Lines[i], p.Lines[j] = p.Lines[j], p.Lines[i] })
	return p
}

// spoilPlace puts another name at a random place of a program.
func spoilPlace(random *rand.Rand, p *impl.Program) {
	names := declaredBy(*p)
	name := append(names, "new3", "p")[random.Intn(len(names)+2)]
	line := &p.Lines[random.Intn(len(p.Lines))]
	switch random.Intn(8) {
	case 0:
		p.Inputs[random.Intn(len(p.Inputs))] = name
	case 1:
		p.Vars = append(p.Vars[:min(len(p.Vars), impl.MaxNames-1)], name)
	case 2:
		p.Outputs[random.Intn(len(p.Outputs))] = name
	case 3:
		p.Guard = name
	case 4:
		line.Target = name
	case 5:
		line.Terms = termsOf(name)
	case 6:
		p.Lines = append(p.Lines[:min(len(p.Lines), impl.MaxLines-1)], *line)
	case 7:
		p.Lines = p.Lines[:1+random.Intn(len(p.Lines))]
	}
}

func TestMixedRules(t *testing.T) {
	random := rand.New(rand.NewSource(14))
	counts := [7]int{}
	for i := range 2000 {
		most := 4
		if i%100 == 0 {
			most = impl.MaxNames
		}
		p := mixedSound(random, most)
		checkFault(t, p, 0, impl.ErrNone)
		checkRulesBy(t, p)
		for range 1 + random.Intn(2) {
			p = copyProgram(p)
			spoilPlace(random, &p)
			checkSmall(t, p)
			counts[faultBy(p)]++
		}
	}
	if slices.Contains(counts[:], 0) {
		t.Errorf("not each rule is broken by some program: %v", counts)
	}
}

// TestRenamedTexts renames programs in their texts.
func TestRenamedTexts(t *testing.T) {
	random := rand.New(rand.NewSource(140))
	for range 500 {
		p := mixedSound(random, 1+random.Intn(impl.MaxNames))
		text, _ := impl.ProgramText(p)
		if isTooLong(text) {
			continue
		}
		from := declaredBy(p)[random.Intn(len(declaredBy(p)))]
		words := wordsOf(text)
		for i := range words {
			if words[i] == from {
				words[i] = longWord
			}
		}
		renamed, _ := impl.RenameIn(p, from, longWord)
		if got, _ := impl.ProgramText(renamed); !slices.Equal(wordsOf(got), words) {
			t.Errorf("RenameIn(%v, %s, %s) has the text %q", p, from, longWord, got)
		}
	}
}

// checkNewTexts checks that texts share no memory with those of a program.
func checkNewTexts(t *testing.T, p impl.Program, texts ...string) {
	t.Helper()
	for _, text := range texts {
		for _, other := range textsOf(p) {
			if text != "" && sharesMemory(text, other) {
				t.Errorf("%q shares memory with its program", text)
			}
		}
	}
}

// newTexts returns a program whose texts all have memory of their own.
func newTexts(p impl.Program) impl.Program {
	p = copyProgram(p)
	p.Name, p.Guard = strings.Clone(p.Name), strings.Clone(p.Guard)
	for _, names := range [][]string{p.Inputs, p.Vars, p.Outputs} {
		for i := range names {
			names[i] = strings.Clone(names[i])
		}
	}
	return p
}

func TestResultsOfRulesAreNew(t *testing.T) {
	p := newTexts(parse(t, soundText))
	kept := copyProgram(p)
	for range 2 {
		uses, _ := impl.UsesOf(p, "a")
		spoil(uses)
		remembered, _ := impl.RememberedVars(p)
		unused, _ := impl.UnusedNames(p)
		checkNewTexts(t, p, slices.Concat(remembered, unused)...)
		spoilNames(remembered)
		spoilNames(unused)
		blocks, _ := impl.BlocksIn(p)
		spoilTerms(blocks)
		for _, from := range declaredBy(p) {
			for _, to := range []string{strings.Clone("new1"), from} {
				renamed, _ := impl.RenameIn(p, from, to)
				checkNewTexts(t, p, textsOf(renamed)...)
				checkNewTexts(t, renamed, to)
				spoilNames(renamed.Inputs)
				if names := slices.Concat(renamed.Vars, renamed.Outputs); slices.Contains(names, "spoilt") {
					t.Errorf("the names became %v", names)
				}
				spoilNames(renamed.Vars)
				if slices.Contains(renamed.Outputs, "spoilt") {
					t.Errorf("the outputs became %v", renamed.Outputs)
				}
				spoilNames(renamed.Outputs)
				for i := range renamed.Lines {
					if !slices.Equal(renamed.Lines[i].Terms, renamedBy(p, from, to).Lines[i].Terms) {
						t.Errorf("the terms became %v", renamed.Lines[i].Terms)
					}
					spoilTerms(renamed.Lines[i].Terms)
				}
				for i := range renamed.Lines[:cap(renamed.Lines)] {
					renamed.Lines[:cap(renamed.Lines)][i] = impl.Line{Target: "spoilt"}
				}
			}
		}
		checkUsesOf(t, p, "a", []int64{0, 1, 4}, impl.ErrNone)
		checkRulesBy(t, p)
	}
	if !sameProgram(p, kept) {
		t.Errorf("the program became %v", p)
	}
}

func TestArgumentsOfRulesAreNotChanged(t *testing.T) {
	names := []string{"a", "b", "x", "q", "behind"}
	list := append(terms("a b and not"), terms("behind")...)
	all := []impl.Line{{Target: "x", Terms: list[:4]}, {Target: "q", Terms: list[:1]}, {Target: "behind"}}
	keptNames, keptTerms, keptLines := slices.Clone(names), slices.Clone(list), slices.Clone(all)
	// The parts lie in the same memory, one behind the other, and have spare capacity.
	p := programOf("p", names[:2], names[2:3], names[3:4], "b", all[:2])
	unsound := programOf("p", names[:1], names[2:3], names[3:4], "q", all[:1])
	unwritten := programOf("p", names[:2], names[2:3], names[3:4], "b", all)
	for range 2 {
		checkRulesBy(t, p)
		checkRulesBy(t, unsound)
		checkNothingOf(t, unwritten)
	}
	if !slices.Equal(names, keptNames) || !slices.Equal(list, keptTerms) || !slices.EqualFunc(all, keptLines, sameLine) {
		t.Errorf("the parts became %v, %v, %v", names, list, all)
	}
}
