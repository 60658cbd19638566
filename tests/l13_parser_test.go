package tests

import (
	"math"
	"math/rand"
	"slices"
	"strconv"
	"strings"
	"testing"

	"loop.example/g00916/impl"
)

// plainProgram has the tokens that a program must have, and wholeProgram all of its parts.
const (
	plainProgram = "program p;\nin a;\nout q;\nq = a;\nend;\n"
	wholeProgram = "program p;\nin a b;\nvar x;\nout q;\nguard x;\nx = a and not b;\nq = on(x or a, 3);\nend;\n"
)

// operators are the keywords of all kinds of terms but TermName, by their kinds.
var operators = []string{"", "", "true", "false", "not", "and", "or", "on", "off", "rise", "latch", "count", "pair"}

// takenValues are the numbers of values that terms take, by their kinds.
var takenValues = []int64{0, 0, 0, 0, 1, 2, 2, 1, 1, 1, 2, 2, 2}

// haveNumbers tells whether a number is written with terms, by their kinds.
var haveNumbers = []bool{impl.TermOn: true, impl.TermOff: true, impl.TermCount: true, impl.TermPair: true}

// termsOf returns the terms with some words: operators, those with a number followed by it, and names.
func termsOf(words ...string) []impl.Term {
	var list []impl.Term
	for i, word := range words {
		if number, err := strconv.ParseInt(word, 10, 64); err == nil && i > 0 {
			list[len(list)-1].Number = number
			continue
		}
		if kind := slices.Index(operators, word); kind > 0 {
			list = append(list, impl.Term{Kind: int64(kind)})
			continue
		}
		list = append(list, impl.Term{Kind: impl.TermName, Name: word})
	}
	return list
}

// terms returns the terms with the words of a text.
func terms(text string) []impl.Term { return termsOf(strings.Fields(text)...) }

// chained returns names with as many operators behind them as leave one value.
func chained(count int, operator string) []impl.Term {
	return slices.Concat(slices.Repeat(terms("a"), count), slices.Repeat(terms(operator), count-1))
}

func manyNames(count int) []string {
	var list []string
	for i := range count {
		list = append(list, "n"+strconv.Itoa(i))
	}
	return list
}

func manyLines(count int) []impl.Line { return slices.Repeat(lines("q", "a"), count) }

// lines returns one line.
func lines(target string, words string) []impl.Line {
	return []impl.Line{{Target: target, Terms: terms(words)}}
}

// program returns the program of plainProgram.
func program() impl.Program {
	return impl.Program{Name: "p", Inputs: []string{"a"}, Outputs: []string{"q"}, Lines: lines("q", "a")}
}

// guarded returns the program of wholeProgram.
func guarded() impl.Program {
	list := slices.Concat(lines("x", "a b not and"), lines("q", "x a or on 3"))
	return programOf("p", []string{"a", "b"}, []string{"x"}, []string{"q"}, "x", list)
}

func programOf(name string, inputs []string, vars []string, outputs []string, guard string, list []impl.Line) impl.Program {
	return impl.Program{Name: name, Inputs: inputs, Vars: vars, Outputs: outputs, Guard: guard, Lines: list}
}

func sameLine(one impl.Line, other impl.Line) bool {
	return one.Target == other.Target && slices.Equal(one.Terms, other.Terms)
}

func sameProgram(one impl.Program, other impl.Program) bool {
	return one.Name == other.Name && one.Guard == other.Guard && slices.Equal(one.Inputs, other.Inputs) &&
		slices.Equal(one.Vars, other.Vars) && slices.Equal(one.Outputs, other.Outputs) && slices.EqualFunc(one.Lines, other.Lines, sameLine)
}

func checkProgram(t *testing.T, text string, want impl.Program, code int64) {
	t.Helper()
	if got, gotCode := impl.ParseProgram(text); !sameProgram(got, want) || gotCode != code {
		t.Errorf("ParseProgram(%q) = %v, %d, want %v, %d", text, got, gotCode, want, code)
	}
}

func checkNoProgram(t *testing.T, text string, code int64) {
	t.Helper()
	checkProgram(t, text, impl.Program{}, code)
}

func checkExpression(t *testing.T, text string, want []impl.Term, code int64) {
	t.Helper()
	if got, gotCode := impl.ParseExpression(text); !slices.Equal(got, want) || gotCode != code {
		t.Errorf("ParseExpression(%q) = %v, %d, want %v, %d", text, got, gotCode, want, code)
	}
}

// checkProgramText checks the text of a program, and that it has one only if it is written.
func checkProgramText(t *testing.T, p impl.Program, text string, code int64) {
	t.Helper()
	if got, gotCode := impl.ProgramText(p); got != text || gotCode != code {
		t.Errorf("ProgramText(%v) = %q, %d, want %q, %d", p, got, gotCode, text, code)
	}
	if got := impl.IsWritten(p); got != (code == impl.ErrNone) {
		t.Errorf("IsWritten(%v) = %t", p, got)
	}
}

func checkNotWritten(t *testing.T, p impl.Program) {
	t.Helper()
	checkProgramText(t, p, "", impl.ErrInvalid)
}

// checkTerms checks the text and the height of terms, and that they have them only if they are an
// expression list.
func checkTerms(t *testing.T, list []impl.Term, text string, height int64, code int64) {
	t.Helper()
	if got, gotCode := impl.ExpressionText(list); got != text || gotCode != code {
		t.Errorf("ExpressionText(%v) = %q, %d, want %q, %d", list, got, gotCode, text, code)
	}
	if got, gotCode := impl.HeightOf(list); got != height || gotCode != code {
		t.Errorf("HeightOf(%v) = %d, %d, want %d, %d", list, got, gotCode, height, code)
	}
	if got := impl.IsExpression(list); got != (code == impl.ErrNone) {
		t.Errorf("IsExpression(%v) = %t", list, got)
	}
}

func checkNoTerms(t *testing.T, list []impl.Term) {
	t.Helper()
	checkTerms(t, list, "", 0, impl.ErrInvalid)
}

func TestProgramsAndTheirTexts(t *testing.T) {
	for text, change := range map[string]func(p *impl.Program){
		plainProgram: func(p *impl.Program) {},
		"program p;\nin a;\nvar x;\nout q;\nq = a;\nend;\n":           func(p *impl.Program) { p.Vars = []string{"x"} },
		"program p;\nin a;\nout q;\nguard a;\nq = a;\nend;\n":         func(p *impl.Program) { p.Guard = "a" },
		"program p;\nin a;\nvar x;\nout q;\nguard p;\nq = a;\nend;\n": func(p *impl.Program) { p.Vars, p.Guard = []string{"x"}, "p" },
		"program p;\nin a b c;\nout q;\nq = a;\nend;\n":               func(p *impl.Program) { p.Inputs = []string{"a", "b", "c"} },
		"program p;\nin a;\nvar y x y;\nout q q;\nq = a;\nend;\n":     func(p *impl.Program) { p.Vars, p.Outputs = []string{"y", "x", "y"}, []string{"q", "q"} },
		"program p;\nin p p;\nvar p;\nout p;\nguard p;\np = p;\nend;\n": func(p *impl.Program) {
			*p = programOf("p", []string{"p", "p"}, []string{"p"}, []string{"p"}, "p", lines("p", "p"))
		},
		"program p;\nin a;\nout q;\nq = a;\nq = a;\nend;\n":         func(p *impl.Program) { p.Lines = manyLines(2) },
		"program p;\nin a;\nout q;\nz = y or x;\nq = true;\nend;\n": func(p *impl.Program) { p.Lines = append(lines("z", "y x or"), lines("q", "true")...) },
		"program onn;\nin inn;\nout outt;\nendd = nott or trues;\nend;\n": func(p *impl.Program) {
			*p = programOf("onn", []string{"inn"}, nil, []string{"outt"}, "", lines("endd", "nott trues or"))
		},
		"program end1;\nin a in_ a;\nvar var1 var_;\nout q;\nguard guard2;\nor_ = true1 and pair7;\nend;\n": func(p *impl.Program) {
			*p = programOf("end1", []string{"a", "in_", "a"}, []string{"var1", "var_"}, []string{"q"}, "guard2", lines("or_", "true1 pair7 and"))
		},
		"program " + longWord + ";\nin " + longWord + ";\nout " + longWord + ";\n" + longWord + " = " + longWord + ";\nend;\n": func(p *impl.Program) {
			*p = programOf(longWord, []string{longWord}, nil, []string{longWord}, "", lines(longWord, longWord))
		},
		wholeProgram: func(p *impl.Program) { *p = guarded() },
	} {
		p := program()
		change(&p)
		checkProgramText(t, p, text, impl.ErrNone)
		checkProgram(t, text, p, impl.ErrNone)
	}
}

func TestProgramsWithoutStandardText(t *testing.T) {
	for _, text := range []string{
		strings.ReplaceAll(wholeProgram, "\n", ""), strings.ReplaceAll(wholeProgram, "\n", "\n\n  "), strings.ReplaceAll(wholeProgram, " ", "   "), strings.ReplaceAll(wholeProgram, " ", " # not b;\n"),
		strings.ReplaceAll(wholeProgram, ";", " ; # end;\n"), "# program p;\n" + wholeProgram + "#", "\n\n" + wholeProgram + "\n # behind the end",
		"program p;in a b;var x;out q;guard x;x=a and not b;q=on(x or a,3);end;", "program#\np;in a b;var x;out q;guard x;x=((a)and(not(b)));q=on(((x or(a))),3);end;",
		strings.ReplaceAll(strings.ReplaceAll(wholeProgram, "(", " ( "), ",", "\n,\n"),
	} {
		checkProgram(t, text, guarded(), impl.ErrNone)
	}
}

// namesBy tells whether words are one or more names.
func namesBy(words []string) bool {
	return len(words) > 0 && !slices.ContainsFunc(words, func(word string) bool { return !isNameBy(word) })
}

func isNameBy(word string) bool {
	return len(word) <= impl.MaxWord && wordPattern.FindString(word) == word && word != "" && !slices.Contains(keywords, word)
}

// lastOutside returns the index of the last of some texts that is a word and stands outside of all
// parentheses, or -1.
func lastOutside(texts []string, word string) int {
	depth, last := 0, -1
	for i, text := range texts {
		switch {
		case text == "(":
			depth++
		case text == ")":
			depth--
		case depth == 0 && text == word:
			last = i
		}
	}
	return last
}

// insideOf returns what stands in the parentheses that are the first and the last of some texts.
func insideOf(texts []string) ([]string, bool) {
	depth := 0
	for i, text := range texts {
		switch text {
		case "(":
			depth++
		case ")":
			depth--
		}
		if depth == 0 {
			return texts[1:max(i, 1)], i > 0 && i == len(texts)-1
		}
	}
	return nil, false
}

// argumentsBy returns the terms of the arguments of a block, which stand between commas.
func argumentsBy(texts []string, count int64, hasNumber bool) ([]impl.Term, bool) {
	last := impl.Term{}
	if hasNumber {
		comma := lastOutside(texts, ",")
		if comma < 0 || comma != len(texts)-2 || !exactPattern.MatchString(texts[comma+1]) {
			return nil, false
		}
		last.Number, _ = strconv.ParseInt(texts[comma+1], 10, 64)
		texts = texts[:comma]
	}
	if count == 1 {
		list, ok := termsBy(texts)
		return append(list, last), ok
	}
	comma := lastOutside(texts, ",")
	if comma < 0 {
		return nil, false
	}
	first, isFirst := termsBy(texts[:comma])
	second, isSecond := termsBy(texts[comma+1:])
	return append(slices.Concat(first, second), last), isFirst && isSecond
}

// termsBy returns the terms of an expression with the tokens that have some texts, as it is defined:
// the operation that is computed last stands outside of all parentheses, and is the last or, or the
// last and if there is no or.
func termsBy(texts []string) ([]impl.Term, bool) {
	for _, word := range []string{"or", "and"} {
		if at := lastOutside(texts, word); at >= 0 {
			first, isFirst := termsBy(texts[:at])
			second, isSecond := termsBy(texts[at+1:])
			return slices.Concat(first, second, terms(word)), isFirst && isSecond
		}
	}
	if len(texts) == 0 {
		return nil, false
	}
	kind := slices.Index(operators, texts[0])
	switch {
	case texts[0] == "not":
		list, ok := termsBy(texts[1:])
		return append(list, impl.Term{Kind: impl.TermNot}), ok
	case texts[0] == "(":
		inside, ok := insideOf(texts)
		if !ok {
			return nil, false
		}
		return termsBy(inside)
	case kind >= impl.TermOn && len(texts) > 1 && texts[1] == "(":
		inside, closed := insideOf(texts[1:])
		if !closed {
			return nil, false
		}
		list, ok := argumentsBy(inside, takenValues[kind], kind < len(haveNumbers) && haveNumbers[kind])
		if ok {
			list[len(list)-1].Kind = int64(kind)
		}
		return list, ok
	}
	isValue := isNameBy(texts[0]) || texts[0] == "true" || texts[0] == "false"
	return termsOf(texts[0]), isValue && len(texts) == 1
}

// cut takes a keyword and what stands behind it from the first of some statements.
func cut(statements *[][]string, keyword string) ([]string, bool) {
	if len(*statements) == 0 || len((*statements)[0]) == 0 || (*statements)[0][0] != keyword {
		return nil, false
	}
	words := (*statements)[0][1:]
	*statements = (*statements)[1:]
	return words, true
}

// statementsBy returns the texts before each of the semicolons, the last of which must be the end.
func statementsBy(texts []string) ([][]string, bool) {
	var list [][]string
	for {
		at := slices.Index(texts, ";")
		if at < 0 {
			return list, len(texts) == 0
		}
		list = append(list, texts[:at])
		texts = texts[at+1:]
	}
}

// programBy returns the program with the tokens that have some texts, as it is defined, with any
// number of names, lines and terms.
func programBy(texts []string) (impl.Program, bool) {
	statements, ok := statementsBy(texts)
	name, isNamed := cut(&statements, "program")
	inputs, _ := cut(&statements, "in")
	vars, hasVars := cut(&statements, "var")
	outputs, _ := cut(&statements, "out")
	guard, hasGuard := cut(&statements, "guard")
	if !ok || !isNamed || !namesBy(name) || len(name) != 1 || !namesBy(inputs) || !namesBy(outputs) || len(statements) < 2 {
		return impl.Program{}, false
	}
	if hasVars && !namesBy(vars) || hasGuard && (!namesBy(guard) || len(guard) != 1) {
		return impl.Program{}, false
	}
	p := programOf(name[0], inputs, vars, outputs, strings.Join(guard, ""), nil)
	for i, statement := range statements {
		if i == len(statements)-1 {
			return p, slices.Equal(statement, []string{"end"})
		}
		if len(statement) < 2 || !isNameBy(statement[0]) || statement[1] != "=" {
			break
		}
		list, ok := termsBy(statement[2:])
		if !ok {
			break
		}
		p.Lines = append(p.Lines, impl.Line{Target: statement[0], Terms: list})
	}
	return impl.Program{}, false
}

// areTooMany tells whether there are more names, lines or terms than a written program may have.
func areTooMany(p impl.Program) bool {
	tooLong := func(line impl.Line) bool { return len(line.Terms) > impl.MaxTerms }
	return max(len(p.Inputs), len(p.Vars), len(p.Outputs)) > impl.MaxNames || len(p.Lines) > impl.MaxLines || slices.ContainsFunc(p.Lines, tooLong)
}

// checkProgramBy checks what ParseProgram makes of the tokens with some texts.
func checkProgramBy(t *testing.T, texts []string) {
	t.Helper()
	text := strings.Join(texts, " ")
	p, ok := programBy(texts)
	switch {
	case len(text) > impl.MaxProgramText || len(texts) > impl.MaxTokens:
		checkNoProgram(t, text, impl.ErrLimit)
	case !ok:
		checkNoProgram(t, text, impl.ErrSyntax)
	case areTooMany(p):
		checkNoProgram(t, text, impl.ErrLimit)
	default:
		checkProgram(t, text, p, impl.ErrNone)
		checkProgramRecovered(t, p)
	}
}

// checkExpressionBy checks what ParseExpression makes of the tokens with some texts.
func checkExpressionBy(t *testing.T, texts []string) {
	t.Helper()
	text := strings.Join(texts, " ")
	list, ok := termsBy(texts)
	switch {
	case len(text) > impl.MaxProgramText || len(texts) > impl.MaxTokens:
		checkExpression(t, text, nil, impl.ErrLimit)
	case !ok:
		checkExpression(t, text, nil, impl.ErrSyntax)
	case len(list) > impl.MaxTerms:
		checkExpression(t, text, nil, impl.ErrLimit)
	default:
		checkExpression(t, text, list, impl.ErrNone)
		checkListRecovered(t, list)
	}
}

// tree is an expression: its last term, and the arguments that this takes.
type tree struct {
	last      impl.Term
	arguments []tree
}

// isTermBy tells whether a term has what is written with its kind.
func isTermBy(one impl.Term) bool {
	switch {
	case one.Kind < impl.TermName || one.Kind > impl.TermPair:
		return false
	case one.Kind == impl.TermName:
		return isNameBy(one.Name) && one.Number == 0
	case haveNumbers[one.Kind]:
		return one.Name == "" && one.Number >= 0 && one.Number <= impl.MaxCount
	}
	return one.Name == "" && one.Number == 0
}

// treeBy returns the expression that the last terms of a list are, and the terms before it.
func treeBy(list []impl.Term) (tree, []impl.Term, bool) {
	if len(list) == 0 || !isTermBy(list[len(list)-1]) {
		return tree{}, nil, false
	}
	last, before := list[len(list)-1], list[:len(list)-1]
	whole := tree{last, make([]tree, takenValues[last.Kind])}
	for i := range whole.arguments {
		argument, rest, ok := treeBy(before)
		if !ok {
			return tree{}, nil, false
		}
		whole.arguments[len(whole.arguments)-1-i], before = argument, rest
	}
	return whole, before, true
}

// height is the number of values that an expression needs at the same time, at most.
func (e tree) height() int64 {
	switch len(e.arguments) {
	case 0:
		return 1
	case 1:
		return e.arguments[0].height()
	}
	return max(e.arguments[0].height(), 1+e.arguments[1].height())
}

// strength tells how closely the operation of an expression binds its arguments.
func (e tree) strength() int {
	switch e.last.Kind {
	case impl.TermOr:
		return 1
	case impl.TermAnd:
		return 2
	case impl.TermNot:
		return 3
	}
	return 4
}

// textFrom returns the text of an expression, in parentheses if it binds less than some strength.
func (e tree) textFrom(least int) string {
	if e.strength() < least {
		return "(" + e.textFrom(0) + ")"
	}
	word := operators[max(e.last.Kind, 0)]
	switch e.last.Kind {
	case impl.TermName:
		return e.last.Name
	case impl.TermTrue, impl.TermFalse:
		return word
	case impl.TermNot:
		return word + " " + e.arguments[0].textFrom(3)
	case impl.TermAnd, impl.TermOr:
		return e.arguments[0].textFrom(e.strength()) + " " + word + " " + e.arguments[1].textFrom(e.strength()+1)
	}
	var arguments []string
	for _, argument := range e.arguments {
		arguments = append(arguments, argument.textFrom(0))
	}
	if haveNumbers[e.last.Kind] {
		arguments = append(arguments, strconv.FormatInt(e.last.Number, 10))
	}
	return word + "(" + strings.Join(arguments, ", ") + ")"
}

// wordsOf returns the texts of the tokens of a text.
func wordsOf(text string) []string {
	list, _ := tokensBy(text)
	var words []string
	for _, one := range list {
		words = append(words, one.Text)
	}
	return words
}

// isTooLong tells whether a text is longer than those that are read.
func isTooLong(text string) bool {
	return len(text) > impl.MaxProgramText || len(wordsOf(text)) > impl.MaxTokens
}

// checkListRecovered checks promise 13 for the terms of an expression.
func checkListRecovered(t *testing.T, list []impl.Term) {
	t.Helper()
	e, _, _ := treeBy(list)
	checkTerms(t, list, e.textFrom(0), e.height(), impl.ErrNone)
	checkExpression(t, e.textFrom(0), list, impl.ErrNone)
}

// checkProgramRecovered checks promise 13 for a written program.
func checkProgramRecovered(t *testing.T, p impl.Program) {
	t.Helper()
	parts := []string{"program " + p.Name, "in " + strings.Join(p.Inputs, " "), "out " + strings.Join(p.Outputs, " ")}
	if len(p.Vars) > 0 {
		parts = slices.Insert(parts, 2, "var "+strings.Join(p.Vars, " "))
	}
	if p.Guard != "" {
		parts = append(parts, "guard "+p.Guard)
	}
	for _, line := range p.Lines {
		e, _, _ := treeBy(line.Terms)
		parts = append(parts, line.Target+" = "+e.textFrom(0))
	}
	text := strings.Join(parts, ";\n") + ";\nend;\n"
	checkProgramText(t, p, text, impl.ErrNone)
	if isTooLong(text) {
		checkNoProgram(t, text, impl.ErrLimit)
		return
	}
	checkProgram(t, text, p, impl.ErrNone)
	if again, code := impl.StandardText(tokens(wordsOf(text)...)); again != text || code != impl.ErrNone {
		t.Errorf("%q is no standard text", text)
	}
}

func TestExpressions(t *testing.T) {
	for text, list := range map[string]string{
		"a": "a", "true": "true", "false": "false", "b1_": "b1_", longWord: longWord, "inn": "inn", "true1": "true1", "not_a": "not_a",
		"not a": "a not", "not true": "true not", "not not a": "a not not", "not not not not not a": "a not not not not not",
		"a and b": "a b and", "a or b": "a b or", "a and b and c": "a b and c and", "a or b or c": "a b or c or", "a and (b and c)": "a b c and and", "a or (b or c)": "a b c or or",
		"a and b or c": "a b and c or", "a or b and c": "a b c and or", "a and (b or c)": "a b c or and", "(a or b) and c": "a b or c and", "(a or b) and (c or d)": "a b or c d or and",
		"a or b and c or d": "a b c and or d or", "a and b or c and d": "a b and c d and or", "a and b or (c or d)": "a b and c d or or", "a and (b and c) and d": "a b c and and d and",
		"a and (b and c or d)": "a b c and d or and", "(a and b or c) and d": "a b and c or d and", "a or (b or c and d)": "a b c d and or or",
		"not a and b": "a not b and", "a and not b": "a b not and", "not (a and b)": "a b and not", "not (a or b)": "a b or not", "not (a or b) and c": "a b or not c and", "not (a and b) or c": "a b and not c or",
		"not not (a and b)": "a b and not not", "not a or not b": "a not b not or", "not (not a and not b)": "a not b not and not",
		"on(a, 0)": "a on 0", "off(a, 9999)": "a off 9999", "rise(a)": "a rise", "latch(a, b)": "a b latch", "count(a, b, 0)": "a b count 0", "pair(a, b, 9999)": "a b pair 9999",
		"on(not a, 7)": "a not on 7", "on(a or b and c, 10)": "a b c and or on 10", "rise(a or b)": "a b or rise", "latch(a or b, c and d)": "a b or c d and latch", "pair(true, false, 1)": "true false pair 1",
		"rise(rise(rise(a)))": "a rise rise rise", "on(off(a, 1), 2)": "a off 1 on 2", "latch(rise(a), rise(b))": "a rise b rise latch", "count(latch(a, b), pair(c, d, 5), 6)": "a b latch c d pair 5 count 6",
		"not rise(a)": "a rise not", "rise(a) and rise(b)": "a rise b rise and", "rise((a or b) and c)": "a b or c and rise", "rise(not (a or b))": "a b or not rise", "(latch(a, b) or c) and rise(d)": "a b latch c or d rise and",
		"latch(a and (b and c), a or (b or c))": "a b c and and a b c or or latch", "not ((a or b) and c)": "a b or c and not",
	} {
		checkExpression(t, text, terms(list), impl.ErrNone)
		checkListRecovered(t, terms(list))
		checkExpression(t, "("+text+")", terms(list), impl.ErrNone)
		checkExpression(t, "\n( # a comment\n((\n "+text+" ) )) #)", terms(list), impl.ErrNone)
		checkExpression(t, "not("+text+")", append(terms(list), impl.Term{Kind: impl.TermNot}), impl.ErrNone)
		checkExpression(t, "rise(("+text+"))", append(terms(list), impl.Term{Kind: impl.TermRise}), impl.ErrNone)
		checkExpressionBy(t, wordsOf(text))
	}
}

func TestSuperfluousParentheses(t *testing.T) {
	for text, want := range map[string]string{
		"(a)": "a", "((a))": "a", "(true)": "true", "((a or b) or c)": "a or b or c", "(a and b) and c": "a and b and c", "(a and b) or c": "a and b or c", "a or (b and c)": "a or b and c", "(a) and (b)": "a and b",
		"not (a)": "not a", "not (not a)": "not not a", "not(a or b)and pair(a,b,3)": "not (a or b) and pair(a, b, 3)", "(not a) and b": "not a and b", "not (rise(a))": "not rise(a)", "(rise((a)))": "rise(a)",
		"on((a or b), 3)": "on(a or b, 3)", "latch((a), ((b and c)))": "latch(a, b and c)", "a and ((b or c))": "a and (b or c)", "a or ((b or c))": "a or (b or c)", "((a and (b)))": "a and b",
	} {
		list, _ := impl.ParseExpression(text)
		e, rest, ok := treeBy(list)
		if !ok || len(rest) > 0 {
			t.Errorf("ParseExpression(%q) = %v", text, list)
			continue
		}
		checkTerms(t, list, want, e.height(), impl.ErrNone)
		checkExpression(t, want, list, impl.ErrNone)
	}
}

func TestNoExpressions(t *testing.T) {
	for _, text := range []string{
		"", " ", "\n", "# a", "()", "(", ")", "(a", "a)", "((a)", "(a))", ")a(", "(a)(b)", "()a", "a()", "( )", "(())", "not", "not not", "not ()", "and", "or", "a and", "a or", "and a", "or a", "a and and b", "a or or b", "a and or b", "a or and b", "a not", "a not b",
		"a b", "a true", "true false", "a (b)", "(a) b", "a not b", "rise(a) b", "a rise(b)", "not a b", "a and b c", "a, b", "(a, b)", "a,", ",a", ",", ";", "a;", ";a", "a = b", "x = a;", "=", "= a", "1", "0", "not 1", "a and 1", "1 or a", "(1)",
		"rise", "rise a", "rise()", "rise(a", "rise a)", "rise(a))", "rise((a)", "rise(a, b)", "rise(a, 1)", "rise(1)", "rise(a,)", "rise(,a)", "rise(,)", "(rise)(a)", "rise not a", "rise(a;)", "rise(a b)",
		"on", "on()", "on(a)", "on(3)", "on(a, b)", "on(3, a)", "on(a, 3, 3)", "on(a, 3, b)", "on(a, b, 3)", "on(a,)", "on(, 3)", "on(a 3)", "on a, 3", "on(a, (3))", "on(a, not 3)", "on((a, 3))", "on(a, 3", "on a", "on(a, 3,)", "on(a, true)", "off", "off(a)", "off(a, b)", "off(a, b, 3)",
		"latch", "latch()", "latch(a)", "latch(a, 1)", "latch(1, a)", "latch(a, b, c)", "latch(a, b, 1)", "latch(a b)", "latch(a,, b)", "latch(a, b", "latch((a, b))", "latch a, b", "latch(,)", "latch(a;b)",
		"count(a, b)", "count(a, 1)", "count(a, 1, b)", "count(1, a, b)", "count(a, b, c)", "count(a, b, 1, 2)", "count(a, b, 1, c)", "count(a, b, c, 1)", "count()", "count(1)", "count(a)", "pair(a, b)", "pair(a, 1)", "pair(a, b, c)", "pair(a, b, 1, 2)", "pair(a b 1)", "pair(a, b, 1", "pair a, b, 1",
		"program", "in", "var a", "out", "guard", "end", "end;", "a and end", "not in", "(out)", "rise(program)", plainProgram, wholeProgram, "program p;", "q = a",
		"A", "a or B", "a | b", "%", "01", "10000", "on(a, 10000)", "on(a, 03)", "on(a, -1)", "on(a, 1a)", longWord + "w", "a or _b",
	} {
		checkExpression(t, text, nil, impl.ErrSyntax)
		checkNoProgram(t, text+"%", impl.ErrSyntax)
		if list, wrong := tokensBy(text); wrong < 0 && len(list) > 0 {
			checkExpressionBy(t, wordsOf(text))
			checkProgramBy(t, wordsOf("program p; in a; out q; q = "+text+"; end;"))
		}
	}
	for _, text := range []string{"a", "true", "not a or b", "on(a, 3)", "(a)", "", "# end", "\n", "a;", "q = a;", "end;", "program p", "()"} {
		checkNoProgram(t, text, impl.ErrSyntax)
	}
}

// eachList calls check with each list of at most some parts, which it must not keep.
func eachList[T any](parts []T, most int, check func(list []T)) {
	list := make([]T, 0, most)
	var extend func()
	extend = func() {
		check(list)
		if len(list) == most {
			return
		}
		for _, part := range parts {
			list = append(list, part)
			extend()
			list = list[:len(list)-1]
		}
	}
	extend()
}

func TestEachShortExpression(t *testing.T) {
	eachList([]string{"a", "true", "not", "and", "or", "(", ")", ",", "3", "on", "rise", "latch"}, 5, func(texts []string) { checkExpressionBy(t, texts) })
	eachList([]string{"a", "not", "and", "or", "(", ")"}, 7, func(texts []string) { checkExpressionBy(t, texts) })
	for _, word := range blockKeywords {
		eachList([]string{"a", "7", ",", ")"}, 7, func(texts []string) { checkExpressionBy(t, slices.Concat([]string{word, "("}, texts)) })
	}
}

func TestEachShortListOfTerms(t *testing.T) {
	sample := slices.Concat(terms("a true not and or on 3 rise latch pair 0"), []impl.Term{{}})
	eachList(sample, 5, func(list []impl.Term) {
		if _, rest, ok := treeBy(list); !ok || len(rest) > 0 {
			checkNoTerms(t, list)
			return
		}
		checkListRecovered(t, list)
	})
}

func TestEachShortProgram(t *testing.T) {
	statements := []string{"program p ;", "in a ;", "var x ;", "out q ;", "guard x ;", "q = a ;", "end ;"}
	eachList(statements, 6, func(list []string) { checkProgramBy(t, strings.Fields(strings.Join(list, " "))) })
	eachList([]string{"p", "in", ";", "=", "end", "3"}, 5, func(texts []string) {
		checkProgramBy(t, slices.Concat([]string{"program"}, texts, wordsOf("a; out q; q = a; end;")))
		checkProgramBy(t, slices.Concat(wordsOf("program p; in a; out q; q = a; "), texts))
	})
}

// TestChangedStatements leaves out, doubles and moves each statement of a program.
func TestChangedStatements(t *testing.T) {
	statements := strings.SplitAfter(strings.TrimSuffix(wholeProgram, "\n"), ";")
	join := func(list []string) []string { return wordsOf(strings.Join(list, "")) }
	for i, one := range statements {
		left := slices.Delete(slices.Clone(statements), i, i+1)
		checkProgramBy(t, join(left))
		for to := range len(left) + 1 {
			checkProgramBy(t, join(slices.Insert(slices.Clone(left), to, one)))
			checkProgramBy(t, join(slices.Insert(slices.Clone(statements), to, one)))
		}
	}
}

// otherTexts are texts of tokens for any place of a program.
var otherTexts = slices.Concat(keywords, signTexts, []string{"a", "x", "inn", "0", "3", "9999"})

// TestChangedTokens leaves out, doubles, exchanges, replaces and inserts each token of a program.
func TestChangedTokens(t *testing.T) {
	for _, text := range []string{plainProgram, wholeProgram, "program p; in a; out q; q = not (latch(a, b) or pair(a, rise(b), 4)) and (true); end;"} {
		texts := wordsOf(text)
		for i := range len(texts) + 1 {
			for _, other := range otherTexts {
				checkProgramBy(t, slices.Insert(slices.Clone(texts), i, other))
			}
			if i == len(texts) {
				break
			}
			checkProgramBy(t, texts[:i])
			checkProgramBy(t, texts[i:])
			checkProgramBy(t, slices.Delete(slices.Clone(texts), i, i+1))
			for j := range texts {
				changed := slices.Clone(texts)
				changed[i], changed[j] = changed[j], changed[i]
				checkProgramBy(t, changed)
			}
			for _, other := range otherTexts {
				changed := slices.Clone(texts)
				changed[i] = other
				checkProgramBy(t, changed)
			}
		}
	}
}

func TestNoPrograms(t *testing.T) {
	for _, text := range []string{
		"", " ", "# program p;", "program p;", "program p", "program;", "program p in a; out q; q = a; end;", "program 3; in a; out q; q = a; end;", "program p q; in a; out q; q = a; end;", "program program; in a; out q; q = a; end;",
		"program p; in; out q; q = a; end;", "program p; in a, b; out q; q = a; end;", "program p; in a b, ; out q; q = a; end;", "program p; in 1; out q; q = a; end;", "program p; in a 1; out q; q = a; end;", "program p; in a out q; q = a; end;", "program p; in a true; out q; q = a; end;",
		"program p; in a; var; out q; q = a; end;", "program p; in a; var x, y; out q; q = a; end;", "program p; in a; var x; var y; out q; q = a; end;", "program p; in a; in b; out q; q = a; end;", "program p; var x; in a; out q; q = a; end;", "program p; in a; out q; var x; q = a; end;",
		"program p; in a; out; q = a; end;", "program p; in a; q = a; end;", "program p; out q; q = a; end;", "program p; in a; out q; guard; q = a; end;", "program p; in a; out q; guard a b; q = a; end;", "program p; in a; out q; guard a; guard a; q = a; end;", "program p; in a; guard a; out q; q = a; end;", "program p; in a; out q; guard 1; q = a; end;", "program p; in a; out q; guard true; q = a; end;",
		"program p; in a; out q; end;", "program p; in a; out q; q = ; end;", "program p; in a; out q; q a; end;", "program p; in a; out q; = a; end;", "program p; in a; out q; 3 = a; end;", "program p; in a; out q; true = a; end;", "program p; in a; out q; q = 3; end;", "program p; in a; out q; q = a = b; end;", "program p; in a; out q; q, r = a; end;", "program p; in a; out q; q r = a; end;",
		"program p; in a; out q; q = a end;", "program p; in a; out q; q = a;; end;", "program p; in a; out q; q = a; ; end;", "program p;; in a; out q; q = a; end;", "program p; in a; out q; q = a; end", "program p; in a; out q; q = a; end;;", "program p; in a; out q; q = a; end; end;", "program p; in a; out q; q = a; end; a", "program p; in a; out q; q = a;", "program p; in a; out q; q = a; end; q = a;",
		"; program p; in a; out q; q = a; end;", "a program p; in a; out q; q = a; end;", "end; program p; in a; out q; q = a; end;", "program p; in a; out q; guard a; q = a; guard a; end;", plainProgram + plainProgram, plainProgram + "a", plainProgram + ";", plainProgram + "3", plainProgram[1:], "Program p; in a; out q; q = a; end;",
	} {
		checkNoProgram(t, text, impl.ErrSyntax)
		checkExpression(t, text, nil, impl.ErrSyntax)
	}
}

// namesText returns the text of a program with some numbers of names.
func namesText(inputs int, vars int, outputs int) (string, impl.Program) {
	p := program()
	p.Inputs, p.Vars, p.Outputs = manyNames(inputs), manyNames(vars), manyNames(outputs)
	text := "program p; in " + strings.Join(p.Inputs, " ") + "; "
	if vars > 0 {
		text += "var " + strings.Join(p.Vars, " ") + "; "
	}
	return text + "out " + strings.Join(p.Outputs, " ") + "; q = a; end;", p
}

func TestNumbersOfNames(t *testing.T) {
	for _, inputs := range []int{1, 2, impl.MaxNames - 1, impl.MaxNames, impl.MaxNames + 1, 2 * impl.MaxNames} {
		for _, vars := range []int{0, 1, 2, impl.MaxNames - 1, impl.MaxNames, impl.MaxNames + 1, 2 * impl.MaxNames} {
			for _, outputs := range []int{1, 2, impl.MaxNames - 1, impl.MaxNames, impl.MaxNames + 1, 2 * impl.MaxNames} {
				text, p := namesText(inputs, vars, outputs)
				checkNoProgram(t, text+";", impl.ErrSyntax)
				if max(inputs, vars, outputs) > impl.MaxNames {
					checkNoProgram(t, text, impl.ErrLimit)
					checkNotWritten(t, p)
					continue
				}
				checkProgram(t, text, p, impl.ErrNone)
				checkProgramRecovered(t, p)
			}
		}
	}
}

func TestNumbersOfLines(t *testing.T) {
	for _, count := range []int{1, 2, impl.MaxLines - 1, impl.MaxLines, impl.MaxLines + 1, 2 * impl.MaxLines} {
		p := program()
		p.Lines = manyLines(count)
		text := "program p;\nin a;\nout q;\n" + strings.Repeat("q = a;\n", count) + "end;\n"
		checkNoProgram(t, text+"end;", impl.ErrSyntax)
		checkNoProgram(t, text[:len(text)-6], impl.ErrSyntax)
		if count > impl.MaxLines {
			checkNoProgram(t, text, impl.ErrLimit)
			checkNotWritten(t, p)
			continue
		}
		checkProgram(t, text, p, impl.ErrNone)
		checkProgramText(t, p, text, impl.ErrNone)
	}
}

func TestNumbersOfTerms(t *testing.T) {
	long := slices.Concat(chained(impl.MaxTerms/2, "and"), terms("rise"))
	for count := range 60 {
		list := slices.Concat(terms("a"), slices.Repeat(terms("not"), count))
		text := strings.Repeat("not ", count) + "a"
		checkExpression(t, text+" a", nil, impl.ErrSyntax)
		checkNoProgram(t, "program p; in a; out q; q = "+text+" a; end;", impl.ErrSyntax)
		first, p := program(), program()
		first.Lines = slices.Concat(lines("q", "a"), []impl.Line{{Target: "z", Terms: list}})
		p.Lines = append([]impl.Line{{Target: "z", Terms: long}}, first.Lines...)
		if count+1 > impl.MaxTerms {
			checkExpression(t, text, nil, impl.ErrLimit)
			checkNoTerms(t, list)
			checkNoProgram(t, "program p; in a; out q; q = "+text+"; end;", impl.ErrLimit)
			checkNoProgram(t, "program p; in a; out q; q = a; z = "+text+"; end;", impl.ErrLimit)
			checkNotWritten(t, first)
			checkNotWritten(t, p)
			continue
		}
		checkListRecovered(t, list)
		checkTerms(t, list, text, 1, impl.ErrNone)
		checkProgramRecovered(t, first)
		checkProgramRecovered(t, p)
	}
	for _, operator := range []string{"and", "or", "latch"} {
		checkNoTerms(t, chained(impl.MaxTerms/2+1, operator))
		checkListRecovered(t, chained(impl.MaxTerms/2, operator))
	}
	checkNoTerms(t, append(long, terms("rise")...))
	checkNoTerms(t, slices.Repeat(terms("a"), 1000))
}

func TestSyntaxErrorsBeforeLimits(t *testing.T) {
	tooManyNames, _ := namesText(impl.MaxNames+1, impl.MaxNames+1, impl.MaxNames+1)
	tooManyLines := "program p; in a; out q; " + strings.Repeat("q = a; ", impl.MaxLines+1) + "end;"
	tooManyTerms := "program p; in a; out q; q = " + strings.Repeat("not ", impl.MaxTerms) + "a; end;"
	for _, text := range []string{tooManyNames, tooManyLines, tooManyTerms, tooManyTerms[:len(tooManyTerms)-4] + tooManyLines[24:]} {
		checkNoProgram(t, text, impl.ErrLimit)
		for i := range len(text) {
			if text[i] == ';' {
				checkNoProgram(t, text[:i]+text[i+1:], impl.ErrSyntax)
				checkNoProgram(t, text[:i]+", a"+text[i:], impl.ErrSyntax)
				checkNoProgram(t, text[:i]+";"+text[i:], impl.ErrSyntax)
			}
		}
		checkNoProgram(t, text+"a", impl.ErrSyntax)
		checkNoProgram(t, text+"%", impl.ErrSyntax)
		checkNoProgram(t, "# "+text, impl.ErrSyntax)
		checkNoProgram(t, text+strings.Repeat(" ", impl.MaxProgramText), impl.ErrLimit)
	}
	long := strings.Repeat("not ", impl.MaxTerms) + "a"
	checkExpression(t, long, nil, impl.ErrLimit)
	for _, text := range []string{long + " b", long + ")", long + ";", "(" + long, long + " and", long + "%", "rise(" + long + ", a)", long + " or on(a)"} {
		checkExpression(t, text, nil, impl.ErrSyntax)
	}
}

func TestErrorsOfTexts(t *testing.T) {
	fill := strings.Repeat(" ", impl.MaxProgramText)
	for _, text := range []string{"a", wholeProgram} {
		longest := text + fill[len(text):]
		p, isProgram := programBy(wordsOf(text))
		list, isExpression := termsBy(wordsOf(text))
		if isProgram {
			checkProgram(t, longest, p, impl.ErrNone)
		} else {
			checkNoProgram(t, longest, impl.ErrSyntax)
		}
		if isExpression {
			checkExpression(t, longest, list, impl.ErrNone)
		} else {
			checkExpression(t, longest, nil, impl.ErrSyntax)
		}
		for _, longer := range []string{longest + " ", " " + longest, longest + "%", "%" + longest, longest + ";", "#" + longest, longest + "\n" + longest} {
			checkNoProgram(t, longer, impl.ErrLimit)
			checkExpression(t, longer, nil, impl.ErrLimit)
		}
	}
	most := strings.Repeat("a ", impl.MaxTokens)
	for text, code := range map[string]int64{
		most: impl.ErrSyntax, most + "a": impl.ErrLimit, most + ";": impl.ErrLimit, most + "a%": impl.ErrSyntax, "% " + most + "a": impl.ErrSyntax, most + "01": impl.ErrSyntax,
		strings.Repeat("=", impl.MaxProgramText): impl.ErrLimit, strings.Repeat("=", impl.MaxProgramText+1): impl.ErrLimit, strings.Repeat("=", impl.MaxProgramText-1) + "%": impl.ErrSyntax, strings.Repeat("%", impl.MaxProgramText+1): impl.ErrLimit,
		strings.Repeat("not ", impl.MaxTokens): impl.ErrSyntax, strings.Repeat("(", impl.MaxTokens): impl.ErrSyntax, strings.Repeat("(", impl.MaxTokens+1): impl.ErrLimit, strings.Repeat("on(", impl.MaxTokens/2): impl.ErrSyntax,
	} {
		checkNoProgram(t, text, code)
		checkExpression(t, text, nil, code)
	}
}

// orOf returns the terms of a or a or .. with some number of names.
func orOf(count int) []impl.Term {
	return slices.Concat(terms("a"), slices.Repeat(terms("a or"), count-1))
}

// TestNumbersOfTokensOfPrograms has a program of as many tokens as a text may have.
func TestNumbersOfTokensOfPrograms(t *testing.T) {
	p := program()
	p.Inputs = manyNames(impl.MaxNames)
	p.Lines = slices.Repeat([]impl.Line{{Target: "q", Terms: orOf(impl.MaxTerms / 2)}}, 18)
	p.Lines = append(p.Lines, impl.Line{Target: "q", Terms: orOf(6)})
	text, _ := impl.ProgramText(p)
	if count := len(wordsOf(text)); count != impl.MaxTokens {
		t.Errorf("the program has %d tokens", count)
	}
	checkProgramRecovered(t, p)
	p.Vars = []string{"x"}
	checkProgramRecovered(t, p)
	for depth := range impl.MaxTokens / 2 {
		checkExpression(t, strings.Repeat("(", depth)+"a"+strings.Repeat(")", depth), terms("a"), impl.ErrNone)
	}
	half := impl.MaxTokens / 2
	checkExpression(t, strings.Repeat("(", half)+"a"+strings.Repeat(")", half-1), nil, impl.ErrSyntax)
	checkExpression(t, strings.Repeat("(", half)+"a"+strings.Repeat(")", half), nil, impl.ErrLimit)
	checkExpression(t, strings.Repeat("not ", impl.MaxTokens-1)+"a", nil, impl.ErrLimit)
	checkExpression(t, strings.Repeat("not ", impl.MaxTokens-1)+"1", nil, impl.ErrSyntax)
	checkExpression(t, "a"+strings.Repeat(" or a", half-1), nil, impl.ErrLimit)
	checkExpression(t, "a"+strings.Repeat(" or a", half-1)+" or", nil, impl.ErrSyntax)
}

// TestLongTextsOfPrograms has programs whose texts may be too long to be read, with and without too
// many tokens.
func TestLongTextsOfPrograms(t *testing.T) {
	p := program()
	p.Lines = slices.Repeat([]impl.Line{{Target: longWord, Terms: chained(impl.MaxTerms/2, "and")}}, impl.MaxLines)
	text, code := impl.ProgramText(p)
	if code != impl.ErrNone || !isTooLong(text) {
		t.Errorf("the text of %d bytes is not too long, or there is the error %d", len(text), code)
	}
	checkProgramRecovered(t, p)
	for i := range p.Lines {
		p.Lines[i].Terms = slices.Concat(termsOf(longWord), slices.Repeat(terms("not"), impl.MaxTerms-1))
		checkProgramRecovered(t, p)
	}
	for i := range p.Lines {
		p.Lines[i].Terms = slices.Concat(termsOf(longWord), slices.Repeat(terms("off 9999"), 3))
		checkProgramRecovered(t, p)
	}
}

// mixedTree returns the terms of a random expression with at most some terms.
func mixedTree(random *rand.Rand, most int) []impl.Term {
	kind := int64(1 + random.Intn(impl.TermPair))
	if most < 3 {
		kind = 1 + kind%3
	}
	last := impl.Term{Kind: kind}
	if kind == impl.TermName {
		last.Name = []string{"a", "b", "c_1", "inn", longWord}[random.Intn(5)]
	}
	if haveNumbers[kind] {
		last.Number = []int64{0, 1, 10, 42, 9998, 9999}[random.Intn(6)]
	}
	switch takenValues[kind] {
	case 0:
		return []impl.Term{last}
	case 1:
		return append(mixedTree(random, most-1), last)
	}
	first := mixedTree(random, most-2)
	return append(slices.Concat(first, mixedTree(random, most-1-len(first))), last)
}

// mixedLogic returns the terms of a random expression whose operations are not, and and or.
func mixedLogic(random *rand.Rand, most int) []impl.Term {
	kind := impl.TermNot + int64(random.Intn(3))
	switch {
	case most < 3:
		return terms([]string{"a", "b", "true"}[random.Intn(3)])
	case kind == impl.TermNot:
		return append(mixedLogic(random, most-1), impl.Term{Kind: kind})
	}
	first := mixedLogic(random, 1+random.Intn(most-2))
	return append(slices.Concat(first, mixedLogic(random, most-1-len(first))), impl.Term{Kind: kind})
}

func TestExpressionsAreRecovered(t *testing.T) {
	random := rand.New(rand.NewSource(13))
	for range 20000 {
		checkListRecovered(t, mixedTree(random, impl.MaxTerms))
		checkListRecovered(t, mixedLogic(random, 1+random.Intn(impl.MaxTerms)))
	}
}

// TestParenthesesAreNeeded leaves out each pair of parentheses that is not that of a block.
func TestParenthesesAreNeeded(t *testing.T) {
	random := rand.New(rand.NewSource(130))
	for range 5000 {
		list := mixedLogic(random, 1+random.Intn(20))
		text, _ := impl.ExpressionText(list)
		words := wordsOf(text)
		for i, word := range words {
			if word != "(" {
				continue
			}
			inside, end := []string{}, i
			for ok := false; !ok; end++ {
				inside, ok = insideOf(words[i : end+1])
			}
			left := slices.Concat(words[:i], inside, words[end:])
			if got, _ := impl.ParseExpression(strings.Join(left, " ")); slices.Equal(got, list) {
				t.Errorf("the parentheses at the token %d of %q are not needed", i, text)
			}
		}
	}
}

// mixedProgram returns a random written program.
func mixedProgram(random *rand.Rand, mostLines int, mostTerms int) impl.Program {
	p := impl.Program{Name: "p", Inputs: manyNames(1 + random.Intn(impl.MaxNames)), Outputs: manyNames(1 + random.Intn(impl.MaxNames))}
	p.Vars = manyNames(max(0, random.Intn(2*impl.MaxNames)-impl.MaxNames+1))
	if random.Intn(2) == 0 {
		p.Guard = "guard1"
	}
	for range 1 + random.Intn(mostLines) {
		p.Lines = append(p.Lines, impl.Line{Target: "x" + strconv.Itoa(random.Intn(30)), Terms: mixedTree(random, mostTerms)})
	}
	return p
}

func TestProgramsAreRecovered(t *testing.T) {
	random := rand.New(rand.NewSource(1300))
	for range 3000 {
		checkProgramRecovered(t, mixedProgram(random, 8, 12))
	}
	for range 300 {
		checkProgramRecovered(t, mixedProgram(random, impl.MaxLines, impl.MaxTerms))
	}
}

// TestMixedPrograms changes random tokens of random programs.
func TestMixedPrograms(t *testing.T) {
	random := rand.New(rand.NewSource(13000))
	for range 5000 {
		text, _ := impl.ProgramText(mixedProgram(random, 3, 10))
		texts := wordsOf(text)
		for range random.Intn(3) {
			i, other := random.Intn(len(texts)), otherTexts[random.Intn(len(otherTexts))]
			switch random.Intn(3) {
			case 0:
				texts[i] = other
			case 1:
				texts = slices.Insert(texts, i, other)
			case 2:
				texts = slices.Delete(texts, i, i+1)
			}
		}
		checkProgramBy(t, texts)
	}
}

func TestTermsThatAreNone(t *testing.T) {
	for _, one := range []impl.Term{
		{}, {Kind: 13}, {Kind: -1}, {Kind: 13, Name: "a"}, {Kind: 0, Name: "a"}, {Kind: math.MaxInt64}, {Kind: math.MinInt64}, {Kind: 1 << 32}, {Kind: 1<<32 + 1, Name: "a"},
		{Kind: impl.TermName}, {Kind: impl.TermName, Name: "true"}, {Kind: impl.TermName, Name: "in"}, {Kind: impl.TermName, Name: "3"}, {Kind: impl.TermName, Name: "a b"}, {Kind: impl.TermName, Name: " a"}, {Kind: impl.TermName, Name: "a "}, {Kind: impl.TermName, Name: "A"}, {Kind: impl.TermName, Name: "("}, {Kind: impl.TermName, Name: longWord + "w"}, {Kind: impl.TermName, Name: longestText},
		{Kind: impl.TermName, Name: "a", Number: 1}, {Kind: impl.TermName, Name: "a", Number: -1}, {Kind: impl.TermTrue, Number: 1}, {Kind: impl.TermFalse, Number: -1}, {Kind: impl.TermTrue, Name: "true"}, {Kind: impl.TermTrue, Name: "a"}, {Kind: impl.TermFalse, Name: "a"},
	} {
		checkNoTerms(t, []impl.Term{one})
		checkNoTerms(t, append([]impl.Term{one}, terms("not")...))
		checkNoTerms(t, append([]impl.Term{one}, terms("a and")...))
		checkNoTerms(t, append(terms("a"), one, terms("or")[0]))
		p := program()
		p.Lines = append(manyLines(2), impl.Line{Target: "q", Terms: []impl.Term{one}})
		checkNotWritten(t, p)
	}
	for _, word := range append(slices.Clone(keywords), noTokenTexts...) {
		checkNoTerms(t, []impl.Term{{Kind: impl.TermName, Name: word}})
	}
	for kind := int64(impl.TermNot); kind <= impl.TermPair; kind++ {
		arguments := slices.Repeat(terms("a"), int(takenValues[kind]))
		for _, number := range []int64{math.MinInt64, -10000, -9999, -1, 0, 1, 9998, 9999, 10000, 10001, 1 << 32, math.MaxInt64} {
			list := append(slices.Clone(arguments), impl.Term{Kind: kind, Number: number})
			if number == 0 || haveNumbers[kind] && number > 0 && number <= impl.MaxCount {
				checkListRecovered(t, list)
			} else {
				checkNoTerms(t, list)
			}
		}
		for _, name := range []string{"a", " ", operators[kind], "0"} {
			checkNoTerms(t, append(slices.Clone(arguments), impl.Term{Kind: kind, Name: name}))
		}
	}
}

func TestListsThatAreNoExpressions(t *testing.T) {
	for _, text := range []string{
		"", "not", "and", "or", "on 3", "rise", "latch", "pair 3", "a b", "a and", "a or", "a latch", "a count 1", "a pair 1", "and a b", "a and b", "not a", "a not b", "a b c and", "a b and c", "a b and and", "a b and or c",
		"rise a", "a b rise", "a b on 3", "a b latch c", "true false", "a a a", "a b and c d or", "a and b or", "a not and", "a not not not b",
	} {
		checkNoTerms(t, terms(text))
		p := program()
		p.Lines[0].Terms = terms(text)
		checkNotWritten(t, p)
	}
	checkNoTerms(t, []impl.Term{})
}

func TestProgramsThatAreNotWritten(t *testing.T) {
	for _, change := range []func(p *impl.Program){
		func(p *impl.Program) { *p = impl.Program{} },
		func(p *impl.Program) { p.Inputs = nil }, func(p *impl.Program) { p.Inputs = []string{} }, func(p *impl.Program) { p.Outputs = nil }, func(p *impl.Program) { p.Outputs = []string{} }, func(p *impl.Program) { p.Inputs, p.Outputs = nil, nil },
		func(p *impl.Program) { p.Lines = nil }, func(p *impl.Program) { p.Lines = []impl.Line{} }, func(p *impl.Program) { p.Lines = []impl.Line{{}} }, func(p *impl.Program) { p.Lines = append(p.Lines, impl.Line{Target: "q"}) },
		func(p *impl.Program) { p.Lines[0].Terms = nil }, func(p *impl.Program) { p.Lines[1].Terms = p.Lines[1].Terms[1:] },
		func(p *impl.Program) { p.Inputs = manyNames(impl.MaxNames + 1) }, func(p *impl.Program) { p.Vars = manyNames(impl.MaxNames + 1) }, func(p *impl.Program) { p.Outputs = manyNames(impl.MaxNames + 1) }, func(p *impl.Program) { p.Vars = slices.Repeat([]string{"x"}, 5000) },
		func(p *impl.Program) { p.Lines = manyLines(impl.MaxLines + 1) }, func(p *impl.Program) { p.Lines = manyLines(5000) },
	} {
		p := guarded()
		change(&p)
		checkNotWritten(t, p)
	}
	for _, word := range slices.Concat(keywords, signTexts, noTokenTexts, []string{"0", "7"}) {
		for _, change := range []func(p *impl.Program){
			func(p *impl.Program) { p.Name = word }, func(p *impl.Program) { p.Inputs[0] = word }, func(p *impl.Program) { p.Inputs[1] = word }, func(p *impl.Program) { p.Vars[0] = word },
			func(p *impl.Program) { p.Vars = append(p.Vars, word) }, func(p *impl.Program) { p.Outputs[0] = word }, func(p *impl.Program) { p.Outputs = append(manyNames(impl.MaxNames-1), word) },
			func(p *impl.Program) { p.Lines[0].Target = word }, func(p *impl.Program) { p.Lines[1].Target = word }, func(p *impl.Program) { p.Lines[1].Terms[0].Name = word }, func(p *impl.Program) { p.Guard = word + " " },
		} {
			p := guarded()
			change(&p)
			checkNotWritten(t, p)
		}
		p := guarded()
		if p.Guard = word; word != "" {
			checkNotWritten(t, p)
			continue
		}
		checkProgramRecovered(t, p)
		p.Vars = []string{}
		checkProgramRecovered(t, p)
	}
}

func TestArgumentsOfKinds(t *testing.T) {
	for kind := range int64(40) {
		kind -= 10
		want, code := int64(0), int64(impl.ErrRange)
		if kind >= impl.TermName && kind <= impl.TermPair {
			want, code = takenValues[kind], impl.ErrNone
		}
		if got, gotCode := impl.ArgumentsOf(kind); got != want || gotCode != code {
			t.Errorf("ArgumentsOf(%d) = %d, %d, want %d, %d", kind, got, gotCode, want, code)
		}
	}
	for _, kind := range []int64{math.MinInt64, math.MaxInt64, 1<<32 + 4, -1 << 32, 1 << 8} {
		if got, code := impl.ArgumentsOf(kind); got != 0 || code != impl.ErrRange {
			t.Errorf("ArgumentsOf(%d) = %d, %d", kind, got, code)
		}
	}
}

func TestHeightsOfExpressions(t *testing.T) {
	for text, height := range map[string]int64{
		"a": 1, "true": 1, "a not not": 1, "a rise on 3 off 4": 1, "a b and": 2, "a b and c and d and": 2, "a b c or or": 3, "a b or c d or and": 3, "a b c d latch latch latch": 4, "a b latch c d latch latch": 3, "a b not c not pair 1 count 2": 3, "a not b c and rise or": 3,
		"a b c d and or and e or": 4,
	} {
		if got, code := impl.HeightOf(terms(text)); got != height || code != impl.ErrNone {
			t.Errorf("HeightOf(%s) = %d, %d, want %d", text, got, code, height)
		}
	}
	for count := 1; count <= impl.MaxTerms/2; count++ {
		for _, operator := range []string{"and", "or", "latch", "pair 7"} {
			list := chained(count, operator)
			checkListRecovered(t, list)
			if got, code := impl.HeightOf(list); got != int64(count) || code != impl.ErrNone {
				t.Errorf("HeightOf(%v) = %d, %d, want %d", list, got, code, count)
			}
		}
	}
}

// textsOf returns all texts of a program.
func textsOf(p impl.Program) []string {
	texts := slices.Concat([]string{p.Name, p.Guard}, p.Inputs, p.Vars, p.Outputs)
	for _, line := range p.Lines {
		texts = append(texts, line.Target)
		for _, one := range line.Terms {
			texts = append(texts, one.Name)
		}
	}
	return texts
}

// spoilNames overwrites names and the spare capacity behind them.
func spoilNames(names []string) {
	for i := range names[:cap(names)] {
		names[:cap(names)][i] = "spoilt"
	}
}

func spoilTerms(list []impl.Term) {
	for i := range list[:cap(list)] {
		list[:cap(list)][i] = impl.Term{Kind: -1, Name: "spoilt", Number: -1}
	}
}

func TestResultsOfParsersAreNew(t *testing.T) {
	text := strings.Clone(wholeProgram)
	for range 2 {
		p, _ := impl.ParseProgram(text)
		for _, part := range textsOf(p) {
			if sharesMemory(part, text) {
				t.Errorf("%q shares memory with its program", part)
			}
		}
		spoilNames(p.Inputs)
		if !slices.Equal(p.Vars, []string{"x"}) || !slices.Equal(p.Outputs, []string{"q"}) {
			t.Errorf("the names became %v and %v", p.Vars, p.Outputs)
		}
		spoilNames(p.Vars)
		if !slices.Equal(p.Outputs, []string{"q"}) {
			t.Errorf("the outputs became %v", p.Outputs)
		}
		spoilTerms(p.Lines[0].Terms)
		if !slices.Equal(p.Lines[1].Terms, terms("x a or on 3")) {
			t.Errorf("the terms became %v", p.Lines[1].Terms)
		}
		spoilTerms(p.Lines[1].Terms)
		for i := range p.Lines[:cap(p.Lines)] {
			p.Lines[:cap(p.Lines)][i] = impl.Line{Target: "spoilt"}
		}
		checkProgram(t, text, guarded(), impl.ErrNone)
		list, _ := impl.ParseExpression(text[len(text)-28 : len(text)-8])
		for _, one := range list {
			if one.Name != "" && sharesMemory(one.Name, text) {
				t.Errorf("%q shares memory with its expression", one.Name)
			}
		}
		spoilTerms(list)
	}
}

func TestArgumentsOfParsersAreNotChanged(t *testing.T) {
	name := strings.Repeat("n", 2)
	list := append(termsOf(name), slices.Repeat([]impl.Term{{Kind: -7, Name: "behind", Number: -7}}, 3)...)
	names := []string{name, "behind", "behind", "behind"}
	p := programOf(name, names[:1], names[:1], names[:1], name, append(make([]impl.Line, 0, 4), impl.Line{Target: name, Terms: list[:1]}))
	p.Lines[:2][1] = impl.Line{Target: "behind"}
	for range 2 {
		text, code := impl.ExpressionText(list[:1])
		if text != name || code != impl.ErrNone || sharesMemory(text, name) {
			t.Errorf("ExpressionText(%s) = %q, %d, or it shares memory", name, text, code)
		}
		checkProgramRecovered(t, p)
		checkNoTerms(t, list)
		checkTerms(t, list[:1], name, 1, impl.ErrNone)
	}
	if !slices.Equal(names, []string{name, "behind", "behind", "behind"}) {
		t.Errorf("the names became %v", names)
	}
	for _, one := range list[1:] {
		if one != (impl.Term{Kind: -7, Name: "behind", Number: -7}) {
			t.Errorf("the terms became %v", list)
		}
	}
	if list[0] != termsOf(name)[0] || !sameLine(p.Lines[0], impl.Line{Target: name, Terms: list[:1]}) || p.Lines[:2][1].Target != "behind" {
		t.Errorf("the lines became %v", p.Lines[:2])
	}
	long := chained(5, "and")
	for count := range len(long) + 1 {
		kept := slices.Clone(long)
		impl.ExpressionText(long[:count])
		impl.HeightOf(long[:count])
		impl.IsExpression(long[:count])
		if !slices.Equal(long, kept) {
			t.Errorf("the terms became %v", long)
		}
	}
}

func TestConstantsOfTerms(t *testing.T) {
	got := []int64{impl.TermName, impl.TermTrue, impl.TermFalse, impl.TermNot, impl.TermAnd, impl.TermOr, impl.TermOn, impl.TermOff, impl.TermRise, impl.TermLatch, impl.TermCount, impl.TermPair, impl.MaxTerms, impl.MaxLines, impl.MaxNames}
	if !slices.Equal(got, []int64{1, 2, 3, 4, 5, 6, 7, 8, 9, 10, 11, 12, 40, 40, 20}) {
		t.Errorf("the constants are %v", got)
	}
}
