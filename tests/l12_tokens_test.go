package tests

import (
	"math"
	"math/rand"
	"regexp"
	"slices"
	"strconv"
	"strings"
	"testing"
	"unsafe"

	"loop.example/g00916/impl"
)

// keywords are all keywords, the last six of which are those of the function blocks.
var keywords = []string{
	"program", "in", "var", "out", "guard", "end", "and", "or", "not", "true", "false",
	"on", "off", "rise", "latch", "count", "pair",
}

var blockKeywords = keywords[11:]

var signTexts = []string{"=", "(", ")", ",", ";"}

// longWord and longestText are as long as a word and a text may be.
var (
	longWord    = strings.Repeat("w", impl.MaxWord)
	longestText = strings.Repeat("a b ", impl.MaxProgramText/4)
)

func token(kind int64, text string) impl.Token { return impl.Token{Kind: kind, Text: text} }

// tokens returns the tokens with some texts, whose kinds are told by their first bytes.
func tokens(texts ...string) []impl.Token {
	var list []impl.Token
	for _, text := range texts {
		switch {
		case text[0] >= 'a' && text[0] <= 'z':
			list = append(list, token(impl.TokenWord, text))
		case text[0] >= '0' && text[0] <= '9':
			list = append(list, token(impl.TokenNumber, text))
		default:
			list = append(list, token(impl.TokenSign, text))
		}
	}
	return list
}

// repeatedTokens returns a list of the same token.
func repeatedTokens(text string, count int) []impl.Token {
	return slices.Repeat(tokens(text), count)
}

// checkTokens checks that a text is right and has the tokens of a list.
func checkTokens(t *testing.T, text string, list []impl.Token) {
	t.Helper()
	if got, code := impl.ReadTokens(text); !slices.Equal(got, list) || code != impl.ErrNone {
		t.Errorf("ReadTokens(%q) = %v, %d, want %v", text, got, code, list)
	}
	checkBadByte(t, text, -1, impl.ErrNone)
}

func checkBadByte(t *testing.T, text string, index int64, code int64) {
	t.Helper()
	if got, gotCode := impl.FirstBadByte(text); got != index || gotCode != code {
		t.Errorf("FirstBadByte(%q) = %d, %d, want %d, %d", text, got, gotCode, index, code)
	}
}

// checkNoTokens checks that a text has no tokens, with an error.
func checkNoTokens(t *testing.T, text string, code int64) {
	t.Helper()
	if got, gotCode := impl.ReadTokens(text); len(got) > 0 || gotCode != code {
		t.Errorf("ReadTokens(%q) = %v, %d, want %d", text, got, gotCode, code)
	}
}

// checkWrong checks that the first part of a text that is wrong begins at an index.
func checkWrong(t *testing.T, text string, index int64) {
	t.Helper()
	checkNoTokens(t, text, impl.ErrSyntax)
	checkBadByte(t, text, index, impl.ErrNone)
}

func checkIsToken(t *testing.T, one impl.Token, want bool) {
	t.Helper()
	if got := impl.IsToken(one); got != want {
		t.Errorf("IsToken(%d, %q) = %t", one.Kind, one.Text, got)
	}
}

// checkStandard checks the standard text of a list of tokens.
func checkStandard(t *testing.T, list []impl.Token, text string, code int64) {
	t.Helper()
	if got, gotCode := impl.StandardText(list); got != text || gotCode != code {
		t.Errorf("StandardText(%v) = %q, %d, want %q, %d", list, got, gotCode, text, code)
	}
}

func checkCount(t *testing.T, list []impl.Token, word string, count int64, code int64) {
	t.Helper()
	if got, gotCode := impl.CountWords(list, word); got != count || gotCode != code {
		t.Errorf("CountWords(%v, %q) = %d, %d, want %d, %d", list, word, got, gotCode, count, code)
	}
}

func checkStripped(t *testing.T, text string, stripped string, code int64) {
	t.Helper()
	if got, gotCode := impl.StripComments(text); got != stripped || gotCode != code {
		t.Errorf("StripComments(%q) = %q, %d, want %q, %d", text, got, gotCode, stripped, code)
	}
}

func TestTextsWithoutTokens(t *testing.T) {
	for _, text := range []string{
		"", " ", "\n", "   ", "\n\n\n", " \n \n ", "#", "##", "#\n", "#\n#", "# a comment", "# a comment\n", "\n# one\n  # another\n\n",
		"#=(),;", "# # #\n", "#\x00\t\r\x7f\xff\xc3\n", "#\u00e4\u0430\U0001f3a2", strings.Repeat(" ", impl.MaxProgramText),
		strings.Repeat("\n", impl.MaxProgramText), strings.Repeat("#", impl.MaxProgramText), strings.Repeat("#%\n ", impl.MaxProgramText/4),
	} {
		checkTokens(t, text, nil)
	}
}

func TestTokensOfTexts(t *testing.T) {
	for text, list := range map[string][]impl.Token{
		"x=on( a ,3) ; # end":   tokens("x", "=", "on", "(", "a", ",", "3", ")", ";"),
		"a#b\nc":                tokens("a", "c"),
		"a#b":                   tokens("a"),
		"12# 13\n14#":           tokens("12", "14"),
		";#;\n;":                tokens(";", ";"),
		"a # b # c\n# d\nd":     tokens("a", "d"),
		"a\n\n b":               tokens("a", "b"),
		"#a\nb":                 tokens("b"),
		" a ":                   tokens("a"),
		"a b_1 c__ d4e":         tokens("a", "b_1", "c__", "d4e"),
		"0 1 9 10 99 100 9999":  tokens("0", "1", "9", "10", "99", "100", "9999"),
		"0=0(0)0,0;0 0\n0#0":    tokens("0", "=", "0", "(", "0", ")", "0", ",", "0", ";", "0", "0", "0"),
		"a=a(a)a,a;a a\na#a":    tokens("a", "=", "a", "(", "a", ")", "a", ",", "a", ";", "a", "a", "a"),
		"=(),;":                 tokens("=", "(", ")", ",", ";"),
		"==((,,))=;;":           tokens("=", "=", "(", "(", ",", ",", ")", ")", "=", ";", ";"),
		"= (\n) ,\n;":           tokens("=", "(", ")", ",", ";"),
		"=a(b)c,d;e":            tokens("=", "a", "(", "b", ")", "c", ",", "d", ";", "e"),
		"program inn onn pairs": tokens("program", "inn", "onn", "pairs"),
		longWord:                tokens(longWord),
		longWord + ";" + longWord[1:] + "\n" + longWord: tokens(longWord, ";", longWord[1:], longWord),
		"a#\u00e4\xff\t\r\x00\n=":                       tokens("a", "="),
		"z_9876543210 y#":                               tokens("z_9876543210", "y"),
	} {
		checkTokens(t, text, list)
	}
}

func TestKeywordsAreWords(t *testing.T) {
	for _, text := range keywords {
		checkTokens(t, text, tokens(text))
		checkTokens(t, text+"("+text+"#", tokens(text, "(", text))
		checkIsToken(t, token(impl.TokenWord, text), true)
	}
}

func TestWrongWords(t *testing.T) {
	for text, index := range map[string]int64{
		longWord + "w": 0, longWord + "_": 0, longWord + "9": 0, "a " + longWord + "w b": 2, strings.Repeat("w", impl.MaxProgramText): 0,
		"_": 0, "_a": 0, "a=_": 2, "a _a": 2, ";_1": 1,
		"A": 0, "Abc": 0, "aB": 1, "aBc": 1, "a Bc": 2, "On(a, 3)": 0, "PAIR": 0, "oN": 1, longWord + "W": impl.MaxWord, "a_Z": 2, "a1Z": 2,
		"3a": 0, "a 3a": 2, "on(a,3a)": 5,
	} {
		checkWrong(t, text, index)
	}
}

func TestWrongNumbers(t *testing.T) {
	for text, index := range map[string]int64{
		"10000": 0, "a 10000": 2, "9999;10000": 5, "99990": 0, "32768": 0, "65536": 0, "4294967296": 0, "4294967297": 0, "18446744073709551616": 0, strings.Repeat("9", impl.MaxProgramText): 0,
		"00": 0, "01": 0, "000": 0, "a,01": 2, "1 09": 2, "0 00": 2, "00001": 0, "09999": 0, "010": 0,
		"0a": 0, "1_": 0, "9999z": 0, "12 3_4": 3, "(1a)": 1, "1_000": 0, "0x1": 0, "1e3": 0, "0b1": 0, "123456789012a": 0,
		"0A": 1, "12A": 2, "9999Z": 4, "1.5": 1, "-1": 0, "+1": 0, "1-1": 1, "0:": 1, "1/2": 1,
		"10000%": 0, "01%": 0, "1%": 1,
	} {
		checkWrong(t, text, index)
	}
}

// isRight tells the bytes that alone are a token or stand between tokens.
func isRight(one byte) bool {
	return strings.IndexByte("abcdefghijklmnopqrstuvwxyz0123456789=(),; \n#", one) >= 0
}

func TestEachByte(t *testing.T) {
	for n := range 256 {
		one := string([]byte{byte(n)})
		checkTokens(t, "a #"+one+"\n3", tokens("a", "3"))
		if isRight(byte(n)) {
			checkBadByte(t, one, -1, impl.ErrNone)
			continue
		}
		checkWrong(t, one, 0)
		checkWrong(t, "x = "+one+";", 4)
		checkWrong(t, one+one, 0)
		checkWrong(t, "#\n"+one+"#", 2)
		if byte(n) != '_' {
			checkWrong(t, "a"+one, 1)
			checkWrong(t, "12"+one+"a", 2)
		}
	}
}

func TestLettersOutsideOfASCII(t *testing.T) {
	for _, letter := range []string{"\u00e4", "\u00df", "\u0430", "\uff41", "\u0663", "\uff11", "\u00a0", "\u2028", "\ufeff", "\U0001f3a2", "\xc3", "\xe2\x82", "\xff", "\xed\xa0\x80", "\xc0\xa0", "\ufffd"} {
		checkWrong(t, letter, 0)
		checkWrong(t, "a"+letter, 1)
		checkWrong(t, "9"+letter, 1)
		checkWrong(t, "a "+letter+"b", 2)
		checkWrong(t, "#"+letter+"\n("+letter+")", int64(len(letter))+3)
		checkTokens(t, "a#"+letter, tokens("a"))
		checkTokens(t, "a#"+letter+letter+"#\nb", tokens("a", "b"))
		checkStripped(t, letter+"#"+letter+"\n"+letter, letter+"\n"+letter, impl.ErrNone)
		checkIsToken(t, token(impl.TokenWord, letter), false)
		checkIsToken(t, token(impl.TokenWord, "a"+letter), false)
		checkIsToken(t, token(impl.TokenNumber, letter), false)
		checkIsToken(t, token(impl.TokenSign, letter), false)
		checkCount(t, tokens("a"), "a"+letter, 0, impl.ErrRange)
	}
}

func TestLengthsOfTexts(t *testing.T) {
	for _, text := range []string{
		strings.Repeat(" ", impl.MaxProgramText-1) + "a", "a" + strings.Repeat("\n", impl.MaxProgramText-1), "a#" + strings.Repeat("%", impl.MaxProgramText-2),
	} {
		checkTokens(t, text, tokens("a"))
		for _, longer := range []string{text + " ", " " + text, text + "%", "%" + text, text + text} {
			checkNoTokens(t, longer, impl.ErrLimit)
			checkBadByte(t, longer, 0, impl.ErrLimit)
			checkStripped(t, longer, "", impl.ErrLimit)
		}
	}
	checkWrong(t, strings.Repeat(" ", impl.MaxProgramText-1)+"%", impl.MaxProgramText-1)
	checkNoTokens(t, longestText+" ", impl.ErrLimit)
	checkStripped(t, longestText, longestText, impl.ErrNone)
}

func TestNumbersOfTokens(t *testing.T) {
	for _, text := range []string{"a", "7", ";"} {
		most := strings.Repeat(text+" ", impl.MaxTokens)
		checkTokens(t, most, repeatedTokens(text, impl.MaxTokens))
		checkTokens(t, most+"#"+text, repeatedTokens(text, impl.MaxTokens))
		checkNoTokens(t, most+text, impl.ErrLimit)
		checkBadByte(t, most+text, -1, impl.ErrNone)
		checkWrong(t, most+"%", int64(len(most)))
		checkWrong(t, most+text+" 01", int64(len(most)+len(text)+1))
	}
	signs := strings.Repeat("=", impl.MaxProgramText)
	checkNoTokens(t, signs, impl.ErrLimit)
	checkBadByte(t, signs, -1, impl.ErrNone)
	checkWrong(t, signs[1:]+"_", impl.MaxProgramText-1)
	checkWrong(t, signs[2:]+"_=", impl.MaxProgramText-2)
	checkNoTokens(t, signs+"_", impl.ErrLimit)
}

// The patterns of comments, and of the parts at the beginning of a text.
var (
	commentPattern = regexp.MustCompile(`#[^\n]*`)
	gapPattern     = regexp.MustCompile(`^(?:[ \n]|#[^\n]*)*`)
	wordPattern    = regexp.MustCompile(`^[a-z][a-z0-9_]*`)
	digitsPattern  = regexp.MustCompile(`^[0-9]+`)
	signPattern    = regexp.MustCompile(`^[=(),;]`)
	tightPattern   = regexp.MustCompile(`^[a-z_]`)
	exactPattern   = regexp.MustCompile(`^(?:0|[1-9][0-9]{0,3})$`)
)

// tokensBy returns the tokens of a text before its first wrong part and the index of that, or -1, as
// they are defined.
func tokensBy(text string) ([]impl.Token, int64) {
	var list []impl.Token
	at := 0
	for {
		at += len(gapPattern.FindString(text[at:]))
		rest := text[at:]
		if rest == "" {
			return list, -1
		}
		word, digits, sign := wordPattern.FindString(rest), digitsPattern.FindString(rest), signPattern.FindString(rest)
		switch {
		case word != "" && len(word) <= impl.MaxWord:
			list = append(list, token(impl.TokenWord, word))
		case exactPattern.MatchString(digits) && !tightPattern.MatchString(rest[len(digits):]):
			list = append(list, token(impl.TokenNumber, digits))
		case sign != "":
			list = append(list, token(impl.TokenSign, sign))
		default:
			return list, int64(at)
		}
		at += len(list[len(list)-1].Text)
	}
}

// checkByDefinition checks the tokens of a text, its first wrong byte, and what is left of it
// without comments.
func checkByDefinition(t *testing.T, text string) {
	t.Helper()
	list, wrong := tokensBy(text)
	stripped := commentPattern.ReplaceAllLiteralString(text, "")
	checkStripped(t, text, stripped, impl.ErrNone)
	checkStripped(t, stripped, stripped, impl.ErrNone)
	if wrong >= 0 {
		checkWrong(t, text, wrong)
		checkNoTokens(t, stripped, impl.ErrSyntax)
		return
	}
	checkTokens(t, text, list)
	checkTokens(t, stripped, list)
	for _, one := range list {
		checkIsToken(t, one, true)
	}
	checkTokensRecovered(t, list)
}

// TestEachShortText reads all texts of up to 4 parts.
func TestEachShortText(t *testing.T) {
	parts := []string{"a", "z", "0", "1", "_", "A", " ", "\n", "#", "=", "(", ")", ",", ";", "\t", "\u00e4"}
	texts := []string{""}
	for range 4 {
		longer := []string{""}
		for _, text := range texts {
			for _, part := range parts {
				longer = append(longer, text+part)
			}
		}
		texts = longer
	}
	for _, text := range texts {
		checkByDefinition(t, text)
	}
}

func TestMixedTexts(t *testing.T) {
	random := rand.New(rand.NewSource(12))
	parts := append(slices.Concat(keywords, signTexts, signTexts), " ", " ", "\n", "\n", "#", "# no\n", "a", "b2", "_", "0", "1", "99", "9999", longWord, longWord[:6])
	rare := []string{"A", "%", "\t", "\r", "\x00", "\xff", "\u00e4", "01", "10000"}
	for range 30000 {
		var text strings.Builder
		for range random.Intn(30) {
			if random.Intn(60) == 0 {
				text.WriteString(rare[random.Intn(len(rare))])
			}
			text.WriteString(parts[random.Intn(len(parts))])
			text.WriteString(strings.Repeat(" ", random.Intn(2)))
		}
		checkByDefinition(t, text.String())
	}
}

func TestSingleTokens(t *testing.T) {
	for _, text := range slices.Concat(keywords, signTexts, []string{"a", "z", "a0", "a_", "a__9", longWord, "0", "1", "9", "10", "999", "1000", "9999"}) {
		one := tokens(text)[0]
		for _, kind := range []int64{impl.TokenWord, impl.TokenNumber, impl.TokenSign, 0, 4, 5, -1, -2, -3, math.MaxInt64, math.MinInt64, 1<<32 + 1, 1 << 32} {
			checkIsToken(t, token(kind, text), kind == one.Kind)
		}
	}
	for n := range int64(20000) {
		checkIsToken(t, token(impl.TokenNumber, strconv.FormatInt(n, 10)), n <= impl.MaxCount)
		checkIsToken(t, token(impl.TokenNumber, "0"+strconv.FormatInt(n, 10)), false)
	}
	for n := range 256 {
		one := string([]byte{byte(n)})
		checkIsToken(t, token(impl.TokenWord, one), one >= "a" && one <= "z")
		checkIsToken(t, token(impl.TokenNumber, one), one >= "0" && one <= "9")
		checkIsToken(t, token(impl.TokenSign, one), slices.Contains(signTexts, one))
	}
}

// noTokenTexts are texts that no token of any kind has.
var noTokenTexts = []string{
	"", " ", "\n", "#", "#a", "a b", "a=", "=a", "==", "()", "(a", "1 2", "1,", "1a", "a,", "; ", " ;", " a", "a ", "a\n", "\na", " 1", "1 ", "1\n", "a#", "1#", ";#", ";\n",
	longWord + "w", longWord + " ", longWord + longWord, "_", "_a", "A", "aA", "Ab", "\u00e4", "a\u00e4", "\xff", "%", "a-b", "a.b", "a\x00", "\x00",
	"00", "01", "10000", "-1", "+1", "-0", "+0", "1_0", "0x1", "1e1", "1.0", "4294967296", "18446744073709551617", strings.Repeat("0", 9000), strings.Repeat("a", 9000), strings.Repeat("=", 9000),
}

// wrongTokens returns tokens that are none.
func wrongTokens() []impl.Token {
	var list []impl.Token
	for _, text := range noTokenTexts {
		for _, kind := range []int64{impl.TokenWord, impl.TokenNumber, impl.TokenSign, 0, 4, -1} {
			list = append(list, token(kind, text))
		}
	}
	for _, one := range tokens("a", "pair", "7", ";", "(") {
		for _, kind := range []int64{impl.TokenWord, impl.TokenNumber, impl.TokenSign, 0, 4, -1, math.MaxInt64, math.MinInt64} {
			if kind != one.Kind {
				list = append(list, token(kind, one.Text))
			}
		}
	}
	return list
}

func TestWrongTokens(t *testing.T) {
	for _, one := range wrongTokens() {
		checkIsToken(t, one, false)
		for _, list := range [][]impl.Token{{one}, append(tokens("a", "="), one), append([]impl.Token{one}, tokens("a", ";")...), {one, one}} {
			checkStandard(t, list, "", impl.ErrInvalid)
			checkCount(t, list, "a", 0, impl.ErrInvalid)
		}
	}
}

func TestKeywords(t *testing.T) {
	for _, word := range keywords {
		if !impl.IsKeyword(word) {
			t.Errorf("%q is no keyword", word)
		}
		others := []string{word + "s", word + "_", word + "1", word + " ", " " + word, "a" + word, word[1:], word[:len(word)-1], strings.ToUpper(word), strings.ToUpper(word[:1]) + word[1:], word + "\x00", word + word}
		for _, other := range others {
			if impl.IsKeyword(other) != slices.Contains(keywords, other) {
				t.Errorf("IsKeyword(%q) = %t", other, impl.IsKeyword(other))
			}
		}
	}
	for _, word := range append([]string{"", "a", "x", "if", "then", "xor", "begin", "input", "output", "1", "0", ";", "=", "(", "\u00f6n", longWord, longestText}, noTokenTexts...) {
		if impl.IsKeyword(word) {
			t.Errorf("%q is a keyword", word)
		}
	}
}

func TestStandardTexts(t *testing.T) {
	for _, c := range []struct {
		list []impl.Token
		text string
	}{
		{nil, ""}, {[]impl.Token{}, ""}, {tokens("a"), "a"}, {tokens("7"), "7"}, {tokens("="), "="}, {tokens("("), "("}, {tokens(")"), ")"}, {tokens(","), ","}, {tokens(";"), ";\n"},
		{tokens("x", "=", "on", "(", "a", ",", "3", ")", ";"), "x = on(a, 3);\n"},
		{tokens("a", ";"), "a;\n"}, {tokens("a", ";", ";"), "a;\n;\n"}, {tokens(";", ";"), ";\n;\n"}, {tokens(";", "a"), ";\na"}, {tokens(";", "a", ";", "3"), ";\na;\n3"},
		{tokens("not", "(", "a", "or", "b", ")", "and", "c"), "not (a or b) and c"},
		{tokens("a", "(", "b"), "a (b"}, {tokens("7", "(", "8"), "7 (8"}, {tokens("(", "(", "a"), "((a"}, {tokens("(", "a"), "(a"}, {tokens(")", "("), ") ("},
		{tokens("=", "(", ")"), "= ()"}, {tokens(",", "("), ", ("}, {tokens(";", "("), ";\n("}, {tokens("onn", "("), "onn ("},
		{tokens("a", ")", "7", ")", ")", ",", ")", ";", ")", "=", ")", "(", ")"), "a) 7)),);\n) =) ()"},
		{tokens(",", "a"), ", a"}, {tokens(",", ","), ",,"}, {tokens("(", ",", "a"), "(, a"}, {tokens(";", ","), ";\n,"}, {tokens("(", ";"), "(;\n"}, {tokens("=", "="), "= ="}, {tokens("1", "2"), "1 2"}, {tokens("a", "2"), "a 2"},
		{tokens("on", ";"), "on;\n"}, {tokens("on", "a"), "on a"}, {tokens("on", "on", "("), "on on("}, {tokens("on", ")", "("), "on) ("},
		{tokens("program", "p", ";", "in", "a", "b", ";", "out", "x", ";", "x", "=", "a", "and", "b", ";", "end", ";"), "program p;\nin a b;\nout x;\nx = a and b;\nend;\n"},
	} {
		checkStandard(t, c.list, c.text, impl.ErrNone)
	}
}

func TestParenthesesBehindKeywords(t *testing.T) {
	for _, word := range keywords {
		want := word + " (1)"
		if slices.Contains(blockKeywords, word) {
			want = word + "(1)"
		}
		checkStandard(t, tokens(word, "(", "1", ")"), want, impl.ErrNone)
		checkStandard(t, tokens(word+"s", "(", "1", ")"), word+"s (1)", impl.ErrNone)
	}
}

// standardBy returns the standard text of tokens as it is defined.
func standardBy(list []impl.Token) string {
	var text strings.Builder
	for i, one := range list {
		switch {
		case i == 0:
		case list[i-1].Text == ";" || list[i-1].Text == "(":
		case one.Text == ";" || one.Text == "," || one.Text == ")":
		case one.Text == "(" && slices.Contains(blockKeywords, list[i-1].Text):
		default:
			text.WriteByte(' ')
		}
		text.WriteString(one.Text)
	}
	return strings.ReplaceAll(text.String(), ";", ";\n")
}

// checkTokensRecovered checks promise 12 for a list of tokens: they are those of their standard
// text, unless this is too long.
func checkTokensRecovered(t *testing.T, list []impl.Token) {
	t.Helper()
	text := standardBy(list)
	checkStandard(t, list, text, impl.ErrNone)
	if len(text) > impl.MaxProgramText {
		checkNoTokens(t, text, impl.ErrLimit)
		return
	}
	checkTokens(t, text, list)
}

func TestEachShortListOfTokens(t *testing.T) {
	sample := tokens(slices.Concat(keywords, signTexts, []string{"a", "a_1", "pairs", longWord, "0", "10", "9999"})...)
	checkTokensRecovered(t, nil)
	for _, first := range sample {
		checkTokensRecovered(t, []impl.Token{first})
		for _, second := range sample {
			checkTokensRecovered(t, []impl.Token{first, second})
			for _, third := range sample {
				checkTokensRecovered(t, []impl.Token{first, second, third})
			}
		}
	}
}

// mixedToken returns a random token.
func mixedToken(random *rand.Rand) impl.Token {
	switch random.Intn(4) {
	case 0:
		return tokens(signTexts[random.Intn(len(signTexts))])[0]
	case 1:
		return token(impl.TokenNumber, strconv.FormatInt(random.Int63n(impl.MaxCount+1), 10))
	case 2:
		return tokens(keywords[random.Intn(len(keywords))])[0]
	}
	letters := "abcdefghijklmnopqrstuvwxyz_0123456789"
	word := []byte{letters[random.Intn(26)]}
	for range random.Intn(impl.MaxWord) {
		word = append(word, letters[random.Intn(len(letters))])
	}
	return token(impl.TokenWord, string(word))
}

func TestTokensAreRecovered(t *testing.T) {
	random := rand.New(rand.NewSource(120))
	for range 3000 {
		var list []impl.Token
		for range random.Intn(120) {
			list = append(list, mixedToken(random))
		}
		checkTokensRecovered(t, list)
	}
	for range 60 {
		var list []impl.Token
		for range impl.MaxTokens {
			list = append(list, mixedToken(random))
		}
		checkTokensRecovered(t, list)
	}
}

// TestLongStandardTexts has words of 11 bytes and a blank, so that the text with one longer word is
// as long as it may be.
func TestLongStandardTexts(t *testing.T) {
	list := repeatedTokens(longWord[1:], impl.MaxProgramText/impl.MaxWord)
	for longer := range 5 {
		if longer > 0 {
			list[7*longer] = tokens(longWord)[0]
		}
		text, _ := impl.StandardText(list)
		if len(text) != impl.MaxProgramText-1+longer {
			t.Errorf("the standard text has %d bytes", len(text))
		}
		checkTokensRecovered(t, list)
	}
	most := repeatedTokens(longWord, impl.MaxTokens)
	checkTokensRecovered(t, most)
	checkStandard(t, repeatedTokens(";", impl.MaxTokens), strings.Repeat(";\n", impl.MaxTokens), impl.ErrNone)
}

func TestErrorsOfListsOfTokens(t *testing.T) {
	most, wrong := repeatedTokens("a", impl.MaxTokens), token(impl.TokenSign, "a")
	checkStandard(t, most, strings.Repeat("a ", impl.MaxTokens)[:2*impl.MaxTokens-1], impl.ErrNone)
	checkCount(t, most, "a", impl.MaxTokens, impl.ErrNone)
	checkCount(t, most, "A", 0, impl.ErrRange)
	tooMany := append(slices.Clone(most), tokens("a")...)
	checkStandard(t, tooMany, "", impl.ErrLimit)
	checkCount(t, tooMany, "a", 0, impl.ErrLimit)
	checkCount(t, tooMany, "A", 0, impl.ErrLimit)
	for _, i := range []int{0, 1, impl.MaxTokens / 2, impl.MaxTokens - 1, impl.MaxTokens} {
		spoiled := slices.Clone(tooMany)
		spoiled[i] = wrong
		checkStandard(t, spoiled, "", impl.ErrLimit)
		checkCount(t, spoiled, "a", 0, impl.ErrLimit)
		checkCount(t, spoiled, "", 0, impl.ErrLimit)
		if i < impl.MaxTokens {
			checkStandard(t, spoiled[:impl.MaxTokens], "", impl.ErrInvalid)
			checkCount(t, spoiled[:impl.MaxTokens], "a", 0, impl.ErrInvalid)
			checkCount(t, spoiled[:impl.MaxTokens], "", 0, impl.ErrInvalid)
		}
	}
	checkStandard(t, slices.Repeat([]impl.Token{{}}, 5*impl.MaxTokens), "", impl.ErrLimit)
}

func TestCountedWords(t *testing.T) {
	list := tokens("x", "=", "on", "(", "x", "and", "on", "(", "b", ",", "3", ")", ",", "40", ")", ";", "x", "=", "xx", ";")
	for word, count := range map[string]int64{"x": 3, "on": 2, "and": 1, "b": 1, "xx": 1, "a": 0, "o": 0, "xxx": 0, "x_": 0, "program": 0, "pair": 0, longWord: 0} {
		checkCount(t, list, word, count, impl.ErrNone)
		checkCount(t, nil, word, 0, impl.ErrNone)
	}
	for _, word := range append(slices.Clone(keywords), "a", longWord) {
		checkCount(t, repeatedTokens(word, 5), word, 5, impl.ErrNone)
		checkCount(t, append(tokens(";", word), list...), word, 1+countBy(list, word), impl.ErrNone)
	}
	for _, word := range append(slices.Concat(signTexts, noTokenTexts), "0", "1", "3", "40", "9999") {
		checkCount(t, list, word, 0, impl.ErrRange)
		checkCount(t, nil, word, 0, impl.ErrRange)
		checkCount(t, []impl.Token{{Kind: impl.TokenWord, Text: word}}, word, 0, impl.ErrInvalid)
	}
}

func countBy(list []impl.Token, word string) int64 {
	count := int64(0)
	for _, one := range list {
		if one == token(impl.TokenWord, word) {
			count++
		}
	}
	return count
}

func TestStrippedComments(t *testing.T) {
	for text, stripped := range map[string]string{
		"": "", "a#b\nc": "a\nc", "#": "", "##": "", "#\n": "\n", "a": "a", "a\n": "a\n", "a b = 3;\n": "a b = 3;\n", "\n\n": "\n\n", " # a": " ", " # a\n ": " \n ",
		"a # 1\nb # 2\nc # 3\n": "a \nb \nc \n", "#1\n#2\n#3": "\n\n", "a;\nb # end": "a;\nb ", "a # b # c\nd": "a \nd", "a\n#\n#\nb#": "a\n\n\nb",
		"%A#%A\n\t\r": "%A\n\t\r", "\xff#\xfe\n\xfd\x00": "\xff\n\xfd\x00", "a#\r\nb": "a\nb", "01#": "01", strings.Repeat("#", impl.MaxProgramText): "",
		strings.Repeat("#\n", impl.MaxProgramText/2): strings.Repeat("\n", impl.MaxProgramText/2),
	} {
		checkStripped(t, text, stripped, impl.ErrNone)
	}
}

// sharesMemory reports whether two texts lie in the same memory, in part at least.
func sharesMemory(one string, other string) bool {
	first, second := uintptr(unsafe.Pointer(unsafe.StringData(one))), uintptr(unsafe.Pointer(unsafe.StringData(other)))
	return first < second+uintptr(len(other)) && second < first+uintptr(len(one))
}

func TestArgumentsOfTokensAreNotChanged(t *testing.T) {
	text := strings.Repeat("first = (second) ;\n", 2)
	list := append(tokens("a", "=", "b", ";"), token(77, "behind"), token(-7, ""))
	kept := slices.Clone(list)
	for range 2 {
		// A result that shared memory with another one would change it.
		read, _ := impl.ReadTokens(text)
		for _, one := range read {
			if sharesMemory(one.Text, text) {
				t.Errorf("the token %q shares memory with its text", one.Text)
			}
		}
		for i := range read[:cap(read)] {
			read[:cap(read)][i] = token(-5, "spoilt")
		}
		checkTokens(t, text, tokens("first", "=", "(", "second", ")", ";", "first", "=", "(", "second", ")", ";"))
		for _, commented := range []string{text, text[:10]} {
			stripped, _ := impl.StripComments(commented)
			if sharesMemory(stripped, commented) {
				t.Errorf("%q without comments shares memory with it", commented)
			}
		}
		single, _ := impl.StandardText(list[:1])
		if sharesMemory(single, list[0].Text) {
			t.Error("a standard text shares memory with its token")
		}
		checkStandard(t, list[:4], "a = b;\n", impl.ErrNone)
		checkStandard(t, list[:5], "", impl.ErrInvalid)
		checkCount(t, list[:4], "a", 1, impl.ErrNone)
		checkCount(t, list[:5], "a", 0, impl.ErrInvalid)
	}
	if !slices.Equal(list, kept) {
		t.Errorf("the tokens became %v", list)
	}
}

func TestConstantsOfTokens(t *testing.T) {
	got := []int64{impl.TokenWord, impl.TokenNumber, impl.TokenSign, impl.MaxProgramText, impl.MaxTokens, impl.MaxWord, impl.MaxCount}
	if !slices.Equal(got, []int64{1, 2, 3, 6000, 800, 12, 9999}) {
		t.Errorf("the constants are %v", got)
	}
}
