package tests

import (
	"fmt"
	"slices"
	"strings"
	"sync"
	"testing"

	"loop.example/g00520/impl"
)

// noFault is what ParseGame returns in place of a line if there is no fault.
const noFault = -1

// reading is the complete result of ParseGame.
type reading struct {
	game impl.Game
	line int
}

func readingBy(g impl.Game, line int) reading { return reading{g, line} }

// faultIn is the result of a text whose line is wrong.
func faultIn(line int) reading { return reading{line: line} }

func isSameReading(a, b reading) bool { return a.line == b.line && isSameGame(a.game, b.game) }

// callParse checks that two results share no memory with each other.
func callParse(t *testing.T, text string) reading {
	t.Helper()
	copied := func(r reading) reading { return reading{copyGame(r.game), r.line} }
	change := func(t *testing.T, call string, r reading) { scribble(r.game.Values, -88) }
	return results[reading]{copied, change, isSameReading}.callTwice(t, "ParseGame", guardedLists{}, func() reading {
		return readingBy(impl.ParseGame(text))
	})
}

// callFormat checks that a text stays the same when the game is changed.
func callFormat(t *testing.T, g impl.Game) string {
	t.Helper()
	x, values := guardGame(g)
	keep := func(t *testing.T, call string, text string) {}
	same := func(a, b string) bool { return a == b }
	return results[string]{strings.Clone, keep, same}.callTwice(t, "FormatGame", guardedLists{values}, func() string {
		return impl.FormatGame(x)
	})
}

func wantGameText(t *testing.T, g impl.Game, want string) {
	t.Helper()
	got := callFormat(t, g)
	for _, absent := range []bool{true, false} {
		if other := impl.FormatGame(hollowGame(g, absent)); other != want {
			got = other
		}
	}
	if got != want {
		t.Errorf("FormatGame(%v) = %q; want %q", g, got, want)
	}
}

// wantReading also checks what the document says of a game beside -1, and that
// its definition, which other tests rely on, gives the same result.
func wantReading(t *testing.T, text string, want reading) {
	t.Helper()
	got := callParse(t, text)
	if !isSameReading(got, want) {
		t.Errorf("ParseGame(%.300q) = %v; want %v", text, got, want)
	}
	if got.line == noFault && (!definedGame(got.game) || !impl.IsValidGame(got.game) || impl.FormatGame(got.game) != text) {
		t.Errorf("ParseGame(%.300q) = %v, of which it is not the text", text, got)
	}
	if defined := definedReading(text); !isSameReading(defined, want) {
		t.Errorf("the result for %.300q is defined as %v, not as %v", text, defined, want)
	}
}

func wantGame(t *testing.T, text string, g impl.Game) {
	t.Helper()
	wantReading(t, text, reading{g, noFault})
}

func wantFault(t *testing.T, text string, line int) {
	t.Helper()
	wantReading(t, text, faultIn(line))
}

// wantDefinedReading compares ParseGame with its definition, and reports
// whether there is a game.
func wantDefinedReading(t *testing.T, text string) bool {
	t.Helper()
	want := definedReading(text)
	wantReading(t, text, want)
	return want.line == noFault
}

// wantBothWays checks that a game and a text belong to each other.
func wantBothWays(t *testing.T, g impl.Game, text string) {
	t.Helper()
	wantGameText(t, g, text)
	wantGame(t, text, g)
	wantGame(t, impl.FormatGame(g), g)
}

// definedText is the definition of FormatGame.
func definedText(g impl.Game) string {
	if !definedGame(g) {
		return ""
	}
	text := fmt.Sprintf("players %d\n", g.Players)
	for s := 1; s < len(g.Values); s++ {
		if g.Values[s] != 0 {
			text += fmt.Sprintf("%s %d\n", coalitionTexts()[s], g.Values[s])
		}
	}
	return text
}

type valueOfCoalition struct{ s, value int }

// valueLines has every line that any game can have behind its first one.
var valueLines = sync.OnceValue(func() map[string]valueOfCoalition {
	lines := map[string]valueOfCoalition{}
	for s, name := range coalitionTexts()[1:] {
		for value := 1; value <= greatestValue; value++ {
			lines[fmt.Sprintf("%s %d", name, value)] = valueOfCoalition{s + 1, value}
			lines[fmt.Sprintf("%s -%d", name, value)] = valueOfCoalition{s + 1, -value}
		}
	}
	return lines
})

// definedReading is the definition of ParseGame: it finds each line among all
// lines that there are.
func definedReading(text string) reading {
	lines := strings.Split(text, "\n")
	if lines[len(lines)-1] == "" {
		lines = lines[:len(lines)-1]
	}
	heads := []string{"players 1", "players 2", "players 3", "players 4", "players 5"}
	if len(lines) == 0 || !slices.Contains(heads, lines[0]) {
		return faultIn(0)
	}
	players, last := slices.Index(heads, lines[0])+1, 0
	g := flatGame(players, 0)
	for i := 1; i < len(lines); i++ {
		entry, known := valueLines()[lines[i]]
		if !known || entry.s >= 1<<players || entry.s <= last {
			return faultIn(i)
		}
		last = entry.s
		g.Values[entry.s] = entry.value
	}
	if definedText(g) != text {
		return faultIn(len(lines))
	}
	return reading{g, noFault}
}

// textOf makes a text of lines, each of which is followed by a newline.
func textOf(lines ...string) string {
	text := ""
	for _, line := range lines {
		text += line + "\n"
	}
	return text
}

// unended is a text without its last newline.
func unended(text string) string { return strings.TrimSuffix(text, "\n") }

// fullText is the text of a game of five players in which every coalition has a
// value.
func fullText() string {
	return textOf("players 5", "a 1", "b -1", "ab 20", "c 3", "ac -40", "bc 500", "abc -500",
		"d 8", "ad 99", "bd -99", "abd 10", "cd 100", "acd -100", "bcd 101", "abcd 499",
		"e -499", "ae 17", "be 18", "abe 19", "ce -20", "ace 21", "bce 22", "abce 23",
		"de -9", "ade 250", "bde 26", "abde 27", "cde 28", "acde 29", "bcde 30", "abcde -31")
}

func fullLines() []string { return strings.Split(unended(fullText()), "\n") }

func fullGame() impl.Game {
	return game(5, 1, -1, 20, 3, -40, 500, -500, 8, 99, -99, 10, 100, -100, 101, 499,
		-499, 17, 18, 19, -20, 21, 22, 23, -9, 250, 26, 27, 28, 29, 30, -31)
}

func TestGamesKnownTexts(t *testing.T) {
	wantBothWays(t, game(1, 0), "players 1\n")
	wantBothWays(t, game(1, 7), "players 1\na 7\n")
	wantBothWays(t, game(1, -7), "players 1\na -7\n")
	wantBothWays(t, game(2, 0, 0, 0), "players 2\n")
	wantBothWays(t, game(2, 1, 2, 5), "players 2\na 1\nb 2\nab 5\n")
	wantBothWays(t, game(2, 0, 0, -10), "players 2\nab -10\n")
	wantBothWays(t, game(3, 0, 0, 6, 0, 6, -6, 7), "players 3\nab 6\nac 6\nbc -6\nabc 7\n")
	wantBothWays(t, game(3, 1, 0, 0, 2, 0, 0, 0), "players 3\na 1\nc 2\n")
	wantBothWays(t, game(4, 0, 0, 0, 0, 0, 0, 0, 100, 0, 0, 0, 0, 0, 0, 0), "players 4\nd 100\n")
	wantBothWays(t, fullGame(), fullText())
}

// TestGamesOfOneValueTexts gives all coalitions the same value: none of them has
// a line if it is 0.
func TestGamesOfOneValueTexts(t *testing.T) {
	for n := 1; n <= impl.MaxPlayers; n++ {
		wantBothWays(t, flatGame(n, 0), fmt.Sprintf("players %d\n", n))
		for _, value := range []int{1, -1, 9, 10, greatestValue - 1, 1 - greatestValue, greatestValue, -greatestValue} {
			text := fmt.Sprintf("players %d\n", n)
			for _, name := range coalitionTexts()[1 : 1<<n] {
				text += fmt.Sprintf("%s %d\n", name, value)
			}
			wantBothWays(t, flatGame(n, value), text)
		}
	}
}

// TestGamesEveryCoalitionText gives one coalition after the other a value of its
// own, among others with the value 0 and among others with another one.
func TestGamesEveryCoalitionText(t *testing.T) {
	for n := 1; n <= impl.MaxPlayers; n++ {
		for s := 1; s < 1<<n; s++ {
			for _, value := range []int{1, -1, 5, -60, greatestValue, -greatestValue} {
				text := fmt.Sprintf("players %d\n%s %d\n", n, coalitionTexts()[s], value)
				wantBothWays(t, valued(flatGame(n, 0), s, value), text)
				g := valued(plainGame(n), s, value)
				wantBothWays(t, g, definedText(g))
			}
			g := valued(flatGame(n, 3), s, 0)
			wantBothWays(t, g, definedText(g))
		}
	}
}

func TestFormatGameOfSpoiledGames(t *testing.T) {
	wantGameText(t, impl.Game{}, "")
	wantGameText(t, impl.Game{Values: []int{0}}, "")
	wantGameText(t, impl.Game{Players: 6, Values: make([]int, 64)}, "")
	for n := 1; n <= impl.MaxPlayers; n++ {
		wantGameText(t, impl.Game{Players: n}, "")
		for _, g := range spoiledGames(plainGame(n)) {
			wantGameText(t, g, "")
		}
	}
}

func TestParseGameOfTextsWithoutWords(t *testing.T) {
	wantFault(t, "", 0)
	for n := 1; n <= 40; n++ {
		wantFault(t, strings.Repeat("\n", n), 0)
		wantFault(t, strings.Repeat("\n", n)+"players 2\n", 0)
		wantFault(t, strings.Repeat("\n", n)+"players 2", 0)
		wantFault(t, strings.Repeat(" ", n), 0)
		wantFault(t, strings.Repeat(" \n", n), 0)
	}
}

// TestParseGameWithoutTheLastNewline has texts all of whose lines are right, but
// that are not the text of their game.
func TestParseGameWithoutTheLastNewline(t *testing.T) {
	wantFault(t, "players 2", 1)
	wantFault(t, "players 2\na 1", 2)
	wantFault(t, "players 2\na 1\nab -1", 3)
	for n := 1; n <= impl.MaxPlayers; n++ {
		text := fmt.Sprintf("players %d\n", n)
		wantFault(t, unended(text), 1)
		for s := 1; s < 1<<n; s++ {
			text += fmt.Sprintf("%s %d\n", coalitionTexts()[s], s-40)
			wantFault(t, unended(text), s+1)
		}
	}
	// A wrong line is reported whether or not a newline is behind the last one.
	for _, end := range []string{"", "\n"} {
		wantFault(t, "players 2\na"+end, 1)
		wantFault(t, "players 2\na 1\nx"+end, 2)
		wantFault(t, "players 2\na x\nab 1"+end, 1)
		wantFault(t, "players 7\na 1"+end, 0)
	}
}

func TestParseGameEmptyLines(t *testing.T) {
	wantFault(t, "players 2\n\n", 1)
	wantFault(t, "players 2\n\n\n", 1)
	wantFault(t, "players 2\n\na 1\n", 1)
	wantFault(t, "players 2\n\na 1", 1)
	wantFault(t, "players 2\na 1\n\n", 2)
	wantFault(t, "players 2\na 1\n\n\n", 2)
	wantFault(t, "players 2\na 1\n\nb 1\n", 2)
	wantFault(t, "players 2\na 1\n\nb 1", 2)
	wantFault(t, "players 2\na 1\nb 1\nab 1\n\n", 4)
	lines := fullLines()
	for i := range len(lines) + 1 {
		for count := 1; count <= 3; count++ {
			wantFault(t, textOf(slices.Insert(slices.Clone(lines), i, slices.Repeat([]string{""}, count)...)...), i)
		}
	}
}

// wrongHeads are no first lines of any game.
func wrongHeads() []string {
	return []string{
		"", " ", "players", "players ", "players  ", "2", " 2", "2 players", "a 1", "- 0", "ab 2", "?",
		"players 0", "players 6", "players 7", "players 8", "players 10", "players 12", "players 22", "players 25", "players 32",
		"players 999999", "players 1000000", "players 999999999999", "players 4294967298", "players 18446744073709551618",
		"players -0", "players -1", "players -2", "players -5", "players +1", "players +2", "players +0", "players --2",
		"players 00", "players 01", "players 02", "players 05", "players 002", "players 000000002",
		" players 2", "  players 2", "players  2", "players   2", "players 2 ", "players 2  ", " players 2 ", "players 2 2", "players 2 a",
		"players\t2", "\tplayers 2", "players 2\t", "players 2\r", "\rplayers 2", "players\r2", "players \r2", "players 2\x00", "players\x002",
		"players2", "players: 2", "players:2", "players=2", "players 2;", "players 2,", "players 2.", "players 2.0", "players 2/1", "players 2-",
		"players 0x2", "players 2e0", "players 1_0", "players two", "players a", "players ab", "players -", "players +", "players n", "players N",
		"player 2", "playerss 2", "plyers 2", "player s 2", "layers 2", "xplayers 2", "lpayers 2", "sreyalp 2", "players players 2", "games 2",
		"Players 2", "PLAYERS 2", "playerS 2", "\"players 2\"", "\"players\" 2", "#players 2", "players #2",
		"\xffplayers 2", "players\xff2", "players 2\xff", "players \xff2", "players \x82", "\ufeffplayers 2", "players\u00a02", "players \uff12",
		"players \u0662", "players \u00b2", "pl\u0430yers 2", "players 2\u2028", "players 2\x0b", "players 2\x0c", "players 2\x85",
	}
}

func TestParseGameWrongFirstLines(t *testing.T) {
	for _, head := range wrongHeads() {
		wantFault(t, head, 0)
		wantFault(t, head+"\n", 0)
		wantFault(t, head+"\n\n", 0)
		wantFault(t, textOf(head, "a 1"), 0)
		wantFault(t, textOf(head, "a 1")+"b 2", 0)
		wantFault(t, textOf(head, "players 2", "a 1"), 0)
		wantFault(t, textOf(head, "wrong", "a 0"), 0)
	}
}

// TestParseGameNumbersOfPlayers has each number of players with the coalition of
// all of them, and of one more.
func TestParseGameNumbersOfPlayers(t *testing.T) {
	for n := -40; n <= 1100; n++ {
		text := fmt.Sprintf("players %d\n", n)
		if n >= 1 && n <= impl.MaxPlayers {
			wantGame(t, text, flatGame(n, 0))
			all := valued(flatGame(n, 0), 1<<n-1, 9)
			wantGame(t, text+"abcde"[:n]+" 9\n", all)
		} else {
			wantFault(t, text, 0)
			wantFault(t, text+"a 9\n", 0)
		}
	}
	for n := 1; n < impl.MaxPlayers; n++ {
		wantFault(t, fmt.Sprintf("players %d\n%s 9\n", n, "abcde"[:n+1]), 1)
	}
}

// wrongValues are wrong behind every first line but that of four or five
// players, and wherever they stand.
func wrongValues() []string {
	return []string{
		" ", "  ", "a", "abc", "-", "1", "0", "-1", "a ", " a", " 1", "1 ", "a1", "a-1", "a=1", "a: 1", "a:1", "a,1", "a;1", "a 1;", "a 1,",
		"1 a", "1 1", "0 1", "7 1", "a a", "a b", "- -", "- 0", "- 1", "- -1", "-  1", " 5 1",
		" a 1", "  a 1", "a  1", "a   1", "a 1 ", "a 1  ", " a 1 ", "a\t1", "\ta 1", "a 1\t", "a \t1", "a\u00a01", "a \u00a01",
		"a 1 2", "a 1 1", "a b 1", "a 1 b", "a 1 b 2", "a b c", "a 1 a 1", "ab c 1", "a bc 1", "a - 1", "- a 1", "a 1 -", "a 1 0",
		"a 0", "ab 0", "abc 0", "a -0", "a +0", "a 00", "a -00", "a 0 ", "a +1", "abc +7", "a 01", "a -01", "a 001", "a 007", "a 0500", "a -0500",
		"a 501", "a -501", "ab 501", "abc -501", "a 502", "a 1000", "a -1000", "a 5000", "a 999999", "a 999999999999", "a -999999999999",
		"a 1000000000000", "a 4294967297", "a -4294967297", "a 18446744073709551617", "a -18446744073709551617", "a 9223372036854775807",
		"a -9223372036854775808", "a 1.0", "a 1.", "a .5", "a 1/2", "a 2/1", "a 1e1", "a 1_0", "a 0x1", "a --1", "a -+1", "a - 1", "a -", "a +", "a 1-", "a x", "a 1x",
		"d 1", "e 1", "ad 1", "bd 1", "cd 1", "abcd 1", "abcde 1", "bce 1", "f 1", "z 1", "abcf 1", "abcdef 1",
		"ba 1", "ca 1", "cb 1", "acb 1", "bac 1", "bca 1", "cab 1", "cba 1", "aa 1", "bb 1", "aab 1", "abb 1", "aba 1", "aaa 1", "abca 1",
		"A 1", "AB 1", "aB 1", "Abc 1", "a,b 1", "a+b 1", "a-b 1", "-a 1", "a- 1", "--- 1", "-- 1", "{a} 1", "\"a\" 1", "a \"1\"",
		"players 3", "players 2", "players 1", "players", "a 1\r", "\ra 1", "a\r1", "a \r1", "\r", "a 1\x00", "a\x001", "\x00a 1", "\x00", "\x00 1",
		"\xff", "\xff 1", "a \xff", "a 1\xff", "\xffa 1", "a\xff1", "\x80 \x80", "\u0430 1", "a \uff11", "a \u0661", "a \u22121", "\u00e1 1", "\ufeffa 1", "a 1\u2028",
	}
}

func TestParseGameWrongLines(t *testing.T) {
	for _, wrong := range wrongValues() {
		for n := 1; n <= 3; n++ {
			head := fmt.Sprintf("players %d\n", n)
			wantFault(t, head+wrong, 1)
			wantFault(t, head+wrong+"\n", 1)
			wantFault(t, head+wrong+"\n\n", 1)
			wantFault(t, head+textOf(wrong, "a 1"), 1)
			wantFault(t, head+textOf(wrong, wrong), 1)
			wantFault(t, head+textOf("a 1", wrong), 2)
			wantFault(t, head+textOf("a -500")+wrong, 2)
			wantFault(t, head+textOf("a 500", wrong, "a 1", wrong), 2)
		}
		wantFault(t, textOf("players 3", "a 1", "b 2", wrong, "c 3"), 3)
		wantFault(t, textOf("players 3", "a 1", "b 2", wrong, "x", "c 3", "")+"\n", 3)
		wantFault(t, textOf("players 3", "a 1", "b 2", "ab 2", "c 3", "ac 4", "bc 5", "abc 6", wrong), 8)
		wantFault(t, textOf("players 6", wrong), 0)
	}
}

// TestParseGameCoalitionsOfTheGame has each coalition of five players in games
// of fewer, in the first line and behind others.
func TestParseGameCoalitionsOfTheGame(t *testing.T) {
	for n := 1; n <= impl.MaxPlayers; n++ {
		head := fmt.Sprintf("players %d\n", n)
		for s, name := range coalitionTexts() {
			text := head + name + " 4\n"
			if s == 0 || s >= 1<<n {
				wantFault(t, text, 1)
				wantFault(t, head+textOf("a 1", name+" 4"), 2)
				wantFault(t, head+textOf("a 1", name+" 4", "b 1"), 2)
			} else {
				wantGame(t, text, valued(flatGame(n, 0), s, 4))
			}
		}
	}
}

// TestParseGameOrderOfCoalitions has every two coalitions in both orders, and
// each one twice.
func TestParseGameOrderOfCoalitions(t *testing.T) {
	texts := coalitionTexts()
	for a := 1; a < 32; a++ {
		for b := 1; b < 32; b++ {
			text := textOf("players 5", texts[a]+" 3", texts[b]+" 4")
			if a >= b {
				wantFault(t, text, 2)
				wantFault(t, textOf("players 5", texts[a]+" 3", texts[b]+" 3"), 2)
				wantFault(t, text+"abcde 7\n", 2)
				continue
			}
			g := valued(valued(flatGame(5, 0), a, 3), b, 4)
			wantGame(t, text, g)
			wantFault(t, text+texts[b]+" 4\n", 3)
			wantFault(t, text+texts[a]+" 3\n", 3)
			if a > 1 {
				wantFault(t, text+"a 1\n", 3)
			}
		}
	}
	wantFault(t, textOf("players 3", "a 1", "c 1", "b 1", "abc 1"), 3)
	wantFault(t, textOf("players 3", "a 1", "b 1", "c 1", "ab 1"), 4)
	wantFault(t, textOf("players 3", "a 1", "ab 1", "abc 1", "ac 1"), 4)
	wantFault(t, textOf("players 2", "ab 1", "a 1"), 2)
	wantFault(t, textOf("players 2", "b 1", "b -1"), 2)
}

func TestParseGameEveryValue(t *testing.T) {
	for value := -2 * greatestValue; value <= 2*greatestValue; value++ {
		for n := 1; n <= impl.MaxPlayers; n++ {
			text := fmt.Sprintf("players %d\n%s %d\n", n, "abcde"[:n], value)
			if value != 0 && isGameNumber(value) {
				wantGame(t, text, valued(flatGame(n, 0), 1<<n-1, value))
			} else {
				wantFault(t, text, 1)
			}
		}
	}
	for _, value := range beyondValues() {
		for _, name := range coalitionTexts()[1:] {
			wantFault(t, fmt.Sprintf("players 5\n%s %d\n", name, value), 1)
		}
	}
}

// TestParseGameMalformedNumbers has texts of no integer as number of players and
// as value.
func TestParseGameMalformedNumbers(t *testing.T) {
	for _, number := range malformedTexts() {
		for _, text := range []string{
			"players " + number, "players " + number + "\n", "players " + number + "\na 1\n", "players 2\na " + number + "\nab 1\n",
			"players 2\na " + number, "players 2\na " + number + "\n", "players 2\na 1\nb " + number + "\nab 1\n",
		} {
			// "1\n" makes a right line, with an empty line behind it.
			if number == "1\n" {
				wantDefinedReading(t, text)
			} else if wantDefinedReading(t, text) {
				t.Errorf("%q is the text of a game", text)
			}
		}
	}
}

// TestParseGameSeveralWrongLines has wrong lines at every two places.
func TestParseGameSeveralWrongLines(t *testing.T) {
	lines := fullLines()
	for i := range lines {
		for j := range lines {
			for _, wrong := range []string{"", "x", "a 0", "abcde 501", "- 1", "players 6"} {
				text := textOf(with(with(lines, i, wrong), j, "wrong")...)
				wantFault(t, text, min(i, j))
				wantFault(t, unended(text), min(i, j))
			}
		}
	}
}

// TestParseGameExchangedLines has two lines of a game in each other's place, and
// lines that are missing.
func TestParseGameExchangedLines(t *testing.T) {
	lines := fullLines()
	for i := range lines {
		for j := range i {
			if j == 0 {
				wantFault(t, textOf(with(with(lines, 0, lines[i]), i, lines[0])...), 0)
			} else {
				wantFault(t, textOf(with(with(lines, j, lines[i]), i, lines[j])...), j+1)
			}
		}
		rest := textOf(slices.Delete(slices.Clone(lines), i, i+1)...)
		if i == 0 {
			wantFault(t, rest, 0)
		} else {
			wantGame(t, rest, valued(fullGame(), i, 0))
		}
		wantFault(t, textOf(slices.Insert(slices.Clone(lines), i, lines[i])...), i+1)
	}
}

func TestParseGameOtherEndsOfLines(t *testing.T) {
	for _, text := range []string{"players 2\n", "players 2\na 1\nb 2\nab 5\n", fullText()} {
		wantFault(t, strings.ReplaceAll(text, "\n", "\r\n"), 0)
		wantFault(t, strings.ReplaceAll(text, "\n", "\n\r"), 1)
		wantFault(t, text+"\r", strings.Count(text, "\n"))
		wantFault(t, text+"\r\n", strings.Count(text, "\n"))
		wantFault(t, unended(text)+"\r\n", strings.Count(text, "\n")-1)
		for _, end := range []string{"\r", "\x0b", "\x0c", "\x00", "\x1e", "\x85", "\u0085", "\u2028", "\u2029", ";", " ", "\\n", "\n\n"} {
			wantFault(t, strings.ReplaceAll(text, "\n", end), min(1, strings.Count(end, "\n")))
		}
		wantFault(t, "\r"+text, 0)
		wantFault(t, "\ufeff"+text, 0)
		wantFault(t, "\x00"+text, 0)
	}
}

// TestParseGameOfEveryBeginning has all beginnings of a text: those that end
// behind a newline are texts of games.
func TestParseGameOfEveryBeginning(t *testing.T) {
	text, g := fullText(), fullGame()
	for length := range len(text) + 1 {
		start := text[:length]
		count := strings.Count(start, "\n")
		if strings.HasSuffix(start, "\n") {
			want := flatGame(5, 0)
			copy(want.Values, g.Values[:count])
			wantGame(t, start, want)
		} else if wantDefinedReading(t, start) {
			t.Errorf("%q is the text of a game", start)
		}
	}
}

// TestParseGameOfNeighbours has all texts that differ from one of a game in one
// byte, which is changed, added or missing.
func TestParseGameOfNeighbours(t *testing.T) {
	games, others := 0, 0
	try := func(text string) {
		if wantDefinedReading(t, text) {
			games++
		} else {
			others++
		}
	}
	for _, text := range []string{"players 1\n", "players 3\na 1\nab -20\nbc 499\n"} {
		for i := range len(text) + 1 {
			for b := range 256 {
				c := string([]byte{byte(b)})
				try(text[:i] + c + text[i:])
				if i < len(text) {
					try(text[:i] + c + text[i+1:])
				}
			}
			if i < len(text) {
				try(text[:i] + text[i+1:])
			}
		}
	}
	if games < 100 || others < 10000 {
		t.Errorf("there are %d games, and %d other texts", games, others)
	}
}

// TestParseGameAcceptsOnlyFormattedTexts compares the parser with its definition
// for every short text from some bytes, behind a text that begins a game.
func TestParseGameAcceptsOnlyFormattedTexts(t *testing.T) {
	games, others := 0, 0
	for _, start := range []string{"", "players ", "players 2\n", "players 2\na", "players 2\na 1\n", "players 2\na 1\nab -", "players 2\nab 1"} {
		for _, end := range textsOver("ab 10-\n", 5) {
			if wantDefinedReading(t, start+end) {
				games++
			} else {
				others++
			}
		}
	}
	if games < 40 || others < 50000 {
		t.Errorf("there are %d games, and %d other texts", games, others)
	}
}

// sparseGame draws a game in which some values are 0.
func (d drawn) sparseGame(players, most int) impl.Game {
	g := d.drawnGame(players, most)
	for s := range g.Values {
		if d.Intn(3) == 0 {
			g.Values[s] = 0
		}
	}
	return g
}

// TestGamesAreParsedFromTheirTexts goes from a game to its text and back, and
// from that text to a game and back.
func TestGamesAreParsedFromTheirTexts(t *testing.T) {
	for value := -greatestValue; value <= greatestValue; value++ {
		g := game(1, value)
		wantBothWays(t, g, definedText(g))
	}
	d := newDrawn()
	for n := 1; n <= impl.MaxPlayers; n++ {
		for _, most := range []int{0, 1, 2, 12, 130, greatestValue} {
			for range 80 {
				g := d.sparseGame(n, most)
				text := impl.FormatGame(g)
				wantBothWays(t, g, definedText(g))
				back, line := impl.ParseGame(text)
				if line != noFault || !impl.EqualGame(back, g) || impl.FormatGame(back) != text {
					t.Errorf("ParseGame(%q) = %v, %d; want %v", text, back, line, g)
				}
			}
		}
	}
}

// TestParseGameOfSpoiledTexts changes lines of drawn texts, so that every line
// is reported often.
func TestParseGameOfSpoiledTexts(t *testing.T) {
	d, faults := newDrawn(), map[int]int{}
	spare := slices.Concat(wrongHeads(), wrongValues(), []string{"a 1", "b 2", "ab -3", "abc 4", "abcde 5", "players 5"})
	for range 6000 {
		text := definedText(d.sparseGame(d.between(1, impl.MaxPlayers), 20))
		lines := strings.Split(unended(text), "\n")
		for range d.between(0, 3) {
			i := d.Intn(len(lines))
			switch d.Intn(4) {
			case 0:
				lines[i] = spare[d.Intn(len(spare))]
			case 1:
				lines = slices.Insert(lines, i+1, spare[d.Intn(len(spare))])
			case 2:
				j := d.Intn(len(lines))
				lines[i], lines[j] = lines[j], lines[i]
			case 3:
				lines[i] += string([]byte{byte(d.Intn(256))})
			}
		}
		text = strings.Join(lines, "\n")
		for range d.between(0, 9) / 4 {
			text += "\n"
		}
		wantDefinedReading(t, text)
		faults[definedReading(text).line]++
	}
	for line := noFault; line <= 10; line++ {
		if faults[line] < 20 {
			t.Errorf("%d is returned %d times", line, faults[line])
		}
	}
}

func TestParseGameOfArbitraryBytes(t *testing.T) {
	d := newDrawn()
	bytesOf := func(length int, alphabet string) string {
		var list []byte
		for range length {
			list = append(list, alphabet[d.Intn(len(alphabet))])
		}
		return string(list)
	}
	all := ""
	for b := range 256 {
		all += string([]byte{byte(b)})
	}
	for range 3000 {
		length := d.Intn(60)
		for _, alphabet := range []string{all, "players 2\n", "abcde 1-\n", "\n\r\x00\xff "} {
			wantDefinedReading(t, bytesOf(length, alphabet))
			wantDefinedReading(t, "players 4\n"+bytesOf(length, alphabet))
			wantDefinedReading(t, "players 4\nb 1\n"+bytesOf(length, alphabet)+"\n")
		}
	}
}

func TestParseGameOfVeryLongTexts(t *testing.T) {
	for _, size := range []int{100, 70000, 1000000} {
		for _, c := range []string{"a", "0", "1", " ", "-", "\x00", "\xff", "\r"} {
			run := strings.Repeat(c, size)
			wantFault(t, run, 0)
			wantFault(t, "players "+run+"2\n", 0)
			wantFault(t, "players 2"+run+"\n", 0)
			wantFault(t, "players 2\n"+run, 1)
			wantFault(t, "players 2\na "+run+"1\n", 1)
			wantFault(t, "players 2\na 1"+run+"\n", 1)
			wantFault(t, "players 2\na 1\nb"+run+" 1\n", 2)
		}
		wantFault(t, strings.Repeat("\n", size), 0)
		wantFault(t, "players 2\n"+strings.Repeat("\n", size), 1)
		wantFault(t, "players 2\na 1\n"+strings.Repeat("\n", size)+"b 1\n", 2)
		wantFault(t, strings.Repeat("players 2\n", size), 1)
		wantFault(t, "players 2\n"+strings.Repeat("a 1\n", size), 2)
		wantFault(t, strings.Repeat(fullText(), size/100+1), 32)
		wantFault(t, fullText()+strings.Repeat("abcde 1\n", size), 32)
		wantFault(t, fullText()+strings.Repeat("x", size), 32)
	}
}

func TestGameTextsKeepNoState(t *testing.T) {
	for range 3 {
		wantGame(t, "players 2\na 1\nb 2\nab 5\n", game(2, 1, 2, 5))
		wantFault(t, "players 2\nab 1\na 1\n", 2)
		wantFault(t, "players 6\n", 0)
		wantGame(t, "players 2\nb 2\n", game(2, 0, 2, 0))
		wantFault(t, "players 2\nb 2", 2)
		wantGameText(t, game(2, 1, 2, 5), "players 2\na 1\nb 2\nab 5\n")
		wantGameText(t, game(2, 1, 2), "")
		wantGameText(t, game(1, 0), "players 1\n")
	}
}
