package tests

import (
	"math"
	"math/bits"
	"slices"
	"strings"
	"testing"

	"loop.example/g00520/impl"
)

// coalitionTexts returns the text of each coalition, written out so that the
// tests do not depend on the function that they examine.
func coalitionTexts() []string {
	return []string{
		"-", "a", "b", "ab", "c", "ac", "bc", "abc",
		"d", "ad", "bd", "abd", "cd", "acd", "bcd", "abcd",
		"e", "ae", "be", "abe", "ce", "ace", "bce", "abce",
		"de", "ade", "bde", "abde", "cde", "acde", "bcde", "abcde",
	}
}

// isIn reports whether the letter of player k is in the text of coalition s.
func isIn(s, k int) bool {
	return strings.Contains(coalitionTexts()[s], "abcde"[k:k+1])
}

// noCoalitions are numbers that belong to no coalition of MaxPlayers players.
func noCoalitions() []int {
	list := []int{math.MinInt, math.MinInt + 1, math.MinInt + 32, math.MaxInt, math.MaxInt - 31}
	for shift := 5; shift < 63; shift++ {
		list = append(list, 1<<shift, 1<<shift+31, -1<<shift, -1<<shift+31)
	}
	for n := 1; n <= 40; n++ {
		list = append(list, -n, 31+n)
	}
	return list
}

func TestMaxPlayers(t *testing.T) {
	if impl.MaxPlayers != 5 {
		t.Errorf("MaxPlayers = %d", impl.MaxPlayers)
	}
}

func TestCountCoalitionsUpToTheLimit(t *testing.T) {
	for n, want := range []int{1, 2, 4, 8, 16, 32} {
		if got := impl.CountCoalitions(n); got != want {
			t.Errorf("CountCoalitions(%d) = %d; want %d", n, got, want)
		}
	}
}

func TestCountCoalitionsBeyondTheLimit(t *testing.T) {
	list := []int{math.MinInt, math.MinInt + 1, math.MinInt + 5, math.MaxInt, math.MaxInt - 1, 1 << 32, -1 << 32}
	for n := 1; n <= 300; n++ {
		list = append(list, -n, impl.MaxPlayers+n)
	}
	for _, n := range list {
		if got := impl.CountCoalitions(n); got != 0 {
			t.Errorf("CountCoalitions(%d) = %d; want 0", n, got)
		}
	}
}

func TestHasPlayerOfEveryCoalition(t *testing.T) {
	for s := range coalitionTexts() {
		for k := range impl.MaxPlayers {
			if got, want := impl.HasPlayer(s, k), isIn(s, k); got != want {
				t.Errorf("HasPlayer(%d, %d) = %t; want %t", s, k, got, want)
			}
		}
	}
}

func TestHasPlayerRejectsOtherPlayers(t *testing.T) {
	players := []int{math.MinInt, math.MinInt + 1, math.MaxInt, 1 << 32, -1 << 32}
	for n := 1; n <= 130; n++ {
		players = append(players, -n, impl.MaxPlayers-1+n)
	}
	for _, s := range []int{0, 1, 2, 4, 8, 16, 21, 31, 32, 63, 1 << 62, math.MaxInt, -1, math.MinInt} {
		for _, k := range players {
			if impl.HasPlayer(s, k) {
				t.Errorf("HasPlayer(%d, %d) = true", s, k)
			}
		}
	}
}

func TestNobodyBelongsToNegativeNumbers(t *testing.T) {
	for _, s := range noCoalitions() {
		if s >= 0 {
			continue
		}
		for k := range impl.MaxPlayers {
			if impl.HasPlayer(s, k) {
				t.Errorf("HasPlayer(%d, %d) = true", s, k)
			}
		}
		if got := impl.SizeOf(s); got != 0 {
			t.Errorf("SizeOf(%d) = %d; want 0", s, got)
		}
	}
}

// TestHighDigitsAreNoPlayers checks that digits above those of the players
// neither hide the players below nor count as players.
func TestHighDigitsAreNoPlayers(t *testing.T) {
	for low, text := range coalitionTexts() {
		size := len(strings.Trim(text, "-"))
		for _, high := range []int{0, 32, 64, 96, 1 << 31, 1 << 32, 1 << 62, math.MaxInt - 31} {
			if got := impl.SizeOf(high + low); got != size {
				t.Errorf("SizeOf(%d) = %d; want %d", high+low, got, size)
			}
			for k := range impl.MaxPlayers {
				if got, want := impl.HasPlayer(high+low, k), isIn(low, k); got != want {
					t.Errorf("HasPlayer(%d, %d) = %t; want %t", high+low, k, got, want)
				}
			}
		}
	}
}

func TestSizeOfKnownCoalitions(t *testing.T) {
	for s, want := range map[int]int{
		0: 0, 1: 1, 16: 1, 3: 2, 5: 2, 24: 2, 7: 3, 21: 3, 28: 3, 15: 4, 30: 4, 31: 5,
		32: 0, 33: 1, 63: 5, math.MaxInt: 5, math.MaxInt - 31: 0,
		-1: 0, -31: 0, math.MinInt: 0, math.MinInt + 1: 0,
	} {
		if got := impl.SizeOf(s); got != want {
			t.Errorf("SizeOf(%d) = %d; want %d", s, got, want)
		}
	}
}

func TestSetsKnownResults(t *testing.T) {
	for _, c := range []struct {
		a, b           int
		subset         bool
		union, overlap int
	}{
		{0, 0, true, 0, 0}, {0, 31, true, 31, 0}, {31, 0, false, 31, 0}, {31, 31, true, 31, 31},
		{5, 7, true, 7, 5}, {7, 5, false, 7, 5}, {5, 2, false, 7, 0}, {5, 6, false, 7, 4},
		{10, 21, false, 31, 0}, {16, 24, true, 24, 16}, {24, 16, false, 24, 16}, {3, 12, false, 15, 0},
	} {
		subset, union, overlap := impl.IsSubset(c.a, c.b), impl.Union(c.a, c.b), impl.Overlap(c.a, c.b)
		if subset != c.subset || union != c.union || overlap != c.overlap {
			t.Errorf("IsSubset, Union, Overlap of %d, %d = %t, %d, %d; want %t, %d, %d",
				c.a, c.b, subset, union, overlap, c.subset, c.union, c.overlap)
		}
	}
}

// TestSetsHaveTheMembersOfBoth compares every pair of coalitions player by
// player.
func TestSetsHaveTheMembersOfBoth(t *testing.T) {
	count := len(coalitionTexts())
	for a := range count {
		for b := range count {
			union, overlap, subset := 0, 0, true
			for k := range impl.MaxPlayers {
				inA, inB := isIn(a, k), isIn(b, k)
				if inA || inB {
					union += 1 << k
				}
				if inA && inB {
					overlap += 1 << k
				}
				subset = subset && (!inA || inB)
			}
			if got := impl.Union(a, b); got != union {
				t.Errorf("Union(%d, %d) = %d; want %d", a, b, got, union)
			}
			if got := impl.Overlap(a, b); got != overlap {
				t.Errorf("Overlap(%d, %d) = %d; want %d", a, b, got, overlap)
			}
			if got := impl.IsSubset(a, b); got != subset {
				t.Errorf("IsSubset(%d, %d) = %t; want %t", a, b, got, subset)
			}
		}
	}
}

func TestSetsRejectOtherNumbers(t *testing.T) {
	others := noCoalitions()
	for _, other := range others {
		for s := range coalitionTexts() {
			wantNoSet(t, s, other)
			wantNoSet(t, other, s)
		}
		for _, second := range others {
			wantNoSet(t, other, second)
		}
	}
}

func wantNoSet(t *testing.T, a, b int) {
	t.Helper()
	if impl.IsSubset(a, b) {
		t.Errorf("IsSubset(%d, %d) = true", a, b)
	}
	if got := impl.Union(a, b); got != 0 {
		t.Errorf("Union(%d, %d) = %d; want 0", a, b, got)
	}
	if got := impl.Overlap(a, b); got != 0 {
		t.Errorf("Overlap(%d, %d) = %d; want 0", a, b, got)
	}
}

func TestMembersOfKnownCoalitions(t *testing.T) {
	for s, want := range map[int][]int{
		0: nil, 1: {0}, 2: {1}, 16: {4}, 3: {0, 1}, 17: {0, 4}, 21: {0, 2, 4},
		10: {1, 3}, 15: {0, 1, 2, 3}, 30: {1, 2, 3, 4}, 31: {0, 1, 2, 3, 4},
	} {
		if got := impl.MembersOf(s); !slices.Equal(got, want) {
			t.Errorf("MembersOf(%d) = %v; want %v", s, got, want)
		}
	}
}

func TestMembersOfEveryCoalition(t *testing.T) {
	for s := range coalitionTexts() {
		var want []int
		for k := range impl.MaxPlayers {
			if isIn(s, k) {
				want = append(want, k)
			}
		}
		got := impl.MembersOf(s)
		if !slices.Equal(got, want) || len(got) != impl.SizeOf(s) || len(got) != bits.OnesCount(uint(s)) {
			t.Errorf("MembersOf(%d) = %v; want %v", s, got, want)
		}
	}
}

func TestMembersOfRejectsOtherNumbers(t *testing.T) {
	for _, s := range noCoalitions() {
		if got := impl.MembersOf(s); got != nil {
			t.Errorf("MembersOf(%d) = %v; want nil", s, got)
		}
	}
}

func TestMembersOfResultsAreIndependent(t *testing.T) {
	first, second := impl.MembersOf(31), impl.MembersOf(31)
	first[0] = 9
	if want := []int{0, 1, 2, 3, 4}; !slices.Equal(second, want) || !slices.Equal(impl.MembersOf(31), want) {
		t.Errorf("after a change to one result the other ones are %v, %v", second, impl.MembersOf(31))
	}
}

func TestFormatCoalitionOfEveryCoalition(t *testing.T) {
	for s, want := range coalitionTexts() {
		if got := impl.FormatCoalition(s); got != want {
			t.Errorf("FormatCoalition(%d) = %q; want %q", s, got, want)
		}
	}
}

func TestFormatCoalitionRejectsOtherNumbers(t *testing.T) {
	for _, s := range noCoalitions() {
		if got := impl.FormatCoalition(s); got != "" {
			t.Errorf("FormatCoalition(%d) = %q; want \"\"", s, got)
		}
	}
}

func TestParseCoalitionAcceptsEveryCoalition(t *testing.T) {
	for s, text := range coalitionTexts() {
		wantAccepted(t, "ParseCoalition", impl.ParseCoalition, text, s)
		wantAccepted(t, "ParseCoalition", impl.ParseCoalition, impl.FormatCoalition(s), s)
	}
}

func TestParseCoalitionRejectsOtherTexts(t *testing.T) {
	for _, text := range []string{
		"", "--", "-a", "a-", "a-b", "-abcde", "abcde-",
		"ba", "ca", "acb", "cab", "edcba", "abced", "bd a", "db",
		"aa", "ee", "abb", "aab", "aba", "abcdee", "aabbccddee",
		"f", "af", "abcdef", "z", "A", "E", "aB", "ABCDE", "`", "`a",
		" ", " a", "a ", "a b", "a,b", "a\n", "\na", "a\x00", "\x00", "\x00a",
		"0", "1", "5", "31", "?", "\xff", "a\xff", "\x80", "\u00e1", "\u0430", "\u2212",
		strings.Repeat("a", 1000), strings.Repeat("abcde", 1000), strings.Repeat("-", 1000),
	} {
		wantRejected(t, "ParseCoalition", impl.ParseCoalition, text)
	}
}

// TestParseCoalitionAcceptsOnlyFormattedTexts compares the parser with its
// definition for every text of up to six bytes from its letters and another.
func TestParseCoalitionAcceptsOnlyFormattedTexts(t *testing.T) {
	texts := coalitionTexts()
	for _, text := range textsOver("abcdef-", 6) {
		if s := slices.Index(texts, text); s >= 0 {
			wantAccepted(t, "ParseCoalition", impl.ParseCoalition, text, s)
		} else {
			wantRejected(t, "ParseCoalition", impl.ParseCoalition, text)
		}
	}
}

func TestParseCoalitionRejectsEveryOtherByte(t *testing.T) {
	for b := range 256 {
		if b == '-' || b >= 'a' && b <= 'e' {
			continue
		}
		c := string([]byte{byte(b)})
		for _, text := range []string{c, "a" + c, c + "a", "a" + c + "b", "abcde" + c, "-" + c} {
			wantRejected(t, "ParseCoalition", impl.ParseCoalition, text)
		}
	}
}

func TestCoalitionsKeepNoState(t *testing.T) {
	for range 3 {
		wantAccepted(t, "ParseCoalition", impl.ParseCoalition, "bd", 10)
		wantRejected(t, "ParseCoalition", impl.ParseCoalition, "db")
		if impl.Union(5, 2) != 7 || impl.Overlap(5, 6) != 4 || impl.CountCoalitions(5) != 32 {
			t.Error("a repeated call has another result")
		}
	}
}
