package text_test

import (
	"fmt"
	"regexp"
	"slices"
	"strings"
	"testing"

	"qanat/api"
	"qanat/text"
)

// P2.8, with blanks at the ends and between.
func TestWords(t *testing.T) {
	for _, c := range []struct {
		s     string
		n     int
		words int
		word  string
		index int
	}{
		{"now  is", 2, 2, "is", 6}, {"now  is", 1, 2, "now", 1}, {"now  is", 3, 2, "", 0},
		{"  a b ", 1, 2, "a", 3}, {"  a b ", 2, 2, "b", 5}, {"  a b ", 3, 2, "", 0}, {"", 1, 0, "", 0},
		{"   ", 1, 0, "", 0}, {"a", 1, 1, "a", 1}, {"a", huge, 1, "", 0}, {"a;b,c", 1, 1, "a;b,c", 1},
		{" ab", 1, 1, "ab", 2}, {"ab ", 1, 1, "ab", 1},
	} {
		call := fmt.Sprintf("%q, %d", c.s, c.n)
		n, e := text.Words(c.s)
		wantNumber(t, "Words "+call, n, e, c.words)
		s, e := text.Word(c.s, c.n)
		wantText(t, "Word "+call, s, e, c.word)
		n, e = text.WordIndex(c.s, c.n)
		wantNumber(t, "WordIndex "+call, n, e, c.index)
		n, e = text.WordLength(c.s, c.n)
		wantNumber(t, "WordLength "+call, n, e, len(c.word))
	}
}

// P2.9, and the examples.
func TestSubwordDelWord(t *testing.T) {
	for _, c := range []struct {
		s            string
		n, length    int
		sub, without string
	}{
		{"Now is the  time", 2, 2, "is the", "Now time"},
		{"Now is the  time", 3, 1, "the", "Now is time"},
		{"Now is the  time", 3, api.Missing, "the  time", "Now is "},
		{"Now is the  time", 1, api.Missing, "Now is the  time", ""},
		{"Now is the  time", 4, 5, "time", "Now is the  "},
		{"Now is the  time", 2, huge, "is the  time", "Now "},
		{"Now is the  time", 5, 1, "", "Now is the  time"},
		{"Now is the  time", huge, api.Missing, "", "Now is the  time"},
		{"Now is the  time", huge, huge, "", "Now is the  time"},
		{"Now is the  time", 2, 0, "", "Now is the  time"},
		{"  a  b  ", 1, 1, "a", "  b  "},
		{"  a  b  ", 2, 1, "b", "  a  "},
		{"  a  b  ", 1, 2, "a  b", "  "},
		{"  a  b  ", 1, api.Missing, "a  b", "  "},
		{"  a  b  ", 3, api.Missing, "", "  a  b  "},
		{"", 1, api.Missing, "", ""},
		{"  ", 1, 1, "", "  "},
		{"a", 1, 0, "", "a"},
		{"a b", 1, 1, "a", "b"},
	} {
		call := fmt.Sprintf("%q, %d, %d", c.s, c.n, c.length)
		s, e := text.Subword(c.s, c.n, c.length)
		wantText(t, "Subword "+call, s, e, c.sub)
		s, e = text.DelWord(c.s, c.n, c.length)
		wantText(t, "DelWord "+call, s, e, c.without)
	}
}

// P2.10.
func TestSpace(t *testing.T) {
	for _, c := range []struct {
		s    string
		n    int
		pad  byte
		want string
	}{
		{"  a  b ", 2, '+', "a++b"}, {"  a  b ", 0, '+', "ab"}, {"  a  b c", 1, ' ', "a b c"},
		{"", 3, '+', ""}, {"   ", 3, '+', ""}, {" a ", 3, '+', "a"}, {" a ", huge, '+', "a"}, {"", huge, '+', ""},
		{"a b c", 3, ' ', "a   b   c"},
	} {
		s, e := text.Space(c.s, c.n, c.pad)
		wantText(t, fmt.Sprintf("Space %+v", c), s, e, c.want)
	}
}

// P2.10, with phrases that begin, overlap, and end late.
func TestWordPos(t *testing.T) {
	for _, c := range []struct {
		phrase, s   string
		start, want int
	}{
		{"is  the", "now is the time", 1, 2}, {"is the", "now is the time", 2, 2}, {"is the", "now is the time", 3, 0},
		{"the", "now is the time", 1, 3}, {"is time", "now is the time", 1, 0}, {"th", "now is the time", 1, 0},
		{"he", "now is the time", 1, 0}, {"", "now is", 1, 0}, {"  ", "now is", 1, 0}, {"a", "", 1, 0}, {"", "", 1, 0},
		{"a a", "a a a", 1, 1}, {"a a", "a a a", 2, 2}, {"a a", "a a a", 3, 0}, {"a a b", "a a a b", 1, 2},
		{" be ", "to be or not to be", 1, 2}, {"be", "to be or not to be", 3, 6}, {"be", "to be or not to be", 7, 0},
		{"a b c", "a b", 1, 0}, {"a", "a", huge, 0}, {"a", "A", 1, 0}, {" a  b", "  a b  ", 1, 1},
	} {
		n, e := text.WordPos(c.phrase, c.s, c.start)
		wantNumber(t, fmt.Sprintf("WordPos %+v", c), n, e, c.want)
	}
}

// P2.8 to P2.10 against the library's words.
func TestWordsAgainstStrings(t *testing.T) {
	r := newSource(28)
	pattern := regexp.MustCompile("[^ ]+")
	for range 4000 {
		s := r.text("ab  ", 14)
		spots, list := pattern.FindAllStringIndex(s, -1), strings.Fields(s)
		n, length := 1+r.Intn(6), r.missingOr(0, 6)
		word, index, sub, rest := "", 0, "", s
		if n <= len(list) {
			word, index = list[n-1], spots[n-1][0]+1
			last := min(len(list), n-1+length)
			if length == api.Missing {
				last = len(list)
			}
			if last >= n {
				sub = s[index-1 : spots[last-1][1]]
				end := len(s)
				if last < len(list) {
					end = spots[last][0]
				}
				rest = s[:index-1] + s[end:]
			}
		}
		call := fmt.Sprintf("%q, %d, %d", s, n, length)
		count, e := text.Words(s)
		wantNumber(t, "Words "+call, count, e, len(list))
		got, e := text.Word(s, n)
		wantText(t, "Word "+call, got, e, word)
		k, e := text.WordIndex(s, n)
		wantNumber(t, "WordIndex "+call, k, e, index)
		k, e = text.WordLength(s, n)
		wantNumber(t, "WordLength "+call, k, e, len(word))
		got, e = text.Subword(s, n, length)
		wantText(t, "Subword "+call, got, e, sub)
		got, e = text.DelWord(s, n, length)
		wantText(t, "DelWord "+call, got, e, rest)
		got, e = text.Space(s, n, '+')
		wantText(t, "Space "+call, got, e, strings.Join(list, strings.Repeat("+", n)))
		phrase := r.text("ab  ", 4)
		k, e = text.WordPos(phrase, s, n)
		wantNumber(t, fmt.Sprintf("WordPos %q %q %d", phrase, s, n), k, e, firstPhrase(strings.Fields(phrase), list, n))
	}
}

// firstPhrase returns the least number, at least start, from which on phrase is in list.
func firstPhrase(phrase, list []string, start int) int {
	for n := start; len(phrase) > 0 && n+len(phrase)-1 <= len(list); n++ {
		if slices.Equal(list[n-1:n-1+len(phrase)], phrase) {
			return n
		}
	}
	return 0
}
