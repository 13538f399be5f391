package tests

import (
	"maps"
	"slices"
	"strings"
	"testing"

	"loop.example/shadowseries/impl"
)

func TestMaxDesk(t *testing.T) {
	if impl.MaxDesk != 20 {
		t.Errorf("MaxDesk = %d", impl.MaxDesk)
	}
}

// wantAnswers runs lines, as many at once as a desk takes, and checks their answers.
func wantAnswers(t *testing.T, lines []string, answers []string) {
	t.Helper()
	for i := 0; i < len(lines); i += impl.MaxDesk {
		end := min(i+impl.MaxDesk, len(lines))
		want := strings.Join(answers[i:end], "\n") + "\n"
		if got := impl.RunDesk(lines[i:end]); got != want {
			t.Fatalf("RunDesk(%q) = %q; want %q", lines[i:end], got, want)
		}
	}
}

func TestKnownAnswers(t *testing.T) {
	answers := [][2]string{
		{"exp 0,1,1,1", "1,1,2,5"}, {"exp 0", "1"}, {"exp 0,600", "1,600"}, {"exp 0,-25,-25", "1,-25,600"}, {"exp 0,-25,-24", "none"}, {"exp 1,1", "none"}, {"exp 0,24,25", "none"},
		{"log 1,1,2,6", "0,1,1,2"}, {"log 1", "0"}, {"log 0,1", "none"}, {"log -1,1", "none"}, {"log 1,24,-25", "none"},
		{"invert 1,1,1", "1,-1,1"}, {"invert -1", "-1"}, {"invert 2", "none"}, {"invert 0", "none"}, {"invert 1,17,-23", "none"}, {"invert 1,17,-22", "1,-17,600"},
		{"reverse 0,1,1,1", "0,1,-1,2"}, {"reverse 0,-1,5", "0,-1,5"}, {"reverse 0", "none"}, {"reverse 0,2", "none"}, {"reverse 1,1", "none"},
		{"binomial 1,0,1", "1,1,2"}, {"binomial 600", "600"}, {"binomial 1,599", "1,600"}, {"binomial 1,600", "none"}, {"binomial -600,0", "-600,-600"},
		{"zigzag 1,0,0,0", "1,1,1,2"}, {"zigzag 1,0,0,0,0,0", "1,1,1,2,5,16"}, {"zigzag -7", "-7"}, {"zigzag 600,1", "none"},
		// determinants are written also where they are too great for a series
		{"hankel 1,1,2", "1,1,1"}, {"hankel -7", "1,-7"}, {"hankel 0", "1,0"}, {"hankel 600,0,600", "1,600,360000"},
		{"hankel 600,600,-600", "1,600,-720000"}, {"hankel 600,-600,-600,-600,600,0", "1,600,-720000,-864000000"}, {"hankel 25,1,24", "1,25,599"},
		{"hankel 25,-1,-24", "1,25,-601"},
		{"exp ", "wrong"}, {"log ", "wrong"}, {"invert ", "wrong"}, {"reverse ", "wrong"}, {"binomial ", "wrong"}, {"zigzag ", "wrong"}, {"hankel ", "wrong"},
		{"exp x", "wrong"}, {"exp 00", "wrong"}, {"exp 0,", "wrong"}, {"exp 0,601", "wrong"}, {"exp 0,0,0,0,0,0,0", "wrong"}, {"log +1", "wrong"},
		{"exp 0\n", "wrong"}, {"exp 0,\t1", "wrong"}, {"exp \u00a0", "wrong"}, {"exp \xff", "wrong"}, {"hankel hankel", "wrong"}, {"exp \x00", "wrong"},
		{"", "what"}, {" ", "what"}, {"exp", "what"}, {"hankel", "what"}, {"exp  ", "what"}, {"exp  0,1", "what"}, {"exp 0,1 ", "what"}, {"exp 0, 1", "what"},
		{"exp x y", "what"}, {" exp 0", "what"}, {"Exp 0", "what"}, {"EXP 0", "what"}, {"Hankel 1", "what"}, {"walk 0,1", "what"}, {"0", "what"}, {"0,1", "what"},
		{"exp\t0", "what"}, {"exp\n0", "what"}, {"exp\u00a00", "what"}, {"exp0", "what"}, {"exp,0", "what"}, {"exp:0 0", "what"}, {"exponential 0", "what"}, {"ex 0", "what"},
		{"\nexp 0", "what"}, {"exp\n 0", "what"}, {"exp\x00 0", "what"}, {"what 0", "what"}, {"none", "what"}, {"alternate 0", "what"}, {"add 0", "what"}, {"0 exp", "what"},
	}
	for _, a := range answers {
		wantAnswers(t, []string{a[0]}, []string{a[1]})
	}
	var lines, all []string
	for _, a := range answers {
		lines, all = append(lines, a[0]), append(all, a[1])
	}
	wantAnswers(t, lines, all)
}

// words are the words of the desk, in order.
func words() []string { return slices.Sorted(maps.Keys(deskWords())) }

func TestAnswersOfSeries(t *testing.T) {
	var lines, answers []string
	counts := map[string]*tally{}
	for _, word := range words() {
		counts[word] = &tally{}
		lists := samples(82)
		for _, firsts := range [][]int{{0}, {1}, {0, 1}} {
			lists = append(lists, startingWith(83, firsts...)...)
		}
		for _, f := range lists {
			text := impl.SeriesText(f)
			lines, answers = append(lines, word+" "+text), append(answers, answer(word, text))
			counts[word].count(answers[len(answers)-1] != "none")
		}
	}
	wantAnswers(t, lines, answers)
	for word, calls := range counts {
		if word == "hankel" {
			calls.atLeast(t, 5000, 0) // there are always some determinants
			continue
		}
		calls.atLeast(t, 1000, 500)
	}
}

func TestAnswersOfOtherLines(t *testing.T) {
	texts := append(noTexts(), "0", "0,1", "1", "1,2,3", "0 1", "0,1 ", " 0", "0\x001", "exp", "exp 0")
	var others []string
	for _, word := range words() {
		others = append(others, word, strings.ToUpper(word), strings.ToUpper(word[:1])+word[1:], word[:len(word)-1], word+"s", word+"\n", "\t"+word, word+"\x00", word+word)
	}
	others = append(others, "", "what", "wrong", "none", "0", ",", "derive", "alternate", "bell", "\xff")
	for _, word := range others {
		lines, answers := []string{word, " " + word}, []string{"what", "what"}
		for _, text := range texts {
			lines = append(lines, word+" "+text, word+"  "+text, word+"\t"+text)
			answers = append(answers, answer(word, text), "what", "what")
		}
		wantAnswers(t, lines, answers)
	}
}

// TestNumbersOfLines has no lines, one, MaxDesk and more.
func TestNumbersOfLines(t *testing.T) {
	for count := range impl.MaxDesk + 1 {
		if got := impl.RunDesk(make([]string, count)); got != strings.Repeat("what\n", count) {
			t.Errorf("RunDesk of %d lines is %q", count, got)
		}
		if got := impl.RunDesk(slices.Repeat([]string{"exp 0,1"}, count)); got != strings.Repeat("1,1\n", count) {
			t.Errorf("RunDesk of %d lines is %q", count, got)
		}
	}
	for _, count := range []int{21, 22, 40, 1000} {
		for _, line := range []string{"", "exp 0,1", "exp x"} {
			if got := impl.RunDesk(slices.Repeat([]string{line}, count)); got != "" {
				t.Errorf("RunDesk of %d lines is %q", count, got)
			}
		}
	}
	if got := impl.RunDesk(nil); got != "" {
		t.Errorf("RunDesk of no lines is %q", got)
	}
}

// TestEachLineHasAnAnswer is for the promise 54.
func TestEachLineHasAnAnswer(t *testing.T) {
	texts := append(noTexts()[:40], "0,1,1", "1,1,2", "0", "1", "600,1", "0,1,600,600", "1\n2", "\n", "1 2")
	for i := range 2000 {
		lines := make([]string, i%(impl.MaxDesk+1))
		for k := range lines {
			lines[k] = append(words(), "", "walk")[(i+k*k)%9] + []string{" ", " ", " ", "", "\n", "  "}[(i/9+k)%6] + texts[(i*7+k*5)%len(texts)]
		}
		all := impl.RunDesk(lines)
		for count := range len(lines) + 1 {
			first := impl.RunDesk(lines[:count])
			if strings.Count(first, "\n") != count || !strings.HasPrefix(all, first) {
				t.Fatalf("RunDesk(%q) = %q; RunDesk of %d of the lines = %q", lines, all, count, first)
			}
		}
	}
}

func TestLinesStay(t *testing.T) {
	memory := slices.Repeat([]string{"exp 0,1", "walk 0", "hankel 1", "log", "zigzag "}, 8)
	before := slices.Clone(memory)
	for count := range len(memory) {
		one := impl.RunDesk(memory[:count])
		if other := impl.RunDesk(before[:count:count]); one != other || !slices.Equal(memory, before) {
			t.Fatalf("RunDesk of %d lines = %q, then %q, and they are %q", count, one, other, memory)
		}
	}
}
