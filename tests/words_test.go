package tests

import (
	"math/rand/v2"
	"slices"
	"strings"
	"testing"

	"loop.example/lapwing/impl"
)

// behindHash is what may stand behind a `#`: all that would be refused ahead of it, too.
var behindHash = []string{
	"", " ", "#", " #", "a", " a b", "##\x00##", "\t", "\n", "\x7f", "\x80\xff", "é", "日本",
	strings.Repeat("x", impl.SkyMaxWord+1),
	strings.Repeat(" x", impl.SkyMaxWords+1),
	strings.Repeat("x y", 5000),
}

func wantWords(t *testing.T, line string, want []string) {
	t.Helper()
	got, ok := impl.SkyWords(line)
	if !ok || !slices.Equal(got, want) {
		t.Errorf("SkyWords(%q) = %q, %v, not %q, true", line, got, ok, want)
	}
}

func wantNoWords(t *testing.T, line string) {
	t.Helper()
	if got, ok := impl.SkyWords(line); ok || len(got) != 0 {
		t.Errorf("SkyWords(%q) = %q, %v, not nothing, false", line, got, ok)
	}
}

// wordOf is a word of so many bytes, of all bytes that words have.
func wordOf(r *rand.Rand, size int) string {
	word := make([]byte, size)
	for i := range word {
		word[i] = byte(33 + r.IntN(94))
		if word[i] == '#' {
			word[i] = '!'
		}
	}
	return string(word)
}

// Promise 1.
func TestWordsWrittenAreCutAgain(t *testing.T) {
	r := rand.New(rand.NewPCG(1, 1))
	for range 2000 {
		words := make([]string, r.IntN(impl.SkyMaxWords+1))
		for i := range words {
			words[i] = wordOf(r, 1+r.IntN(impl.SkyMaxWord))
		}
		line := strings.Join(words, " ")
		wantWords(t, line, words)
		behind := behindHash[r.IntN(len(behindHash))]
		wantWords(t, line+"#"+behind, words)
		wantWords(t, line+" #"+behind, words)
		// What was cut out of any line, be it with more spaces, is cut as the same once more.
		cut, ok := impl.SkyWords("  " + strings.Join(words, "   ") + " #" + behind)
		if !ok {
			t.Fatalf("%q with more spaces is not cut", words)
		}
		wantWords(t, strings.Join(cut, " "), words)
	}
}

func TestWordsWhateverStandsBehindHash(t *testing.T) {
	for _, behind := range behindHash {
		wantWords(t, "#"+behind, nil)
		wantWords(t, "   #"+behind, nil)
		wantWords(t, "a#"+behind, []string{"a"})
		wantWords(t, " a  bc #"+behind, []string{"a", "bc"})
		wantNoWords(t, "a\tb#"+behind)
		wantNoWords(t, strings.Repeat("x", impl.SkyMaxWord+1)+"#"+behind)
	}
	for b := range 256 {
		wantWords(t, "a #"+string([]byte{byte(b)}), []string{"a"})
	}
}

func TestWordsSpaces(t *testing.T) {
	for _, line := range []string{"", " ", "      ", "#", "####", "  ##  #"} {
		wantWords(t, line, nil)
	}
	for _, line := range []string{"a b", " a b", "a b ", "  a    b   ", "a b#", "a b #"} {
		wantWords(t, line, []string{"a", "b"})
	}
	wantWords(t, "a", []string{"a"})
	wantWords(t, strings.Repeat(" ", 20000)+"a"+strings.Repeat(" ", 20000), []string{"a"})
}

func TestWordsAtTheirLimits(t *testing.T) {
	longest := strings.Repeat("w", impl.SkyMaxWord)
	wantWords(t, longest, []string{longest})
	wantWords(t, "  "+longest+"  ", []string{longest})
	wantNoWords(t, longest+"w")
	wantNoWords(t, "a "+longest+"w")
	wantNoWords(t, longest+"w a")
	wantWords(t, longest+"#w", []string{longest})

	most := slices.Repeat([]string{longest}, impl.SkyMaxWords)
	line := strings.Join(most, " ")
	wantWords(t, line, most)
	wantWords(t, "  "+line+"  ", most)
	wantNoWords(t, line+" a")
	wantNoWords(t, "a "+line)
	wantWords(t, line+" #a", most)
}

func TestWordsEachByte(t *testing.T) {
	for b := range 256 {
		one := string([]byte{byte(b)})
		switch {
		case b == '#':
			wantWords(t, one, nil)
			wantWords(t, "a"+one+"b", []string{"a"})
		case b == ' ':
			wantWords(t, one, nil)
			wantWords(t, "a"+one+"b", []string{"a", "b"})
		case b < 33 || b > 126:
			wantNoWords(t, one)
			wantNoWords(t, "a"+one+"b")
			wantNoWords(t, "a "+one+" b")
			wantNoWords(t, one+"#")
			wantNoWords(t, "a b "+one)
		default:
			wantWords(t, one, []string{one})
			wantWords(t, "a"+one+"b", []string{"a" + one + "b"})
		}
	}
}

func TestWordsThatAreNoASCII(t *testing.T) {
	for _, line := range []string{
		"é", "aé", "é a", "日本", "a\u00a0b", "\u2003", "\ufeffa", "\U0001f6e9", "\ufffd",
		"\xc3", "\xc3#", "a\xe6\x97", "\xff\xfe", "\xc0\xa0", "\xed\xa0\x80", "a b \x80",
	} {
		wantNoWords(t, line)
	}
}

// wordsByBytes says what chapter 1 says, in another way: by what stands between single spaces.
func wordsByBytes(line string) ([]string, bool) {
	if at := strings.IndexByte(line, '#'); at >= 0 {
		line = line[:at]
	}
	var words []string
	for _, piece := range strings.Split(line, " ") {
		for i := 0; i < len(piece); i++ {
			if piece[i] < 33 || piece[i] > 126 {
				return nil, false
			}
		}
		if len(piece) > 24 {
			return nil, false
		}
		if piece != "" {
			words = append(words, piece)
		}
	}
	if len(words) > 12 {
		return nil, false
	}
	return words, true
}

func TestWordsOfAllShortLines(t *testing.T) {
	lines := []string{""}
	for range 5 {
		var longer []string
		for _, line := range lines {
			for _, b := range []byte("a ~!#\t\x80\xc3") {
				longer = append(longer, line+string([]byte{b}))
			}
		}
		for _, line := range longer {
			want, ok := wordsByBytes(line)
			if ok {
				wantWords(t, line, want)
			} else {
				wantNoWords(t, line)
			}
		}
		lines = longer
	}
}

func TestWordsOfLongLines(t *testing.T) {
	r := rand.New(rand.NewPCG(2, 1))
	for range 5000 {
		var line strings.Builder
		for range r.IntN(16) {
			line.WriteString(wordOf(r, r.IntN(27)) + strings.Repeat(" ", r.IntN(3)))
		}
		want, ok := wordsByBytes(line.String())
		if ok {
			wantWords(t, line.String(), want)
		} else {
			wantNoWords(t, line.String())
		}
	}
}

func TestWordsAreNewEachTime(t *testing.T) {
	first, _ := impl.SkyWords("a b c")
	second, _ := impl.SkyWords("a b c")
	_ = append(first[:0:cap(first)], "x", "y", "z")
	clear(first[:cap(first)])
	if !slices.Equal(second, []string{"a", "b", "c"}) {
		t.Errorf("two answers share memory: %q", second)
	}
	wantWords(t, "a b c", []string{"a", "b", "c"})
}
