package impl

import "strings"

// Limits of words.
const (
	SkyMaxWord  = 24
	SkyMaxWords = 12
)

// SkyWords cuts a line into words.
func SkyWords(line string) ([]string, bool) {
	said, _, _ := strings.Cut(line, "#")
	return skyScan(said)
}

// skyScanner stands behind some runes of a line, and has the words that are cut so far.
type skyScanner interface {
	// read answers the scanner that stands behind one rune more, or nil where that rune may not stand.
	read(r rune) any
	// words are those of a line that ends here.
	words() []string
}

// skyInGap is the scanner between two words, and at both ends of a line.
type skyInGap struct {
	cut []string
}

// skyInWord is the scanner within a word, of which it has the beginning.
type skyInWord struct {
	cut  []string
	word string
}

func (g skyInGap) read(r rune) any {
	switch {
	case r == ' ':
		return g
	case !skyWordRune(r), len(g.cut) == SkyMaxWords:
		return nil
	}
	return skyInWord{cut: g.cut, word: string(r)}
}

func (g skyInGap) words() []string {
	return g.cut
}

func (w skyInWord) read(r rune) any {
	switch {
	case r == ' ':
		return skyInGap{cut: w.words()}
	case !skyWordRune(r), len(w.word) == SkyMaxWord:
		return nil
	}
	return skyInWord{cut: w.cut, word: w.word + string(r)}
}

func (w skyInWord) words() []string {
	return append(w.cut, w.word)
}

// skyWordRune tells runes of words from all others. Bytes that are no UTF-8 are ranged over as a
// rune far above 126, so none of them is taken for one.
func skyWordRune(r rune) bool {
	return 33 <= r && r <= 126
}

// skyScan hands what a line says on from scanner to scanner.
func skyScan(said string) ([]string, bool) {
	var scanner skyScanner = skyInGap{}
	for _, r := range said {
		if next, ok := scanner.read(r).(skyScanner); ok {
			scanner = next
			continue
		}
		return nil, false
	}
	return scanner.words(), true
}
