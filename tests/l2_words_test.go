package tests

// Promise 2: the codes of the longest words give the data back, whatever is known before,
// and a stream of codes that can follow is read as these codes.

import (
	"math"
	"math/rand"
	"reflect"
	"slices"
	"strings"
	"testing"

	"loop.example/soughtstreams/impl"
)

// A model does what the document says in the plainest way: with a list of all words, that is searched from its beginning.
type model struct {
	known impl.Known
	words []string // by code; the clear code and the end code have empty ones
}

func modelOf(k impl.Known) *model {
	m := &model{known: k}
	m.known.Pairs = slices.Clone(k.Pairs)
	for i := range 1 << k.Setting.Literal {
		m.words = append(m.words, string([]byte{byte(i)}))
	}
	m.words = append(m.words, "", "")
	for _, p := range k.Pairs {
		m.words = append(m.words, m.words[p.Prefix]+string([]byte{byte(p.Byte)}))
	}
	return m
}

func (m *model) clear() int { return 1 << m.known.Setting.Literal }
func (m *model) end() int   { return m.clear() + 1 }
func (m *model) last() int  { return 1<<m.known.Setting.Most - 1 }
func (m *model) grows() bool {
	return m.known.Last != -1 && len(m.words) <= m.last()
}

// following returns the words of all codes that can follow.
func (m *model) following() []string {
	words := slices.Clone(m.words)
	if m.grows() {
		w := m.words[m.known.Last]
		words = append(words, w+w[:1])
	}
	return words
}

func (m *model) width() int {
	width := m.known.Setting.Literal + 1
	for len(m.following())-1 >= 1<<width {
		width++
	}
	return width
}

func (m *model) codeOfWord(w string) int {
	if w == "" {
		return -1
	}
	return slices.Index(m.following(), w)
}

func (m *model) longest(data string) string {
	best := ""
	for _, w := range m.following() {
		if strings.HasPrefix(data, w) && len(w) > len(best) {
			best = w
		}
	}
	return best
}

func (m *model) after(code int) {
	words := m.following()
	grows := m.grows()
	switch {
	case code == m.clear():
		m.known.Pairs = m.known.Pairs[:m.known.Base]
		m.known.Last = -1
		m.words = m.words[:m.end()+1+m.known.Base]
		return
	case grows:
		m.known.Pairs = append(m.known.Pairs, impl.Pair{Prefix: m.known.Last, Byte: int(words[code][0])})
		m.words = append(m.words, m.words[m.known.Last]+words[code][:1])
	}
	m.known.Last = code
}

func (m *model) greedy(data string) []int {
	codes := []int{m.clear()}
	m.after(m.clear())
	for first := true; data != ""; first = false {
		if !first && len(m.words) > m.last() && len(m.known.Pairs) > m.known.Base {
			codes = append(codes, m.clear())
			m.after(m.clear())
		}
		w := m.longest(data)
		code := m.codeOfWord(w)
		codes = append(codes, code)
		m.after(code)
		data = data[len(w):]
	}
	return append(codes, m.end())
}

// A result is what a list of codes makes.
type result struct {
	widths []int
	data   string
	bits   string
}

// take returns what codes make that can follow each other, apart from their number and the length of their data.
func (m *model) take(codes []int) result {
	var r result
	for _, code := range codes {
		width := m.width()
		r.widths = append(r.widths, width)
		r.data += m.following()[code]
		r.bits += wantBits(m.known.Setting.Order, code, width)
		if code != m.end() {
			m.after(code)
		}
	}
	return r
}

func sameKnown(a, b impl.Known) bool {
	return a.Setting == b.Setting && slices.Equal(a.Pairs, b.Pairs) && a.Base == b.Base && a.Last == b.Last
}

func newRandom() *rand.Rand { return rand.New(rand.NewSource(20)) }

func randomData(r *rand.Rand, s impl.Setting, n int) string {
	b := make([]byte, n)
	// Few different bytes, so that words repeat.
	kinds := 1 + r.Intn(min(4, 1<<s.Literal))
	for i := range b {
		b[i] = byte(r.Intn(kinds))
		if r.Intn(20) == 0 {
			b[i] = byte(r.Intn(1 << s.Literal))
		}
	}
	return string(b)
}

// randomKnown returns something that can be known, often with several codes of the same word.
func randomKnown(r *rand.Rand, s impl.Setting, pairs int) impl.Known {
	k := impl.Known{Setting: s}
	clear := 1 << s.Literal
	kinds := 1 + r.Intn(clear)
	word := func(pairs int) int {
		if pairs == 0 || r.Intn(3) == 0 {
			return r.Intn(kinds)
		}
		return clear + 2 + r.Intn(pairs)
	}
	for i := range pairs {
		k.Pairs = append(k.Pairs, impl.Pair{Prefix: word(i), Byte: r.Intn(kinds)})
	}
	k.Base = r.Intn(pairs + 1)
	k.Last = word(pairs)
	if r.Intn(4) == 0 {
		k.Base = pairs
	}
	if k.Base == pairs && r.Intn(2) == 0 {
		k.Last = -1
	}
	return k
}

func mostPairs(s impl.Setting) int { return 1<<s.Most - 1<<s.Literal - 2 }

// manyKnown returns what can be known: for each setting, with no pairs, with few, with all but a few, and with all.
func manyKnown(r *rand.Rand) []impl.Known {
	var list []impl.Known
	for _, s := range allSettings() {
		most := mostPairs(s)
		for _, pairs := range []int{0, 1, min(2, most), most / 2, most - 2, most - 1, most} {
			// Large tables make the model slow; each setting has one or two of them.
			if pairs >= 0 && (pairs < 130 || r.Intn(4) == 0) {
				list = append(list, randomKnown(r, s, pairs))
			}
		}
	}
	return list
}

func smallKnown(r *rand.Rand) []impl.Known {
	return slices.DeleteFunc(manyKnown(r), func(k impl.Known) bool { return len(k.Pairs) > 130 || k.Setting.Literal > 5 })
}

var high24 = impl.Setting{Order: impl.OrderHigh, Literal: 2, Most: 4}

func start(t *testing.T, s impl.Setting) impl.Known {
	t.Helper()
	k, ok := impl.Start(s)
	if !ok {
		t.Fatalf("Start(%v) is false", s)
	}
	return k
}

// wrongKnown returns what cannot be known: each differs from what can be known in one thing.
func wrongKnown() []impl.Known {
	full := impl.Known{Setting: high24, Last: 0, Base: 1}
	for range 11 {
		full.Pairs = append(full.Pairs, impl.Pair{Prefix: 0, Byte: 1})
	}
	list := []impl.Known{{}, {Last: -1}, full}
	for _, s := range wrongSettings() {
		list = append(list, impl.Known{Setting: s, Last: -1}, impl.Known{Setting: s})
	}
	good := []impl.Pair{{Prefix: 0, Byte: 1}, {Prefix: 6, Byte: 2}}
	for _, x := range append([]int{-2, -1, 4, 5, 7, 8, 15, 16}, extremes...) {
		list = append(list, impl.Known{Setting: high24, Last: -1, Base: 2, Pairs: []impl.Pair{good[0], {Prefix: x, Byte: 2}}})
	}
	for _, x := range append([]int{-1, 4, 5, 6, 256}, extremes...) {
		list = append(list, impl.Known{Setting: high24, Last: -1, Base: 2, Pairs: []impl.Pair{good[0], {Prefix: 6, Byte: x}}})
	}
	list = append(list, impl.Known{Setting: high24, Last: -1, Base: 1, Pairs: []impl.Pair{{Prefix: 6, Byte: 1}}})
	for _, x := range append([]int{-1, 3}, extremes...) {
		list = append(list,
			impl.Known{Setting: high24, Last: 0, Base: x, Pairs: good},
			impl.Known{Setting: high24, Last: -1, Base: x, Pairs: good})
	}
	for _, x := range append([]int{-2, 4, 5, 8, 9, 15, 16}, extremes...) {
		if x != -1 {
			list = append(list, impl.Known{Setting: high24, Last: x, Base: 2, Pairs: good})
		}
	}
	return append(list,
		impl.Known{Setting: high24, Last: -1, Base: 1, Pairs: good},
		impl.Known{Setting: high24, Last: -1, Base: 0, Pairs: good},
		impl.Known{Setting: high24, Last: 6, Base: 0},
		impl.Known{Setting: high24, Last: -1, Base: 1})
}

func TestLimitsOfWords(t *testing.T) {
	got := []int{impl.EndWhole, impl.EndShort, impl.EndWrong, impl.EndLong, impl.EndInvalid, impl.MaxCodes}
	if want := []int{0, 1, 2, 3, 4, 3100}; !slices.Equal(got, want) {
		t.Errorf("limits are %v, want %v", got, want)
	}
}

func TestExampleOfChapter2(t *testing.T) {
	k := start(t, high24)
	data := "\x00\x00\x00"
	codes, ok := impl.GreedyCodes(k, data)
	if !slices.Equal(codes, []int{4, 0, 6, 5}) || !ok {
		t.Errorf("GreedyCodes = %v, %v", codes, ok)
	}
	if widths, ok := impl.CodesWidths(k, codes); !slices.Equal(widths, []int{3, 3, 3, 3}) || !ok {
		t.Errorf("CodesWidths = %v, %v", widths, ok)
	}
	if stream, ok := impl.Compress(k, data); impl.FormatHex(stream) != "8350" || !ok {
		t.Errorf("Compress = %x, %v", stream, ok)
	}
	if got, end, used := impl.Decompress(k, "\x83\x50"); got != data || end != impl.EndWhole || used != 2 {
		t.Errorf("Decompress = %q, %d, %d", got, end, used)
	}
}

func TestStart(t *testing.T) {
	for _, s := range allSettings() {
		k, ok := impl.Start(s)
		if !ok || !sameKnown(k, impl.Known{Setting: s, Last: -1}) || !impl.KnownValid(k) {
			t.Errorf("Start(%v) = %v, %v", s, k, ok)
		}
		if a, b, c, d := impl.NextWord(k), impl.Grows(k), impl.Greatest(k), impl.Width(k); a != 1<<s.Literal+2 || b || c != a-1 || d != s.Literal+1 {
			t.Errorf("%v starts with %d, %v, %d, %d", s, a, b, c, d)
		}
	}
	for _, s := range wrongSettings() {
		if k, ok := impl.Start(s); ok || !reflect.DeepEqual(k, impl.Known{}) {
			t.Errorf("Start(%v) = %v, %v", s, k, ok)
		}
	}
}

func TestKnownValid(t *testing.T) {
	for _, k := range manyKnown(newRandom()) {
		if !impl.KnownValid(k) {
			t.Errorf("KnownValid is false for %v with %d pairs, %d, %d", k.Setting, len(k.Pairs), k.Base, k.Last)
		}
	}
	pairs := []impl.Pair{{Prefix: 3, Byte: 0}, {Prefix: 6, Byte: 3}, {Prefix: 7, Byte: 3}}
	for base := range 4 {
		for _, last := range []int{0, 1, 2, 3, 6, 7, 8} {
			if k := (impl.Known{Setting: high24, Pairs: pairs, Base: base, Last: last}); !impl.KnownValid(k) {
				t.Errorf("KnownValid(%v) is false", k)
			}
		}
	}
	if k := (impl.Known{Setting: high24, Pairs: pairs, Base: 3, Last: -1}); !impl.KnownValid(k) {
		t.Errorf("KnownValid(%v) is false", k)
	}
}

func TestWhatCannotBeKnown(t *testing.T) {
	for i, k := range wrongKnown() {
		if impl.KnownValid(k) || impl.Grows(k) {
			t.Errorf("%d: %v is valid", i, k)
		}
		if a, b, c := impl.NextWord(k), impl.Greatest(k), impl.Width(k); a != -1 || b != -1 || c != -1 {
			t.Errorf("%d: numbers are %d, %d, %d", i, a, b, c)
		}
		for _, code := range []int{-1, 0, 1, 4, 6} {
			if w, ok := impl.WordOf(k, code); w != "" || ok {
				t.Errorf("%d: WordOf = %q, %v", i, w, ok)
			}
			if a, ok := impl.After(k, code); !reflect.DeepEqual(a, impl.Known{}) || ok {
				t.Errorf("%d: After = %v, %v", i, a, ok)
			}
		}
		for _, data := range []string{"", "\x00", "\x00\x01"} {
			if code, ok := impl.CodeOfWord(k, data); code != 0 || ok {
				t.Errorf("%d: CodeOfWord = %d, %v", i, code, ok)
			}
			if w := impl.LongestWord(k, data); w != "" {
				t.Errorf("%d: LongestWord = %q", i, w)
			}
			checkNoCodes(t, k, data)
		}
		for _, codes := range [][]int{nil, {0}, {4, 5}} {
			checkNotCodes(t, k, codes)
		}
		for _, stream := range []string{"", "\x83\x50", "\x00"} {
			checkUnread(t, k, stream)
		}
	}
}

// checkNoCodes checks that data has no codes.
func checkNoCodes(t *testing.T, k impl.Known, data string) {
	t.Helper()
	if codes, ok := impl.GreedyCodes(k, data); len(codes) != 0 || ok {
		t.Errorf("GreedyCodes(%v, %.20q) = %v, %v", k.Setting, data, codes, ok)
	}
	if stream, ok := impl.Compress(k, data); stream != "" || ok {
		t.Errorf("Compress(%v, %.20q) = %q, %v", k.Setting, data, stream, ok)
	}
}

// checkNotCodes checks that codes cannot follow each other.
func checkNotCodes(t *testing.T, k impl.Known, codes []int) {
	t.Helper()
	shown := codes[:min(len(codes), 20)]
	if impl.CodesValid(k, codes) {
		t.Errorf("CodesValid(%v, %v) is true", k.Setting, shown)
	}
	if widths, ok := impl.CodesWidths(k, codes); len(widths) != 0 || ok {
		t.Errorf("CodesWidths(%v, %v) = %v, %v", k.Setting, shown, widths, ok)
	}
	if data, ok := impl.CodesData(k, codes); data != "" || ok {
		t.Errorf("CodesData(%v, %v) = %q, %v", k.Setting, shown, data, ok)
	}
	if stream, ok := impl.PackCodes(k, codes); stream != "" || ok {
		t.Errorf("PackCodes(%v, %v) = %q, %v", k.Setting, shown, stream, ok)
	}
}

// checkUnread checks that a stream cannot be read at all.
func checkUnread(t *testing.T, k impl.Known, stream string) {
	t.Helper()
	if codes, end, used := impl.UnpackCodes(k, stream); len(codes) != 0 || end != impl.EndInvalid || used != 0 {
		t.Errorf("UnpackCodes(%v, %.20q) = %v, %d, %d", k.Setting, stream, codes, end, used)
	}
	if data, end, used := impl.Decompress(k, stream); data != "" || end != impl.EndInvalid || used != 0 {
		t.Errorf("Decompress(%v, %.20q) = %q, %d, %d", k.Setting, stream, data, end, used)
	}
	if again, ok := impl.RepackStream(k, stream); again != "" || ok {
		t.Errorf("RepackStream(%v, %.20q) = %q, %v", k.Setting, stream, again, ok)
	}
}

func TestNumbersOfWords(t *testing.T) {
	for _, k := range manyKnown(newRandom()) {
		m := modelOf(k)
		if got := impl.NextWord(k); got != len(m.words) {
			t.Errorf("NextWord = %d, want %d", got, len(m.words))
		}
		if got := impl.Grows(k); got != m.grows() {
			t.Errorf("Grows = %v", got)
		}
		if got, want := impl.Greatest(k), len(m.following())-1; got != want {
			t.Errorf("Greatest = %d, want %d", got, want)
		}
		if got, want := impl.Width(k), m.width(); got != want {
			t.Errorf("Width = %d, want %d", got, want)
		}
	}
}

// A width grows when the greatest code that can follow needs more bits, which may be one that has no word yet.
func TestWidthsGrow(t *testing.T) {
	k := start(t, high24)
	want := []int{3, 3, 3, 4, 4, 4, 4, 4, 4, 4, 4, 4, 4}
	codes := []int{0, 1, 2, 3, 0, 1, 2, 3, 0, 1, 2, 3, 5}
	if widths, ok := impl.CodesWidths(k, codes); !slices.Equal(widths, want) || !ok {
		t.Errorf("CodesWidths = %v, %v", widths, ok)
	}
	// After the clear code, the widths begin anew.
	codes = []int{0, 1, 2, 4, 0, 1, 2, 3}
	want = []int{3, 3, 3, 4, 3, 3, 3, 4}
	if widths, ok := impl.CodesWidths(k, codes); !slices.Equal(widths, want) || !ok {
		t.Errorf("CodesWidths = %v, %v", widths, ok)
	}
}

func TestWordsOfCodes(t *testing.T) {
	r := newRandom()
	for _, k := range manyKnown(r) {
		m := modelOf(k)
		words := m.following()
		for range 40 {
			code := r.Intn(len(words) + 3)
			if r.Intn(3) == 0 {
				code = len(words) - 1 - r.Intn(3)
			}
			want := ""
			if code < len(words) {
				want = words[code]
			}
			if got, ok := impl.WordOf(k, code); got != want || ok != (want != "") {
				t.Fatalf("WordOf(%v, %d) = %q, %v, want %q", k, code, got, ok, want)
			}
		}
		for _, code := range append([]int{m.clear(), m.end(), len(words), m.last() + 1}, extremes...) {
			if code >= 0 && code < len(words) && words[code] != "" {
				continue
			}
			if got, ok := impl.WordOf(k, code); got != "" || ok {
				t.Fatalf("WordOf(%v, %d) = %q, %v", k, code, got, ok)
			}
		}
	}
}

func TestCodesOfWords(t *testing.T) {
	r := newRandom()
	for _, k := range manyKnown(r) {
		m := modelOf(k)
		words := m.following()
		literals := 1 << k.Setting.Literal
		list := []string{"", string([]byte{byte(literals)}), "\x00" + string([]byte{byte(literals)}), strings.Repeat("\x00", 2500), words[len(words)-1]}
		for range 10 {
			w := words[r.Intn(len(words))]
			list = append(list, w, w+string([]byte{byte(r.Intn(literals))}), randomData(r, k.Setting, 1+r.Intn(4)))
		}
		for _, w := range list {
			want := m.codeOfWord(w)
			got, ok := impl.CodeOfWord(k, w)
			if ok != (want >= 0) || got != max(want, 0) {
				t.Fatalf("CodeOfWord(%v, %q) = %d, %v, want %d", k, w, got, ok, want)
			}
		}
	}
}

// A byte that is no literal may be equal to the code of a pair, but is not its word.
func TestWordsHaveOnlyLiterals(t *testing.T) {
	k := impl.Known{Setting: high24, Pairs: []impl.Pair{{Prefix: 0, Byte: 1}, {Prefix: 6, Byte: 2}}, Base: 1, Last: 7}
	for _, w := range []string{"\x04", "\x05", "\x06", "\x07", "\x08", "\x06\x02", "\x06\x06", "\xff", "\x00\xff", "\x00\x01\x06"} {
		if code, ok := impl.CodeOfWord(k, w); code != 0 || ok {
			t.Errorf("CodeOfWord(%q) = %d, %v", w, code, ok)
		}
		if got := impl.LongestWord(k, w); got != "" {
			t.Errorf("LongestWord(%q) = %q", w, got)
		}
		checkNoCodes(t, k, w)
	}
}

func TestSeveralCodesWithTheSameWord(t *testing.T) {
	pairs := []impl.Pair{{Prefix: 0, Byte: 1}, {Prefix: 0, Byte: 1}, {Prefix: 7, Byte: 2}, {Prefix: 6, Byte: 2}, {Prefix: 9, Byte: 0}}
	for base := range 6 {
		for _, last := range []int{0, 8, 9} {
			k := impl.Known{Setting: high24, Pairs: pairs, Base: base, Last: last}
			for w, want := range map[string]int{"\x00\x01": 6, "\x00\x01\x02": 8, "\x00\x01\x02\x00": 10} {
				if code, ok := impl.CodeOfWord(k, w); code != want || !ok {
					t.Errorf("CodeOfWord(%v, %q) = %d, %v, want %d", k, w, code, ok, want)
				}
			}
			for code, want := range map[int]string{6: "\x00\x01", 7: "\x00\x01", 8: "\x00\x01\x02", 9: "\x00\x01\x02", 10: "\x00\x01\x02\x00"} {
				if w, ok := impl.WordOf(k, code); w != want || !ok {
					t.Errorf("WordOf(%v, %d) = %q, %v, want %q", k, code, w, ok, want)
				}
			}
			if w := impl.LongestWord(k, "\x00\x01\x02\x00\x00\x00"); w != "\x00\x01\x02\x00" {
				t.Errorf("LongestWord(%v) = %q", k, w)
			}
		}
	}
	// The next word is that of an earlier code here, which is the least one.
	k := impl.Known{Setting: high24, Pairs: []impl.Pair{{Prefix: 0, Byte: 0}}, Base: 0, Last: 0}
	if w, ok := impl.WordOf(k, 7); w != "\x00\x00" || !ok {
		t.Errorf("WordOf = %q, %v", w, ok)
	}
	if code, ok := impl.CodeOfWord(k, "\x00\x00"); code != 6 || !ok {
		t.Errorf("CodeOfWord = %d, %v", code, ok)
	}
	// The word of Last has an earlier code, and the next word none.
	k = impl.Known{Setting: high24, Pairs: []impl.Pair{{Prefix: 0, Byte: 0}, {Prefix: 0, Byte: 0}}, Base: 0, Last: 7}
	if code, ok := impl.CodeOfWord(k, "\x00\x00\x00"); code != 8 || !ok {
		t.Errorf("CodeOfWord = %d, %v", code, ok)
	}
}

func TestTheCodeOfAWordThatIsNotKnownYet(t *testing.T) {
	k := impl.Known{Setting: high24, Pairs: []impl.Pair{{Prefix: 1, Byte: 2}}, Base: 1, Last: 6}
	if w, ok := impl.WordOf(k, 7); w != "\x01\x02\x01" || !ok {
		t.Errorf("WordOf = %q, %v", w, ok)
	}
	if code, ok := impl.CodeOfWord(k, "\x01\x02\x01"); code != 7 || !ok {
		t.Errorf("CodeOfWord = %d, %v", code, ok)
	}
	if w := impl.LongestWord(k, "\x01\x02\x01\x02\x01"); w != "\x01\x02\x01" {
		t.Errorf("LongestWord = %q", w)
	}
	want := impl.Known{Setting: high24, Pairs: []impl.Pair{{Prefix: 1, Byte: 2}, {Prefix: 6, Byte: 1}}, Base: 1, Last: 7}
	if a, ok := impl.After(k, 7); !sameKnown(a, want) || !ok {
		t.Errorf("After = %v, %v", a, ok)
	}
	// Behind a clear code there is no such code.
	k.Last = -1
	if w, ok := impl.WordOf(k, 7); w != "" || ok {
		t.Errorf("WordOf = %q, %v", w, ok)
	}
	if a, ok := impl.After(k, 7); !reflect.DeepEqual(a, impl.Known{}) || ok {
		t.Errorf("After = %v, %v", a, ok)
	}
	if code, ok := impl.CodeOfWord(k, "\x01\x02\x01"); code != 0 || ok {
		t.Errorf("CodeOfWord = %d, %v", code, ok)
	}
}

func TestAFullTable(t *testing.T) {
	for _, s := range allSettings() {
		k := randomKnown(newRandom(), s, mostPairs(s))
		k.Last = 1<<s.Most - 1
		last := 1<<s.Most - 1
		if a, b, c, d := impl.NextWord(k), impl.Grows(k), impl.Greatest(k), impl.Width(k); a != last+1 || b || c != last || d != s.Most {
			t.Errorf("%v: numbers are %d, %v, %d, %d", s, a, b, c, d)
		}
		for _, code := range []int{0, 1, last} {
			if a, ok := impl.After(k, code); !slices.Equal(a.Pairs, k.Pairs) || a.Last != code || !ok {
				t.Errorf("%v: After(%d) has %d pairs and %d, %v", s, code, len(a.Pairs), a.Last, ok)
			}
		}
		if w, ok := impl.WordOf(k, last+1); w != "" || ok {
			t.Errorf("%v: WordOf(%d) = %q, %v", s, last+1, w, ok)
		}
		if a, ok := impl.After(k, last+1); !reflect.DeepEqual(a, impl.Known{}) || ok {
			t.Errorf("%v: After(%d) = %v, %v", s, last+1, a, ok)
		}
		checkNotCodes(t, k, []int{last + 1})
	}
}

func TestAfter(t *testing.T) {
	r := newRandom()
	for _, k := range manyKnown(r) {
		codes := []int{0, 1, 1 << k.Setting.Literal, len(modelOf(k).following()) - 1}
		for range 5 {
			codes = append(codes, r.Intn(len(modelOf(k).following())))
		}
		for _, code := range codes {
			m := modelOf(k)
			if code == m.end() {
				continue
			}
			m.after(code)
			a, ok := impl.After(k, code)
			if !sameKnown(a, m.known) || !ok || !impl.KnownValid(a) {
				t.Fatalf("After(%v, %d) = %v, %v, want %v", k, code, a, ok, m.known)
			}
		}
		m := modelOf(k)
		for _, code := range append([]int{m.end(), len(m.following()), -1, -2}, extremes...) {
			if code >= 0 && code < len(m.following()) && code != m.end() {
				continue
			}
			if a, ok := impl.After(k, code); !reflect.DeepEqual(a, impl.Known{}) || ok {
				t.Fatalf("After(%v, %d) = %v, %v", k, code, a, ok)
			}
		}
	}
}

func TestAClearCodeKeepsWords(t *testing.T) {
	pairs := []impl.Pair{{Prefix: 0, Byte: 1}, {Prefix: 6, Byte: 2}, {Prefix: 7, Byte: 3}}
	for base := range 4 {
		k := impl.Known{Setting: high24, Pairs: pairs, Base: base, Last: 8}
		want := impl.Known{Setting: high24, Pairs: pairs[:base], Base: base, Last: -1}
		if a, ok := impl.After(k, 4); !sameKnown(a, want) || !ok {
			t.Errorf("After = %v, %v, want %v", a, ok, want)
		}
		codes := [][]int{{4, 0, 1, 2, 3, 5}, {4, 6, 2, 3, 5}, {4, 7, 3, 5}, {4, 8, 5}}[base]
		if got, ok := impl.GreedyCodes(k, "\x00\x01\x02\x03"); !slices.Equal(got, codes) || !ok {
			t.Errorf("GreedyCodes = %v, %v, want %v", got, ok, codes)
		}
		for code := 6; code < 9; code++ {
			if got := impl.CodesValid(k, []int{4, code}); got != (code-6 < base) {
				t.Errorf("CodesValid of 4 and %d is %v with the base %d", code, got, base)
			}
		}
	}
}

func TestLongestWord(t *testing.T) {
	r := newRandom()
	for _, k := range manyKnown(r) {
		m := modelOf(k)
		words := m.following()
		for range 6 {
			data := randomData(r, k.Setting, 1+r.Intn(12))
			if r.Intn(2) == 0 {
				data = words[r.Intn(len(words))] + data
			}
			if r.Intn(4) == 0 {
				data = words[len(words)-1] + data
			}
			if got, want := impl.LongestWord(k, data), m.longest(data); got != want {
				t.Fatalf("LongestWord(%v, %q) = %q, want %q", k, data, got, want)
			}
		}
		literals := 1 << k.Setting.Literal
		wrong := []string{"", strings.Repeat("\x00", 2001)}
		if literals < 256 {
			wrong = append(wrong, string([]byte{byte(literals)}), string([]byte{0, byte(literals)}), "\x00\x00\x00\x00\xff")
		}
		for _, data := range wrong {
			if got := impl.LongestWord(k, data); got != "" {
				t.Fatalf("LongestWord(%v, %.20q) = %q", k.Setting, data, got)
			}
		}
		if got, want := impl.LongestWord(k, strings.Repeat("\x00", 2000)), m.longest(strings.Repeat("\x00", 2000)); got != want {
			t.Fatalf("LongestWord of 2000 bytes = %q, want %q", got, want)
		}
	}
}

// randomCodes returns n codes that can follow each other from k on, and their words; among them are many of words that are not known yet.
func randomCodes(r *rand.Rand, k impl.Known, n int) []int {
	m := modelOf(k)
	var codes []int
	size := 0
	for range n {
		words := m.following()
		code := r.Intn(len(words))
		switch r.Intn(6) {
		case 0:
			code = len(words) - 1
		case 1:
			code = m.clear() * r.Intn(2)
		}
		if code == m.end() || size+len(words[code]) > 2000 {
			continue
		}
		size += len(words[code])
		codes = append(codes, code)
		m.after(code)
	}
	return codes
}

func TestCodesThatCanFollowAreReadBack(t *testing.T) {
	r := newRandom()
	for _, k := range smallKnown(r) {
		for _, n := range []int{0, 1, 2, 40} {
			codes := randomCodes(r, k, n)
			checkCodes(t, k, codes, "")
			checkCodes(t, k, append(slices.Clone(codes), 1<<k.Setting.Literal+1), "")
			checkCodes(t, k, append(slices.Clone(codes), 1<<k.Setting.Literal+1), "\x00\xff\x5a")
		}
	}
}

// checkCodes checks what codes make that can follow each other, and how their stream, with further bytes behind it, is read.
func checkCodes(t *testing.T, k impl.Known, codes []int, further string) {
	t.Helper()
	m := modelOf(k)
	want := m.take(codes)
	if !impl.CodesValid(k, codes) {
		t.Fatalf("CodesValid(%v, %v) is false", k, codes)
	}
	if widths, ok := impl.CodesWidths(k, codes); !slices.Equal(widths, want.widths) || !ok {
		t.Fatalf("CodesWidths(%v, %v) = %v, %v, want %v", k, codes, widths, ok, want.widths)
	}
	if data, ok := impl.CodesData(k, codes); data != want.data || !ok {
		t.Fatalf("CodesData(%v, %v) = %q, %v, want %q", k, codes, data, ok, want.data)
	}
	stream, ok := impl.PackCodes(k, codes)
	if stream != wantBytes(t, k.Setting.Order, want.bits) || !ok {
		t.Fatalf("PackCodes(%v, %v) = %x, %v", k, codes, stream, ok)
	}
	if len(codes) == 0 || codes[len(codes)-1] != m.end() {
		return
	}
	if got, end, used := impl.UnpackCodes(k, stream+further); !slices.Equal(got, codes) || end != impl.EndWhole || used != len(stream) {
		t.Fatalf("UnpackCodes(%v, %x) = %v, %d, %d, want %v", k, stream, got, end, used, codes)
	}
	if data, end, used := impl.Decompress(k, stream+further); data != want.data || end != impl.EndWhole || used != len(stream) {
		t.Fatalf("Decompress(%v, %x) = %q, %d, %d", k, stream, data, end, used)
	}
	turned, ok := impl.RepackStream(k, stream+further)
	other := k
	other.Setting.Order = 1 - k.Setting.Order
	if turned != wantBytes(t, other.Setting.Order, modelOf(other).take(codes).bits) || !ok {
		t.Fatalf("RepackStream(%v, %x) = %x, %v", k, stream, turned, ok)
	}
	if back, ok := impl.RepackStream(other, turned); back != stream || !ok {
		t.Fatalf("RepackStream(%v, %x) = %x, %v, want %x", other, turned, back, ok, stream)
	}
}

func TestCodesThatCannotFollowEachOther(t *testing.T) {
	k := start(t, high24)
	for _, codes := range [][]int{{-1}, {6}, {7}, {15}, {16}, {0, 7}, {0, 4, 6}, {0, 1, 8}, {5, 0}, {5, 5}, {5, 4}, {0, 5, 1}, {0, 5, 5}, {4, 5, 4, 5}, {0, 0, -1, 0}} {
		checkNotCodes(t, k, codes)
	}
	for _, x := range extremes {
		checkNotCodes(t, k, []int{x})
		checkNotCodes(t, k, []int{0, x, 5})
	}
	r := newRandom()
	for _, k := range smallKnown(r) {
		codes := randomCodes(r, k, 12)
		m := modelOf(k)
		m.take(codes)
		for _, code := range []int{len(m.following()), -1, m.last() + 1} {
			checkNotCodes(t, k, append(slices.Clone(codes), code))
			checkNotCodes(t, k, append(slices.Clone(codes), code, m.end()))
		}
		checkNotCodes(t, k, append(slices.Clone(codes), m.end(), 0))
		checkNotCodes(t, k, append(slices.Clone(codes), m.end(), m.end()))
	}
}

func TestLimitsOfCodesThatFollow(t *testing.T) {
	k := start(t, impl.Setting{Order: impl.OrderLow, Literal: 8, Most: 10})
	clears := slices.Repeat([]int{256}, 3100)
	if !impl.CodesValid(k, clears) || !impl.CodesValid(k, append(slices.Clone(clears[1:]), 257)) {
		t.Error("3100 codes are not valid")
	}
	checkNotCodes(t, k, append(slices.Clone(clears), 256))
	checkNotCodes(t, k, append(slices.Clone(clears), 257))
	zeros := make([]int, 2000)
	if data, ok := impl.CodesData(k, append(slices.Clone(zeros), 256, 257)); data != strings.Repeat("\x00", 2000) || !ok {
		t.Errorf("CodesData of 2000 bytes has %d, %v", len(data), ok)
	}
	checkNotCodes(t, k, append(slices.Clone(zeros), 0))
	checkNotCodes(t, k, append(slices.Clone(zeros[1:]), 258))
	// The width of 10 bits and the greatest number of codes need 31000 bits.
	wide := impl.Known{Setting: k.Setting, Last: -1, Base: 766, Pairs: make([]impl.Pair, 766)}
	if stream, ok := impl.PackCodes(wide, clears); len(stream) != 3875 || !ok {
		t.Errorf("PackCodes of 3100 codes has %d bytes, %v", len(stream), ok)
	}
}

func TestEmptyListsOfCodes(t *testing.T) {
	k := start(t, high24)
	if !impl.CodesValid(k, nil) || !impl.CodesValid(k, []int{}) {
		t.Error("CodesValid of no codes is false")
	}
	if widths, ok := impl.CodesWidths(k, nil); len(widths) != 0 || !ok {
		t.Errorf("CodesWidths = %v, %v", widths, ok)
	}
	if data, ok := impl.CodesData(k, nil); data != "" || !ok {
		t.Errorf("CodesData = %q, %v", data, ok)
	}
	if stream, ok := impl.PackCodes(k, nil); stream != "" || !ok {
		t.Errorf("PackCodes = %q, %v", stream, ok)
	}
}

// packed returns the stream of codes that need not be able to follow each other.
func packed(t *testing.T, order int, codes, widths []int) string {
	t.Helper()
	bits := ""
	for i, code := range codes {
		bits += wantBits(order, code, widths[i])
	}
	return wantBytes(t, order, bits)
}

func checkRead(t *testing.T, k impl.Known, stream string, codes []int, wantEnd, wantUsed int) {
	t.Helper()
	got, end, used := impl.UnpackCodes(k, stream)
	if !slices.Equal(got, codes) || end != wantEnd || used != wantUsed {
		t.Errorf("UnpackCodes(%.20x) = %d codes, %d, %d, want %d codes, %d, %d", stream, len(got), end, used, len(codes), wantEnd, wantUsed)
	}
	want := modelOf(k).take(codes).data
	if data, end, used := impl.Decompress(k, stream); data != want || end != wantEnd || used != wantUsed {
		t.Errorf("Decompress(%.20x) = %.20q, %d, %d", stream, data, end, used)
	}
	again, ok := impl.RepackStream(k, stream)
	if ok != (wantEnd == impl.EndWhole) || (again == "") == ok {
		t.Errorf("RepackStream(%.20x) = %.20x, %v", stream, again, ok)
	}
}

func TestStreamsThatEndTooEarly(t *testing.T) {
	for _, order := range orders {
		k := start(t, impl.Setting{Order: order, Literal: 2, Most: 4})
		checkRead(t, k, "", nil, impl.EndShort, 0)
		checkRead(t, k, packed(t, order, []int{4, 0}, []int{3, 3}), []int{4, 0}, impl.EndShort, 1)
		// Eight codes of 3 bits end with a byte: no bit is left.
		clears := []int{4, 4, 4, 4, 4, 4, 4, 4}
		checkRead(t, k, packed(t, order, clears, []int{3, 3, 3, 3, 3, 3, 3, 3}), clears, impl.EndShort, 3)
		// The end code needs 4 bits, and only 3 are left.
		codes := []int{4, 4, 4, 4, 0, 1, 2}
		checkRead(t, k, packed(t, order, codes, []int{3, 3, 3, 3, 3, 3, 3}), codes, impl.EndShort, 3)
	}
	r := newRandom()
	for _, k := range smallKnown(r) {
		codes := append(randomCodes(r, k, 30), 1<<k.Setting.Literal+1)
		m := modelOf(k)
		all := m.take(codes)
		stream := wantBytes(t, k.Setting.Order, all.bits)
		for n := range len(stream) {
			bits, whole := 0, 0
			for bits+all.widths[whole] <= 8*n {
				bits += all.widths[whole]
				whole++
			}
			checkRead(t, k, stream[:n], codes[:whole], impl.EndShort, n)
		}
	}
}

func TestStreamsWithACodeThatCannotFollow(t *testing.T) {
	for _, order := range orders {
		k := start(t, impl.Setting{Order: order, Literal: 2, Most: 4})
		for code := 6; code < 8; code++ {
			checkRead(t, k, packed(t, order, []int{code}, []int{3})+"\x00\x00", nil, impl.EndWrong, 1)
			checkRead(t, k, packed(t, order, []int{0, 4, code}, []int{3, 3, 3}), []int{0, 4}, impl.EndWrong, 2)
		}
		checkRead(t, k, packed(t, order, []int{0, 7}, []int{3, 3})+"\xff", []int{0}, impl.EndWrong, 1)
		checkRead(t, k, packed(t, order, []int{0, 1, 2, 9}, []int{3, 3, 3, 4})+"\xff", []int{0, 1, 2}, impl.EndWrong, 2)
		// Its bits end with a byte: none of the next one is used.
		checkRead(t, k, packed(t, order, []int{0, 1, 2, 0, 15}, []int{3, 3, 3, 4, 4})+"\xff\xff", []int{0, 1, 2, 0}, impl.EndWrong, 3)
		checkRead(t, k, packed(t, order, []int{4, 4, 4, 4, 0, 0, 1, 9}, []int{3, 3, 3, 3, 3, 3, 3, 4})+"\xff", []int{4, 4, 4, 4, 0, 0, 1}, impl.EndWrong, 4)
		checkRead(t, k, packed(t, order, []int{4, 4, 4, 4, 4, 4, 4, 7}, []int{3, 3, 3, 3, 3, 3, 3, 3})+"\xff", []int{4, 4, 4, 4, 4, 4, 4}, impl.EndWrong, 3)
	}
}

func TestTheEndCodeEndsAStream(t *testing.T) {
	for _, order := range orders {
		k := start(t, impl.Setting{Order: order, Literal: 2, Most: 4})
		end := packed(t, order, []int{5}, []int{3})
		checkRead(t, k, end, []int{5}, impl.EndWhole, 1)
		checkRead(t, k, end+strings.Repeat("\xff", 3999), []int{5}, impl.EndWhole, 1)
		checkUnread(t, k, end+strings.Repeat("\xff", 4000))
		eight := []int{4, 4, 4, 4, 4, 4, 4, 5}
		checkRead(t, k, packed(t, order, eight, []int{3, 3, 3, 3, 3, 3, 3, 3})+"\x00", eight, impl.EndWhole, 3)
		// What fills the last byte does not matter.
		for b := range 256 {
			byteOf := string([]byte{byte(b)})
			if impl.BitAt(order, byteOf, 0) == 1 && impl.BitAt(order, byteOf, 1) == 0 && impl.BitAt(order, byteOf, 2) == 1 {
				checkRead(t, k, byteOf, []int{5}, impl.EndWhole, 1)
			}
		}
	}
}

func TestStreamsWithTooMuchData(t *testing.T) {
	for _, order := range orders {
		k := start(t, impl.Setting{Order: order, Literal: 1, Most: 3})
		// 1, 11, 111, 1111 are words; the table is full after five codes.
		codes := []int{2, 1, 4, 5, 6}
		widths := []int{2, 2, 3, 3, 3}
		for range 496 {
			codes, widths = append(codes, 7), append(widths, 3)
		}
		// The data has 10 bytes and 496 times 5, but only 398 of these can be read.
		m := modelOf(k)
		all := m.take(codes[:403])
		if len(all.data) != 2000 {
			t.Fatalf("the data has %d bytes", len(all.data))
		}
		stream := packed(t, order, codes, widths)
		checkRead(t, k, stream, codes[:403], impl.EndLong, (len(all.bits)+3+7)/8)
		// With 2000 bytes, a clear code and the end code may follow.
		whole := append(slices.Clone(codes[:403]), 2, 3)
		checkCodes(t, k, whole, "\xff")
		checkNotCodes(t, k, append(slices.Clone(codes[:403]), 0))
	}
}

func TestStreamsWithTooManyCodes(t *testing.T) {
	for _, order := range orders {
		k := start(t, impl.Setting{Order: order, Literal: 1, Most: 3})
		clears, widths := slices.Repeat([]int{2}, 3101), slices.Repeat([]int{2}, 3101)
		whole := append(slices.Clone(clears[:3099]), 3)
		checkRead(t, k, packed(t, order, whole, widths), whole, impl.EndWhole, 775)
		checkRead(t, k, packed(t, order, whole, widths)+"\xff", whole, impl.EndWhole, 775)
		checkRead(t, k, packed(t, order, clears[:3100], widths), clears[:3100], impl.EndLong, 775)
		checkRead(t, k, packed(t, order, clears[:3096], widths), clears[:3096], impl.EndShort, 774)
		// No more codes are read, not even the end code.
		late := append(slices.Clone(clears[:3100]), 3)
		checkRead(t, k, packed(t, order, late, widths), clears[:3100], impl.EndLong, 775)
		// A last code that is a literal counts, and its word is data.
		literal := append(slices.Clone(clears[:3099]), 1)
		checkRead(t, k, packed(t, order, literal, widths), literal, impl.EndLong, 775)
	}
}

// Whatever a stream has, the codes that are read can follow each other, are packed as its beginning, and end for a reason.
func TestAnyStreamIsReadAsFarAsItsCodesFollow(t *testing.T) {
	r := newRandom()
	var ends [4]int
	for _, k := range smallKnown(r) {
		for range 20 {
			stream := make([]byte, r.Intn(12))
			for i := range stream {
				stream[i] = byte(r.Intn(256))
			}
			bits, _ := impl.UnpackBits(k.Setting.Order, string(stream))
			codes, end, used := impl.UnpackCodes(k, string(stream))
			m := modelOf(k)
			taken := m.take(codes)
			if !strings.HasPrefix(bits, taken.bits) {
				t.Fatalf("UnpackCodes(%v, %x) = %v", k, stream, codes)
			}
			rest := bits[len(taken.bits):]
			wantEnd, wantUsed := impl.EndShort, len(stream)
			if len(codes) > 0 && codes[len(codes)-1] == m.end() {
				wantEnd, wantUsed = impl.EndWhole, (len(taken.bits)+7)/8
			} else if width := m.width(); len(rest) >= width {
				wantEnd, wantUsed = impl.EndWrong, (len(taken.bits)+width+7)/8
				if code, ok := impl.BitsCode(k.Setting.Order, rest[:width]); !ok || code < len(m.following()) {
					t.Fatalf("UnpackCodes(%v, %x) = %v, but %d can follow", k, stream, codes, code)
				}
			}
			if end != wantEnd || used != wantUsed {
				t.Fatalf("UnpackCodes(%v, %x) = %v, %d, %d, want %d, %d", k, stream, codes, end, used, wantEnd, wantUsed)
			}
			ends[end]++
		}
	}
	if ends[impl.EndWhole] == 0 || ends[impl.EndShort] == 0 || ends[impl.EndWrong] == 0 {
		t.Errorf("not all ends have been there: %v", ends)
	}
}

func TestLengthsOfStreamsOfCodes(t *testing.T) {
	for _, order := range orders {
		k := start(t, impl.Setting{Order: order, Literal: 8, Most: 10})
		// Each 9 bytes have eight clear codes.
		clears := slices.Repeat([]int{256}, 3100)
		stream := packed(t, order, clears, slices.Repeat([]int{9}, 3100))
		checkRead(t, k, stream[:3465], clears[:3080], impl.EndShort, 3465)
		// A whole byte is left that is no code, but counts as read.
		checkRead(t, k, stream[:3466], clears[:3080], impl.EndShort, 3466)
		checkRead(t, k, stream[:1], nil, impl.EndShort, 1)
		checkRead(t, k, stream+strings.Repeat("\x00", 4000-len(stream)), clears, impl.EndLong, 3488)
		checkUnread(t, k, stream+strings.Repeat("\x00", 4001-len(stream)))
		checkUnread(t, k, strings.Repeat("\x00", 4001))
	}
}

// checkData checks the codes and the stream of data, and that they give it back.
func checkData(t *testing.T, k impl.Known, data string, want []int) {
	t.Helper()
	codes, ok := impl.GreedyCodes(k, data)
	if !ok || want != nil && !slices.Equal(codes, want) {
		t.Fatalf("GreedyCodes(%v, %.20q) = %v, %v, want %v", k, data, codes, ok, want)
	}
	if got, ok := impl.CodesData(k, codes); got != data || !ok {
		t.Fatalf("CodesData(%v, %v) = %.20q, %v, want %.20q", k, codes, got, ok, data)
	}
	packed, ok := impl.PackCodes(k, codes)
	stream, okStream := impl.Compress(k, data)
	if stream != packed || !ok || !okStream {
		t.Fatalf("Compress(%v, %.20q) = %x, %v, want %x", k, data, stream, okStream, packed)
	}
	if got, end, used := impl.Decompress(k, stream); got != data || end != impl.EndWhole || used != len(stream) {
		t.Fatalf("Decompress(%v, %x) = %.20q, %d, %d, want %.20q", k, stream, got, end, used, data)
	}
}

func TestDataIsGivenBack(t *testing.T) {
	r := newRandom()
	for _, k := range manyKnown(r) {
		for _, n := range []int{0, 1, 2, 30, 100} {
			data := randomData(r, k.Setting, n)
			checkData(t, k, data, modelOf(k).greedy(data))
		}
	}
	for _, s := range allSettings() {
		k := start(t, s)
		checkData(t, k, strings.Repeat("\x01", 2000), nil)
		checkData(t, k, randomData(r, s, 2000), nil)
		noise := make([]byte, 2000)
		for i := range noise {
			noise[i] = byte(r.Intn(1 << s.Literal))
		}
		checkData(t, k, string(noise), nil)
	}
}

func TestLongDataAgainstTheModel(t *testing.T) {
	r := newRandom()
	for _, s := range []impl.Setting{{Order: 0, Literal: 1, Most: 3}, {Order: 1, Literal: 2, Most: 6}, {Order: 0, Literal: 4, Most: 7}} {
		for _, pairs := range []int{0, 3, mostPairs(s) - 1, mostPairs(s)} {
			k := randomKnown(r, s, min(pairs, mostPairs(s)))
			for _, data := range []string{randomData(r, s, 600), strings.Repeat("\x00\x01\x01", 200), strings.Repeat("\x00", 600)} {
				checkData(t, k, data, modelOf(k).greedy(data))
			}
		}
	}
}

// A table with room for one word has a clear code behind each two words, which needs the most codes.
func TestClearCodesBeforeWords(t *testing.T) {
	s := impl.Setting{Order: impl.OrderLow, Literal: 1, Most: 3}
	k := impl.Known{Setting: s, Base: 3, Last: -1, Pairs: []impl.Pair{{Prefix: 0, Byte: 0}, {Prefix: 0, Byte: 0}, {Prefix: 0, Byte: 0}}}
	checkData(t, k, "\x01", []int{2, 1, 3})
	checkData(t, k, "\x01\x00", []int{2, 1, 0, 3})
	checkData(t, k, "\x01\x00\x01", []int{2, 1, 0, 2, 1, 3})
	checkData(t, k, "\x01\x00\x01\x00\x01", []int{2, 1, 0, 2, 1, 0, 2, 1, 3})
	codes, ok := impl.GreedyCodes(k, strings.Repeat("\x01\x00", 1000))
	if len(codes) != 3001 || !ok {
		t.Errorf("GreedyCodes has %d codes, %v", len(codes), ok)
	}
	checkData(t, k, strings.Repeat("\x01\x00", 1000), nil)
	// If all words are kept, a clear code would give no room.
	k.Pairs, k.Base = append(slices.Clone(k.Pairs), impl.Pair{Prefix: 4, Byte: 1}), 4
	checkData(t, k, "\x01\x00\x01\x00\x00\x00\x01", []int{2, 1, 0, 1, 4, 0, 1, 3})
}

func TestDataThatDoesNotFitHasNoCodes(t *testing.T) {
	for _, s := range allSettings() {
		k := start(t, s)
		checkNoCodes(t, k, strings.Repeat("\x00", 2001))
		if s.Literal < 8 {
			for _, b := range []byte{1 << s.Literal, 1<<s.Literal + 1, 255} {
				checkNoCodes(t, k, string([]byte{b}))
				checkNoCodes(t, k, string([]byte{0, 0, b, 0}))
			}
		}
		checkData(t, k, "", []int{1 << s.Literal, 1<<s.Literal + 1})
	}
}

// The memory behind the pairs that are known must stay as it is, and no result may share memory with them.
func TestNoMemoryOfWordsIsShared(t *testing.T) {
	mark := impl.Pair{Prefix: 99, Byte: 99}
	room := slices.Repeat([]impl.Pair{mark}, 12)
	room[0], room[1] = impl.Pair{Prefix: 0, Byte: 0}, impl.Pair{Prefix: 6, Byte: 1}
	before := slices.Clone(room)
	k := impl.Known{Setting: high24, Pairs: room[:2], Base: 1, Last: 7}
	for code := range 9 {
		a, ok := impl.After(k, code)
		if ok != (code != 5) {
			t.Errorf("After(%d) = %v, %v", code, a, ok)
		}
		for i := range a.Pairs[:cap(a.Pairs)] {
			a.Pairs[:cap(a.Pairs)][i] = mark
		}
	}
	codes := []int{8, 0, 0, 1, 4, 6, 1, 7, 5}
	kept := slices.Clone(codes)
	stream, ok := impl.PackCodes(k, codes)
	widths, okWidths := impl.CodesWidths(k, codes)
	if !ok || !okWidths {
		t.Fatal("the codes cannot follow each other")
	}
	clear(widths)
	impl.CodesData(k, codes)
	impl.UnpackCodes(k, stream)
	impl.RepackStream(k, stream)
	impl.GreedyCodes(k, "\x00\x00\x01\x00\x00\x01\x02\x03")
	impl.CodeOfWord(k, "\x00\x00\x01")
	impl.LongestWord(k, "\x00\x00\x01")
	if !slices.Equal(room, before) {
		t.Errorf("the pairs are %v, and were %v", room, before)
	}
	if !slices.Equal(codes, kept) {
		t.Errorf("the codes are %v, and were %v", codes, kept)
	}
}

func TestExtremeCodes(t *testing.T) {
	k := start(t, high24)
	for _, code := range []int{math.MinInt, math.MaxInt, 1 << 40, -7} {
		if w, ok := impl.WordOf(k, code); w != "" || ok {
			t.Errorf("WordOf(%d) = %q, %v", code, w, ok)
		}
		if a, ok := impl.After(k, code); !reflect.DeepEqual(a, impl.Known{}) || ok {
			t.Errorf("After(%d) = %v, %v", code, a, ok)
		}
	}
}
