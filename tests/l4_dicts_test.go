package tests

// Promise 4: data that is sealed with a dictionary is opened with it among others with other checksums,
// and no word of a dictionary is learned twice.

import (
	"math/rand"
	"reflect"
	"slices"
	"strings"
	"testing"

	"loop.example/soughtstreams/impl"
)

// wantSum computes a checksum with sums that are not reduced before the end.
func wantSum(data string) int {
	a, b := 0, 0
	for i := range len(data) {
		a += int(data[i])
		b += int(data[i]) * (len(data) - i)
	}
	return 256*(b%255) + a%255
}

func wantSeal(dict string) string {
	sum := wantSum(dict)
	return string([]byte{byte(sum / 256), byte(sum % 256)})
}

// learn makes m what is known behind a text.
func (m *model) learn(text string) {
	m.after(m.clear())
	for text != "" {
		w := m.longest(text)
		m.after(m.codeOfWord(w))
		text = text[len(w):]
	}
	m.known.Base = len(m.known.Pairs)
	m.known.Last = -1
}

// pairWords returns the words of the pairs.
func (m *model) pairWords() []string {
	return m.words[m.end()+1:]
}

func startWith(t *testing.T, s impl.Setting, dict string) impl.Known {
	t.Helper()
	k, ok := impl.StartWith(s, dict)
	if !ok || !impl.KnownValid(k) {
		t.Fatalf("StartWith(%v, %.20q) = %v, %v", s, dict, k, ok)
	}
	return k
}

func compressWith(t *testing.T, s impl.Setting, dict, data string) string {
	t.Helper()
	stream, ok := impl.CompressWith(s, dict, data)
	if !ok {
		t.Fatalf("CompressWith(%v, %.20q, %.20q) is false", s, dict, data)
	}
	return stream
}

func seal(t *testing.T, s impl.Setting, dict, data string) string {
	t.Helper()
	sealed, ok := impl.SealStream(s, dict, data)
	if !ok {
		t.Fatalf("SealStream(%v, %.20q, %.20q) is false", s, dict, data)
	}
	return sealed
}

func checkOpen(t *testing.T, s impl.Setting, dicts []string, sealed, wantData string, wantDict int) {
	t.Helper()
	data, dict, ok := impl.OpenStream(s, dicts, sealed)
	if data != wantData || dict != wantDict || !ok {
		t.Fatalf("OpenStream(%v, %.20q, %.20x) = %.20q, %d, %v, want %.20q, %d", s, dicts, sealed, data, dict, ok, wantData, wantDict)
	}
}

func refuseOpen(t *testing.T, s impl.Setting, dicts []string, sealed string) {
	t.Helper()
	if data, dict, ok := impl.OpenStream(s, dicts, sealed); data != "" || dict != -1 || ok {
		t.Errorf("OpenStream(%v, %.20q, %.20x) = %.20q, %d, %v", s, dicts, sealed, data, dict, ok)
	}
}

// unfit returns data that does not fit a setting.
func unfit(s impl.Setting) []string {
	list := []string{strings.Repeat("\x00", 2001)}
	if s.Literal < 8 {
		for _, b := range []byte{1 << s.Literal, 1<<s.Literal + 1, 1<<s.Literal + 2, 255} {
			list = append(list, string([]byte{b}), "\x00\x01"+string([]byte{b}))
		}
	}
	return list
}

// fewSettings returns settings with small and large tables in both orders.
func fewSettings() []impl.Setting {
	return slices.DeleteFunc(allSettings(), func(s impl.Setting) bool {
		return s.Literal != 1 && s.Literal != 2 && s.Literal != 8 || s.Most > 6 && s.Literal < 8
	})
}

// someDicts returns dictionaries of a setting: none, short ones, and one that fills all codes.
func someDicts(r *rand.Rand, s impl.Setting) []string {
	list := []string{"", "\x00", "\x01\x01", "\x00\x01\x00\x01\x00\x01\x00"}
	for _, n := range []int{2, 5, 10, 50} {
		list = append(list, randomData(r, s, n))
	}
	return append(list, fillingDict(r, s))
}

// fillingDict returns a dictionary that fills all codes, if they are not too many.
func fillingDict(r *rand.Rand, s impl.Setting) string {
	b := make([]byte, 2000)
	for i := range b {
		b[i] = byte(r.Intn(1 << s.Literal))
	}
	return string(b)
}

func TestExampleOfChapter4(t *testing.T) {
	k := startWith(t, high24, "\x00\x01\x02")
	if words := impl.KnownWords(k); !slices.Equal(words, []string{"\x00\x01", "\x01\x02"}) {
		t.Errorf("KnownWords = %q", words)
	}
	if codes, ok := impl.GreedyCodes(k, "\x00\x01\x02"); !slices.Equal(codes, []int{4, 6, 2, 5}) || !ok {
		t.Errorf("GreedyCodes = %v, %v", codes, ok)
	}
	// Codes up to 7 need 3 bits: 100 110; then 8 can follow: 0010 0101.
	if stream := compressWith(t, high24, "\x00\x01\x02", "\x00\x01\x02"); stream != "\x98\x94" {
		t.Errorf("CompressWith = %x", stream)
	}
	if impl.MaxDicts != 8 {
		t.Errorf("MaxDicts = %d", impl.MaxDicts)
	}
}

func TestSums(t *testing.T) {
	r := newRandom()
	list := []string{"", "\x00", "\x01", "\xfe", "\xff", "\xff\xff", "\x01\x00", "\x00\x01", "\x01\x02", "\x02\x01", "\xfe\x01", "\x01\xfe", allBytes(), strings.Repeat("\xfe", 255), strings.Repeat("\xff", 100000)}
	for range 500 {
		b := make([]byte, r.Intn(300))
		r.Read(b)
		list = append(list, string(b))
	}
	long := make([]byte, 100000)
	r.Read(long)
	list = append(list, string(long))
	for _, data := range list {
		if got, want := impl.SumOf(data), wantSum(data); got != want {
			t.Errorf("SumOf(%.20q) = %d, want %d", data, got, want)
		}
	}
	for data, want := range map[string]int{"": 0, "\x01": 0x101, "\x01\x02": 0x403, "\x02\x01": 0x503, "\xfe": 0xfefe, "\xff": 0, "\xfe\x01": 0xfe00, "\x01\x00": 0x201} {
		if got := impl.SumOf(data); got != want {
			t.Errorf("SumOf(%q) = %#x, want %#x", data, got, want)
		}
	}
}

func TestWhatIsKnownBehindAText(t *testing.T) {
	r := newRandom()
	for _, k := range smallKnown(r) {
		for _, n := range []int{0, 1, 2, 3, 10, 60} {
			text := randomData(r, k.Setting, n)
			m := modelOf(k)
			m.learn(text)
			got, ok := impl.LearnKnown(k, text)
			if !ok || !sameKnown(got, m.known) || !impl.KnownValid(got) {
				t.Fatalf("LearnKnown(%v, %q) = %v, %v, want %v", k, text, got, ok, m.known)
			}
			if words := impl.KnownWords(got); !slices.Equal(words, m.pairWords()) {
				t.Fatalf("KnownWords = %q, want %q", words, m.pairWords())
			}
		}
	}
}

func TestLearningOneTextAfterAnother(t *testing.T) {
	r := newRandom()
	for _, s := range fewSettings() {
		m := modelOf(start(t, s))
		k := start(t, s)
		for range 4 {
			text := randomData(r, s, 40)
			m.learn(text)
			var ok bool
			if k, ok = impl.LearnKnown(k, text); !ok || !sameKnown(k, m.known) {
				t.Fatalf("LearnKnown(%q) = %v, %v, want %v", text, k, ok, m.known)
			}
		}
	}
	k := startWith(t, high24, "\x00\x01\x02")
	k, ok := impl.LearnKnown(k, "\x01\x02\x00")
	if text := impl.FormatKnown(k); text != "high 2 4;3;-1;0.1,1.2,7.0" || !ok {
		t.Errorf("LearnKnown = %q, %v", text, ok)
	}
}

// What a clear code does not keep is forgotten, and what was the last code is no prefix.
func TestLearningBeginsWithAClearCode(t *testing.T) {
	pairs := []impl.Pair{{Prefix: 0, Byte: 1}, {Prefix: 6, Byte: 2}, {Prefix: 7, Byte: 3}}
	for base := range 4 {
		for _, last := range []int{0, 6, 8} {
			k := impl.Known{Setting: high24, Pairs: pairs, Base: base, Last: last}
			for _, text := range []string{"", "\x00", "\x03"} {
				want := impl.Known{Setting: high24, Pairs: pairs[:base], Base: base, Last: -1}
				if got, ok := impl.LearnKnown(k, text); !sameKnown(got, want) || !ok {
					t.Errorf("LearnKnown(%v, %q) = %v, %v, want %v", k, text, got, ok, want)
				}
			}
			texts := []string{"high 2 4;3;-1;0.1,1.2,2.3", "high 2 4;3;-1;0.1,6.2,2.3", "high 2 4;3;-1;0.1,6.2,7.3", "high 2 4;3;-1;0.1,6.2,7.3"}
			if got, ok := impl.LearnKnown(k, "\x00\x01\x02\x03"); impl.FormatKnown(got) != texts[base] || !ok {
				t.Errorf("LearnKnown(%v) = %v, %v, want %q", k, got, ok, texts[base])
			}
		}
	}
}

func TestLearningIsRefused(t *testing.T) {
	refuse := func(k impl.Known, text string) {
		t.Helper()
		if got, ok := impl.LearnKnown(k, text); ok || !reflect.DeepEqual(got, impl.Known{}) {
			t.Errorf("LearnKnown(%v, %.20q) = %v, %v", k, text, got, ok)
		}
	}
	for _, k := range wrongKnown() {
		for _, text := range []string{"", "\x00", "\x00\x01\x02"} {
			refuse(k, text)
		}
		if words := impl.KnownWords(k); len(words) != 0 {
			t.Errorf("KnownWords(%v) = %q", k, words)
		}
	}
	for _, s := range allSettings() {
		for _, text := range unfit(s) {
			refuse(start(t, s), text)
			refuseDict(t, s, text)
		}
		if _, ok := impl.LearnKnown(start(t, s), strings.Repeat("\x01", 2000)); !ok {
			t.Error("LearnKnown refuses 2000 bytes")
		}
	}
	for _, s := range wrongSettings() {
		for _, dict := range []string{"", "\x00", "\x00\x01"} {
			refuseDict(t, s, dict)
		}
	}
}

// refuseDict checks that nothing can be done with a dictionary.
func refuseDict(t *testing.T, s impl.Setting, dict string) {
	t.Helper()
	if k, ok := impl.StartWith(s, dict); ok || !reflect.DeepEqual(k, impl.Known{}) {
		t.Errorf("StartWith(%v, %.20q) = %v, %v", s, dict, k, ok)
	}
	if d, ok := impl.TrimDict(s, dict); d != "" || ok {
		t.Errorf("TrimDict(%v, %.20q) = %q, %v", s, dict, d, ok)
	}
	for _, data := range []string{"", "\x00", "\x00\x01"} {
		refuseData(t, s, dict, data)
		refuseOpen(t, s, []string{dict}, wantSeal(dict)+data)
		refuseBest(t, s, []string{dict}, data)
	}
	for _, stream := range []string{"", "\x94", "\x83\x50"} {
		if data, end, used := impl.DecompressWith(s, dict, stream); data != "" || end != impl.EndInvalid || used != 0 {
			t.Errorf("DecompressWith(%v, %.20q, %x) = %q, %d, %d", s, dict, stream, data, end, used)
		}
	}
}

// refuseData checks that data has no stream with a dictionary.
func refuseData(t *testing.T, s impl.Setting, dict, data string) {
	t.Helper()
	if stream, ok := impl.CompressWith(s, dict, data); stream != "" || ok {
		t.Errorf("CompressWith(%v, %.20q, %.20q) = %x, %v", s, dict, data, stream, ok)
	}
	if n, ok := impl.DictGain(s, dict, data); n != 0 || ok {
		t.Errorf("DictGain(%v, %.20q, %.20q) = %d, %v", s, dict, data, n, ok)
	}
	if sealed, ok := impl.SealStream(s, dict, data); sealed != "" || ok {
		t.Errorf("SealStream(%v, %.20q, %.20q) = %x, %v", s, dict, data, sealed, ok)
	}
}

func refuseBest(t *testing.T, s impl.Setting, dicts []string, data string) {
	t.Helper()
	if i := impl.BestDict(s, dicts, data); i != -1 {
		t.Errorf("BestDict(%v, %.20q, %.20q) = %d", s, dicts, data, i)
	}
}

func TestStartingWithADictionary(t *testing.T) {
	r := newRandom()
	for _, s := range fewSettings() {
		for _, dict := range someDicts(r, s) {
			m := modelOf(start(t, s))
			m.learn(dict)
			if k := startWith(t, s, dict); !sameKnown(k, m.known) {
				t.Fatalf("StartWith(%v, %.20q) = %v, want %v", s, dict, k, m.known)
			}
		}
	}
}

func TestNoWordIsLearnedTwice(t *testing.T) {
	r := newRandom()
	for _, s := range allSettings() {
		list := someDicts(r, s)
		for n := range 30 {
			list = append(list, strings.Repeat("\x00", n), strings.Repeat("\x00\x01", n), strings.Repeat("\x01\x00\x00", n), randomData(r, s, 300))
		}
		for _, dict := range list {
			checkDifferent(t, nil, impl.KnownWords(startWith(t, s, dict)))
		}
	}
	// The words that are known before may be there twice, but no further one is.
	for _, k := range smallKnown(r) {
		before := modelOf(k).pairWords()[:k.Base]
		learned, ok := impl.LearnKnown(k, randomData(r, k.Setting, 100))
		if !ok {
			t.Fatalf("LearnKnown(%v) is false", k)
		}
		words := impl.KnownWords(learned)
		if len(words) < len(before) || !slices.Equal(words[:len(before)], before) {
			t.Fatalf("the words %q become %q", before, words)
		}
		checkDifferent(t, before, words[len(before):])
	}
}

// checkDifferent checks that words are neither among those before nor there twice.
func checkDifferent(t *testing.T, before, words []string) {
	t.Helper()
	seen := map[string]bool{}
	for _, w := range before {
		seen[w] = true
	}
	for _, w := range words {
		if seen[w] || len(w) < 2 {
			t.Fatalf("the word %q is among %q", w, words)
		}
		seen[w] = true
	}
}

func TestAnEmptyDictionary(t *testing.T) {
	r := newRandom()
	for _, s := range allSettings() {
		if k := startWith(t, s, ""); !sameKnown(k, start(t, s)) {
			t.Errorf("StartWith(%v) = %v", s, k)
		}
		if words := impl.KnownWords(start(t, s)); len(words) != 0 {
			t.Errorf("KnownWords = %q", words)
		}
		if dict, ok := impl.TrimDict(s, ""); dict != "" || !ok {
			t.Errorf("TrimDict = %q, %v", dict, ok)
		}
		for _, n := range []int{0, 1, 2, 100, 2000} {
			data := randomData(r, s, n)
			want, _ := impl.Compress(start(t, s), data)
			if stream := compressWith(t, s, "", data); stream != want {
				t.Fatalf("CompressWith = %x, want %x", stream, want)
			}
			if gain, ok := impl.DictGain(s, "", data); gain != 0 || !ok {
				t.Errorf("DictGain = %d, %v", gain, ok)
			}
			if uses, ok := impl.WordUses(start(t, s), data); len(uses) != 0 || !ok {
				t.Errorf("WordUses = %v, %v", uses, ok)
			}
			sealed := seal(t, s, "", data)
			if sealed != "\x00\x00"+want {
				t.Errorf("SealStream = %x", sealed)
			}
			checkOpen(t, s, []string{""}, sealed, data, 0)
			checkOpen(t, s, []string{"\x01", ""}, sealed, data, 1)
		}
	}
	if stream := compressWith(t, high24, "", ""); stream != "\x94" {
		t.Errorf("CompressWith = %x", stream)
	}
}

func TestADictionaryThatFillsAllCodes(t *testing.T) {
	r := newRandom()
	for _, s := range allSettings() {
		if s.Literal < 6 && s.Most > 8 {
			// 2000 bytes teach fewer words than there are codes.
			continue
		}
		dict := fillingDict(r, s)
		k := startWith(t, s, dict)
		if len(k.Pairs) != mostPairs(s) || k.Base != mostPairs(s) || k.Last != -1 {
			t.Fatalf("StartWith(%v) has %d pairs, %d, %d", s, len(k.Pairs), k.Base, k.Last)
		}
		trimmed, ok := impl.TrimDict(s, dict)
		if !ok || len(trimmed) >= len(dict) || !strings.HasPrefix(dict, trimmed) || !sameKnown(startWith(t, s, trimmed), k) {
			t.Fatalf("TrimDict(%v) has %d bytes, %v", s, len(trimmed), ok)
		}
		if shorter := startWith(t, s, trimmed[:len(trimmed)-1]); len(shorter.Pairs) != mostPairs(s)-1 {
			t.Errorf("without its last byte, the dictionary has %d words", len(shorter.Pairs))
		}
		// Nothing more can be learned, and nothing is forgotten.
		if more, ok := impl.LearnKnown(k, randomData(r, s, 50)); !ok || !sameKnown(more, k) {
			t.Errorf("LearnKnown = %v, %v", more, ok)
		}
		// No code but the first one clears, and all have the greatest width.
		for _, data := range []string{"", "\x01", dict[:100], dict} {
			codes, ok := impl.GreedyCodes(k, data)
			if !ok || slices.Index(codes[1:], 1<<s.Literal) >= 0 {
				t.Fatalf("GreedyCodes = %v, %v", codes, ok)
			}
			stream := compressWith(t, s, dict, data)
			if len(stream) != (len(codes)*s.Most+7)/8 {
				t.Errorf("%d codes have %d bytes", len(codes), len(stream))
			}
			checkWith(t, s, dict, data)
		}
	}
}

// checkWith checks that data is given back by all that reads it with a dictionary.
func checkWith(t *testing.T, s impl.Setting, dict, data string) {
	t.Helper()
	stream := compressWith(t, s, dict, data)
	if want, ok := impl.Compress(startWith(t, s, dict), data); stream != want || !ok {
		t.Fatalf("CompressWith(%v, %.20q, %.20q) = %x, want %x, %v", s, dict, data, stream, want, ok)
	}
	for _, further := range []string{"", "\x00", "\xff\x00"} {
		if got, end, used := impl.DecompressWith(s, dict, stream+further); got != data || end != impl.EndWhole || used != len(stream) {
			t.Fatalf("DecompressWith(%v, %.20q, %x) = %.20q, %d, %d", s, dict, stream, got, end, used)
		}
	}
	sealed := seal(t, s, dict, data)
	if sealed != wantSeal(dict)+stream {
		t.Fatalf("SealStream(%v, %.20q, %.20q) = %x, want %x%x", s, dict, data, sealed, wantSeal(dict), stream)
	}
	checkOpen(t, s, []string{dict}, sealed, data, 0)
	with, without := len(stream), len(compressWith(t, s, "", data))
	if gain, ok := impl.DictGain(s, dict, data); gain != without-with || !ok {
		t.Fatalf("DictGain(%v, %.20q, %.20q) = %d, %v, want %d", s, dict, data, gain, ok, without-with)
	}
}

func TestDataIsGivenBackWithADictionary(t *testing.T) {
	r := newRandom()
	for _, s := range allSettings() {
		for _, dict := range someDicts(r, s) {
			for _, data := range []string{"", "\x01", dict, randomData(r, s, 50)} {
				checkWith(t, s, dict, data)
			}
		}
		checkWith(t, s, randomData(r, s, 2000), randomData(r, s, 2000))
	}
}

func TestGreedyCodesWithADictionary(t *testing.T) {
	r := newRandom()
	for _, s := range fewSettings() {
		for _, dict := range someDicts(r, s) {
			data := randomData(r, s, 40)
			m := modelOf(start(t, s))
			m.learn(dict)
			m = modelOf(m.known)
			want := wantBytes(t, s.Order, modelOf(m.known).take(m.greedy(data)).bits)
			if stream := compressWith(t, s, dict, data); stream != want {
				t.Fatalf("CompressWith(%v, %.20q, %q) = %x, want %x", s, dict, data, stream, want)
			}
		}
	}
}

func TestGains(t *testing.T) {
	literal8 := impl.Setting{Order: impl.OrderLow, Literal: 8, Most: 10}
	text := "the quick brown fox jumps over the lazy dog, "
	if gain, ok := impl.DictGain(literal8, text, text); gain <= 0 || !ok {
		t.Errorf("DictGain = %d, %v", gain, ok)
	}
	// A dictionary whose words are none of the data makes its codes wider: 4, 3, 2, 1, 5 have 16 bits without it, and 20 with it.
	zeros := strings.Repeat("\x00", 100)
	if k := startWith(t, high24, zeros); len(k.Pairs) != mostPairs(high24) {
		t.Fatalf("there are %d words", len(k.Pairs))
	}
	if gain, ok := impl.DictGain(high24, zeros, "\x03\x02\x01"); gain != -1 || !ok {
		t.Errorf("DictGain = %d, %v", gain, ok)
	}
	// 4, 3, 2, 5 have 12 bits without it, and 16 with it.
	if gain, ok := impl.DictGain(high24, zeros, "\x03\x02"); gain != 0 || !ok {
		t.Errorf("DictGain = %d, %v", gain, ok)
	}
}

func TestSharedWords(t *testing.T) {
	r := newRandom()
	list := smallKnown(r)
	for _, a := range list {
		for range 6 {
			b := list[r.Intn(len(list))]
			others := modelOf(b).pairWords()
			var want []string
			for _, w := range modelOf(a).pairWords() {
				if slices.Contains(others, w) && !slices.Contains(want, w) {
					want = append(want, w)
				}
			}
			if got := impl.SharedWords(a, b); !slices.Equal(got, want) {
				t.Fatalf("SharedWords(%v, %v) = %q, want %q", a, b, got, want)
			}
		}
	}
	a := impl.Known{Setting: high24, Pairs: []impl.Pair{{Prefix: 1, Byte: 2}, {Prefix: 0, Byte: 1}, {Prefix: 1, Byte: 2}, {Prefix: 0, Byte: 1}, {Prefix: 0, Byte: 3}}, Base: 0, Last: 0}
	if got := impl.SharedWords(a, a); !slices.Equal(got, []string{"\x01\x02", "\x00\x01", "\x00\x03"}) {
		t.Errorf("SharedWords = %q", got)
	}
	// The order is that of the first argument, whatever the settings and the other fields are.
	b := impl.Known{Setting: impl.Setting{Order: impl.OrderLow, Literal: 8, Most: 10}, Pairs: []impl.Pair{{Prefix: 0, Byte: 1}, {Prefix: 0, Byte: 1}, {Prefix: 1, Byte: 2}, {Prefix: 260, Byte: 9}}, Base: 4, Last: -1}
	if got := impl.SharedWords(a, b); !slices.Equal(got, []string{"\x01\x02", "\x00\x01"}) {
		t.Errorf("SharedWords = %q", got)
	}
	if got := impl.SharedWords(b, a); !slices.Equal(got, []string{"\x00\x01", "\x01\x02"}) {
		t.Errorf("SharedWords = %q", got)
	}
	if got := impl.SharedWords(a, start(t, high24)); len(got) != 0 {
		t.Errorf("SharedWords = %q", got)
	}
	for _, wrong := range wrongKnown() {
		for _, k := range []impl.Known{a, start(t, high24), wrong} {
			if got := impl.SharedWords(wrong, k); len(got) != 0 {
				t.Errorf("SharedWords(%v, %v) = %q", wrong, k, got)
			}
			if got := impl.SharedWords(k, wrong); len(got) != 0 {
				t.Errorf("SharedWords(%v, %v) = %q", k, wrong, got)
			}
		}
	}
}

func TestUsesOfWords(t *testing.T) {
	r := newRandom()
	for _, k := range smallKnown(r) {
		for _, n := range []int{0, 1, 60} {
			data := randomData(r, k.Setting, n)
			m := modelOf(k)
			want := make([]int, k.Base)
			for _, code := range m.greedy(data) {
				if i := code - m.end() - 1; i >= 0 && i < k.Base {
					want[i]++
				}
			}
			if got, ok := impl.WordUses(k, data); !slices.Equal(got, want) || !ok {
				t.Fatalf("WordUses(%v, %q) = %v, %v, want %v", k, data, got, ok, want)
			}
		}
	}
	// The second word is the same one, and the third is not kept.
	k := impl.Known{Setting: high24, Pairs: []impl.Pair{{Prefix: 0, Byte: 1}, {Prefix: 0, Byte: 1}, {Prefix: 2, Byte: 3}}, Base: 2, Last: 0}
	if got, ok := impl.WordUses(k, "\x00\x01\x00\x01\x02\x03\x02\x03"); !slices.Equal(got, []int{2, 0}) || !ok {
		t.Errorf("WordUses = %v, %v", got, ok)
	}
	refuse := func(k impl.Known, data string) {
		t.Helper()
		if uses, ok := impl.WordUses(k, data); len(uses) != 0 || ok {
			t.Errorf("WordUses(%v, %.20q) = %v, %v", k, data, uses, ok)
		}
	}
	for _, wrong := range wrongKnown() {
		refuse(wrong, "")
		refuse(wrong, "\x00")
	}
	for _, data := range unfit(high24) {
		refuse(k, data)
		refuse(start(t, high24), data)
	}
}

func TestTrimDict(t *testing.T) {
	r := newRandom()
	for _, s := range fewSettings() {
		list := someDicts(r, s)
		for n := range 12 {
			list = append(list, strings.Repeat("\x01", n), randomData(r, s, 30))
		}
		for _, dict := range list {
			want := startWith(t, s, dict)
			n := 0
			for !sameKnown(startWith(t, s, dict[:n]), want) {
				n++
			}
			if got, ok := impl.TrimDict(s, dict); got != dict[:n] || !ok {
				t.Fatalf("TrimDict(%v, %.40q) = %.40q, %v, want %.40q", s, dict, got, ok, dict[:n])
			}
		}
	}
	// The first byte of the last word teaches a word, and the others of it nothing.
	for dict, want := range map[string]string{"": "", "\x00": "", "\x00\x01": "\x00\x01", "\x00\x00\x00": "\x00\x00", "\x00\x01\x00": "\x00\x01\x00", "\x00\x01\x00\x01": "\x00\x01\x00", "\x00\x01\x00\x01\x00\x01": "\x00\x01\x00\x01\x00"} {
		got, ok := impl.TrimDict(high24, dict)
		if got != want || !ok {
			t.Errorf("TrimDict(%q) = %q, %v, want %q", dict, got, ok, want)
		}
	}
}

func wantBest(t *testing.T, s impl.Setting, dicts, texts []string) int {
	t.Helper()
	best, least := -1, 0
	for i, dict := range dicts {
		size := 0
		for _, text := range texts {
			size += len(compressWith(t, s, dict, text))
		}
		if best < 0 || size < least {
			best, least = i, size
		}
	}
	return best
}

func TestBestDictAndSample(t *testing.T) {
	r := newRandom()
	var dictAt, sampleAt [8]int
	for _, s := range fewSettings() {
		for n := 1; n <= 8; n++ {
			var dicts []string
			for range n {
				dicts = append(dicts, randomData(r, s, r.Intn(60)))
			}
			if r.Intn(2) == 0 {
				dicts[r.Intn(n)] = ""
			}
			data := randomData(r, s, r.Intn(80))
			want := wantBest(t, s, dicts, []string{data})
			if got := impl.BestDict(s, dicts, data); got != want {
				t.Fatalf("BestDict(%v, %q, %q) = %d, want %d", s, dicts, data, got, want)
			}
			dictAt[want]++
			want = wantBest(t, s, dicts, dicts)
			if got := impl.BestSample(s, dicts); got != want {
				t.Fatalf("BestSample(%v, %q) = %d, want %d", s, dicts, got, want)
			}
			sampleAt[want]++
		}
	}
	if dictAt[0] == 0 || dictAt[1] == 0 || dictAt[4] == 0 || sampleAt[0] == 0 || sampleAt[1] == 0 || sampleAt[4] == 0 {
		t.Errorf("the best ones are %v and %v", dictAt, sampleAt)
	}
}

func TestTheFirstOfEquallyGoodDictionaries(t *testing.T) {
	text := "abcabcabcabcabcabcabc"
	s := impl.Setting{Order: impl.OrderHigh, Literal: 8, Most: 10}
	if i := impl.BestDict(s, []string{"", "xyz", text, "", text}, text); i != 2 {
		t.Errorf("BestDict = %d", i)
	}
	if i := impl.BestDict(s, []string{"", "", ""}, text); i != 0 {
		t.Errorf("BestDict = %d", i)
	}
	if i := impl.BestSample(s, []string{"", "xyz", text, "", text}); i != 2 {
		t.Errorf("BestSample = %d", i)
	}
	if i := impl.BestSample(s, []string{text, text}); i != 0 {
		t.Errorf("BestSample = %d", i)
	}
}

func TestBestOfWrongArguments(t *testing.T) {
	refuseSamples := func(s impl.Setting, samples []string) {
		t.Helper()
		if i := impl.BestSample(s, samples); i != -1 {
			t.Errorf("BestSample(%v, %.20q) = %d", s, samples, i)
		}
	}
	for _, n := range []int{1, 2, 8} {
		list := slices.Repeat([]string{"\x00\x01\x00"}, n)
		if i := impl.BestDict(high24, list, "\x00\x01"); i != 0 {
			t.Errorf("BestDict of %d = %d", n, i)
		}
		if i := impl.BestSample(high24, list); i != 0 {
			t.Errorf("BestSample of %d = %d", n, i)
		}
		for i := range n {
			for _, bad := range unfit(high24) {
				refuseBest(t, high24, list, bad)
				worse := slices.Clone(list)
				worse[i] = bad
				refuseBest(t, high24, worse, "\x00\x01")
				refuseSamples(high24, worse)
			}
		}
		for _, s := range wrongSettings() {
			refuseBest(t, s, list, "\x00")
			refuseBest(t, s, list, "")
			refuseSamples(s, list)
			refuseSamples(s, slices.Repeat([]string{""}, n))
		}
	}
	for _, list := range [][]string{nil, {}, make([]string, 9), slices.Repeat([]string{"\x01\x00"}, 9), make([]string, 100000)} {
		for _, data := range []string{"", "\x00\x01"} {
			refuseBest(t, high24, list, data)
		}
		refuseSamples(high24, list)
	}
}

func TestDataThatDoesNotFitWithADictionary(t *testing.T) {
	for _, s := range allSettings() {
		for _, data := range unfit(s) {
			refuseData(t, s, "", data)
			refuseData(t, s, "\x00\x01", data)
		}
	}
	for _, s := range wrongSettings() {
		refuseData(t, s, "", "")
	}
}

// Readers with a dictionary read streams of any kind as readers that know its words.
func TestStreamsWithADictionary(t *testing.T) {
	r := newRandom()
	var ends [4]int
	for _, s := range fewSettings() {
		for _, dict := range someDicts(r, s) {
			k := startWith(t, s, dict)
			stream := someStream(t, r, k)
			for _, part := range []string{"", stream, stream[:len(stream)/2], randomData(r, impl.Setting{Literal: 8}, 20)} {
				wantData, wantEnd, wantUsed := impl.Decompress(k, part)
				data, end, used := impl.DecompressWith(s, dict, part)
				if data != wantData || end != wantEnd || used != wantUsed {
					t.Fatalf("DecompressWith(%v, %.20q, %x) = %q, %d, %d, want %q, %d, %d", s, dict, part, data, end, used, wantData, wantEnd, wantUsed)
				}
				ends[end]++
			}
		}
	}
	if ends[impl.EndWhole] == 0 || ends[impl.EndShort] == 0 || ends[impl.EndWrong] == 0 {
		t.Errorf("not all ends have been there: %v", ends)
	}
	zeros := strings.Repeat("\x00", 4001)
	if data, end, used := impl.DecompressWith(high24, "\x00", zeros); data != "" || end != impl.EndInvalid || used != 0 {
		t.Errorf("DecompressWith = %q, %d, %d", data, end, used)
	}
	if data, end, _ := impl.DecompressWith(high24, "\x00", zeros[:4000]); len(data) != 2000 || end != impl.EndLong {
		t.Errorf("DecompressWith = %.20q, %d", data, end)
	}
}

func TestSealedDataIsOpenedAmongOtherDictionaries(t *testing.T) {
	r := newRandom()
	for _, s := range fewSettings() {
		for range 30 {
			// Dictionaries with different checksums, in any order.
			var dicts []string
			seen := map[int]bool{}
			for range 8 {
				dict := randomData(r, s, r.Intn(40))
				if sum := wantSum(dict); !seen[sum] {
					seen[sum] = true
					dicts = append(dicts, dict)
				}
			}
			for i, dict := range dicts {
				data := randomData(r, s, r.Intn(60))
				sealed := seal(t, s, dict, data)
				checkOpen(t, s, dicts, sealed, data, i)
				refuseOpen(t, s, slices.Delete(slices.Clone(dicts), i, i+1), sealed)
				checkOpen(t, s, append(slices.Delete(slices.Clone(dicts), i, i+1), dict), sealed, data, len(dicts)-1)
			}
		}
	}
}

// Of dictionaries with the same checksum only the first one counts, even if the stream is that of another.
func TestDictionariesWithTheSameChecksum(t *testing.T) {
	zeros := "\x00\x00\x00\x00"
	if impl.SumOf(zeros) != impl.SumOf("") {
		t.Fatal("the checksums differ")
	}
	// With the words of zeros, the codes are 4, 6, 5, and before the last one 8 could follow: 100 110 0101.
	sealed := seal(t, high24, zeros, "\x00\x00")
	if sealed != "\x00\x00\x99\x40" {
		t.Fatalf("SealStream = %x", sealed)
	}
	checkOpen(t, high24, []string{zeros, ""}, sealed, "\x00\x00", 0)
	checkOpen(t, high24, []string{"\x01", zeros, ""}, sealed, "\x00\x00", 1)
	// Without these words, 6 cannot follow.
	refuseOpen(t, high24, []string{"", zeros}, sealed)
	refuseOpen(t, high24, []string{"\x00", zeros}, sealed)
	// The same codes may have other words.
	wide := impl.Setting{Order: impl.OrderHigh, Literal: 8, Most: 10}
	// One more, two less, one more: neither sum changes.
	one, other := "aca", "bab"
	if impl.SumOf(one) != impl.SumOf(other) {
		t.Fatal("the checksums differ")
	}
	sealed = seal(t, wide, one, one)
	checkOpen(t, wide, []string{"zzz", one, other}, sealed, one, 1)
	stream, _ := impl.Compress(startWith(t, wide, one), one)
	data, end, used := impl.DecompressWith(wide, other, stream)
	if end != impl.EndWhole || used != len(stream) || data == one {
		t.Fatalf("DecompressWith = %q, %d, %d", data, end, used)
	}
	checkOpen(t, wide, []string{"zzz", other, one}, sealed, data, 1)
}

func TestWhatIsNotOpened(t *testing.T) {
	dicts := []string{"", "\x01", "\x00\x01\x02"}
	data := "\x00\x01\x02\x00\x01\x02"
	for _, dict := range dicts {
		sealed := seal(t, high24, dict, data)
		for n := range len(sealed) {
			refuseOpen(t, high24, dicts, sealed[:n])
		}
		for _, further := range []string{"\x00", "\xff", "\x00\x00", sealed, strings.Repeat("\x00", 4000)} {
			refuseOpen(t, high24, dicts, sealed+further)
		}
		refuseOpen(t, high24, dicts, sealed[1:])
		refuseOpen(t, high24, dicts, "\x00"+sealed)
		refuseOpen(t, high24, dicts, "\xff\xff"+sealed[2:])
		refuseOpen(t, high24, dicts, "\x00\xff"+sealed[2:])
		refuseOpen(t, high24, nil, sealed)
		refuseOpen(t, high24, []string{}, sealed)
		for _, s := range wrongSettings() {
			refuseOpen(t, s, dicts, sealed)
			refuseOpen(t, s, []string{""}, "\x00\x00\x94")
		}
		// 8 dictionaries may be there, and 9 may not, also if the right one is the first.
		others := slices.Repeat([]string{"\x03"}, 8)
		checkOpen(t, high24, append([]string{dict}, others[:7]...), sealed, data, 0)
		checkOpen(t, high24, append(slices.Clone(others[:7]), dict), sealed, data, 7)
		refuseOpen(t, high24, append([]string{dict}, others...), sealed)
		refuseOpen(t, high24, append(slices.Clone(others), dict), sealed)
		// A dictionary that does not fit counts behind the right one, too.
		for _, bad := range unfit(high24) {
			refuseOpen(t, high24, []string{dict, bad}, sealed)
			refuseOpen(t, high24, []string{bad, dict}, sealed)
		}
	}
	// Both bytes of a checksum count, and the one of higher value is first.
	sealed := seal(t, high24, "\x01\x02", data)
	if sealed[:2] != "\x04\x03" {
		t.Errorf("SealStream = %x", sealed)
	}
	checkOpen(t, high24, []string{"\x01\x02"}, sealed, data, 0)
	for _, wrong := range []string{"\x03\x04", "\x04\x02", "\x05\x03", "\x04\x04"} {
		refuseOpen(t, high24, []string{"\x01\x02"}, wrong+sealed[2:])
	}
	// A stream must end with the end code: that of codes alone is short, and 100 111 has a wrong code.
	for _, stream := range []string{"", "\x80", "\x9c", "\x92\x49\x24"} {
		refuseOpen(t, high24, []string{""}, "\x00\x00"+stream)
	}
	checkOpen(t, high24, []string{""}, "\x00\x00\x94", "", 0)
	// The end code alone is a stream, too.
	checkOpen(t, high24, []string{"", "\x01"}, "\x01\x01\xa0", "", 1)
}

// No result may share the memory of what is known, and the memory behind its pairs must stay as it is.
func TestNoMemoryOfDictionariesIsShared(t *testing.T) {
	mark := impl.Pair{Prefix: 99, Byte: 99}
	room := slices.Repeat([]impl.Pair{mark}, 12)
	room[0], room[1], room[2] = impl.Pair{Prefix: 0, Byte: 0}, impl.Pair{Prefix: 6, Byte: 1}, impl.Pair{Prefix: 1, Byte: 1}
	before := slices.Clone(room)
	for base := range 4 {
		k := impl.Known{Setting: high24, Pairs: room[:3], Base: base, Last: 0}
		for _, text := range []string{"", "\x00", "\x01\x02\x03\x00\x01\x02\x03\x00"} {
			learned, _ := impl.LearnKnown(k, text)
			again, _ := impl.LearnKnown(learned, "\x03\x03\x02")
			want := impl.FormatKnown(again)
			impl.WordUses(k, text)
			impl.KnownWords(k)
			impl.SharedWords(k, learned)
			spare := learned.Pairs[:cap(learned.Pairs)]
			for i := range spare {
				spare[i] = mark
			}
			if got := impl.FormatKnown(again); got != want {
				t.Errorf("%q becomes %q", want, got)
			}
			if !slices.Equal(room, before) {
				t.Fatalf("the pairs are %v, and were %v", room, before)
			}
		}
	}
	words := impl.KnownWords(startWith(t, high24, "\x00\x01\x02"))
	words[0] = ""
	if got := impl.KnownWords(startWith(t, high24, "\x00\x01\x02"))[0]; got != "\x00\x01" {
		t.Errorf("KnownWords = %q", got)
	}
}

// No function changes the dictionaries that it is given.
func TestListsOfDictionariesStay(t *testing.T) {
	dicts := []string{"\x00\x01\x00", "", "\x02\x02"}
	before := slices.Clone(dicts)
	impl.BestDict(high24, dicts, "\x00\x01")
	impl.BestSample(high24, dicts)
	impl.OpenStream(high24, dicts, seal(t, high24, "", "\x01"))
	if !slices.Equal(dicts, before) {
		t.Errorf("the dictionaries are %q", dicts)
	}
}
