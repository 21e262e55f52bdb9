package tests

// Promise 3: a writer and a reader do not depend on how their data and streams are cut,
// and go on from a saved state as if they had not stopped.

import (
	"fmt"
	"math/rand"
	"reflect"
	"slices"
	"strings"
	"testing"

	"loop.example/soughtstreams/impl"
)

func dash(text string) string {
	if text == "" {
		return "-"
	}
	return text
}

// The texts of states, written as the document says, also for states that are not valid.

func knownText(k impl.Known) string {
	var pairs []string
	for _, p := range k.Pairs {
		pairs = append(pairs, fmt.Sprintf("%d.%d", p.Prefix, p.Byte))
	}
	order := fmt.Sprint(k.Setting.Order)
	if k.Setting.Order == 0 || k.Setting.Order == 1 {
		order = []string{"low", "high"}[k.Setting.Order]
	}
	return fmt.Sprintf("%s %d %d;%d;%d;%s", order, k.Setting.Literal, k.Setting.Most, k.Base, k.Last, dash(strings.Join(pairs, ",")))
}

func writerText(w impl.Writer) string {
	begun := "new"
	if w.Begun {
		begun = "begun"
	}
	return fmt.Sprintf("%s|%s|%s|%s", knownText(w.Known), dash(fmt.Sprintf("%x", w.Pending)), dash(w.Bits), begun)
}

func readerText(r impl.Reader) string {
	return fmt.Sprintf("%s|%s|%d|%d|%d", knownText(r.Known), dash(r.Bits), r.Size, r.Count, r.End)
}

// A writerModel writes as the document says, with the list of words of a model.
type writerModel struct {
	*model
	pending, bits string
	begun         bool
}

func (m *writerModel) put(code int) {
	m.bits += wantBits(m.known.Setting.Order, code, m.width())
	if code != m.end() {
		m.after(code)
	}
}

func (m *writerModel) begin() {
	if !m.begun {
		m.put(m.clear())
		m.begun = true
	}
}

// write returns the bits of the whole bytes.
func (m *writerModel) write(data string) string {
	if data == "" {
		return ""
	}
	m.begin()
	m.pending += data
	for m.codeOfWord(m.pending) < 0 {
		w := m.longest(m.pending)
		m.put(m.codeOfWord(w))
		m.pending = m.pending[len(w):]
		if len(m.words) > m.last() && len(m.known.Pairs) > m.known.Base {
			m.put(m.clear())
		}
	}
	n := len(m.bits) - len(m.bits)%8
	whole := m.bits[:n]
	m.bits = m.bits[n:]
	return whole
}

// close returns the bits that are left.
func (m *writerModel) close() string {
	m.begin()
	if m.pending != "" {
		m.put(m.codeOfWord(m.pending))
	}
	m.put(m.end())
	return m.bits
}

func (m *writerModel) state() impl.Writer {
	return impl.Writer{Known: m.known, Pending: m.pending, Bits: m.bits, Begun: m.begun}
}

// A readerModel reads bit by bit.
type readerModel struct {
	*model
	bits               string
	size, count, ended int
}

// read returns the data and the number of bytes used.
func (m *readerModel) read(t *testing.T, stream string) (string, int) {
	t.Helper()
	further, ok := impl.UnpackBits(m.known.Setting.Order, stream)
	if !ok {
		t.Fatal("the stream has no bits")
	}
	data, used := "", 0
	for i := 0; i < len(further) && m.ended == impl.EndShort; i++ {
		m.bits += further[i : i+1]
		used = i/8 + 1
		if len(m.bits) == m.width() {
			data += m.take(t)
		}
	}
	return data, used
}

// take reads the code that the bits are, and returns its word.
func (m *readerModel) take(t *testing.T) string {
	code, ok := impl.BitsCode(m.known.Setting.Order, m.bits)
	if !ok {
		t.Fatalf("%q is no code", m.bits)
	}
	m.bits = ""
	words := m.following()
	if code >= len(words) {
		m.ended = impl.EndWrong
		return ""
	}
	if m.size+len(words[code]) > 2000 {
		m.ended = impl.EndLong
		return ""
	}
	m.size += len(words[code])
	m.count++
	if code == m.end() {
		m.ended = impl.EndWhole
		return ""
	}
	m.after(code)
	if m.count == 3100 {
		m.ended = impl.EndLong
	}
	return words[code]
}

func (m *readerModel) state() impl.Reader {
	return impl.Reader{Known: m.known, Bits: m.bits, Size: m.size, Count: m.count, End: m.ended}
}

// cut returns the parts of a text, cut at random places, some of them empty.
func cut(r *rand.Rand, text string) []string {
	var parts []string
	for text != "" {
		n := r.Intn(min(len(text), 1+r.Intn(20)) + 1)
		parts = append(parts, text[:n])
		text = text[n:]
	}
	return append(parts, "")
}

// single returns the bytes of a text.
func single(text string) []string {
	var parts []string
	for i := range len(text) {
		parts = append(parts, text[i:i+1])
	}
	return parts
}

func newWriter(t *testing.T, k impl.Known) impl.Writer {
	t.Helper()
	w, ok := impl.NewWriter(k)
	if !ok || !impl.WriterValid(w) {
		t.Fatalf("NewWriter(%v) = %v, %v", k, w, ok)
	}
	return w
}

func newReader(t *testing.T, k impl.Known) impl.Reader {
	t.Helper()
	r, ok := impl.NewReader(k)
	if !ok || !impl.ReaderValid(r) {
		t.Fatalf("NewReader(%v) = %v, %v", k, r, ok)
	}
	return r
}

// savedWriter returns the writer that is read from the text of another one.
func savedWriter(t *testing.T, w impl.Writer) impl.Writer {
	t.Helper()
	text := impl.FormatWriter(w)
	if text != writerText(w) {
		t.Fatalf("FormatWriter = %q, want %q", text, writerText(w))
	}
	saved, ok := impl.ParseWriter(text)
	if !ok || writerText(saved) != text || !impl.WriterValid(saved) {
		t.Fatalf("ParseWriter(%q) = %v, %v", text, saved, ok)
	}
	return saved
}

func savedReader(t *testing.T, r impl.Reader) impl.Reader {
	t.Helper()
	text := impl.FormatReader(r)
	if text != readerText(r) {
		t.Fatalf("FormatReader = %q, want %q", text, readerText(r))
	}
	saved, ok := impl.ParseReader(text)
	if !ok || readerText(saved) != text || !impl.ReaderValid(saved) {
		t.Fatalf("ParseReader(%q) = %v, %v", text, saved, ok)
	}
	return saved
}

// checkWriter checks each step of a writer, which is saved between them, and returns the stream.
func checkWriter(t *testing.T, w impl.Writer, parts []string) string {
	t.Helper()
	m := &writerModel{modelOf(w.Known), w.Pending, w.Bits, w.Begun}
	order := w.Known.Setting.Order
	stream := ""
	for _, part := range parts {
		want := wantBytes(t, order, m.write(part))
		next, out, ok := impl.WriteData(savedWriter(t, w), part)
		if out != want || !ok || writerText(next) != writerText(m.state()) {
			t.Fatalf("WriteData(%q, %q) = %q, %x, %v, want %q, %x", writerText(w), part, writerText(next), out, ok, writerText(m.state()), want)
		}
		stream += out
		w = next
	}
	want := wantBytes(t, order, m.close())
	out, ok := impl.CloseWriter(savedWriter(t, w))
	if out != want || !ok {
		t.Fatalf("CloseWriter(%q) = %x, %v, want %x", writerText(w), out, ok, want)
	}
	return stream + out
}

// checkReader checks each step of a reader, which is saved between them.
func checkReader(t *testing.T, r impl.Reader, parts []string) impl.Reader {
	t.Helper()
	m := &readerModel{modelOf(r.Known), r.Bits, r.Size, r.Count, r.End}
	for _, part := range parts {
		wantData, wantUsed := m.read(t, part)
		next, data, used, ok := impl.ReadStream(savedReader(t, r), part)
		if data != wantData || used != wantUsed || !ok || readerText(next) != readerText(m.state()) {
			t.Fatalf("ReadStream(%q, %x) = %q, %.20q, %d, %v, want %q, %.20q, %d", readerText(r), part, readerText(next), data, used, ok, readerText(m.state()), wantData, wantUsed)
		}
		r = next
		needs := 0
		if m.ended == impl.EndShort {
			needs = m.width() - len(m.bits)
		}
		if got := impl.ReaderNeeds(r); got != needs {
			t.Fatalf("ReaderNeeds(%q) = %d, want %d", readerText(r), got, needs)
		}
	}
	return r
}

func checkAllRead(t *testing.T, k impl.Known, parts []string, wantData string, wantEnd, wantUsed int) {
	t.Helper()
	data, end, used := impl.ReadAll(k, parts)
	if data != wantData || end != wantEnd || used != wantUsed {
		t.Fatalf("ReadAll(%v, %.20x) = %.20q, %d, %d, want %.20q, %d, %d", k, parts, data, end, used, wantData, wantEnd, wantUsed)
	}
}

func TestExampleOfChapter3(t *testing.T) {
	w := newWriter(t, start(t, high24))
	w, out, ok := impl.WriteData(w, "\x00\x00\x00")
	if text := impl.FormatWriter(w); text != "high 2 4;0;0;-|0000|100000|begun" || out != "" || !ok {
		t.Errorf("WriteData = %q, %x, %v", text, out, ok)
	}
	if out, ok := impl.CloseWriter(w); out != "\x83\x50" || !ok {
		t.Errorf("CloseWriter = %x, %v", out, ok)
	}
}

func TestTextsOfWhatIsKnown(t *testing.T) {
	list := manyKnown(newRandom())
	for _, s := range allSettings() {
		list = append(list, start(t, s))
	}
	for _, k := range list {
		text := impl.FormatKnown(k)
		if text != knownText(k) {
			t.Fatalf("FormatKnown(%v) = %q", k, text)
		}
		if got, ok := impl.ParseKnown(text); !sameKnown(got, k) || !ok {
			t.Fatalf("ParseKnown(%q) = %v, %v", text, got, ok)
		}
	}
}

func TestWhatCannotBeKnownHasNoText(t *testing.T) {
	for _, k := range wrongKnown() {
		if text := impl.FormatKnown(k); text != "" {
			t.Errorf("FormatKnown(%v) = %q", k, text)
		}
		refuseKnown(t, knownText(k))
	}
}

// refuseKnown checks that a text is that of nothing that is known, and that no state has it as a part.
func refuseKnown(t *testing.T, text string) {
	t.Helper()
	if k, ok := impl.ParseKnown(text); ok || !reflect.DeepEqual(k, impl.Known{}) {
		t.Errorf("ParseKnown(%.40q) = %v, %v", text, k, ok)
	}
	refuseWriter(t, text+"|-|-|new")
	refuseReader(t, text+"|-|0|0|1")
}

func refuseWriter(t *testing.T, text string) {
	t.Helper()
	if w, ok := impl.ParseWriter(text); ok || !reflect.DeepEqual(w, impl.Writer{}) {
		t.Errorf("ParseWriter(%.60q) = %v, %v", text, w, ok)
	}
}

func refuseReader(t *testing.T, text string) {
	t.Helper()
	if r, ok := impl.ParseReader(text); ok || !reflect.DeepEqual(r, impl.Reader{}) {
		t.Errorf("ParseReader(%.60q) = %v, %v", text, r, ok)
	}
}

func TestParseKnownRefuses(t *testing.T) {
	texts := []string{
		"", ";", ";;;", "-", "high 2 4", "high 2 4;0", "high 2 4;0;-1", "high 2 4;0;-1;", "high 2 4;0;-1;-;", "high 2 4;0;-1;-;-", ";high 2 4;0;-1;-",
		" high 2 4;0;-1;-", "high 2 4;0;-1;- ", "high 2 4; 0;-1;-", "high 2 4;0;-1;-\n", "high 2 4,0,-1,-", "high 2 4;;-1;-", "high 2 4;0;;-",
		"High 2 4;0;-1;-", "high  2 4;0;-1;-", "high 2 3;0;-1;-", "mid 2 4;0;-1;-", ";0;-1;-",
		"high 2 4;00;-1;-", "high 2 4;-0;-1;-", "high 2 4;+0;-1;-", "high 2 4;0x0;-1;-", "high 2 4;0.0;-1;-", "high 2 4;1;-1;-", "high 2 4;-1;-1;-", "high 2 4;-;-1;-",
		"high 2 4;0;-01;-", "high 2 4;0;-2;-", "high 2 4;0;+0;-", "high 2 4;0;00;-", "high 2 4;0;4;-", "high 2 4;0;6;-", "high 2 4;0;-;-", "high 2 4;0;0;--",
		"high 2 4;0;0;0", "high 2 4;0;0;.", "high 2 4;0;0;0.", "high 2 4;0;0;.0", "high 2 4;0;0;0.1.", "high 2 4;0;0;0.1.2", "high 2 4;0;0;0.1,", "high 2 4;0;0;,0.1", "high 2 4;0;0;0.1,,1.2", "high 2 4;0;0;,",
		"high 2 4;0;0;0.1, 1.2", "high 2 4;0;0;0.1;1.2", "high 2 4;0;0;0.1 1.2", "high 2 4;0;0;0:1", "high 2 4;0;0;0.1,-", "high 2 4;0;0;-,0.1",
		"high 2 4;0;0;00.1", "high 2 4;0;0;0.01", "high 2 4;0;0;+0.1", "high 2 4;0;0;0.+1", "high 2 4;0;0;-0.1", "high 2 4;0;0;0.-1", "high 2 4;0;0;0.4", "high 2 4;0;0;4.0", "high 2 4;0;0;6.0", "high 2 4;0;-1;0.1",
		"high 2 4;0;0;18446744073709551616.0", "high 2 4;18446744073709551616;0;-", "high 2 4;0;18446744073709551616;-",
		"high 2 4;0;0;" + strings.Repeat("0.0,", 9) + "0.0,0.0", "high 2 4;0;0;" + strings.Repeat("0.0,", 100000) + "0.0", strings.Repeat(";", 100000),
	}
	for _, text := range texts {
		refuseKnown(t, text)
	}
	// As many pairs as there are codes have a text.
	for _, text := range []string{"high 2 4;0;0;" + strings.Repeat("0.0,", 9) + "0.0", "high 2 4;10;-1;" + strings.Repeat("0.0,", 9) + "0.0"} {
		if k, ok := impl.ParseKnown(text); !ok || impl.FormatKnown(k) != text {
			t.Errorf("ParseKnown(%q) = %v, %v", text, k, ok)
		}
	}
}

func TestNewWritersAndReaders(t *testing.T) {
	for _, k := range manyKnown(newRandom()) {
		if w := newWriter(t, k); writerText(w) != knownText(k)+"|-|-|new" {
			t.Errorf("NewWriter(%v) = %v", k, w)
		}
		r := newReader(t, k)
		if readerText(r) != knownText(k)+"|-|0|0|1" {
			t.Errorf("NewReader(%v) = %v", k, r)
		}
		if got := impl.ReaderNeeds(r); got != impl.Width(k) {
			t.Errorf("ReaderNeeds = %d, want %d", got, impl.Width(k))
		}
	}
	for _, k := range wrongKnown() {
		if w, ok := impl.NewWriter(k); ok || !reflect.DeepEqual(w, impl.Writer{}) {
			t.Errorf("NewWriter(%v) = %v, %v", k, w, ok)
		}
		if r, ok := impl.NewReader(k); ok || !reflect.DeepEqual(r, impl.Reader{}) {
			t.Errorf("NewReader(%v) = %v, %v", k, r, ok)
		}
		for _, parts := range [][]string{nil, {""}, {"\x00"}, {"\x83", "\x50"}} {
			if stream, ok := impl.WriteAll(k, parts); stream != "" || ok {
				t.Errorf("WriteAll(%v, %q) = %x, %v", k, parts, stream, ok)
			}
			checkAllRead(t, k, parts, "", impl.EndInvalid, 0)
		}
	}
}

// refusedWriter checks that a writer is not valid.
func refusedWriter(t *testing.T, w impl.Writer) {
	t.Helper()
	if impl.WriterValid(w) {
		t.Errorf("WriterValid(%q) is true", writerText(w))
	}
	for _, data := range []string{"", "\x00", "\x00\x01\x00"} {
		if next, out, ok := impl.WriteData(w, data); ok || out != "" || !reflect.DeepEqual(next, impl.Writer{}) {
			t.Errorf("WriteData(%q, %q) = %v, %x, %v", writerText(w), data, next, out, ok)
		}
	}
	if out, ok := impl.CloseWriter(w); out != "" || ok {
		t.Errorf("CloseWriter(%q) = %x, %v", writerText(w), out, ok)
	}
	if text := impl.FormatWriter(w); text != "" {
		t.Errorf("FormatWriter = %q", text)
	}
	if !strings.Contains(w.Bits, "-") {
		refuseWriter(t, writerText(w))
	}
}

func TestWhatIsNoWriter(t *testing.T) {
	refusedWriter(t, impl.Writer{})
	for _, k := range wrongKnown() {
		refusedWriter(t, impl.Writer{Known: k})
		refusedWriter(t, impl.Writer{Known: k, Begun: true})
		refusedWriter(t, impl.Writer{Known: k, Pending: "\x00", Bits: "1", Begun: true})
	}
	k := impl.Known{Setting: high24, Pairs: []impl.Pair{{Prefix: 0, Byte: 1}}, Last: 6}
	list := []impl.Writer{
		{Known: k, Pending: "\x00"}, {Known: k, Bits: "1"}, {Known: k, Pending: "\x00", Bits: "1"},
		{Known: k, Pending: "\x04", Begun: true}, {Known: k, Pending: "\x06", Begun: true}, {Known: k, Pending: "\x00\xff", Begun: true},
		{Known: k, Pending: "\x00\x00", Begun: true}, {Known: k, Pending: "\x00\x01\x01", Begun: true}, {Known: k, Pending: "\x00\x01\x00\x01", Begun: true},
		{Known: k, Pending: strings.Repeat("\x00", 2001), Begun: true},
	}
	for _, bits := range []string{"11111111", "10000000010", "2", "01x", "-", " ", "0 ", "\x00", "\x01", "|", strings.Repeat("0", 32000), strings.Repeat("0", 32001)} {
		list = append(list, impl.Writer{Known: k, Bits: bits, Begun: true})
	}
	for _, w := range list {
		refusedWriter(t, w)
	}
}

func TestWhatIsAWriter(t *testing.T) {
	k := impl.Known{Setting: high24, Pairs: []impl.Pair{{Prefix: 0, Byte: 1}}, Last: 6}
	list := []impl.Writer{{Known: k}, {Known: k, Begun: true}}
	// The last of these words is that of the next code.
	for _, pending := range []string{"\x00", "\x01", "\x03", "\x00\x01", "\x00\x01\x00"} {
		for _, bits := range []string{"", "0", "1", "1010101", "0000000", "1111111"} {
			list = append(list, impl.Writer{Known: k, Pending: pending, Bits: bits, Begun: true})
		}
	}
	for _, w := range list {
		if !impl.WriterValid(w) {
			t.Errorf("WriterValid(%q) is false", writerText(w))
		}
		savedWriter(t, w)
		checkWriter(t, w, nil)
		checkWriter(t, w, []string{"\x00\x01\x00\x00\x03", "\x01"})
	}
}

func TestParseWriterRefuses(t *testing.T) {
	for _, text := range []string{
		"", "|||", "|-|-|new", "high 2 4;0;-1;-", "high 2 4;0;-1;-|-|-", "high 2 4;0;-1;-|-|-|", "high 2 4;0;-1;-|-|-|new|", "high 2 4;0;-1;-|-|-|new|new", "|high 2 4;0;-1;-|-|-|new",
		"high 2 4;0;-1;-|-|-|New", "high 2 4;0;-1;-|-|-|old", "high 2 4;0;-1;-|-|-|begin", "high 2 4;0;-1;-|-|-|newbegun", "high 2 4;0;-1;-|-|-| new", "high 2 4;0;-1;-|-|-|new ", "high 2 4;0;-1;-|-|-|-", "high 2 4;0;-1;-|-|-|0",
		"high 2 4;0;-1;-||-|new", "high 2 4;0;-1;-|-||new", "high 2 4;0;-1;-|--|-|new", "high 2 4;0;-1;-|-|--|new", "high 2 4;0;-1;-;-|-|-|new", "high 2 4;0;-1;- |-|-|new",
		"high 2 4;0;-1;-|00|-|new", "high 2 4;0;-1;-|-|0|new", "high 2 4;0;-1;-||-|begun", "high 2 4;0;-1;-|0|-|begun", "high 2 4;0;-1;-|0g|-|begun", "high 2 4;0;-1;-|000|-|begun", "high 2 4;0;-1;-|04|-|begun", "high 2 4;0;0;-|0001|-|begun",
		"high 2 4;0;-1;-|-|00000000|begun", "high 2 4;0;-1;-|-|2|begun", "high 2 4;0;-1;-|-|-1|begun", "high 2 4;0;-1;-|-|0-|begun",
		"high 4 6;0;-1;-|0A|-|begun", "high 2 4;0;-1;-|" + strings.Repeat("00", 2001) + "|-|begun", strings.Repeat("|", 100000),
	} {
		refuseWriter(t, text)
	}
}

// No data at all is a stream of a clear code and an end code.
func TestAWriterThatHasNotBegun(t *testing.T) {
	w := newWriter(t, start(t, high24))
	for _, parts := range [][]string{nil, {""}, {"", "", ""}} {
		if stream := checkWriter(t, w, parts); stream != "\x94" {
			t.Errorf("the stream is %x", stream)
		}
		if stream, ok := impl.WriteAll(w.Known, parts); stream != "\x94" || !ok {
			t.Errorf("WriteAll = %x, %v", stream, ok)
		}
	}
	// The clear code has the width of what is known before it, and the others those behind it.
	full := impl.Known{Setting: high24, Pairs: make([]impl.Pair, 10), Last: 15}
	w = newWriter(t, full)
	next, out, ok := impl.WriteData(w, "")
	if writerText(next) != writerText(w) || out != "" || !ok || next.Begun {
		t.Errorf("WriteData = %q, %x, %v", writerText(next), out, ok)
	}
	// 0100 and 101
	if out, ok := impl.CloseWriter(w); out != "\x4a" || !ok {
		t.Errorf("CloseWriter = %x, %v", out, ok)
	}
	next, out, ok = impl.WriteData(w, "\x01")
	if writerText(next) != "high 2 4;0;-1;-|01|0100|begun" || out != "" || !ok {
		t.Errorf("WriteData = %q, %x, %v", writerText(next), out, ok)
	}
	// A writer that has begun writes no clear code at its end.
	if out, ok := impl.CloseWriter(impl.Writer{Known: start(t, high24), Begun: true}); out != "\xa0" || !ok {
		t.Errorf("CloseWriter = %x, %v", out, ok)
	}
	for _, k := range smallKnown(newRandom()) {
		checkWriter(t, newWriter(t, k), []string{"", ""})
	}
}

func TestNoDataLeavesAWriterAsItIs(t *testing.T) {
	r := newRandom()
	for _, k := range smallKnown(r) {
		w := newWriter(t, k)
		for _, part := range cut(r, randomData(r, k.Setting, 20)) {
			w, _, _ = impl.WriteData(w, part)
			same, out, ok := impl.WriteData(w, "")
			if writerText(same) != writerText(w) || out != "" || !ok {
				t.Fatalf("WriteData(%q) = %q, %x, %v", writerText(w), writerText(same), out, ok)
			}
		}
	}
}

func TestAWriterDoesNotDependOnHowItsDataIsCut(t *testing.T) {
	r := newRandom()
	for _, k := range smallKnown(r) {
		for _, n := range []int{1, 2, 60} {
			data := randomData(r, k.Setting, n)
			want, ok := impl.Compress(k, data)
			if !ok {
				t.Fatalf("Compress(%v, %q) is false", k, data)
			}
			i := r.Intn(n + 1)
			for _, parts := range [][]string{{data}, single(data), cut(r, data), {data[:i], data[i:]}} {
				if stream := checkWriter(t, newWriter(t, k), parts); stream != want {
					t.Fatalf("the stream of %q is %x, want %x", parts, stream, want)
				}
				if stream, ok := impl.WriteAll(k, parts); stream != want || !ok {
					t.Fatalf("WriteAll(%v, %q) = %x, %v, want %x", k, parts, stream, ok, want)
				}
			}
		}
	}
}

func TestLongDataIsWrittenInParts(t *testing.T) {
	r := newRandom()
	for _, s := range allSettings() {
		for _, k := range []impl.Known{start(t, s), randomKnown(r, s, mostPairs(s)/2), randomKnown(r, s, mostPairs(s)-1), randomKnown(r, s, mostPairs(s))} {
			for _, data := range []string{randomData(r, s, 2000), strings.Repeat("\x01", 2000)} {
				want, ok := impl.Compress(k, data)
				if !ok {
					t.Fatalf("Compress(%v) is false", k)
				}
				for _, parts := range [][]string{{data}, single(data), cut(r, data)} {
					if stream, ok := impl.WriteAll(k, parts); stream != want || !ok {
						t.Fatalf("WriteAll(%v) = %x, %v, want %x", k, stream, ok, want)
					}
				}
				checkAllRead(t, k, cut(r, want), data, impl.EndWhole, len(want))
			}
		}
	}
}

// A table with room for one word needs the most bits: a clear code behind each two words.
func TestTheMostBitsOfOnePart(t *testing.T) {
	s := impl.Setting{Order: impl.OrderHigh, Literal: 8, Most: 10}
	k := impl.Known{Setting: s, Pairs: make([]impl.Pair, 766), Base: 765, Last: 0}
	w := impl.Writer{Known: k, Bits: "1111111", Begun: true}
	data := strings.Repeat("\x01\x02", 1000)
	next, out, ok := impl.WriteData(w, data)
	// A clear code follows the first word, and then each second one, but the last word is kept: 1999 words and 1000 clear codes.
	if !ok || next.Pending != "\x02" || len(out) != (7+2999*10)/8 {
		t.Fatalf("WriteData returns %d bytes, %v", len(out), ok)
	}
	checkWriter(t, w, []string{data})
}

func TestWritersOfMoreThanMaxData(t *testing.T) {
	r := newRandom()
	for _, s := range []impl.Setting{high24, {Order: impl.OrderLow, Literal: 8, Most: 10}, {Order: impl.OrderLow, Literal: 1, Most: 3}} {
		k := start(t, s)
		data := randomData(r, s, 5000)
		m := &writerModel{modelOf(k), "", "", false}
		want := wantBytes(t, s.Order, m.write(data)+m.close())
		for _, parts := range [][]string{single(data), cut(r, data), {data[:1500], data[1500:3000], data[3000:4500], data[4500:]}} {
			if stream, ok := impl.WriteAll(k, parts); stream != want || !ok {
				t.Fatalf("WriteAll(%v) = %x, %v, want %x", k, stream, ok, want)
			}
		}
	}
}

func TestDataThatDoesNotFitAWriter(t *testing.T) {
	refuse := func(w impl.Writer, data string) {
		t.Helper()
		if next, out, ok := impl.WriteData(w, data); ok || out != "" || !reflect.DeepEqual(next, impl.Writer{}) {
			t.Errorf("WriteData(%q, %.20q) = %v, %x, %v", writerText(w), data, next, out, ok)
		}
	}
	for _, s := range allSettings() {
		w := newWriter(t, start(t, s))
		pending, _, ok := impl.WriteData(w, "\x00\x00\x00")
		if !ok || pending.Pending != "\x00\x00" {
			t.Fatalf("WriteData = %v, %v", pending, ok)
		}
		refuse(w, strings.Repeat("\x00", 2001))
		refuse(pending, strings.Repeat("\x00", 1999))
		if _, _, ok := impl.WriteData(w, strings.Repeat("\x00", 2000)); !ok {
			t.Error("WriteData refuses 2000 bytes")
		}
		if _, _, ok := impl.WriteData(pending, strings.Repeat("\x00", 1998)); !ok {
			t.Error("WriteData refuses 1998 bytes behind 2")
		}
		if s.Literal < 8 {
			for _, b := range []byte{1 << s.Literal, 1<<s.Literal + 1, 1<<s.Literal + 2, 255} {
				refuse(w, string([]byte{b}))
				refuse(pending, string([]byte{0, 1, b}))
				if stream, ok := impl.WriteAll(w.Known, []string{"\x00", string([]byte{b})}); stream != "" || ok {
					t.Errorf("WriteAll = %x, %v", stream, ok)
				}
			}
		}
	}
	k := start(t, high24)
	for _, parts := range [][]string{{strings.Repeat("\x00", 2001)}, {"\x00", strings.Repeat("\x00", 2000)}, {"\x00", "", "\x04"}, {"\x04", "\x00"}} {
		if stream, ok := impl.WriteAll(k, parts); stream != "" || ok {
			t.Errorf("WriteAll(%.20q) = %x, %v", parts, stream, ok)
		}
	}
}

// A full table is only cleared behind a word, and not when a writer is closed.
func TestAWriterWithAFullTable(t *testing.T) {
	pairs := make([]impl.Pair, 10)
	w := impl.Writer{Known: impl.Known{Setting: high24, Pairs: pairs, Base: 9, Last: 0}, Pending: "\x00", Begun: true}
	// 0000 and 0101
	if out, ok := impl.CloseWriter(w); out != "\x05" || !ok {
		t.Errorf("CloseWriter = %x, %v", out, ok)
	}
	// The word is written, and then the clear code; the next word is kept.
	next, out, ok := impl.WriteData(w, "\x01")
	if text := writerText(next); text != "high 2 4;9;-1;"+strings.Repeat("0.0,", 8)+"0.0|01|-|begun" || out != "\x04" || !ok {
		t.Errorf("WriteData = %q, %x, %v", text, out, ok)
	}
	// If all words are kept, there is no clear code.
	w.Known.Base = 10
	next, out, ok = impl.WriteData(w, "\x01")
	if text := writerText(next); text != "high 2 4;10;0;"+strings.Repeat("0.0,", 9)+"0.0|01|0000|begun" || out != "" || !ok {
		t.Errorf("WriteData = %q, %x, %v", text, out, ok)
	}
	// Data that makes a longer word is not written yet.
	w.Known.Base = 9
	next, out, ok = impl.WriteData(w, "\x00")
	if next.Pending != "\x00\x00" || next.Bits != "" || out != "" || !ok {
		t.Errorf("WriteData = %q, %x, %v", writerText(next), out, ok)
	}
}

// refusedReader checks that a reader is not valid.
func refusedReader(t *testing.T, r impl.Reader) {
	t.Helper()
	if impl.ReaderValid(r) {
		t.Errorf("ReaderValid(%q) is true", readerText(r))
	}
	for _, stream := range []string{"", "\x00", "\x83\x50"} {
		if next, data, used, ok := impl.ReadStream(r, stream); ok || data != "" || used != 0 || !reflect.DeepEqual(next, impl.Reader{}) {
			t.Errorf("ReadStream(%q, %x) = %v, %q, %d, %v", readerText(r), stream, next, data, used, ok)
		}
	}
	if got := impl.ReaderNeeds(r); got != -1 {
		t.Errorf("ReaderNeeds(%q) = %d", readerText(r), got)
	}
	if text := impl.FormatReader(r); text != "" {
		t.Errorf("FormatReader = %q", text)
	}
	if !strings.Contains(r.Bits, "-") {
		refuseReader(t, readerText(r))
	}
}

func TestWhatIsNoReader(t *testing.T) {
	for _, k := range wrongKnown() {
		for end := range 5 {
			refusedReader(t, impl.Reader{Known: k, End: end})
		}
	}
	k := start(t, high24)
	list := []impl.Reader{
		{Known: k, Bits: "000", End: 1}, {Known: k, Bits: "0000", End: 1}, {Known: k, Count: 3100, End: 1}, {Known: k, Count: 3101, End: 3},
		{Known: k, Size: 2001, End: 1}, {Known: k, Size: 2001, End: 3}, {Known: k, Size: 2001},
		{Known: k, Bits: "0"}, {Known: k, Bits: "0", End: 2}, {Known: k, Bits: "0", End: 3}, {Known: k, End: 4}, {Known: k, End: 5}, {Known: k, End: -1},
	}
	for _, bits := range []string{"2", "x1", "-", " ", "0 ", "\x00", "\x01", "|", strings.Repeat("0", 32001)} {
		list = append(list, impl.Reader{Known: k, Bits: bits, End: 1}, impl.Reader{Known: k, Bits: bits})
	}
	for _, x := range extremes {
		if x < 0 || x > 3100 {
			list = append(list, impl.Reader{Known: k, Count: x, End: 1}, impl.Reader{Known: k, Count: x}, impl.Reader{Known: k, Size: x, End: 1}, impl.Reader{Known: k, Size: x})
		}
		list = append(list, impl.Reader{Known: k, End: x})
	}
	for _, r := range list {
		refusedReader(t, r)
	}
}

func TestWhatIsAReader(t *testing.T) {
	k := impl.Known{Setting: high24, Pairs: []impl.Pair{{Prefix: 0, Byte: 1}}, Last: 6}
	list := []impl.Reader{
		{Known: k, End: 1}, {Known: k, Bits: "0", End: 1}, {Known: k, Bits: "11", End: 1}, {Known: k, Size: 2000, End: 1}, {Known: k, Count: 3099, End: 1}, {Known: k, Size: 5, End: 1},
		{Known: k}, {Known: k, Count: 3100}, {Known: k, Size: 2000, Count: 3100}, {Known: k, End: 2}, {Known: k, Count: 3100, End: 2}, {Known: k, End: 3}, {Known: k, Size: 2000, Count: 3100, End: 3},
	}
	for _, r := range list {
		if !impl.ReaderValid(r) {
			t.Errorf("ReaderValid(%q) is false", readerText(r))
		}
		savedReader(t, r)
		checkReader(t, r, []string{"", "\x1b\xa0", "\xff", "\x00"})
	}
	for i, want := range []int{3, 2, 1, 3, 3, 3, 0, 0, 0, 0, 0, 0, 0} {
		if got := impl.ReaderNeeds(list[i]); got != want {
			t.Errorf("ReaderNeeds(%q) = %d, want %d", readerText(list[i]), got, want)
		}
	}
}

func TestParseReaderRefuses(t *testing.T) {
	for _, text := range []string{
		"", "||||", "|-|0|0|1", "high 2 4;0;-1;-", "high 2 4;0;-1;-|-|0|0", "high 2 4;0;-1;-|-|0|0|", "high 2 4;0;-1;-|-|0|0|1|", "high 2 4;0;-1;-|-|0|0|1|1", "|high 2 4;0;-1;-|-|0|0|1",
		"high 2 4;0;-1;-||0|0|1", "high 2 4;0;-1;-|-||0|1", "high 2 4;0;-1;-|-|0||1", "high 2 4;0;-1;-|--|0|0|1", "high 2 4;0;-1;-| |0|0|1", "high 2 4;0;-1;-|-|0|0|1 ", "high 2 4;0;-1;- |-|0|0|1", "high 2 4;0;-1;-;-|-|0|0|1",
		"high 2 4;0;-1;-|-|00|0|1", "high 2 4;0;-1;-|-|0|00|1", "high 2 4;0;-1;-|-|0|0|01", "high 2 4;0;-1;-|-|+1|0|1", "high 2 4;0;-1;-|-|-0|0|1", "high 2 4;0;-1;-|-|-1|0|1", "high 2 4;0;-1;-|-|0|-1|1", "high 2 4;0;-1;-|-|0|0|-1", "high 2 4;0;-1;-|-|-|0|1", "high 2 4;0;-1;-|-|0|-|1", "high 2 4;0;-1;-|-|0|0|-",
		"high 2 4;0;-1;-|000|0|0|1", "high 2 4;0;-1;-|2|0|0|1", "high 2 4;0;-1;-|0-|0|0|1", "high 2 4;0;-1;-|0|0|0|0", "high 2 4;0;-1;-|0|0|0|2", "high 2 4;0;-1;-|0|0|0|3", "high 2 4;0;-1;-|-|0|0|4", "high 2 4;0;-1;-|-|2001|0|1", "high 2 4;0;-1;-|-|0|3100|1", "high 2 4;0;-1;-|-|0|3101|3", "high 2 4;0;-1;-|-|0|0|short",
		"high 2 4;0;-1;-|-|18446744073709551616|0|1", "high 2 4;0;-1;-|-|0|18446744073709551616|1", "high 2 4;0;-1;-|-|0|0|18446744073709551617", strings.Repeat("|", 100000),
	} {
		refuseReader(t, text)
	}
}

func TestAReaderDoesNotDependOnHowItsStreamIsCut(t *testing.T) {
	r := newRandom()
	var ends [4]int
	for _, k := range smallKnown(r) {
		for range 6 {
			stream := someStream(t, r, k)
			wantData, wantEnd, wantUsed := impl.Decompress(k, stream)
			i := r.Intn(len(stream) + 1)
			for _, parts := range [][]string{{stream}, single(stream), cut(r, stream), {stream[:i], stream[i:]}} {
				last := checkReader(t, newReader(t, k), parts)
				if last.End != wantEnd || last.Size != len(wantData) {
					t.Fatalf("the reader of %x is at last %q", parts, readerText(last))
				}
				checkAllRead(t, k, parts, wantData, wantEnd, wantUsed)
			}
			ends[wantEnd]++
		}
	}
	if ends[impl.EndWhole] == 0 || ends[impl.EndShort] == 0 || ends[impl.EndWrong] == 0 {
		t.Errorf("not all ends have been there: %v", ends)
	}
}

// someStream returns a stream of codes that can follow, with or without an end code and something behind it.
func someStream(t *testing.T, r *rand.Rand, k impl.Known) string {
	t.Helper()
	codes := randomCodes(r, k, r.Intn(30))
	if r.Intn(2) == 0 {
		codes = append(codes, 1<<k.Setting.Literal+1)
	}
	stream, ok := impl.PackCodes(k, codes)
	if !ok {
		t.Fatalf("PackCodes(%v, %v) is false", k, codes)
	}
	further := make([]byte, r.Intn(4))
	r.Read(further)
	return stream + string(further)
}

func TestWhatIsWrittenInPartsIsReadInParts(t *testing.T) {
	r := newRandom()
	for _, k := range manyKnown(r) {
		data := randomData(r, k.Setting, r.Intn(300))
		stream, ok := impl.WriteAll(k, cut(r, data))
		if !ok {
			t.Fatalf("WriteAll(%v, %q) is false", k, data)
		}
		checkAllRead(t, k, single(stream), data, impl.EndWhole, len(stream))
		checkAllRead(t, k, cut(r, stream+"\x00\xff"), data, impl.EndWhole, len(stream))
	}
}

// The bits behind the end code are neither kept nor counted, in the same byte and in others.
func TestBitsBehindTheEndCode(t *testing.T) {
	for _, order := range orders {
		k := start(t, impl.Setting{Order: order, Literal: 2, Most: 4})
		whole := packed(t, order, []int{4, 0, 6, 5}, []int{3, 3, 3, 3})
		turned := packed(t, order, []int{4, 0, 6, 5, 15}, []int{3, 3, 3, 3, 4})
		for _, stream := range []string{whole, turned} {
			for _, further := range []string{"", "\x00", "\xff\xff", strings.Repeat("\xa5", 3998)} {
				last := checkReader(t, newReader(t, k), []string{stream + further})
				if last.Bits != "" || last.End != impl.EndWhole || last.Size != 3 || last.Count != 4 || impl.ReaderNeeds(last) != 0 {
					t.Errorf("the reader is %q", readerText(last))
				}
				checkAllRead(t, k, []string{stream + further}, "\x00\x00\x00", impl.EndWhole, 2)
				checkAllRead(t, k, []string{stream[:1], stream[1:] + further}, "\x00\x00\x00", impl.EndWhole, 2)
				checkAllRead(t, k, []string{stream, further, further}, "\x00\x00\x00", impl.EndWhole, 2)
			}
		}
		// The end code ends with a byte: none of the next one is used.
		eight := packed(t, order, []int{4, 4, 4, 4, 4, 4, 4, 5}, []int{3, 3, 3, 3, 3, 3, 3, 3})
		for i := range 4 {
			checkAllRead(t, k, []string{eight[:i], eight[i:] + "\xff"}, "", impl.EndWhole, 3)
		}
	}
}

func TestAReaderThatHasEnded(t *testing.T) {
	k := impl.Known{Setting: high24, Pairs: []impl.Pair{{Prefix: 0, Byte: 1}}, Last: 6}
	for _, end := range []int{impl.EndWhole, impl.EndWrong, impl.EndLong} {
		r := impl.Reader{Known: k, Size: 7, Count: 9, End: end}
		for _, stream := range []string{"", "\x00", "\x83\x50", strings.Repeat("\x00", 4000)} {
			next, data, used, ok := impl.ReadStream(r, stream)
			if readerText(next) != readerText(r) || data != "" || used != 0 || !ok {
				t.Errorf("ReadStream(%q) = %q, %q, %d, %v", readerText(r), readerText(next), data, used, ok)
			}
		}
		if next, data, used, ok := impl.ReadStream(r, strings.Repeat("\x00", 4001)); ok || data != "" || used != 0 || !reflect.DeepEqual(next, impl.Reader{}) {
			t.Errorf("ReadStream of 4001 bytes = %v, %q, %d, %v", next, data, used, ok)
		}
	}
	// Each kind of end stays as it is, whatever follows.
	k = start(t, high24)
	for _, order := range orders {
		k.Setting.Order = order
		wrong := packed(t, order, []int{4, 0, 7}, []int{3, 3, 3})
		checkAllRead(t, k, []string{wrong, "\x00", wrong}, "\x00", impl.EndWrong, 2)
		checkAllRead(t, k, []string{wrong[:1], wrong[1:], "\x00", wrong}, "\x00", impl.EndWrong, 2)
		last := checkReader(t, newReader(t, k), []string{wrong, "\x00"})
		if readerText(last) != knownText(impl.Known{Setting: k.Setting})+"|-|1|2|2" {
			t.Errorf("the reader is %q", readerText(last))
		}
	}
}

func TestAReaderOfTooMuchData(t *testing.T) {
	for _, order := range orders {
		k := impl.Known{Setting: impl.Setting{Order: order, Literal: 2, Most: 4}, Pairs: []impl.Pair{{Prefix: 0, Byte: 1}}, Base: 1, Last: -1}
		word := packed(t, order, []int{6}, []int{3})
		r := impl.Reader{Known: k, Size: 1998, Count: 5, End: impl.EndShort}
		next, data, used, ok := impl.ReadStream(r, word)
		if data != "\x00\x01" || used != 1 || !ok || next.Size != 2000 || next.Count < 6 {
			t.Errorf("ReadStream = %q, %q, %d, %v", readerText(next), data, used, ok)
		}
		r.Size = 1999
		next, data, used, ok = impl.ReadStream(r, word+"\x00")
		want := r
		want.End = impl.EndLong
		if readerText(next) != readerText(want) || data != "" || used != 1 || !ok {
			t.Errorf("ReadStream = %q, %q, %d, %v", readerText(next), data, used, ok)
		}
		// With 2000 bytes, codes without a word are read still.
		r.Size = 2000
		next, data, used, ok = impl.ReadStream(r, packed(t, order, []int{4, 5}, []int{3, 3}))
		want = impl.Reader{Known: k, Size: 2000, Count: 7, End: impl.EndWhole}
		if readerText(next) != readerText(want) || data != "" || used != 1 || !ok {
			t.Errorf("ReadStream = %q, %q, %d, %v", readerText(next), data, used, ok)
		}
		zeros := packed(t, order, slices.Repeat([]int{0}, 2001), zeroWidths(2001))
		k = start(t, impl.Setting{Order: order, Literal: 1, Most: 3})
		for _, parts := range [][]string{{zeros}, cut(newRandom(), zeros), single(zeros)} {
			checkReader(t, newReader(t, k), parts)
			checkAllRead(t, k, parts, strings.Repeat("\x00", 2000), impl.EndLong, (2+2*3+1997*3+3+7)/8)
		}
	}
}

// zeroWidths returns the widths of n codes 0 for literals of 1 bit and codes of 3 bits: the second one can be followed by 4.
func zeroWidths(n int) []int {
	widths := slices.Repeat([]int{3}, n)
	widths[0] = 2
	return widths
}

func TestAReaderOfTooManyCodes(t *testing.T) {
	for _, order := range orders {
		k := start(t, impl.Setting{Order: order, Literal: 2, Most: 4})
		r := impl.Reader{Known: k, Count: 3099, End: impl.EndShort}
		check := func(codes, widths []int, wantText, wantData string, wantUsed int) {
			t.Helper()
			next, data, used, ok := impl.ReadStream(r, packed(t, order, codes, widths)+"\x00\x00")
			if readerText(next) != wantText || data != wantData || used != wantUsed || !ok {
				t.Errorf("ReadStream = %q, %q, %d, %v, want %q, %q, %d", readerText(next), data, used, ok, wantText, wantData, wantUsed)
			}
		}
		text := impl.FormatKnown(k)
		begun := strings.Replace(text, "-1", "3", 1)
		check([]int{5}, []int{3}, text+"|-|0|3100|0", "", 1)
		check([]int{4}, []int{3}, text+"|-|0|3100|3", "", 1)
		check([]int{3}, []int{3}, begun+"|-|1|3100|3", "\x03", 1)
		check([]int{6}, []int{3}, text+"|-|0|3099|2", "", 1)
		r.Size = 2000
		check([]int{3}, []int{3}, text+"|-|2000|3099|3", "", 1)
		// The end code as one code too many is not read.
		r.Count, r.Size = 3098, 0
		check([]int{4, 5}, []int{3, 3}, text+"|-|0|3100|0", "", 1)
		check([]int{4, 4, 5}, []int{3, 3, 3}, text+"|-|0|3100|3", "", 1)
		clears := packed(t, order, slices.Repeat([]int{4}, 3101), slices.Repeat([]int{3}, 3101))
		for _, parts := range [][]string{{clears}, cut(newRandom(), clears), single(clears)} {
			checkAllRead(t, k, parts, "", impl.EndLong, (3100*3+7)/8)
		}
	}
}

func TestAReaderThatGoesOn(t *testing.T) {
	for _, order := range orders {
		k := start(t, impl.Setting{Order: order, Literal: 8, Most: 10})
		r := newReader(t, k)
		// Codes of 9 bits need more than one byte, and one bit more of the next one each time.
		stream := packed(t, order, slices.Repeat([]int{256}, 9), slices.Repeat([]int{9}, 9))
		kept := []int{8, 7, 6, 5, 4, 3, 2, 1, 0, 8}
		for i, part := range single(stream)[:10] {
			next, data, used, ok := impl.ReadStream(r, part)
			if len(next.Bits) != kept[i] || next.Count != (i*8+8)/9 || data != "" || used != 1 || !ok || next.End != impl.EndShort {
				t.Fatalf("ReadStream = %q, %q, %d, %v", readerText(next), data, used, ok)
			}
			if got := impl.ReaderNeeds(next); got != 9-kept[i] {
				t.Errorf("ReaderNeeds = %d", got)
			}
			same, data, used, ok := impl.ReadStream(next, "")
			if readerText(same) != readerText(next) || data != "" || used != 0 || !ok {
				t.Errorf("ReadStream of no bytes = %q, %q, %d, %v", readerText(same), data, used, ok)
			}
			r = next
		}
		checkAllRead(t, k, nil, "", impl.EndShort, 0)
		checkAllRead(t, k, []string{"", ""}, "", impl.EndShort, 0)
		checkAllRead(t, k, []string{stream, ""}, "", impl.EndShort, len(stream))
	}
}

func TestPartsOfStreamsThatAreTooLong(t *testing.T) {
	k := start(t, high24)
	long := strings.Repeat("\x92", 4001)
	r := newReader(t, k)
	if next, data, used, ok := impl.ReadStream(r, long); ok || data != "" || used != 0 || !reflect.DeepEqual(next, impl.Reader{}) {
		t.Errorf("ReadStream = %v, %q, %d, %v", next, data, used, ok)
	}
	checkReader(t, r, []string{strings.Repeat("\x00", 4000)})
	for _, parts := range [][]string{{long}, {"\x83", long}, {"\x83\x50", long}, {"\x83\x50", "\x00", long, "\x00"}, {long, "\x83\x50"}} {
		checkAllRead(t, k, parts, "", impl.EndInvalid, 0)
	}
	// Parts may have more than MaxStream bytes together.
	checkAllRead(t, k, []string{"\x83\x50", long[:4000], long[:4000]}, "\x00\x00\x00", impl.EndWhole, 2)
	wide := impl.Known{Setting: impl.Setting{Order: impl.OrderHigh, Literal: 8, Most: 10}, Pairs: make([]impl.Pair, 766), Base: 766, Last: -1}
	data := strings.Repeat("\x01", 2000)
	stream, ok := impl.WriteAll(wide, single(data))
	if !ok {
		t.Fatal("WriteAll is false")
	}
	checkAllRead(t, wide, []string{stream[:1], stream[1:], strings.Repeat("\x00", 4000)}, data, impl.EndWhole, len(stream))
}

// No result may share the memory of what is known, and the memory behind its pairs must stay as it is.
func TestNoMemoryOfStatesIsShared(t *testing.T) {
	mark := impl.Pair{Prefix: 99, Byte: 99}
	room := slices.Repeat([]impl.Pair{mark}, 12)
	room[0], room[1] = impl.Pair{Prefix: 0, Byte: 0}, impl.Pair{Prefix: 6, Byte: 1}
	before := slices.Clone(room)
	k := impl.Known{Setting: high24, Pairs: room[:2], Base: 1, Last: 7}
	spoil := func(k impl.Known) {
		for i := range k.Pairs[:cap(k.Pairs)] {
			k.Pairs[:cap(k.Pairs)][i] = mark
		}
	}
	w := impl.Writer{Known: k, Pending: "\x00", Bits: "101", Begun: true}
	r := impl.Reader{Known: k, Bits: "10", Size: 1, Count: 1, End: impl.EndShort}
	ended := impl.Reader{Known: k}
	steps := func() string {
		a, _ := impl.NewWriter(k)
		b, out, _ := impl.WriteData(w, "\x01\x02\x03\x00\x00\x01\x02")
		c, _, _ := impl.WriteData(w, "")
		d, _ := impl.NewReader(k)
		e, data, used, _ := impl.ReadStream(r, "\x12\x34")
		f, _, _, _ := impl.ReadStream(ended, "\x12\x34")
		last, _ := impl.CloseWriter(w)
		all, _ := impl.WriteAll(k, []string{"\x00", "\x00\x01\x02"})
		again, end, n := impl.ReadAll(k, []string{"\x12", "\x34"})
		text := fmt.Sprint(a, b, c, d, e, f, out, data, used, last, all, again, end, n)
		for _, k := range []impl.Known{a.Known, b.Known, c.Known, d.Known, e.Known, f.Known} {
			spoil(k)
		}
		return text
	}
	first := steps()
	if second := steps(); first != second {
		t.Errorf("the same steps give %s, and then %s", first, second)
	}
	if !slices.Equal(room, before) {
		t.Errorf("the pairs are %v, and were %v", room, before)
	}
}
