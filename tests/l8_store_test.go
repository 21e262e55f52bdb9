package tests

// Promise 8: after a crash a store has exactly the operations whose records are whole, and nothing of any other.

import (
	"fmt"
	"maps"
	"math"
	"math/rand"
	"reflect"
	"regexp"
	"runtime"
	"slices"
	"strconv"
	"strings"
	"testing"
	"time"

	"loop.example/soughtstreams/impl"
)

// opWords are the words of the kinds of operations.
var opWords = []string{"put", "append", "replace", "merge", "delete"}

// wantOpText writes an operation as the table of the document does, also one that is not valid.
func wantOpText(op impl.Op) string {
	data := dash(fmt.Sprintf("%x", op.Data))
	switch op.Kind {
	case 0, 1:
		return fmt.Sprintf("%s %s %d %s", opWords[op.Kind], op.Name, op.Size, data)
	case 2:
		return fmt.Sprintf("replace %s %d %d %d %s", op.Name, op.From, op.To, op.Size, data)
	case 3:
		return fmt.Sprintf("merge %s %d", op.Name, op.Size)
	}
	return "delete " + op.Name
}

var opName = regexp.MustCompile("^[a-z]{1,8}$")

// isOp reports what an operation is by the text of the document.
func isOp(op impl.Op) bool {
	if !opName.MatchString(op.Name) {
		return false
	}
	sized := op.Size >= 1 && op.Size <= 64
	filled := len(op.Data) <= 2000
	noRange := op.From == 0 && op.To == 0
	switch op.Kind {
	case 0, 1:
		return sized && filled && noRange
	case 2:
		return sized && filled && op.From >= 0 && op.From <= op.To && op.To <= 2000
	case 3:
		return sized && noRange && op.Data == ""
	case 4:
		return noRange && op.Size == 0 && op.Data == ""
	}
	return false
}

var opTexts = []*regexp.Regexp{
	regexp.MustCompile("^put ([a-z]+) (?P<size>[0-9]+) (?P<data>-|[0-9a-f]+)$"),
	regexp.MustCompile("^append ([a-z]+) (?P<size>[0-9]+) (?P<data>-|[0-9a-f]+)$"),
	regexp.MustCompile("^replace ([a-z]+) (?P<from>[0-9]+) (?P<to>[0-9]+) (?P<size>[0-9]+) (?P<data>-|[0-9a-f]+)$"),
	regexp.MustCompile("^merge ([a-z]+) (?P<size>[0-9]+)$"),
	regexp.MustCompile("^delete ([a-z]+)$"),
}

// wantOp returns the operation of a text.
func wantOp(text string) (impl.Op, bool) {
	for kind, pattern := range opTexts {
		found := pattern.FindStringSubmatch(text)
		if found == nil {
			continue
		}
		op := impl.Op{Kind: kind, Name: found[1]}
		for name, field := range map[string]*int{"from": &op.From, "to": &op.To, "size": &op.Size} {
			if i := pattern.SubexpIndex(name); i >= 0 {
				*field, _ = strconv.Atoi(found[i])
			}
		}
		if i := pattern.SubexpIndex("data"); i >= 0 && found[i] != "-" {
			fmt.Sscanf(found[i], "%x", &op.Data)
		}
		return op, isOp(op) && wantOpText(op) == text
	}
	return impl.Op{}, false
}

func wantRecord(text string) string {
	return two(len(text)) + text + two(wantSum(text))
}

// A storeModel is a store whose containers are made by the models of the chapters before.
type storeModel struct {
	s     impl.Setting
	dict  string
	files map[string]made
}

func newStoreModel(s impl.Setting, dict string) *storeModel {
	return &storeModel{s: s, dict: dict, files: map[string]made{}}
}

func (m *storeModel) names() []string {
	return slices.Sorted(maps.Keys(m.files))
}

func (m *storeModel) store() impl.Store {
	st := impl.Store{Setting: m.s, Dict: m.dict}
	for _, name := range m.names() {
		st.Files = append(st.Files, impl.File{Name: name, Stream: m.files[name].stream})
	}
	return st
}

func (m *storeModel) text() string {
	var texts []string
	for _, name := range m.names() {
		texts = append(texts, name+" "+dash(fmt.Sprintf("%x", m.files[name].data)))
	}
	return dash(strings.Join(texts, ";"))
}

func (m *storeModel) size() int {
	n := 0
	for _, f := range m.files {
		n += len(f.stream)
	}
	return n
}

// edit returns what becomes of a file by an operation that does not delete it.
func (m *storeModel) edit(t *testing.T, f made, op impl.Op) (outcome, string) {
	t.Helper()
	fresh := wantBlocks(m.s, m.dict, op.Data, max(op.Size, 1))
	switch op.Kind {
	case 0:
		return wantMade(fresh), op.Data
	case 1:
		return wantMade(slices.Concat(blocksIn(t, f.stream), fresh)), f.data + op.Data
	case 2:
		if op.To > len(f.data) {
			return outcome{}, ""
		}
		return wantReplace(t, f, op.From, op.To, op.Data, op.Size), f.data[:op.From] + op.Data + f.data[op.To:]
	}
	return wantMerge(t, f, op.Size), f.data
}

// apply reports whether an operation can be applied.
func (m *storeModel) apply(t *testing.T, op impl.Op) bool {
	t.Helper()
	f, found := m.files[op.Name]
	if !isOp(op) || !found && (op.Kind != 0 || len(m.files) == 6) {
		return false
	}
	if op.Kind == 4 {
		delete(m.files, op.Name)
		return true
	}
	result, data := m.edit(t, f, op)
	if result.ok {
		m.files[op.Name] = made{s: m.s, dict: m.dict, data: data, stream: result.stream}
	}
	return result.ok
}

// wantReplay replays a log, and returns the index at which this ends.
func wantReplay(t *testing.T, s impl.Setting, dict, log string) (*storeModel, int) {
	t.Helper()
	m := newStoreModel(s, dict)
	end := 0
	for {
		rest := log[end:]
		if len(rest) < 4 {
			return m, end
		}
		next := 4 + 256*int(rest[0]) + int(rest[1])
		if len(rest) < next {
			return m, end
		}
		text := rest[2 : next-2]
		op, ok := wantOp(text)
		if !ok || rest[:next] != wantRecord(text) || !m.apply(t, op) {
			return m, end
		}
		end += next
	}
}

func sameStore(a, b impl.Store) bool {
	return a.Setting == b.Setting && a.Dict == b.Dict && slices.Equal(a.Files, b.Files)
}

// checkStore compares all that a store tells with the model.
func checkStore(t *testing.T, r *rand.Rand, st impl.Store, m *storeModel) {
	t.Helper()
	if !sameStore(st, m.store()) {
		t.Fatalf("the store is %.300v, want %.300v", st, m.store())
	}
	if !impl.StoreValid(st) || impl.FormatStore(st) != m.text() || impl.StoreSize(st) != m.size() {
		t.Fatalf("StoreValid = %v, FormatStore = %.300q, StoreSize = %d, want %.300q, %d", impl.StoreValid(st), impl.FormatStore(st), impl.StoreSize(st), m.text(), m.size())
	}
	for name, f := range m.files {
		stream, ok := impl.FileOf(st, name)
		checkOutcome(t, "FileOf "+name, stream, ok, outcome{f.stream, true})
		from := r.Intn(len(f.data) + 1)
		to := from + r.Intn(len(f.data)-from+1)
		for _, span := range [][2]int{{0, len(f.data)}, {from, to}, {from, from}} {
			data, ok := impl.ReadFile(st, name, span[0], span[1])
			checkOutcome(t, fmt.Sprintf("ReadFile(%q, %v)", name, span), data, ok, outcome{f.data[span[0]:span[1]], true})
		}
		for _, span := range [][2]int{{0, len(f.data) + 1}, {-1, 0}, {1, 0}, {len(f.data) + 1, len(f.data) + 1}, {0, math.MaxInt}, {math.MinInt, 0}} {
			data, ok := impl.ReadFile(st, name, span[0], span[1])
			refuseEdit(t, fmt.Sprintf("ReadFile(%q, %v)", name, span), data, ok)
		}
	}
	for _, name := range []string{"", "none", "A", "a ", " a", "a\x00", "abcdefghi", m.text()} {
		stream, ok := impl.FileOf(st, name)
		refuseEdit(t, "FileOf "+name, stream, ok)
		stream, ok = impl.ReadFile(st, name, 0, 0)
		refuseEdit(t, "ReadFile "+name, stream, ok)
	}
}

// checkReplay compares the replay and the repair of a log with the model, and returns where they end.
func checkReplay(t *testing.T, s impl.Setting, dict, log string) int {
	t.Helper()
	m, end := wantReplay(t, s, dict, log)
	st, got, ok := impl.ReplayLog(s, dict, log)
	if !sameStore(st, m.store()) || got != end || !ok {
		t.Fatalf("ReplayLog(%.200q) = %.200v, %d, %v, want %.200v, %d", log, st, got, ok, m.store(), end)
	}
	repaired, ok := impl.RepairLog(s, dict, log)
	checkOutcome(t, "RepairLog", repaired, ok, outcome{log[:end], true})
	return end
}

func refuseReplay(t *testing.T, s impl.Setting, dict, log string, op impl.Op) {
	t.Helper()
	if st, end, ok := impl.ReplayLog(s, dict, log); !sameStore(st, impl.Store{}) || end != 0 || ok {
		t.Errorf("ReplayLog(%v, %.20q, %d bytes) = %.100v, %d, %v", s, dict, len(log), st, end, ok)
	}
	got, ok := impl.RepairLog(s, dict, log)
	refuseEdit(t, fmt.Sprintf("RepairLog(%v, %.20q, %d bytes)", s, dict, len(log)), got, ok)
	refuseAppend(t, s, dict, log, op)
}

func refuseAppend(t *testing.T, s impl.Setting, dict, log string, op impl.Op) {
	t.Helper()
	got, ok := impl.AppendLog(s, dict, log, op)
	refuseEdit(t, fmt.Sprintf("AppendLog(%v, %.20q, %d bytes, %.80q)", s, dict, len(log), wantOpText(op)), got, ok)
}

func refuseApply(t *testing.T, st impl.Store, op impl.Op) {
	t.Helper()
	if after, ok := impl.ApplyOp(st, op); !sameStore(after, impl.Store{}) || ok {
		t.Errorf("ApplyOp(%.100v, %.100v) = %.100v, %v", st, op, after, ok)
	}
}

// randomOp returns an operation that can mostly be applied.
func randomOp(r *rand.Rand, m *storeModel) impl.Op {
	names := []string{"a", "b", "ab", "zz", "abcdefgh", "m", "n", "z"}
	op := impl.Op{Kind: r.Intn(5), Name: names[r.Intn(len(names))], Size: 1 + r.Intn(64)}
	if known := m.names(); len(known) > 0 && r.Intn(8) > 0 {
		op.Name = known[r.Intn(len(known))]
	} else if r.Intn(3) > 0 {
		op.Kind = 0
	}
	if op.Kind == 4 && r.Intn(3) > 0 {
		op.Kind = 1
	}
	n := len(m.files[op.Name].data)
	switch op.Kind {
	case 0, 1:
		op.Data = mixedData(r, m.s, r.Intn(50))
	case 2:
		op.From = r.Intn(n + 1)
		op.To = op.From + r.Intn(n-op.From+1) + r.Intn(20)/19
		op.Data = mixedData(r, m.s, r.Intn(30))
	case 4:
		op.Size = 0
	}
	return op
}

func recordOf(t *testing.T, text string) string {
	t.Helper()
	op, ok := impl.ParseOp(text)
	if !ok {
		t.Fatalf("ParseOp(%q) is false", text)
	}
	record, ok := impl.LogRecord(op)
	checkOutcome(t, "LogRecord "+text, record, ok, outcome{wantRecord(text), true})
	return record
}

func logOf(t *testing.T, texts ...string) string {
	t.Helper()
	log := ""
	for _, text := range texts {
		log += recordOf(t, text)
	}
	return log
}

// A written is a log with where its records end, and the store behind each of them.
type written struct {
	s      impl.Setting
	dict   string
	log    string
	ends   []int
	stores []*storeModel
}

// writeRandom writes a log of operations, one after the other.
func writeRandom(t *testing.T, r *rand.Rand, s impl.Setting, dict string, n int) written {
	t.Helper()
	m := newStoreModel(s, dict)
	w := written{s: s, dict: dict, ends: []int{0}, stores: []*storeModel{newStoreModel(s, dict)}}
	for range n {
		op := randomOp(r, m)
		before := w.log
		log, ok := impl.AppendLog(s, dict, before, op)
		if !m.apply(t, op) {
			refuseEdit(t, "AppendLog of "+wantOpText(op), log, ok)
			continue
		}
		checkOutcome(t, "AppendLog of "+wantOpText(op), log, ok, outcome{before + wantRecord(wantOpText(op)), true})
		w.log = log
		w.ends = append(w.ends, len(log))
		w.stores = append(w.stores, &storeModel{s: s, dict: dict, files: maps.Clone(m.files)})
	}
	return w
}

func someWritten(t *testing.T, r *rand.Rand, n int) []written {
	t.Helper()
	var list []written
	for _, s := range fewSettings() {
		for _, dict := range []string{"", randomData(r, s, 30)} {
			list = append(list, writeRandom(t, r, s, dict, n))
		}
	}
	return list
}

func TestLimitsOfStores(t *testing.T) {
	got := []int{impl.OpPut, impl.OpAppend, impl.OpReplace, impl.OpMerge, impl.OpDelete, impl.MaxFiles, impl.MaxName, impl.MaxLog, impl.MaxScript, impl.MaxLines, impl.MaxOutput}
	want := []int{0, 1, 2, 3, 4, 6, 8, 30000, 20000, 100, 40000}
	if !slices.Equal(got, want) {
		t.Errorf("limits are %v, want %v", got, want)
	}
}

func TestEmptyStores(t *testing.T) {
	r := newRandom()
	for _, s := range allSettings() {
		for _, dict := range append(someDicts(r, s), strings.Repeat("\x00", 2000)) {
			st, ok := impl.EmptyStore(s, dict)
			if !ok {
				t.Fatalf("EmptyStore(%v, %.20q) is false", s, dict)
			}
			checkStore(t, r, st, newStoreModel(s, dict))
			checkReplay(t, s, dict, "")
			log, ok := impl.CompactLog(st)
			checkOutcome(t, "CompactLog", log, ok, outcome{"", true})
		}
	}
	for _, u := range unusable() {
		if st, ok := impl.EmptyStore(u.s, u.dict); !sameStore(st, impl.Store{}) || ok {
			t.Errorf("EmptyStore(%v, %.20q) = %v, %v", u.s, u.dict, st, ok)
		}
		refuseStore(t, impl.Store{Setting: u.s, Dict: u.dict})
		refuseStore(t, impl.Store{Setting: u.s, Dict: u.dict, Files: []impl.File{{Name: "a"}}})
		refuseReplay(t, u.s, u.dict, "", impl.Op{Name: "a", Size: 1})
		refuseReplay(t, u.s, u.dict, recordOf(t, "put a 1 -"), impl.Op{Name: "a", Size: 1})
	}
}

// checkOp compares an operation, which need not be valid, with the model.
func checkOp(t *testing.T, op impl.Op) bool {
	t.Helper()
	text := wantOpText(op)
	if !isOp(op) {
		record, ok := impl.LogRecord(op)
		if impl.OpValid(op) || impl.FormatOp(op) != "" || record != "" || ok {
			t.Errorf("OpValid(%.80v) = %v, FormatOp = %.40q, LogRecord = %.40q, %v", op, impl.OpValid(op), impl.FormatOp(op), record, ok)
		}
		return false
	}
	record, ok := impl.LogRecord(op)
	if !impl.OpValid(op) || impl.FormatOp(op) != text || record != wantRecord(text) || !ok {
		t.Errorf("OpValid(%.80v) = %v, FormatOp = %.40q, LogRecord = %.40q, %v", op, impl.OpValid(op), impl.FormatOp(op), record, ok)
	}
	if got, ok := impl.ParseOp(text); got != op || !ok {
		t.Errorf("ParseOp(%.80q) = %.80v, %v", text, got, ok)
	}
	for _, before := range []string{"", "x", record} {
		got, next, ok := impl.ReadRecord(before+record+"\x00", len(before))
		if got != op || next != len(before)+len(record) || !ok {
			t.Errorf("ReadRecord(%.80q) = %.80v, %d, %v", record, got, next, ok)
		}
	}
	return true
}

func TestOperations(t *testing.T) {
	zeros := strings.Repeat("\x00", 2001)
	numbers := append([]int{0, 1, 2, 1999, 2000, 2001}, extremes...)
	valid := 0
	for _, kind := range append([]int{0, 1, 2, 3, 4, 5}, extremes...) {
		for _, size := range append([]int{0, 1, 63, 65}, extremes...) {
			for _, data := range []string{"", "\x00", "ab\xff", zeros[:2000], zeros} {
				for _, from := range numbers {
					if checkOp(t, impl.Op{Kind: kind, Name: "a", From: from, To: from, Size: size, Data: data}) {
						valid++
					}
				}
				for _, to := range numbers {
					checkOp(t, impl.Op{Kind: kind, Name: "a", From: 1, To: to, Size: size, Data: data})
					checkOp(t, impl.Op{Kind: kind, Name: "a", To: to, Size: size, Data: data})
				}
			}
		}
		for _, name := range []string{"", "a", "z", "abcdefgh", "zzzzzzzz", "abcdefghi", strings.Repeat("a", 1000), "A", "aB", "Z", "a ", " a", "a b", "a\n", "\x00", "a\x00", "-", "0", "a0", "a;", "`", "{", "é", "\xe1", "put"} {
			for _, size := range []int{0, 1, 64} {
				checkOp(t, impl.Op{Kind: kind, Name: name, Size: size})
				checkOp(t, impl.Op{Kind: kind, Name: name, Size: size, Data: "x"})
			}
		}
	}
	if want := 2*3*4 + 3*4*6 + 3 + 1; valid != want {
		t.Errorf("%d operations are valid, want %d", valid, want)
	}
}

func TestWrongTextsOfOperations(t *testing.T) {
	texts := []string{
		"", " ", "put", "put ", "put a", "put a ", "put a 4", "put a 4 ", "put  4 00", "put a  00", " put a 4 00", "put a 4 00 ", "put a 4 00\n", "put a 4 00 00", "put  a 4 00", "put a 4  00",
		"PUT a 4 00", "Put a 4 00", "pu a 4 00", "putt a 4 00", "put\ta\t4\t00", "put a 4 0", "put a 4 000", "put a 4 0g", "put a 4 0A", "put a 4 --", "put a 4 -00", "put a 4 00-", "put a 4 0x00",
		"put a 0 00", "put a 65 00", "put a -1 00", "put a 04 00", "put a +4 00", "put a 4.0 00", "put a 4e0 00", "put a 0x4 00", "put a four 00", "put a - 00", "put a 18446744073709551620 00", "put a 99999999999999999999999999 00", "put a ٤ 00",
		"put A 4 00", "put a1 4 00", "put abcdefghi 4 00", "put é 4 00", "put a-b 4 00", "put a 0 0 4 00", "put a 4 00 4",
		"append", "append a", "append a 4", "append a 0 -", "append a 65 -", "append a 0 0 4 -", "appenda 4 -",
		"replace a 4 -", "replace a 0 4 -", "replace a 0 0 4", "replace a 0 0 4 - -", "replace a 1 0 4 -", "replace a 0 2001 4 -", "replace a 2001 2001 4 -", "replace a -1 0 4 -", "replace a -0 0 4 -", "replace a 00 0 4 -", "replace a 0 01 4 -", "replace a 0 0 0 -", "replace a 0 0 65 -", "replace a  0 4 -", "replace a 0 0  -", "replace a 0 0 4 ",
		"merge", "merge a", "merge a ", "merge a 0", "merge a 65", "merge a 05", "merge a 5 ", "merge a 5 -", "merge a 5 00", "merge a 0 0 5", "merge  5",
		"delete", "delete ", "delete  ", "delete a ", "delete a 4", "delete a 0", "delete a -", "delete A", " delete a", "delete a\n", "delete abcdefghi",
		"move a 4 00", "show", "0 a 4 00", "- a", "a", "put a 4 00;delete a", strings.Repeat("put ", 100000), strings.Repeat(" ", 100000),
		"put a 64 " + strings.Repeat("00", 2001), "put a 64 " + strings.Repeat("00", 4001), "put a 64 " + strings.Repeat("0", 3999),
	}
	for _, text := range texts {
		if _, ok := wantOp(text); ok {
			t.Fatalf("the model reads %q", text)
		}
		refuseOpText(t, text)
	}
	// Any text with one byte more, less, or another one.
	for _, text := range []string{"put b 4 0001", "append b 14 -", "replace b 0 12 64 ff", "merge b 5", "delete b"} {
		for at := range len(text) + 1 {
			for _, b := range []byte(" -0159abf;\n\x00\xff") {
				checkOpText(t, put(text, at, at, string([]byte{b})))
				if at < len(text) {
					checkOpText(t, put(text, at, at+1, string([]byte{b})))
				}
			}
			checkOpText(t, text[:at])
			checkOpText(t, text[at:])
			if at < len(text) {
				checkOpText(t, put(text, at, at+1, ""))
			}
		}
	}
}

func refuseOpText(t *testing.T, text string) {
	t.Helper()
	if op, ok := impl.ParseOp(text); op != (impl.Op{}) || ok {
		t.Errorf("ParseOp(%.60q) = %.60v, %v", text, op, ok)
	}
	if op, next, ok := impl.ReadRecord(wantRecord(text), 0); op != (impl.Op{}) || next != 0 || ok {
		t.Errorf("ReadRecord of %.60q = %.60v, %d, %v", text, op, next, ok)
	}
}

func checkOpText(t *testing.T, text string) {
	t.Helper()
	want, ok := wantOp(text)
	if !ok {
		refuseOpText(t, text)
		return
	}
	if op, ok := impl.ParseOp(text); op != want || !ok {
		t.Errorf("ParseOp(%q) = %v, %v, want %v", text, op, ok, want)
	}
	checkOp(t, want)
}

func TestApplyingOperations(t *testing.T) {
	r := newRandom()
	applied, refused, kinds := 0, 0, [5]int{}
	for _, s := range fewSettings() {
		for _, dict := range []string{"", randomData(r, s, 30)} {
			m := newStoreModel(s, dict)
			st := m.store()
			for range 60 {
				op := randomOp(r, m)
				before := m.store()
				after, ok := impl.ApplyOp(st, op)
				if want := m.apply(t, op); ok != want {
					t.Fatalf("ApplyOp(%.200v, %.80q) = %v, want %v", st, wantOpText(op), ok, want)
				}
				if !sameStore(st, before) {
					t.Fatalf("ApplyOp has changed the store %.200v to %.200v", before, st)
				}
				if !ok {
					refuseApply(t, st, op)
					refused++
					continue
				}
				st = after
				applied++
				kinds[op.Kind]++
			}
			checkStore(t, r, st, m)
		}
	}
	if applied < 500 || refused < 50 || slices.Min(kinds[:]) < 50 {
		t.Errorf("%d operations were applied, %v, and %d were not", applied, kinds, refused)
	}
}

// applyTexts applies operations one after the other, and checks each store.
func applyTexts(t *testing.T, m *storeModel, texts ...string) impl.Store {
	t.Helper()
	st := m.store()
	for _, text := range texts {
		op, ok := wantOp(text)
		if !ok || !m.apply(t, op) {
			t.Fatalf("the model does not apply %.60q", text)
		}
		if st, ok = impl.ApplyOp(st, op); !ok {
			t.Fatalf("ApplyOp %.60q is false", text)
		}
		checkStore(t, newRandom(), st, m)
	}
	return st
}

func TestOperationsOnEmptyFiles(t *testing.T) {
	m := newStoreModel(high24, "")
	st := applyTexts(t, m, "put b 1 -", "merge b 64", "append b 4 -", "replace b 0 0 4 -", "put a 64 -", "put c 7 -")
	if text := impl.FormatStore(st); text != "a -;b -;c -" || impl.StoreSize(st) != 0 {
		t.Errorf("FormatStore = %q", text)
	}
	data, ok := impl.ReadFile(st, "b", 0, 0)
	checkOutcome(t, "ReadFile", data, ok, outcome{"", true})
	log, ok := impl.CompactLog(st)
	checkOutcome(t, "CompactLog", log, ok, outcome{logOf(t, "put a 64 -", "put b 64 -", "put c 64 -"), true})
	st = applyTexts(t, m, "replace b 0 0 4 0001", "append a 1 0203", "delete c", "replace b 0 2 1 -", "put a 9 -")
	if text := impl.FormatStore(st); text != "a -;b -" {
		t.Errorf("FormatStore = %q", text)
	}
	st = applyTexts(t, m, "delete a", "delete b")
	if text := impl.FormatStore(st); text != "-" || len(st.Files) != 0 {
		t.Errorf("FormatStore = %q", text)
	}
	refuseApply(t, st, impl.Op{Kind: impl.OpDelete, Name: "a"})
}

func TestOperationsThatCannotBeApplied(t *testing.T) {
	zeros := strings.Repeat("00", 2000)
	m := newStoreModel(high24, "")
	st := applyTexts(t, m, "put b 12 "+zeros[:26], "put full 50 "+zeros, "put many 1 "+zeros[:80], "put d 1 -")
	for _, text := range []string{
		"append a 1 -", "replace a 0 0 1 -", "merge a 1", "delete a", "delete bb", "append ful 1 -",
		"put a 1 " + zeros[:82], "put a 49 " + zeros, "put b 1 " + zeros[:82], "append full 64 00", "append many 1 00", "append many 64 00",
		"replace b 0 14 1 -", "replace b 14 14 1 -", "replace b 0 2000 1 -", "replace d 0 1 1 -", "replace d 1 1 1 00", "replace full 0 0 64 00", "replace many 1 1 1 00", "replace full 1 2 1 " + zeros[:82],
	} {
		op, ok := wantOp(text)
		if !ok || m.apply(t, op) {
			t.Fatalf("the model applies %.60q", text)
		}
		refuseApply(t, st, op)
		checkStore(t, newRandom(), st, m)
	}
	// What fits exactly can be applied.
	applyTexts(t, m, "put a 50 "+zeros, "put b 1 "+zeros[:80], "append full 1 -", "replace full 0 2000 50 "+zeros, "replace many 1 2 1 01", "merge many 64", "append many 1 00", "replace d 0 0 64 "+zeros)
	for _, op := range wrongOps() {
		refuseApply(t, st, op)
	}
}

// wrongOps returns operations that are not valid, most of them for files of a store.
func wrongOps() []impl.Op {
	list := []impl.Op{
		{}, {Name: "b"}, {Name: "b", Size: 65}, {Name: "b", Size: -1}, {Name: "", Size: 4}, {Name: "B", Size: 4}, {Name: "abcdefghi", Size: 4},
		{Name: "b", Size: 4, To: 1}, {Name: "b", Size: 4, From: 1, To: 1}, {Name: "b", Size: 4, Data: strings.Repeat("\x00", 2001)},
		{Kind: 1, Name: "b"}, {Kind: 1, Name: "b", Size: 4, To: 1}, {Kind: 1, Name: "b", Size: 65, Data: "x"},
		{Kind: 2, Name: "b"}, {Kind: 2, Name: "b", Size: 4, From: 1}, {Kind: 2, Name: "b", Size: 4, From: -1}, {Kind: 2, Name: "b", Size: 4, To: 2001},
		{Kind: 3, Name: "b"}, {Kind: 3, Name: "b", Size: 4, Data: "x"}, {Kind: 3, Name: "b", Size: 4, To: 1},
		{Kind: 4, Name: "b", Size: 4}, {Kind: 4, Name: "b", Data: "x"}, {Kind: 4, Name: "b", To: 1}, {Kind: 4},
		{Kind: 5, Name: "b"}, {Kind: 5, Name: "b", Size: 4},
	}
	for _, x := range extremes {
		list = append(list, impl.Op{Kind: x, Name: "b", Size: 4}, impl.Op{Kind: x, Name: "b"}, impl.Op{Kind: 2, Name: "b", From: x, To: x, Size: 65}, impl.Op{Kind: 4, Name: "b", Size: x})
		if x != 64 {
			list = append(list, impl.Op{Name: "b", Size: x}, impl.Op{Kind: 3, Name: "b", Size: x}, impl.Op{Kind: 2, Name: "b", To: x, Size: 4}, impl.Op{Kind: 2, Name: "b", From: x, Size: 4})
		}
	}
	return list
}

func TestThereAreTooManyFiles(t *testing.T) {
	m := newStoreModel(low810, "ab")
	st := applyTexts(t, m, "put c 4 00", "put a 4 -", "put f 4 -", "put e 4 616261", "put b 4 -", "put d 4 -")
	for _, name := range []string{"g", "aa", "cc", "abcdefgh"} {
		for _, data := range []string{"", "x"} {
			refuseApply(t, st, impl.Op{Name: name, Size: 4, Data: data})
		}
	}
	st = applyTexts(t, m, "put c 4 01", "put f 4 01", "delete d", "put aa 4 01")
	refuseApply(t, st, impl.Op{Name: "d", Size: 4})
	if text := impl.FormatStore(st); text != "a -;aa 01;b -;c 01;e 616261;f 01" {
		t.Errorf("FormatStore = %q", text)
	}
}

func refuseStore(t *testing.T, st impl.Store) {
	t.Helper()
	if impl.StoreValid(st) || impl.FormatStore(st) != "" || impl.StoreSize(st) != -1 {
		t.Errorf("StoreValid(%.200v) = %v, FormatStore = %.40q, StoreSize = %d", st, impl.StoreValid(st), impl.FormatStore(st), impl.StoreSize(st))
	}
	names := []string{"", "a", "b"}
	for _, f := range st.Files {
		names = append(names, f.Name)
	}
	for _, name := range names {
		got, ok := impl.FileOf(st, name)
		refuseEdit(t, "FileOf", got, ok)
		got, ok = impl.ReadFile(st, name, 0, 0)
		refuseEdit(t, "ReadFile", got, ok)
		refuseApply(t, st, impl.Op{Name: name, Size: 1})
		refuseApply(t, st, impl.Op{Kind: impl.OpDelete, Name: name})
		refuseApply(t, st, impl.Op{Kind: impl.OpAppend, Name: name, Size: 1})
	}
	got, ok := impl.CompactLog(st)
	refuseEdit(t, "CompactLog", got, ok)
}

func TestStoresThatAreNotValid(t *testing.T) {
	whole := makeOne(t, high24, "", zeros12+"\x01", 12).stream
	files := func(names ...string) impl.Store {
		st := impl.Store{Setting: high24}
		for _, name := range names {
			st.Files = append(st.Files, impl.File{Name: name, Stream: whole})
		}
		return st
	}
	for _, names := range [][]string{{}, {"a"}, {"a", "b"}, {"a", "aa"}, {"az", "b"}, {"a", "b", "c", "d", "e", "zzzzzzzz"}} {
		if st := files(names...); !impl.StoreValid(st) || impl.StoreSize(st) != len(names)*len(whole) {
			t.Errorf("StoreValid is false for %q", names)
		}
	}
	for _, names := range [][]string{
		{""}, {"A"}, {"abcdefghi"}, {"a1"}, {"a "}, {"-"}, {"a;"}, {"é"}, {"a\x00"},
		{"a", "a"}, {"b", "a"}, {"aa", "a"}, {"a", "c", "b"}, {"a", "b", "b"}, {"a", "b", "a"}, {"", "a"}, {"a", ""}, {"a", "B"},
		{"a", "b", "c", "d", "e", "f", "g"}, slices.Repeat([]string{"a"}, 1000),
	} {
		refuseStore(t, files(names...))
	}
	streams := noContainers()
	for _, bad := range badBlocks() {
		streams = append(streams, textOf(bad), wantMade([]impl.Block{rawBlock(0, "x"), bad}).stream)
	}
	for _, stream := range streams {
		for at := range 3 {
			st := files("a", "b", "c")
			st.Files[at].Stream = stream
			refuseStore(t, st)
		}
	}
	// A stream may have data for one dictionary, and none for another one.
	st := impl.Store{Setting: high24, Files: []impl.File{{Name: "a", Stream: whole}}}
	without := 0
	for _, dict := range []string{"\x00", "\x00\x00", "\x00\x01\x02", strings.Repeat("\x01\x02", 50)} {
		st.Dict = dict
		data, ok := impl.ContainerData(high24, dict, whole)
		if !ok {
			without++
			refuseStore(t, st)
		} else if text := impl.FormatStore(st); text != fmt.Sprintf("a %x", data) {
			t.Errorf("FormatStore = %q", text)
		}
	}
	if without == 0 {
		t.Error("all dictionaries give data")
	}
	refuseStore(t, impl.Store{})
}

func TestStoresWithOtherContainers(t *testing.T) {
	r := newRandom()
	for _, m := range someEdited(t, r) {
		model := newStoreModel(m.s, m.dict)
		model.files["a"], model.files["b"] = m, made{}
		checkStore(t, r, model.store(), model)
		applyTexts(t, model, "append a 3 0001", "merge a 20", "put b 3 ff", "delete a")
	}
}

func TestTheLargestStore(t *testing.T) {
	r := newRandom()
	m := newStoreModel(low810, fillingDict(r, low810))
	var records []string
	for i := range 6 {
		name := strings.Repeat("x", 7) + string(rune('a'+i))
		data := make([]byte, 2000)
		r.Read(data)
		applyTexts(t, m, fmt.Sprintf("put %s 50 %x", name, data))
		records = append(records, fmt.Sprintf("put %s 64 %x", name, data))
	}
	st := m.store()
	if n := impl.StoreSize(st); n != 6*2400 {
		t.Errorf("StoreSize = %d", n)
	}
	log, ok := impl.CompactLog(st)
	checkOutcome(t, "CompactLog", log, ok, outcome{logOf(t, records...), true})
	if len(log) != 24120 || checkReplay(t, m.s, m.dict, log) != 24120 {
		t.Errorf("CompactLog has %d bytes", len(log))
	}
}

func refuseRecord(t *testing.T, log string, at int) {
	t.Helper()
	if op, next, ok := impl.ReadRecord(log, at); op != (impl.Op{}) || next != 0 || ok {
		t.Errorf("ReadRecord(%.60q, %d) = %.60v, %d, %v", log, at, op, next, ok)
	}
}

func TestRecords(t *testing.T) {
	texts := []string{"put b 4 0001", "append abcdefgh 64 -", "replace b 0 12 64 ff", "merge b 5", "delete b", "replace zzzzzzzz 1999 2000 64 " + strings.Repeat("fe", 2000)}
	log := logOf(t, texts...)
	at := 0
	for _, text := range texts {
		want, _ := wantOp(text)
		op, next, ok := impl.ReadRecord(log, at)
		if op != want || next != at+len(text)+4 || !ok {
			t.Errorf("ReadRecord(%d) = %.60v, %d, %v", at, op, next, ok)
		}
		// No record begins within one.
		for within := at + 1; within < next; within++ {
			refuseRecord(t, log, within)
		}
		at = next
	}
	for _, at := range append([]int{len(log), len(log) + 1, -2}, extremes...) {
		if at != 64 {
			refuseRecord(t, log, at)
		}
	}
	for _, log := range []string{"", "\x00", "\x00\x00", "\x00\x00\x00", "\x00\x00\x00\x00", "\xff", "\xff\xff", "\xff\xff\x00\x00", "\x00\x01a\x61\x61", strings.Repeat("\x00", 100), strings.Repeat("\xff", 100000)} {
		for at := range min(len(log), 5) + 2 {
			refuseRecord(t, log, at)
		}
	}
	// A log from which one reads may be longer than one that is replayed.
	long := strings.Repeat("x", 40000)
	if op, next, ok := impl.ReadRecord(long+log+long, 40000); op.Name != "b" || next != 40016 || !ok {
		t.Errorf("ReadRecord = %v, %d, %v", op, next, ok)
	}
}

func TestDamagedRecords(t *testing.T) {
	for _, text := range []string{"put b 4 0001", "append b 4 -", "replace b 0 12 64 ff", "merge b 5", "delete b"} {
		record := recordOf(t, text)
		for at := range len(record) {
			refuseRecord(t, record[:at], 0)
			refuseRecord(t, put(record, at, at+1, "")+"\x00\x00", 0)
			for value := range 256 {
				if byte(value) != record[at] {
					refuseRecord(t, put(record, at, at+1, string([]byte{byte(value)}))+record, 0)
				}
			}
		}
	}
	// The remainders of a checksum are below 255, so that a byte 255 is no 0.
	zero := 0
	for i := range 2000 {
		record := recordOf(t, fmt.Sprintf("put %c 1 %s", 'a'+i%3, strings.Repeat("00", 1+i)))
		for _, at := range []int{len(record) - 2, len(record) - 1} {
			if record[at] == 0 {
				zero++
				refuseRecord(t, put(record, at, at+1, "\xff"), 0)
			}
		}
	}
	if zero < 10 {
		t.Errorf("%d checksums have a zero", zero)
	}
}

// The promise, for each place at which a log may be cut.
func TestCrashes(t *testing.T) {
	r := newRandom()
	cuts := 0
	for _, w := range someWritten(t, r, 10) {
		for n := range len(w.log) + 1 {
			last := 0
			for w.ends[last] < n && last+1 < len(w.ends) && w.ends[last+1] <= n {
				last++
			}
			st, end, ok := impl.ReplayLog(w.s, w.dict, w.log[:n])
			if !sameStore(st, w.stores[last].store()) || end != w.ends[last] || !ok {
				t.Fatalf("ReplayLog of %d bytes of %q = %.200v, %d, %v", n, w.log, st, end, ok)
			}
			repaired, ok := impl.RepairLog(w.s, w.dict, w.log[:n])
			checkOutcome(t, "RepairLog", repaired, ok, outcome{w.log[:end], true})
			cuts++
			// A log that is cut is not written on, and one that is repaired is.
			op := impl.Op{Kind: impl.OpPut, Name: "a", Size: 4, Data: "\x00"}
			if n != end {
				refuseAppend(t, w.s, w.dict, w.log[:n], op)
			}
			if n == end || r.Intn(20) == 0 {
				further, ok := impl.AppendLog(w.s, w.dict, repaired, op)
				want := (&storeModel{s: w.s, dict: w.dict, files: maps.Clone(w.stores[last].files)}).apply(t, op)
				if ok != want || ok && further != repaired+wantRecord("put a 4 00") {
					t.Fatalf("AppendLog = %q, %v, want %v", further, ok, want)
				}
			}
		}
		checkStore(t, r, w.stores[len(w.stores)-1].store(), w.stores[len(w.stores)-1])
	}
	if cuts < 2000 {
		t.Errorf("only %d cuts", cuts)
	}
}

func TestDamagedLogs(t *testing.T) {
	r := newRandom()
	for _, w := range someWritten(t, r, 8) {
		for range 50 {
			at := r.Intn(len(w.log))
			to := at + r.Intn(min(len(w.log)-at, 20)+1)
			noise := make([]byte, r.Intn(4))
			r.Read(noise)
			changed := string([]byte{w.log[at] ^ byte(1+r.Intn(255))})
			end := w.ends[r.Intn(len(w.ends))]
			for _, log := range []string{put(w.log, at, to, string(noise)), put(w.log, at, at+1, changed), put(w.log, end, end, w.log[at:to]), w.log[end:], w.log[:end] + w.log} {
				checkReplay(t, w.s, w.dict, log)
			}
			damaged := put(w.log, at, at+1, changed)
			if end := checkReplay(t, w.s, w.dict, damaged); end > at {
				t.Fatalf("ReplayLog(%q) ends at %d, and the byte %d is wrong", damaged, end, at)
			}
		}
	}
}

func TestReplayStopsAtWhatCannotBeApplied(t *testing.T) {
	start := logOf(t, "put a 4 0001", "put b 4 -")
	rest := logOf(t, "delete b", "put c 4 -")
	for _, text := range []string{"append c 4 -", "replace a 0 3 4 -", "merge c 4", "delete c", "put c 1 " + strings.Repeat("00", 41)} {
		log := start + recordOf(t, text) + rest
		if end := checkReplay(t, high24, "", log); end != len(start) {
			t.Errorf("ReplayLog ends at %d behind %q", end, text)
		}
		op, _ := wantOp(text)
		refuseAppend(t, high24, "", start, op)
		refuseAppend(t, high24, "", log, impl.Op{Name: "a", Size: 1})
	}
	for _, op := range wrongOps() {
		refuseAppend(t, high24, "", start, op)
		log := start + wantRecord(wantOpText(op)) + rest
		if _, ok := wantOp(wantOpText(op)); !ok && checkReplay(t, high24, "", log) != len(start) {
			t.Errorf("ReplayLog goes on behind %v", op)
		}
	}
	// A seventh file cannot be put.
	log := ""
	for _, name := range strings.Split("abcdef", "") {
		log += recordOf(t, "put "+name+" 1 -")
	}
	refuseAppend(t, high24, "", log, impl.Op{Name: "g", Size: 1})
	if end := checkReplay(t, high24, "", log+recordOf(t, "put g 1 -")+rest); end != len(log) {
		t.Errorf("ReplayLog ends at %d", end)
	}
	got, ok := impl.AppendLog(high24, "", log, impl.Op{Name: "f", Size: 1})
	checkOutcome(t, "AppendLog", got, ok, outcome{log + recordOf(t, "put f 1 -"), true})
	for _, junk := range []string{"\x00", "x", log[:len(log)-1], strings.Repeat("\x00", 20000)} {
		if end := checkReplay(t, high24, "", log+junk); end != len(log) && junk[0] != log[0] {
			t.Errorf("ReplayLog ends at %d", end)
		}
		refuseAppend(t, high24, "", log+junk, impl.Op{Name: "a", Size: 1})
		refuseAppend(t, high24, "", junk+log, impl.Op{Name: "a", Size: 1})
	}
}

// putOf returns an operation whose record has n bytes, which are at least 15.
func putOf(n int) impl.Op {
	op := impl.Op{Name: "a", Size: 64}
	if (n-13)%2 == 1 {
		op.Name = "aa"
	}
	op.Data = strings.Repeat("\x01", (n-12-len(op.Name))/2)
	return op
}

// fullLog returns a log of n bytes.
func fullLog(t *testing.T, n int) string {
	t.Helper()
	log := wantRecord(wantOpText(putOf(15))) + wantRecord(wantOpText(putOf(16)))
	log += strings.Repeat(wantRecord(wantOpText(putOf(4013))), (n-4013)/4013)
	rest := n - len(log)
	log += wantRecord(wantOpText(putOf(rest-rest/2))) + wantRecord(wantOpText(putOf(rest/2)))
	if len(log) != n {
		t.Fatalf("the log has %d bytes, want %d", len(log), n)
	}
	return log
}

func TestLogsThatAreFull(t *testing.T) {
	last := []impl.Op{
		putOf(15), putOf(16), putOf(100), putOf(4013), {Kind: impl.OpDelete, Name: "a"}, {Kind: impl.OpMerge, Name: "aa", Size: 64},
		{Kind: impl.OpReplace, Name: "a", From: 1, To: 1, Size: 1}, {Kind: impl.OpAppend, Name: "a", Size: 1},
	}
	for _, op := range last {
		record := wantRecord(wantOpText(op))
		for total := 29997; total <= 30003; total++ {
			log := fullLog(t, total-len(record))
			if n := checkReplay(t, low810, "", log); n != len(log) {
				t.Fatalf("ReplayLog ends at %d of %d", n, len(log))
			}
			got, ok := impl.AppendLog(low810, "", log, op)
			want := outcome{}
			if total <= 30000 {
				want = outcome{log + record, true}
			}
			checkOutcome(t, fmt.Sprintf("AppendLog up to %d bytes", total), got, ok, want)
		}
	}
	for n := 29999; n <= 30000; n++ {
		if end := checkReplay(t, low810, "", fullLog(t, n)); end != n {
			t.Errorf("ReplayLog ends at %d of %d", end, n)
		}
		for _, op := range last {
			refuseAppend(t, low810, "", fullLog(t, n), op)
		}
	}
	// A longer log is refused, whatever is in it.
	for _, log := range []string{fullLog(t, 30001), fullLog(t, 30000) + "x", fullLog(t, 40000), strings.Repeat("\x00", 30001), strings.Repeat("x", 1000000)} {
		refuseReplay(t, low810, "", log, last[0])
	}
	for _, junk := range []string{strings.Repeat("\x00", 30000), fullLog(t, 15000) + strings.Repeat("x", 15000)} {
		if end := checkReplay(t, low810, "", junk); end > 15000 {
			t.Errorf("ReplayLog ends at %d", end)
		}
		refuseAppend(t, low810, "", junk, last[0])
	}
}

func TestCompaction(t *testing.T) {
	r := newRandom()
	for _, w := range someWritten(t, r, 20) {
		for _, m := range w.stores {
			want := ""
			for _, name := range m.names() {
				want += wantRecord(fmt.Sprintf("put %s 64 %s", name, dash(fmt.Sprintf("%x", m.files[name].data))))
			}
			log, ok := impl.CompactLog(m.store())
			checkOutcome(t, "CompactLog", log, ok, outcome{want, true})
			if n := checkReplay(t, w.s, w.dict, log); n != len(log) {
				t.Fatalf("ReplayLog ends at %d of %d", n, len(log))
			}
			st, _, _ := impl.ReplayLog(w.s, w.dict, log)
			if text := impl.FormatStore(st); text != m.text() {
				t.Fatalf("FormatStore = %.200q, want %.200q", text, m.text())
			}
			again, ok := impl.CompactLog(st)
			checkOutcome(t, "CompactLog", again, ok, outcome{log, true})
		}
	}
}

// A scriptModel is an interpreter that replays the log before each line.
type scriptModel struct {
	s    impl.Setting
	dict string
	log  string
}

var (
	spanLine   = regexp.MustCompile("^read ([^ ]*) (0|-?[1-9][0-9]{0,16}) (0|-?[1-9][0-9]{0,16})$")
	crashLine  = regexp.MustCompile("^crash (0|[1-9][0-9]{0,16})$")
	dictLine   = regexp.MustCompile("^dict ((?:[0-9a-f]{2})+|-)$")
	settleLine = regexp.MustCompile("^setting (low|high) ([0-9]+) ([0-9]+)$")
)

// answer executes a line that is not empty.
func (m *scriptModel) answer(t *testing.T, line string) string {
	t.Helper()
	store, end := wantReplay(t, m.s, m.dict, m.log)
	if end != len(m.log) {
		t.Fatalf("only %d bytes of the log %.200q can be replayed", end, m.log)
	}
	if op, ok := wantOp(line); ok {
		if record := wantRecord(line); len(m.log)+len(record) <= 30000 && store.apply(t, op) {
			m.log += record
			return "ok"
		}
		return "no"
	}
	switch line {
	case "setting":
		return fmt.Sprintf("%s %d %d %s", []string{"low", "high"}[m.s.Order], m.s.Literal, m.s.Most, dash(fmt.Sprintf("%x", m.dict)))
	case "show":
		return store.text()
	case "log":
		return strconv.Itoa(len(m.log))
	case "compact":
		m.log = ""
		for _, name := range store.names() {
			m.log += wantRecord(fmt.Sprintf("put %s 64 %s", name, dash(fmt.Sprintf("%x", store.files[name].data))))
		}
		return strconv.Itoa(len(m.log))
	}
	return m.answerRest(t, line, store)
}

func (m *scriptModel) answerRest(t *testing.T, line string, store *storeModel) string {
	t.Helper()
	if found := spanLine.FindStringSubmatch(line); found != nil {
		from, _ := strconv.Atoi(found[2])
		to, _ := strconv.Atoi(found[3])
		f, ok := store.files[found[1]]
		if !ok || from < 0 || from > to || to > len(f.data) {
			return "no"
		}
		return dash(fmt.Sprintf("%x", f.data[from:to]))
	}
	if name, ok := strings.CutPrefix(line, "index "); ok {
		f, ok := store.files[name]
		if !ok {
			return "no"
		}
		return wantIndex(indexOf(t, f.stream))
	}
	if found := crashLine.FindStringSubmatch(line); found != nil {
		if n, _ := strconv.Atoi(found[1]); n <= len(m.log) {
			_, end := wantReplay(t, m.s, m.dict, m.log[:n])
			m.log = m.log[:end]
			return strconv.Itoa(end)
		}
	}
	if found := dictLine.FindStringSubmatch(line); found != nil {
		dict := ""
		if found[1] != "-" {
			fmt.Sscanf(found[1], "%x", &dict)
		}
		if impl.DataFits(m.s, dict) {
			*m = scriptModel{s: m.s, dict: dict}
			return "ok"
		}
	}
	if found := settleLine.FindStringSubmatch(line); found != nil {
		literal, _ := strconv.Atoi(found[2])
		most, _ := strconv.Atoi(found[3])
		s := impl.Setting{Order: slices.Index([]string{"low", "high"}, found[1]), Literal: literal, Most: most}
		if slices.Contains(allSettings(), s) && found[2][0] != '0' && found[3][0] != '0' {
			*m = scriptModel{s: s}
			return "ok"
		}
	}
	return "what"
}

// wantScript takes a script apart line by line.
func wantScript(t *testing.T, text string) string {
	t.Helper()
	if len(text) > 20000 {
		return "long\n"
	}
	m := &scriptModel{s: low810}
	out := ""
	for before := 0; text != ""; before++ {
		line, rest, _ := strings.Cut(text, "\n")
		text = rest
		if line == "" {
			continue
		}
		if before >= 100 || len(out) > 40000 {
			return out + "full\n"
		}
		out += m.answer(t, line) + "\n"
	}
	return out
}

func checkScript(t *testing.T, text string) string {
	t.Helper()
	got, want := impl.RunScript(text), wantScript(t, text)
	if got != want {
		t.Fatalf("RunScript(%.2000q) = %.2000q, want %.2000q", text, got, want)
	}
	return got
}

func TestExampleOfChapter8(t *testing.T) {
	text := `setting high 2 4
put a 12 00000000000000000000000001
index a
read a 11 13
log
append a 4 02
replace a 0 12 4 -
show
crash 60
show
compact
delete a
show
merge a 5
foo
`
	want := `ok
ok
0:0 13:12
0001
39
ok
ok
a 0102
56
a 0000000000000000000000000102
41
ok
-
no
what
`
	for _, script := range []string{text, strings.TrimSuffix(text, "\n"), "\n" + strings.ReplaceAll(text, "\n", "\n\n\n")} {
		if got := checkScript(t, script); got != want {
			t.Errorf("RunScript = %q", got)
		}
	}
}

func TestLines(t *testing.T) {
	start := "setting high 2 4\ndict 000102\nput a 12 00000000000000000000000001\nput b 3 -\n"
	for line, want := range map[string]string{
		"setting": "high 2 4 000102", "setting ": "what", "setting low 2 4": "ok", "setting low 2 4 ": "what", "setting  low 2 4": "what", "setting low 2 3": "what", "setting LOW 2 4": "what", "setting high 2 4": "ok",
		"settings": "what", " setting": "what", "Setting": "what", "setting\t": "what",
		"dict": "what", "dict ": "what", "dict -": "ok", "dict --": "what", "dict 00": "ok", "dict 0": "what", "dict 0g": "what", "dict 04": "what", "dict 03": "ok", "dict 00 ": "what", "dict  00": "what", "dict 00 00": "what", "dict 0A": "what",
		"show": "a 00000000000000000000000001;b -", "show ": "what", "show a": "what", "show\r": "what",
		"log": "52", "log ": "what", "log 1": "what", "compact": "53", "compact ": "what", "compact a": "what",
		"read": "what", "read ": "what", "read a": "what", "read a 0": "what", "read a 0 ": "what", "read a 0 0 ": "what", "read a 0 0 0": "what", "read  a 0 0": "what", "read a  0": "what",
		"read a 0 0": "-", "read a 11 13": "0001", "read a 13 13": "-", "read a 0 13": "00000000000000000000000001", "read a 0 14": "no", "read a 14 14": "no", "read a 2 1": "no", "read a -1 1": "no", "read a 0 -1": "no",
		"read b 0 0": "-", "read b 0 1": "no", "read c 0 0": "no", "read  0 0": "no", "read A 0 0": "no", "read c 0 x": "what", "read c x 0": "what", "read a x 0": "what",
		"read a 00 1": "what", "read a 0 01": "what", "read a -0 1": "what", "read a 0 -0": "what", "read a +0 1": "what", "read a 0 +1": "what", "read a 0 1.0": "what", "read a 0 1e0": "what", "read a 0 0x1": "what", "read a 0 1_0": "what", "read a - 1": "what", "read a 0 -": "what", "read a 0 --1": "what", "read a 0 -01": "what", "read a 0 ١": "what",
		"read a 0 99999999999999999": "no", "read a 0 100000000000000000": "what", "read a -99999999999999999 0": "no", "read a -100000000000000000 0": "what", "read a 0 00000000000000001": "what", "read a 0 9223372036854775808": "what",
		"index": "what", "index ": "no", "index a": "0:0 14:12", "index b": "-", "index c": "no", "index a ": "no", "index  a": "no", "index a b": "no", "index a;b -": "no",
		"crash": "what", "crash ": "what", "crash 0": "0", "crash 38": "0", "crash 39": "39", "crash 51": "39", "crash 52": "52", "crash 53": "what", "crash -1": "what", "crash -0": "what", "crash 00": "what", "crash 039": "what", "crash 39 ": "what", "crash  39": "what", "crash 39 39": "what", "crash x": "what", "crash +1": "what",
		"crash 99999999999999999": "what", "crash 100000000000000000": "what", "crash 18446744073709551616": "what", "crash -9223372036854775808": "what",
		"put c 4 00": "ok", "put c 1 " + strings.Repeat("00", 41): "no", "put c 0 00": "what", "put c 4 0": "what", "put c 4": "what", "put": "what", "put ": "what", "put c 4 00 ": "what", "PUT c 4 00": "what",
		"append a 4 02": "ok", "append c 4 02": "no", "append a 4 ": "what", "replace a 0 1 4 -": "ok", "replace a 0 14 4 -": "no", "replace a 1 0 4 -": "what", "replace a 0 2001 4 -": "what",
		"merge a 5": "ok", "merge b 64": "ok", "merge c 5": "no", "merge a 65": "what", "merge a": "what", "delete a": "ok", "delete c": "no", "delete": "what", "delete ": "what", "delete a ": "what", "delete A": "what",
		"what": "what", "ok": "what", " ": "what", "  ": "what", "\x00": "what", "\xff": "what", "foo bar": "what", "0": "what", "-": "what", "\r": "what",
	} {
		// What stands before and behind a line does not matter for it, and a line without an effect changes nothing.
		if got := checkScript(t, start+line); got != strings.Repeat("ok\n", 4)+want+"\n" {
			t.Errorf("RunScript of %q = %q, want %q", line, got, want)
		}
		checkScript(t, start+line+"\nsetting\nshow\nlog\nindex a\nindex b\ncrash 45\nshow\nlog\nappend a 1 00\nshow\nlog\ncompact\nindex a\n")
		checkScript(t, line+"\nsetting\nshow\nlog\n\n")
	}
}

func TestScriptsAreCutIntoLines(t *testing.T) {
	for script, want := range map[string]string{
		"": "", "\n": "", "\n\n\n": "", "show": "-\n", "show\n": "-\n", "\nshow": "-\n", "\n\nshow\n\n": "-\n", "show\nlog": "-\n0\n", "show\n\nlog\n": "-\n0\n",
		"show\r\nlog": "what\n0\n", "show\x00": "what\n", "\x00\nshow": "what\n-\n", "show;log": "what\n", " \nshow": "what\n-\n", "setting": "low 8 10 -\n", "compact\nlog": "0\n0\n", "crash 0": "0\n", "crash 1": "what\n",
	} {
		if got := checkScript(t, script); got != want {
			t.Errorf("RunScript(%q) = %q, want %q", script, got, want)
		}
	}
}

// A change of setting or dictionary takes all files and the log away, even if it is the same one again.
func TestChangingSettings(t *testing.T) {
	for change, want := range map[string]string{
		"setting high 3 6": "high 3 6 -", "setting low 8 10": "low 8 10 -", "setting high 2 4": "high 2 4 -",
		"dict 0102": "high 2 4 0102", "dict 00": "high 2 4 00", "dict -": "high 2 4 -",
	} {
		got := checkScript(t, "setting high 2 4\ndict 00\nput a 4 00\n"+change+"\nsetting\nshow\nlog\nput b 4 00\nindex b\nlog\ncrash 13\nsetting\n")
		if tail := "ok\n" + want + "\n-\n0\nok\n0:0\n14\n0\n" + want + "\n"; got != "ok\nok\nok\n"+tail {
			t.Errorf("RunScript with %q = %q, want %q", change, got, tail)
		}
	}
	for _, change := range []string{"setting high 2 3", "setting ", "dict 04", "dict ", "dict 0", "dict " + strings.Repeat("00", 2001), "dict " + strings.Repeat("00", 4001)} {
		got := checkScript(t, "setting high 2 4\ndict 00\nput a 4 00\n"+change+"\nsetting\nshow\nlog\n")
		if got != "ok\nok\nok\nwhat\nhigh 2 4 00\na 00\n14\n" {
			t.Errorf("RunScript with %.40q = %q", change, got)
		}
	}
	long := strings.Repeat("03", 2000)
	if got := checkScript(t, "setting high 2 4\ndict "+long+"\nsetting\nput a 64 "+long+"\nindex a\n"); !strings.HasPrefix(got, "ok\nok\nhigh 2 4 "+long+"\nok\n0:0 ") {
		t.Errorf("RunScript = %.100q", got)
	}
}

func TestCrashesInScripts(t *testing.T) {
	lines := []string{"put a 4 0001", "put b 4 ff", "append a 4 02", "replace a 1 2 4 0303", "merge a 64", "delete b", "put b 1 -"}
	stores := []string{"-", "a 0001", "a 0001;b ff", "a 000102;b ff", "a 00030302;b ff", "a 00030302;b ff", "a 00030302", "a 00030302;b -"}
	size := 0
	ends := []int{0}
	for _, line := range lines {
		size += len(line) + 4
		ends = append(ends, size)
	}
	for n := range size + 1 {
		last := len(slices.DeleteFunc(slices.Clone(ends), func(end int) bool { return end > n })) - 1
		script := fmt.Sprintf("%s\ncrash %d\nshow\nlog\nput c 4 04\nlog\ncrash %d\nshow\n", strings.Join(lines, "\n"), n, ends[last])
		want := fmt.Sprintf("%s%d\n%s\n%d\nok\n%d\n%d\n%s\n", strings.Repeat("ok\n", len(lines)), ends[last], stores[last], ends[last], ends[last]+14, ends[last], stores[last])
		if got := checkScript(t, script); got != want {
			t.Errorf("RunScript(%q) = %q, want %q", script, got, want)
		}
	}
}

func TestLongScripts(t *testing.T) {
	for script, want := range map[string]string{
		strings.Repeat("\n", 20000): "", strings.Repeat("\n", 20001): "long\n", strings.Repeat("x", 20000): "what\n", strings.Repeat("x", 20001): "long\n", strings.Repeat("x", 1000000): "long\n",
		strings.Repeat("\n", 19999) + "x": "full\n", strings.Repeat("x\n", 10000): strings.Repeat("what\n", 100) + "full\n", strings.Repeat("x\n", 10000) + "x": "long\n",
		"x" + strings.Repeat("\n", 19999): "what\n", "x" + strings.Repeat("\n", 20000): "long\n",
	} {
		if got := checkScript(t, script); got != want {
			t.Errorf("RunScript of %d bytes = %.100q, want %.100q", len(script), got, want)
		}
	}
}

func TestManyLines(t *testing.T) {
	what := func(n int) string { return strings.Repeat("what\n", n) }
	for script, want := range map[string]string{
		strings.Repeat("x\n", 99): what(99), strings.Repeat("x\n", 100): what(100), strings.Repeat("x\n", 101): what(100) + "full\n", strings.Repeat("x\n", 200): what(100) + "full\n",
		strings.Repeat("x\n", 99) + "x": what(100), strings.Repeat("x\n", 100) + "x": what(100) + "full\n",
		strings.Repeat("x\n", 100) + "\n\n\n": what(100), strings.Repeat("x\n", 100) + "\n\n\nx\n\n": what(100) + "full\n",
		strings.Repeat("\n", 99) + "x": "what\n", strings.Repeat("\n", 100) + "x": "full\n", strings.Repeat("\n", 99) + "x\nx\nx\n": "what\nfull\n", strings.Repeat("\n", 500): "",
		strings.Repeat("\nx\n", 50): what(50), strings.Repeat("\nx\n", 51): what(50) + "full\n",
		strings.Repeat("\n", 98) + "put a 4 00\nshow\ndelete a\nshow": "ok\na 00\nfull\n",
	} {
		if got := checkScript(t, script); got != want {
			t.Errorf("RunScript(%.40q) = %.100q, want %.100q", script, got, want)
		}
	}
}

func TestMuchOutput(t *testing.T) {
	start := "put a 64 " + strings.Repeat("00", 2000) + "\n" + strings.Repeat("read a 0 2000\n", 9)
	for _, c := range []struct {
		more string
		size int // of the output so far
	}{
		{"read a 0 1000\nread a 0 992\n", 39998}, {"read a 0 1993\n", 39999}, {"read a 0 1000\nread a 0 993\n", 40000},
		{"read a 0 1994\n", 40001}, {"read a 0 1000\nread a 0 994\n", 40002}, {"read a 0 2000\n", 40013}, {"read a 0 2000\n\n\n", 40013},
	} {
		got := checkScript(t, start+c.more)
		if len(got) != c.size || strings.HasSuffix(got, "full\n") {
			t.Errorf("the output with %q has %d bytes, want %d", c.more, len(got), c.size)
		}
		want := "full\n"
		if c.size <= 40000 {
			want = "what\n"
		}
		if further := checkScript(t, start+c.more+"x"); further != got+want {
			t.Errorf("the output behind %d bytes is %q, want %q", c.size, further[len(got):], want)
		}
		if c.size <= 40000 {
			want = "a " + strings.Repeat("00", 2000) + "\nfull\n"
		}
		if further := checkScript(t, start+c.more+"show\nx\nx\n"); further != got+want {
			t.Errorf("the output behind %d bytes is %.100q", c.size, further[len(got):])
		}
	}
}

// randomLine returns a line that has an effect, an answer, or a fault.
func randomLine(r *rand.Rand, m *storeModel, size int) string {
	names := append(m.names(), "a", "b", "none", "")
	name := names[r.Intn(len(names))]
	line := ""
	switch r.Intn(16) {
	case 0:
		line = "show"
	case 1:
		line = []string{"log", "setting", "compact", "", ""}[r.Intn(5)]
	case 2:
		line = fmt.Sprintf("read %s %d %d", name, r.Intn(10)-1, r.Intn(60))
	case 3:
		line = "index " + name
	case 4, 5:
		line = fmt.Sprintf("crash %d", size-r.Intn(min(size, 60)+1))
	case 6:
		if r.Intn(4) == 0 {
			line = "setting " + impl.FormatSetting(fewSettings()[r.Intn(len(fewSettings()))])
		}
	case 7:
		if r.Intn(4) == 0 {
			line = "dict " + dash(fmt.Sprintf("%x", randomData(r, m.s, r.Intn(20))))
		}
	default:
		line = wantOpText(randomOp(r, m))
	}
	if r.Intn(30) == 0 && line != "" {
		at := r.Intn(len(line))
		line = put(line, at, at+r.Intn(2), string(" -0a1"[r.Intn(5)]))
	}
	return line
}

func TestRandomScripts(t *testing.T) {
	r := newRandom()
	answers := map[string]int{}
	for range 25 {
		script := &scriptModel{s: low810}
		text := ""
		for range 80 + r.Intn(30) {
			store, _ := wantReplay(t, script.s, script.dict, script.log)
			line := randomLine(r, store, len(script.log))
			if line != "" {
				script.answer(t, line)
			}
			text += line + "\n"
		}
		got := checkScript(t, text[:len(text)-r.Intn(2)])
		for _, answer := range strings.Split(got, "\n") {
			answers[answer]++
		}
		for range 2 {
			checkScript(t, text[:r.Intn(len(text))])
		}
	}
	if answers["ok"] < 500 || answers["no"] < 25 || answers["what"] < 25 || answers["full"] < 3 || answers["-"] < 25 {
		t.Errorf("the answers were %d ok, %d no, %d what, %d full, %d -", answers["ok"], answers["no"], answers["what"], answers["full"], answers["-"])
	}
}

// The same call has the same result, also beside others.
func TestScriptsAtTheSameTime(t *testing.T) {
	script := strings.Repeat("put a 4 00010203\nappend a 1 04\nlog\ncrash 30\nlog\ncompact\nput b 1 -\nlog\n", 12)
	want := wantScript(t, script)
	results := make(chan string)
	for range 8 {
		go func() {
			for range 10 {
				results <- impl.RunScript(script)
			}
		}()
	}
	for range 80 {
		if got := <-results; got != want {
			t.Errorf("RunScript = %q, want %q", got, want)
		}
	}
}

// What a call starts ends with it, also where the call is refused.
func TestNoGoroutineIsLeft(t *testing.T) {
	before := runtime.NumGoroutine()
	log := logOf(t, "put a 4 0001", "put b 4 -")
	for range 50 {
		impl.RunScript("put a 4 00\nlog\ncrash 5\nput a 4 00\ncompact\ndict 00\ndict 0\nsetting low 2 4\nput a 4 00\nfoo\n" + strings.Repeat("\n", 100) + "log\n")
		impl.RunScript(strings.Repeat("x", 20001))
		impl.AppendLog(high24, "", log, impl.Op{Name: "c", Size: 1})
		impl.AppendLog(high24, "", log, impl.Op{Name: "c", Size: 0})
		impl.AppendLog(high24, "", log+"x", impl.Op{Name: "c", Size: 1})
		impl.AppendLog(high24, "", fullLog(t, 30000), impl.Op{Name: "a", Size: 1})
		impl.AppendLog(high24, "\xff", log, impl.Op{Name: "c", Size: 1})
		st, _, _ := impl.ReplayLog(high24, "", log)
		impl.CompactLog(st)
		impl.CompactLog(impl.Store{})
	}
	// A goroutine that has done its work may still be about to end.
	for range 100 {
		if runtime.NumGoroutine() <= before {
			return
		}
		time.Sleep(10 * time.Millisecond)
	}
	t.Errorf("%d goroutines are left, and there were %d", runtime.NumGoroutine(), before)
}

// No result may share the memory of another one, and no argument may change.
func TestNoMemoryOfStoresIsShared(t *testing.T) {
	m := newStoreModel(high24, "")
	st := applyTexts(t, m, "put b 4 00", "put c 4 01", "put e 4 02")
	room := append(slices.Clone(st.Files), impl.File{Name: "x"}, impl.File{Name: "y"})
	before := slices.Clone(room)
	st.Files = room[:3]
	for _, text := range []string{"put a 4 00", "put d 4 00", "put f 4 00", "put b 4 03", "append e 4 03", "replace b 0 1 4 -", "merge c 4", "delete b", "delete c", "delete e", "put c 1 " + strings.Repeat("00", 41)} {
		op, _ := wantOp(text)
		after, ok := impl.ApplyOp(st, op)
		if !slices.Equal(room, before) {
			t.Fatalf("ApplyOp %q has changed the files to %.200v", text, room)
		}
		if ok {
			further := append(after.Files, impl.File{Name: "z"})
			for i := range further {
				further[i] = impl.File{}
			}
		}
		if !slices.Equal(room, before) {
			t.Fatalf("the result of %q shares its files with the argument", text)
		}
	}
	first, _, _ := impl.ReplayLog(high24, "", logOf(t, "put b 4 00"))
	second, _, _ := impl.ReplayLog(high24, "", logOf(t, "put b 4 00"))
	first.Files[0] = impl.File{}
	if reflect.DeepEqual(first, second) || impl.FormatStore(second) != "b 00" {
		t.Errorf("ReplayLog = %v", second)
	}
}
