package tests

// Promise 5: every range of the data of a container is read from the blocks that touch it, whatever the other blocks are.

import (
	"fmt"
	"math"
	"math/rand"
	"slices"
	"strings"
	"testing"

	"loop.example/soughtstreams/impl"
)

var low810 = impl.Setting{Order: impl.OrderLow, Literal: 8, Most: 10}

// zeros12 has for high24 the stream 837865.
const zeros12 = "\x00\x00\x00\x00\x00\x00\x00\x00\x00\x00\x00\x00"

func two(n int) string { return string([]byte{byte(n / 256), byte(n % 256)}) }

// blockText writes the bytes of a block, or of something like it that has a right checksum.
func blockText(kind, number, size, length int, body string) string {
	inner := string([]byte{byte(kind)}) + two(number) + two(size) + two(length) + body
	return "\xb5" + inner + two(wantSum(inner))
}

func textOf(b impl.Block) string {
	kind := 1
	if b.Raw {
		kind = 0
	}
	return blockText(kind, b.Number, b.Size, len(b.Body), b.Body)
}

func rawBlock(number int, data string) impl.Block {
	return impl.Block{Number: number, Raw: true, Size: len(data), Body: data}
}

// rawText returns the bytes of raw blocks of some sizes.
func rawText(sizes ...int) string {
	text := ""
	for i, size := range sizes {
		text += textOf(rawBlock(i, strings.Repeat("x", size)))
	}
	return text
}

// isBlock reports what a block is by the text of the document.
func isBlock(b impl.Block) bool {
	if b.Number < 0 || b.Number > 39 || b.Size < 1 || b.Size > 64 {
		return false
	}
	if b.Raw {
		return len(b.Body) == b.Size
	}
	return len(b.Body) >= 1 && len(b.Body) < b.Size
}

// wantParse finds the only block that may stand at an index by the length in its bytes.
func wantParse(stream string, at int) (impl.Block, int, bool) {
	if at < 0 || at > len(stream) || len(stream)-at < 10 {
		return impl.Block{}, 0, false
	}
	text := stream[at:]
	number := func(i int) int { return 256*int(text[i]) + int(text[i+1]) }
	next := 10 + number(6)
	if len(text) < next {
		return impl.Block{}, 0, false
	}
	b := impl.Block{Number: number(2), Raw: text[1] == 0, Size: number(4), Body: text[8 : next-2]}
	if !isBlock(b) || text[:next] != textOf(b) {
		return impl.Block{}, 0, false
	}
	return b, at + next, true
}

// wantBlock returns the block of data by the result of CompressWith.
func wantBlock(s impl.Setting, dict string, number int, data string) impl.Block {
	if stream, ok := impl.CompressWith(s, dict, data); ok && len(stream) < len(data) {
		return impl.Block{Number: number, Size: len(data), Body: stream}
	}
	return rawBlock(number, data)
}

func wantContainer(s impl.Setting, dict, data string, size int) string {
	text := ""
	for i := 0; i*size < len(data); i++ {
		text += textOf(wantBlock(s, dict, i, data[i*size:min((i+1)*size, len(data))]))
	}
	return text
}

// mixedData returns data with places that have bytes that are no literals, and others that become shorter.
func mixedData(r *rand.Rand, s impl.Setting, n int) string {
	data := ""
	for len(data) < n {
		part := randomData(r, s, 1+r.Intn(80))
		switch r.Intn(4) {
		case 0:
			part = strings.Repeat(part[:1], len(part))
		case 1:
			b := make([]byte, 1+r.Intn(20))
			r.Read(b)
			part = string(b)
		}
		data += part
	}
	return data[:n]
}

// A made is a container with what it has been made of.
type made struct {
	s      impl.Setting
	dict   string
	data   string
	size   int
	stream string
}

func makeOne(t *testing.T, s impl.Setting, dict, data string, size int) made {
	t.Helper()
	stream, ok := impl.MakeContainer(s, dict, data, size)
	if !ok {
		t.Fatalf("MakeContainer(%v, %.20q, %d bytes, %d) is false", s, dict, len(data), size)
	}
	return made{s, dict, data, size, stream}
}

// someMade returns containers of few and of many blocks, some of them with a shorter last block.
func someMade(t *testing.T, r *rand.Rand) []made {
	t.Helper()
	var list []made
	for _, s := range fewSettings() {
		for _, dict := range []string{"", randomData(r, s, 30)} {
			for _, size := range []int{1, 2, 5, 12, 31, 64} {
				n := min(200, r.Intn(size*12), size*40)
				list = append(list, makeOne(t, s, dict, mixedData(r, s, n), size))
			}
			list = append(list, makeOne(t, s, dict, mixedData(r, s, 60), 12), makeOne(t, s, dict, mixedData(r, s, 40), 1))
		}
	}
	return list
}

func indexOf(t *testing.T, stream string) []impl.Place {
	t.Helper()
	list, ok := impl.IndexOf(stream)
	if !ok {
		t.Fatalf("IndexOf(%.40x) is false", stream)
	}
	return list
}

// noContainers returns streams that are no containers, for several reasons.
func noContainers() []string {
	whole := rawText(3, 2, 4)
	second := textOf(rawBlock(1, "yy"))
	return []string{
		"x", "\xb5", "\x00", whole + "x", whole + "\xb5", whole + "\x00", "x" + whole,
		whole[1:], whole[:len(whole)-1], whole[:5], whole + whole,
		second, textOf(rawBlock(39, "y")), rawText(3) + textOf(rawBlock(0, "y")), rawText(3) + textOf(rawBlock(2, "y")),
		rawText(3) + "x" + second, rawText(3, 2)[:20] + "y" + rawText(3, 2)[21:],
		rawText(slices.Repeat([]int{50}, 40)...) + blockText(0, 40, 1, 1, "y"),
		rawText(append(slices.Repeat([]int{64}, 31), 17)...),
		rawText(slices.Repeat([]int{64}, 40)...),
		rawText(append(slices.Repeat([]int{50}, 39), 51)...),
		strings.Repeat("\x00", 5000), strings.Repeat(second, 500),
	}
}

// checkContainer checks what a container tells about its data.
func checkContainer(t *testing.T, s impl.Setting, dict, stream, want string) {
	t.Helper()
	if data, ok := impl.ContainerData(s, dict, stream); data != want || !ok {
		t.Fatalf("ContainerData(%v, %.20q, %.40x) = %.40q, %v, want %.40q", s, dict, stream, data, ok, want)
	}
	if n := impl.ContainerSize(stream); n != len(want) {
		t.Fatalf("ContainerSize(%.40x) = %d, want %d", stream, n, len(want))
	}
}

func checkRange(t *testing.T, m made, from, to int) {
	t.Helper()
	if got, ok := impl.ReadRange(m.s, m.dict, m.stream, from, to); got != m.data[from:to] || !ok {
		t.Fatalf("ReadRange(%v, %.20q, %.40x, %d, %d) = %q, %v", m.s, m.dict, m.stream, from, to, got, ok)
	}
}

func checkIndexed(t *testing.T, m made, stream string, list []impl.Place, from, to int) {
	t.Helper()
	if got, ok := impl.ReadIndexed(m.s, m.dict, stream, list, from, to); got != m.data[from:to] || !ok {
		t.Fatalf("ReadIndexed(%v, %.20q, %.40x, %v, %d, %d) = %q, %v, want %q", m.s, m.dict, stream, list, from, to, got, ok, m.data[from:to])
	}
}

func refuseIndexed(t *testing.T, s impl.Setting, dict, stream string, list []impl.Place, from, to int) {
	t.Helper()
	if got, ok := impl.ReadIndexed(s, dict, stream, list, from, to); got != "" || ok {
		t.Errorf("ReadIndexed(%v, %.20q, %.40x, %v, %d, %d) = %q, %v", s, dict, stream, list, from, to, got, ok)
	}
}

func refuseRange(t *testing.T, s impl.Setting, dict, stream string, from, to int) {
	t.Helper()
	if got, ok := impl.ReadRange(s, dict, stream, from, to); got != "" || ok {
		t.Errorf("ReadRange(%v, %.20q, %.40x, %d, %d) = %q, %v", s, dict, stream, from, to, got, ok)
	}
}

func refuseParse(t *testing.T, stream string, at int) {
	t.Helper()
	if b, next, ok := impl.ParseBlock(stream, at); b != (impl.Block{}) || next != 0 || ok {
		t.Errorf("ParseBlock(%.40x, %d) = %v, %d, %v", stream, at, b, next, ok)
	}
}

func refuseBlockOf(t *testing.T, s impl.Setting, dict string, number int, data string) {
	t.Helper()
	if b, ok := impl.BlockOf(s, dict, number, data); b != (impl.Block{}) || ok {
		t.Errorf("BlockOf(%v, %.20q, %d, %.20q) = %v, %v", s, dict, number, data, b, ok)
	}
}

func refuseBlockData(t *testing.T, s impl.Setting, dict string, b impl.Block) {
	t.Helper()
	if data, ok := impl.BlockData(s, dict, b); data != "" || ok {
		t.Errorf("BlockData(%v, %.20q, %v) = %q, %v", s, dict, b, data, ok)
	}
}

func refuseMake(t *testing.T, s impl.Setting, dict, data string, size int) {
	t.Helper()
	if stream, ok := impl.MakeContainer(s, dict, data, size); stream != "" || ok {
		t.Errorf("MakeContainer(%v, %.20q, %d bytes, %d) = %.20x, %v", s, dict, len(data), size, stream, ok)
	}
}

// A dictPair is a setting and a dictionary that cannot be used.
type dictPair struct {
	s    impl.Setting
	dict string
}

func unusable() []dictPair {
	var list []dictPair
	for _, s := range wrongSettings() {
		list = append(list, dictPair{s, ""}, dictPair{s, "\x00"})
	}
	for _, s := range []impl.Setting{high24, low810} {
		for _, dict := range unfit(s) {
			list = append(list, dictPair{s, dict})
		}
	}
	return list
}

func TestExampleOfChapter5(t *testing.T) {
	m := makeOne(t, high24, "", zeros12+"\x01", 12)
	if got := impl.FormatHex(m.stream); got != "b5010000000c00038378653f71b500000100010001010d04" {
		t.Errorf("MakeContainer = %s", got)
	}
	if text := impl.FormatIndex(indexOf(t, m.stream)); text != "0:0 13:12" {
		t.Errorf("FormatIndex = %q", text)
	}
	got := []int{impl.MaxBlock, impl.MaxBlocks, impl.Marker, impl.Overhead}
	if want := []int{64, 40, 181, 10}; !slices.Equal(got, want) {
		t.Errorf("limits are %v, want %v", got, want)
	}
}

func TestBlocksOfData(t *testing.T) {
	r := newRandom()
	kinds := map[string]int{}
	for _, s := range fewSettings() {
		for _, dict := range []string{"", randomData(r, s, 40)} {
			for n := 1; n <= 64; n++ {
				data := mixedData(r, s, n)
				want := wantBlock(s, dict, n%40, data)
				b, ok := impl.BlockOf(s, dict, n%40, data)
				if b != want || !ok {
					t.Fatalf("BlockOf(%v, %.20q, %d, %q) = %v, %v, want %v", s, dict, n%40, data, b, ok, want)
				}
				if got, ok := impl.BlockData(s, dict, b); got != data || !ok {
					t.Fatalf("BlockData(%v, %.20q, %v) = %q, %v, want %q", s, dict, b, got, ok, data)
				}
				stream, ok := impl.CompressWith(s, dict, data)
				kinds[fmt.Sprint(ok, max(-1, min(len(stream)-len(data), 1)))]++
			}
		}
	}
	// Streams have been shorter than the data, as long, and longer; and there have been bytes that are no literals.
	if kinds["true -1"] < 100 || kinds["true 0"] < 10 || kinds["true 1"] < 10 || kinds["false -1"] < 100 {
		t.Errorf("there have been %v", kinds)
	}
}

func TestABlockThatDoesNotBecomeShorter(t *testing.T) {
	// All these streams have two bytes: 4, 0, 5 have 9 bits, and 4, 0, 6, 0, 5 have 16.
	for n := 1; n <= 4; n++ {
		data := zeros12[:n]
		b, ok := impl.BlockOf(high24, "", 7, data)
		stream := compressWith(t, high24, "", data)
		if len(stream) != 2 {
			t.Fatalf("CompressWith(%q) = %x", data, stream)
		}
		want := rawBlock(7, data)
		if n > 2 {
			want = impl.Block{Number: 7, Size: n, Body: stream}
		}
		if b != want || !ok {
			t.Errorf("BlockOf(%q) = %v, %v, want %v", data, b, ok, want)
		}
	}
}

func TestABlockWithBytesThatAreNoLiterals(t *testing.T) {
	for at := range 12 {
		for _, wrong := range []string{"\x04", "\x05", "\x80", "\xff"} {
			data := zeros12[:at] + wrong + zeros12[at+1:]
			if b, ok := impl.BlockOf(high24, "", 0, data); b != rawBlock(0, data) || !ok {
				t.Errorf("BlockOf(%q) = %v, %v", data, b, ok)
			}
			if got, ok := impl.BlockData(high24, "", rawBlock(0, data)); got != data || !ok {
				t.Errorf("BlockData = %q, %v", got, ok)
			}
		}
	}
	// Only the blocks that have such bytes are raw.
	m := makeOne(t, high24, "", zeros12+"\xff"+zeros12+zeros12, 12)
	if n := impl.CountRaw(m.stream); n != 2 {
		t.Errorf("CountRaw = %d", n)
	}
	checkContainer(t, high24, "", m.stream, m.data)
}

// A dictionary may make a stream shorter than its data, or no longer so.
func TestBlocksWithADictionary(t *testing.T) {
	dict := "the quick brown fox"
	data := "quick fox"
	if b, ok := impl.BlockOf(low810, "", 0, data); !b.Raw || !ok {
		t.Errorf("BlockOf = %v, %v", b, ok)
	}
	b, ok := impl.BlockOf(low810, dict, 0, data)
	if b.Raw || !ok {
		t.Fatalf("BlockOf = %v, %v", b, ok)
	}
	if got, ok := impl.BlockData(low810, dict, b); got != data || !ok {
		t.Errorf("BlockData = %q, %v", got, ok)
	}
	for _, other := range []string{"", "the quick", "quick fox"} {
		refuseBlockData(t, low810, other, b)
	}
	refuseBlockData(t, high24, "", b)
	// A raw block does not depend on what is known.
	for _, other := range []string{"", dict} {
		if got, ok := impl.BlockData(low810, other, rawBlock(3, data)); got != data || !ok {
			t.Errorf("BlockData = %q, %v", got, ok)
		}
	}
}

func TestNumbersAndSizesOfBlocks(t *testing.T) {
	for _, data := range []string{"\x00", "\xff", zeros12, strings.Repeat("\x00", 64)} {
		for _, number := range []int{0, 1, 38, 39} {
			if b, ok := impl.BlockOf(high24, "", number, data); b != wantBlock(high24, "", number, data) || !ok {
				t.Errorf("BlockOf(%d, %q) = %v, %v", number, data, b, ok)
			}
		}
		for _, number := range append([]int{40, 41, 255, 256, 65536, -65536}, extremes...) {
			refuseBlockOf(t, high24, "", number, data)
		}
		for _, u := range unusable() {
			refuseBlockOf(t, u.s, u.dict, 0, data)
		}
	}
	for _, data := range []string{"", strings.Repeat("\x00", 65), strings.Repeat("\xff", 65), strings.Repeat("\x00", 2001), strings.Repeat("\x00", 100000)} {
		refuseBlockOf(t, high24, "", 0, data)
		refuseBlockOf(t, low810, "", 39, data)
	}
}

// notBlocks returns what is no block, although all but one thing is right.
func notBlocks() []impl.Block {
	list := []impl.Block{
		{}, {Raw: true}, {Size: 12}, {Raw: true, Size: 1}, {Body: "\x83\x78\x65"}, {Raw: true, Body: "x"},
		{Size: 3, Body: "\x83\x78\x65"}, {Size: 2, Body: "\x83\x78\x65"}, {Size: 1, Body: "x"},
		{Raw: true, Size: 2, Body: "x"}, {Raw: true, Size: 1, Body: "xx"},
		{Raw: true, Size: 65, Body: strings.Repeat("x", 65)}, {Size: 65, Body: "\x83\x78\x65"}, {Size: 65, Body: strings.Repeat("x", 64)},
		{Size: 64, Body: strings.Repeat("x", 64)}, {Raw: true, Size: 64, Body: strings.Repeat("x", 63)},
	}
	for _, n := range append([]int{40, 256, 65536}, extremes...) {
		list = append(list, impl.Block{Number: n, Size: 12, Body: "\x83\x78\x65"}, impl.Block{Number: n, Raw: true, Size: 1, Body: "x"})
		if n > 64 || n < 0 {
			list = append(list, impl.Block{Size: n, Body: "\x83\x78\x65"}, impl.Block{Raw: true, Size: n, Body: "x"})
		}
	}
	return list
}

func TestWhatIsNoBlock(t *testing.T) {
	for _, b := range notBlocks() {
		if isBlock(b) {
			t.Errorf("%v is a block", b)
		}
		refuseBlockData(t, high24, "", b)
		refuseBlockData(t, low810, "", b)
		if text, ok := impl.FormatBlock(b); text != "" || ok {
			t.Errorf("FormatBlock(%v) = %x, %v", b, text, ok)
		}
	}
}

func TestBlocksWithoutData(t *testing.T) {
	whole := impl.Block{Size: 12, Body: "\x83\x78\x65"}
	if data, ok := impl.BlockData(high24, "", whole); data != zeros12 || !ok {
		t.Fatalf("BlockData = %q, %v", data, ok)
	}
	bodies := []string{"\x83\x78\x65\x00", "\x83\x78\x65\xff", "\x83\x78", "\x83", "\x9c", "\x00", "\xff\xff", "\x83\x78\x64"}
	for _, body := range bodies {
		refuseBlockData(t, high24, "", impl.Block{Size: 12, Body: body})
		if text, ok := impl.FormatBlock(impl.Block{Size: 12, Body: body}); text != textOf(impl.Block{Size: 12, Body: body}) || !ok {
			t.Errorf("FormatBlock = %x, %v", text, ok)
		}
	}
	for size := 4; size <= 64; size++ {
		if size != 12 {
			refuseBlockData(t, high24, "", impl.Block{Size: size, Body: "\x83\x78\x65"})
		}
	}
	// No data at all has a stream, but no block.
	refuseBlockData(t, high24, "", impl.Block{Size: 2, Body: "\x94"})
	for _, u := range unusable() {
		refuseBlockData(t, u.s, u.dict, whole)
		refuseBlockData(t, u.s, u.dict, rawBlock(0, "\x00"))
	}
	// A stream that BlockOf does not make is one, too: here without words of several bytes, and without a clear code.
	codes := []int{0, 0, 0, 0, 0, 0, 0, 0, 0, 0, 0, 0, 5}
	body, ok := impl.PackCodes(start(t, high24), codes)
	if !ok || len(body) >= 12 {
		t.Fatalf("PackCodes = %x, %v", body, ok)
	}
	if data, ok := impl.BlockData(high24, "", impl.Block{Size: 12, Body: body}); data != zeros12 || !ok {
		t.Errorf("BlockData = %q, %v", data, ok)
	}
}

// checkParse checks a block that stands in a stream.
func checkParse(t *testing.T, stream string, at int, want impl.Block, wantNext int) {
	t.Helper()
	if b, next, ok := impl.ParseBlock(stream, at); b != want || next != wantNext || !ok {
		t.Fatalf("ParseBlock(%.40x, %d) = %v, %d, %v, want %v, %d", stream, at, b, next, ok, want, wantNext)
	}
}

func TestBytesOfBlocks(t *testing.T) {
	r := newRandom()
	for size := 1; size <= 64; size++ {
		for range 20 {
			body := make([]byte, size)
			r.Read(body)
			b := rawBlock(r.Intn(40), string(body))
			if size > 1 && r.Intn(2) == 0 {
				b.Raw, b.Body = false, b.Body[:1+r.Intn(size-1)]
			}
			text, ok := impl.FormatBlock(b)
			if text != textOf(b) || !ok || len(text) != 10+len(b.Body) {
				t.Fatalf("FormatBlock(%v) = %x, %v, want %x", b, text, ok, textOf(b))
			}
			for _, before := range []string{"", "\xb5", "abc", text} {
				for _, behind := range []string{"", "\x00", text} {
					checkParse(t, before+text+behind, len(before), b, len(before)+len(text))
				}
			}
			for n := range len(text) {
				refuseParse(t, text[:n], 0)
			}
			for _, at := range append([]int{1, len(text) - 1, len(text), len(text) + 1}, extremes...) {
				if at != 64 || len(text) <= 64 {
					refuseParse(t, text, at)
				}
			}
		}
	}
	// Not only containers have blocks: a stream may have any length.
	long := strings.Repeat("\xb5", 100000)
	checkParse(t, long+textOf(rawBlock(39, "x"))+long, 100000, rawBlock(39, "x"), 100011)
}

func TestAnyByteOfABlockCounts(t *testing.T) {
	blocks := []impl.Block{{Size: 12, Body: "\x83\x78\x65"}, rawBlock(39, "\x00\xff\x01\xfe"), rawBlock(0, "\x00"), {Number: 1, Size: 2, Body: "\xff"}}
	same := 0
	for _, b := range blocks {
		text := textOf(b)
		for i := range len(text) {
			for value := range 256 {
				changed := "z" + text[:i] + string([]byte{byte(value)}) + text[i+1:] + "\x00\xb5"
				want, wantNext, wantOk := wantParse(changed, 1)
				got, next, ok := impl.ParseBlock(changed, 1)
				if got != want || next != wantNext || ok != wantOk {
					t.Fatalf("ParseBlock(%x, 1) = %v, %d, %v, want %v, %d, %v", changed, got, next, ok, want, wantNext, wantOk)
				}
				if ok && got != b {
					same++
				}
			}
		}
	}
	// The sums are the same only where a body has a 0 for a 255.
	if same != 4 {
		t.Errorf("%d other blocks have the same sum", same)
	}
}

// All of this has a right checksum.
func TestHeadersThatAreNoneOfABlock(t *testing.T) {
	list := []string{
		blockText(2, 0, 1, 1, "x"), blockText(255, 0, 1, 1, "x"), blockText(2, 0, 12, 3, "\x83\x78\x65"),
		blockText(0, 40, 1, 1, "x"), blockText(0, 256, 1, 1, "x"), blockText(1, 40, 12, 3, "\x83\x78\x65"), blockText(0, 65535, 1, 1, "x"),
		blockText(0, 0, 0, 0, ""), blockText(1, 0, 0, 0, ""), blockText(1, 0, 12, 0, ""), blockText(0, 0, 1, 0, ""), blockText(0, 0, 0, 1, "x"),
		blockText(0, 0, 65, 65, strings.Repeat("x", 65)), blockText(1, 0, 65, 3, "\x83\x78\x65"), blockText(0, 0, 257, 1, "x"),
		blockText(0, 0, 1, 2, "xx"), blockText(0, 0, 2, 1, "x"), blockText(1, 0, 3, 3, "\x83\x78\x65"), blockText(1, 0, 2, 3, "\x83\x78\x65"), blockText(1, 0, 1, 1, "x"),
		blockText(1, 0, 64, 64, strings.Repeat("x", 64)), blockText(0, 0, 1, 257, strings.Repeat("x", 257)),
		blockText(0, 0, 1, 2, "x"), blockText(0, 0, 2, 1, "xx"), blockText(0, 0, 300, 300, strings.Repeat("x", 300)),
		"\xb4" + textOf(rawBlock(0, "x"))[1:], "\x00" + textOf(rawBlock(0, "x"))[1:],
	}
	for _, text := range list {
		for _, behind := range []string{"", "\x00\x00\x00\x00", strings.Repeat("x", 70)} {
			refuseParse(t, text+behind, 0)
		}
		if blocks, ok := impl.ContainerBlocks(text); len(blocks) != 0 || ok {
			t.Errorf("ContainerBlocks(%x) = %v, %v", text, blocks, ok)
		}
	}
}

func TestContainersOfData(t *testing.T) {
	r := newRandom()
	for _, s := range allSettings() {
		for _, dict := range []string{"", randomData(r, s, 60)} {
			for _, size := range []int{1, 2, 3, 12, 49, 50, 63, 64} {
				n := min(r.Intn(400), 40*size)
				m := makeOne(t, s, dict, mixedData(r, s, n), size)
				if want := wantContainer(s, dict, m.data, size); m.stream != want {
					t.Fatalf("MakeContainer(%v, %.20q, %.40q, %d) = %.80x, want %.80x", s, dict, m.data, size, m.stream, want)
				}
				checkContainer(t, s, dict, m.stream, m.data)
			}
		}
	}
}

// checkBlocks checks the blocks, the places and the raw blocks of a container by reading one block after the other.
func checkBlocks(t *testing.T, stream string) {
	t.Helper()
	var blocks []impl.Block
	var places []impl.Place
	raw, at, from := 0, 0, 0
	for at < len(stream) {
		b, next, ok := wantParse(stream, at)
		if !ok {
			t.Fatalf("there is no block at %d in %x", at, stream)
		}
		blocks = append(blocks, b)
		places = append(places, impl.Place{At: at, From: from})
		if b.Raw {
			raw++
		}
		at, from = next, from+b.Size
	}
	if got, ok := impl.ContainerBlocks(stream); !slices.Equal(got, blocks) || !ok {
		t.Fatalf("ContainerBlocks(%.40x) = %v, %v, want %v", stream, got, ok, blocks)
	}
	if got := indexOf(t, stream); !slices.Equal(got, places) {
		t.Fatalf("IndexOf(%.40x) = %v, want %v", stream, got, places)
	}
	if n := impl.CountRaw(stream); n != raw {
		t.Fatalf("CountRaw(%.40x) = %d, want %d", stream, n, raw)
	}
	if n := impl.ContainerSize(stream); n != from {
		t.Fatalf("ContainerSize(%.40x) = %d, want %d", stream, n, from)
	}
}

func TestBlocksAndPlacesOfContainers(t *testing.T) {
	for _, m := range someMade(t, newRandom()) {
		checkBlocks(t, m.stream)
	}
	for _, stream := range []string{"", rawText(1), rawText(64, 1, 64), rawText(slices.Repeat([]int{50}, 40)...), rawText(append(slices.Repeat([]int{64}, 31), 16)...), rawText(slices.Repeat([]int{1}, 40)...)} {
		checkBlocks(t, stream)
	}
	// Sizes count also if there is no such data.
	wrong := ""
	for i := range 31 {
		wrong += textOf(impl.Block{Number: i, Size: 64, Body: "x"})
	}
	checkBlocks(t, wrong+textOf(impl.Block{Number: 31, Size: 16, Body: "x"}))
	checkNoContainer(t, wrong+textOf(impl.Block{Number: 31, Size: 17, Body: "x"}))
}

func TestLimitsOfContainers(t *testing.T) {
	zeros := strings.Repeat("\x00", 2001)
	for size := 1; size <= 64; size++ {
		most := min(2000, 40*size)
		for _, n := range []int{0, 1, most} {
			m := makeOne(t, high24, "", zeros[:n], size)
			checkContainer(t, high24, "", m.stream, m.data)
			if list := indexOf(t, m.stream); len(list) != (n+size-1)/size || len(list) > 40 {
				t.Errorf("%d bytes have %d blocks of %d", n, len(list), size)
			}
		}
		refuseMake(t, high24, "", zeros[:most+1], size)
		refuseMake(t, high24, "", zeros, size)
		refuseMake(t, low810, "", strings.Repeat("\xff", most+1), size)
	}
	for _, size := range append([]int{0, 65, 1000, math.MaxInt / 40, math.MaxInt/40 + 1}, extremes...) {
		for _, data := range []string{"", "\x00", zeros12, zeros[:64], zeros} {
			if size != 64 || len(data) > 2000 {
				refuseMake(t, high24, "", data, size)
			}
		}
	}
	for _, u := range unusable() {
		for _, data := range []string{"", zeros12, "\xff"} {
			refuseMake(t, u.s, u.dict, data, 12)
		}
	}
	// No data has a container without blocks.
	if stream, ok := impl.MakeContainer(high24, "", "", 5); stream != "" || !ok {
		t.Errorf("MakeContainer = %x, %v", stream, ok)
	}
}

func checkNoContainer(t *testing.T, stream string) {
	t.Helper()
	if list, ok := impl.ContainerBlocks(stream); len(list) != 0 || ok {
		t.Errorf("ContainerBlocks(%.40x) = %v, %v", stream, list, ok)
	}
	if list, ok := impl.IndexOf(stream); len(list) != 0 || ok {
		t.Errorf("IndexOf(%.40x) = %v, %v", stream, list, ok)
	}
	if n := impl.ContainerSize(stream); n != -1 {
		t.Errorf("ContainerSize(%.40x) = %d", stream, n)
	}
	if n := impl.CountRaw(stream); n != -1 {
		t.Errorf("CountRaw(%.40x) = %d", stream, n)
	}
	if list := impl.TouchedBlocks(stream, 0, 2000); len(list) != 0 {
		t.Errorf("TouchedBlocks(%.40x) = %v", stream, list)
	}
	if data, ok := impl.ContainerData(high24, "", stream); data != "" || ok {
		t.Errorf("ContainerData(%.40x) = %q, %v", stream, data, ok)
	}
	refuseRange(t, high24, "", stream, 0, 0)
	refuseRange(t, high24, "", stream, 0, 1)
}

func TestWhatIsNoContainer(t *testing.T) {
	for _, stream := range noContainers() {
		checkNoContainer(t, stream)
	}
	m := makeOne(t, high24, "", zeros12+zeros12+"\x01\x02\x03", 12)
	for n := 1; n < len(m.stream); n++ {
		if n != 13 && n != 26 {
			checkNoContainer(t, m.stream[:n])
			checkNoContainer(t, m.stream[n:])
		}
	}
	checkNoContainer(t, m.stream[13:])
	checkNoContainer(t, m.stream[13:26]+m.stream[:13])
	checkContainer(t, high24, "", m.stream[:26], zeros12+zeros12)
}

func TestContainersWithoutData(t *testing.T) {
	refuse := func(s impl.Setting, dict, stream string) {
		t.Helper()
		if data, ok := impl.ContainerData(s, dict, stream); data != "" || ok {
			t.Errorf("ContainerData(%v, %.20q, %.40x) = %q, %v", s, dict, stream, data, ok)
		}
		refuseRange(t, s, dict, stream, 0, 0)
		refuseRange(t, s, dict, stream, 0, 1)
	}
	m := makeOne(t, high24, "", zeros12+"\x01", 12)
	for _, u := range unusable() {
		refuse(u.s, u.dict, "")
		refuse(u.s, u.dict, m.stream)
		refuse(u.s, u.dict, rawText(3))
	}
	// A block without data counts wherever it is, but only for the data.
	for _, bad := range []impl.Block{{Size: 13, Body: "\x83\x78\x65"}, {Size: 12, Body: "\x83\x78"}, {Size: 12, Body: "\x83\x78\x65\x00"}} {
		for at := range 3 {
			blocks := []impl.Block{rawBlock(0, "\x01"), rawBlock(1, "\x02"), rawBlock(2, "\x03")}
			blocks[at] = bad
			blocks[at].Number = at
			stream := textOf(blocks[0]) + textOf(blocks[1]) + textOf(blocks[2])
			checkBlocks(t, stream)
			refuse(high24, "", stream)
		}
	}
	// With other words, the codes are wrong.
	refuse(high24, "\x00\x01\x02", m.stream)
	checkContainer(t, high24, "", "", "")
	checkContainer(t, low810, "abc", "", "")
}

func wantIndex(list []impl.Place) string {
	var texts []string
	for _, p := range list {
		texts = append(texts, fmt.Sprintf("%d:%d", p.At, p.From))
	}
	return dash(strings.Join(texts, " "))
}

// randomPlaces returns n places.
func randomPlaces(r *rand.Rand, n int) []impl.Place {
	list := make([]impl.Place, n)
	for i := 1; i < n; i++ {
		list[i] = impl.Place{At: list[i-1].At + 1 + r.Intn(100), From: list[i-1].From + 1 + r.Intn(50)}
	}
	return list
}

func TestTextsOfPlaces(t *testing.T) {
	r := newRandom()
	lists := [][]impl.Place{nil, {}, {{}}, {{}, {At: 1, From: 1}}, {{}, {At: 4000, From: 2000}}, {{}, {At: 3999, From: 1999}, {At: 4000, From: 2000}}}
	for n := range 41 {
		lists = append(lists, randomPlaces(r, n))
	}
	for _, m := range someMade(t, r) {
		lists = append(lists, indexOf(t, m.stream))
	}
	for _, list := range lists {
		text := impl.FormatIndex(list)
		if text != wantIndex(list) {
			t.Fatalf("FormatIndex(%v) = %q", list, text)
		}
		if back, ok := impl.ParseIndex(text); !slices.Equal(back, list) || !ok {
			t.Fatalf("ParseIndex(%q) = %v, %v", text, back, ok)
		}
		for _, wrong := range []string{text + " ", " " + text, text + "x", text + " -", "- " + text, text + ":", text + " :", "0" + text, "+" + text, text + "\n", strings.ReplaceAll(text, " ", "  ")} {
			if wrong != text {
				refuseIndex(t, wrong)
			}
		}
	}
}

func refuseIndex(t *testing.T, text string) {
	t.Helper()
	if list, ok := impl.ParseIndex(text); len(list) != 0 || ok {
		t.Errorf("ParseIndex(%.60q) = %v, %v", text, list, ok)
	}
}

// notPlaces returns lists that are no places, although all but one thing is right.
func notPlaces() [][]impl.Place {
	return [][]impl.Place{
		{{At: 1}}, {{From: 1}}, {{At: -1}}, {{From: -1}}, {{At: 13, From: 12}},
		{{}, {}}, {{}, {At: 13}}, {{}, {From: 12}}, {{}, {At: -1, From: 1}}, {{}, {At: 1, From: -1}},
		{{}, {At: 13, From: 12}, {At: 13, From: 24}}, {{}, {At: 13, From: 12}, {At: 26, From: 12}}, {{}, {At: 13, From: 12}, {At: 12, From: 24}}, {{}, {At: 13, From: 12}, {At: 26, From: 11}},
		{{}, {At: 4001, From: 12}}, {{}, {At: 13, From: 2001}}, {{}, {At: math.MaxInt, From: 12}}, {{}, {At: 13, From: math.MaxInt}}, {{}, {At: math.MinInt, From: 12}}, {{}, {At: 13, From: math.MinInt}},
		randomPlaces(newRandom(), 41), make([]impl.Place, 41), make([]impl.Place, 100000),
	}
}

func TestWhatIsNoPlaces(t *testing.T) {
	for _, list := range notPlaces() {
		if text := impl.FormatIndex(list); text != "" {
			t.Errorf("FormatIndex(%.60v) = %q", list, text)
		}
		refuseIndex(t, wantIndex(list))
		for _, offset := range append([]int{0, 1, 12, 2000}, extremes...) {
			if i := impl.SeekBlock(list, offset); i != -1 {
				t.Errorf("SeekBlock(%.60v, %d) = %d", list, offset, i)
			}
		}
		for _, from := range []int{0, 1, 12} {
			refuseIndexed(t, high24, "", makeOne(t, high24, "", zeros12+"\x01", 12).stream, list, from, from)
			refuseIndexed(t, high24, "", makeOne(t, high24, "", zeros12+"\x01", 12).stream, list, from, 13)
		}
	}
	for _, text := range []string{
		"", " ", ":", "0", "0:", ":0", "00:0", "0:00", "-0:0", "0:-0", "+0:0", "0:+0", "--", "- -", "0:0:0", "0.0", "0,0", "0: 0", "0 :0", "a:b", "0x0:0",
		"0:0 13", "0:0 13:", "0:0 :12", "0:0 013:12", "0:0 13:012", "0:0 13:12:", "0:0\t13:12", "0:0,13:12", "0:0 1_3:12", "0:0 1e1:12", "0:0 13:1٢",
		"0:0 18446744073709551629:12", "0:0 13:18446744073709551628", "0:0 4294967309:12", "0:0 99999999999999999999999:12", strings.Repeat("0:0 ", 100000),
	} {
		refuseIndex(t, text)
	}
}

func TestSeekBlock(t *testing.T) {
	r := newRandom()
	lists := [][]impl.Place{nil, {{}}, {{}, {At: 1, From: 1}}, {{}, {At: 4000, From: 2000}}}
	for n := range 41 {
		lists = append(lists, randomPlaces(r, n))
	}
	for _, list := range lists {
		offsets := slices.Clone(extremes)
		for _, p := range list {
			offsets = append(offsets, p.From-1, p.From, p.From+1)
		}
		for _, offset := range offsets {
			want := -1
			for i := range list {
				if list[i].From <= offset {
					want = i
				}
			}
			if got := impl.SeekBlock(list, offset); got != want {
				t.Fatalf("SeekBlock(%v, %d) = %d, want %d", list, offset, got, want)
			}
		}
	}
}

// owners returns, for each byte of data, the number of its block.
func (m made) owners() []int {
	list := make([]int, len(m.data))
	for i := range list {
		list[i] = i / m.size
	}
	return list
}

// touched returns the blocks of a range of the data.
func (m made) touched(from, to int) []int {
	return slices.Compact(slices.Clone(m.owners()[from:to]))
}

func TestTouchedBlocks(t *testing.T) {
	for _, m := range someMade(t, newRandom()) {
		n := len(m.data)
		points := []int{math.MinInt, -1, 0, 1, m.size - 1, m.size, m.size + 1, 2*m.size - 1, 2 * m.size, n / 2, n - 1, n, n + 1, 2000, math.MaxInt}
		for _, from := range points {
			for _, to := range points {
				var want []int
				if a, b := max(from, 0), min(to, n); a < b {
					want = m.touched(a, b)
				}
				if got := impl.TouchedBlocks(m.stream, from, to); !slices.Equal(got, want) {
					t.Fatalf("TouchedBlocks(%.40x, %d, %d) = %v, want %v", m.stream, from, to, got, want)
				}
			}
		}
	}
	// The sizes may differ, and the blocks need no data.
	stream := rawText(3, 1) + textOf(impl.Block{Number: 2, Size: 9, Body: "x"}) + textOf(rawBlock(3, "yy"))
	for _, c := range []struct{ from, to, first, last int }{{2, 3, 0, 0}, {2, 4, 0, 1}, {3, 4, 1, 1}, {3, 5, 1, 2}, {4, 13, 2, 2}, {12, 14, 2, 3}, {13, 99, 3, 3}, {0, 15, 0, 3}} {
		got := impl.TouchedBlocks(stream, c.from, c.to)
		if len(got) != c.last-c.first+1 || got[0] != c.first || got[len(got)-1] != c.last {
			t.Errorf("TouchedBlocks(%d, %d) = %v", c.from, c.to, got)
		}
	}
}

func TestEveryRangeIsRead(t *testing.T) {
	r := newRandom()
	for _, m := range someMade(t, r) {
		list := indexOf(t, m.stream)
		n := len(m.data)
		// All ranges of little data, and some ranges of more.
		step := 1 + n/15
		if n <= 24 {
			step = 1
		}
		for from := 0; from <= n; from += 1 + r.Intn(step) {
			for to := from; to <= n; to += 1 + r.Intn(step) {
				checkRange(t, m, from, to)
				checkIndexed(t, m, m.stream, list, from, to)
			}
			checkRange(t, m, from, n)
			checkIndexed(t, m, m.stream, list, from, n)
		}
		for _, x := range append([]int{n + 1, n + 64, 2000, 2001}, extremes...) {
			if x < 0 || x > n {
				refuseRange(t, m.s, m.dict, m.stream, 0, x)
				refuseRange(t, m.s, m.dict, m.stream, x, n)
				refuseRange(t, m.s, m.dict, m.stream, x, x)
				refuseIndexed(t, m.s, m.dict, m.stream, list, 0, x)
				refuseIndexed(t, m.s, m.dict, m.stream, list, x, n)
			}
		}
		if n > 0 {
			refuseRange(t, m.s, m.dict, m.stream, n, n-1)
			refuseRange(t, m.s, m.dict, m.stream, 1, 0)
			refuseIndexed(t, m.s, m.dict, m.stream, list, n, n-1)
			refuseIndexed(t, m.s, m.dict, m.stream, list, 1, 0)
		}
	}
}

// wreck returns the container with other bytes in all blocks but those that are kept.
func (m made) wreck(r *rand.Rand, list []impl.Place, keep []int) string {
	bytes := []byte(m.stream)
	for i, p := range list {
		if slices.Contains(keep, i) {
			continue
		}
		end := len(bytes)
		if i+1 < len(list) {
			end = list[i+1].At
		}
		switch r.Intn(4) {
		case 0:
			r.Read(bytes[p.At:end])
		case 1:
			clear(bytes[p.At:end])
		case 2:
			bytes[p.At+r.Intn(end-p.At)] ^= byte(1 << r.Intn(8))
		case 3:
			// Another block, of the same size, but with a wrong number and with other data.
			copy(bytes[p.At:], textOf(rawBlock((i+1)%40, strings.Repeat("?", min(64, end-p.At-10)))))
		}
	}
	return string(bytes)
}

func TestRangesAreReadWhateverTheOtherBlocksAre(t *testing.T) {
	r := newRandom()
	parts := 0
	for _, m := range someMade(t, r) {
		list := indexOf(t, m.stream)
		for range 40 {
			from := r.Intn(len(m.data) + 1)
			to := from + r.Intn(min(len(m.data)-from, 3*m.size)+1)
			touched := m.touched(from, to)
			wrecked := m.wreck(r, list, touched)
			checkIndexed(t, m, wrecked, list, from, to)
			if len(touched) == 0 {
				continue
			}
			// What is behind the last block is not needed, either, and a place not further than that of this block.
			last := touched[len(touched)-1]
			end := len(m.stream)
			if last+1 < len(list) {
				end = list[last+1].At
			}
			checkIndexed(t, m, wrecked[:end], list, from, to)
			checkIndexed(t, m, wrecked, list[:last+1], from, to)
			checkIndexed(t, m, wrecked+strings.Repeat("\xb5", 4000-len(wrecked)), list, from, to)
			// But each touched block is.
			for _, i := range touched {
				at := list[i].At
				refuseIndexed(t, m.s, m.dict, m.stream[:at]+"\xb4"+m.stream[at+1:], list, from, to)
				parts++
			}
		}
	}
	if parts < 1000 {
		t.Errorf("only %d blocks have been touched", parts)
	}
}

func TestARangeThatEndsWithABlock(t *testing.T) {
	m := makeOne(t, high24, "", zeros12+zeros12+"\x01\x02\x03", 12)
	list := indexOf(t, m.stream)
	if text := impl.FormatIndex(list); text != "0:0 13:12 26:24" {
		t.Fatalf("FormatIndex = %q", text)
	}
	for _, stream := range []string{m.stream, m.stream[:26], m.stream[:26] + strings.Repeat("\xff", 13), m.stream[:26] + m.stream[:13], m.stream[:26] + m.stream[13:26]} {
		for _, places := range [][]impl.Place{list, list[:2], {{}, {At: 13, From: 12}, {At: 14, From: 99}}} {
			checkIndexed(t, m, stream, places, 0, 24)
			checkIndexed(t, m, stream, places, 12, 24)
			checkIndexed(t, m, stream, places, 23, 24)
			if stream != m.stream || len(places) < 3 || places[2].At == 14 {
				refuseIndexed(t, high24, "", stream, places, 0, 25)
				refuseIndexed(t, high24, "", stream, places, 23, 25)
			}
		}
	}
	// The block before a range that begins with a block is not needed.
	for _, first := range []string{strings.Repeat("\x00", 13), m.stream[13:26], "\xb4" + m.stream[1:13]} {
		checkIndexed(t, m, first+m.stream[13:], list, 12, 13)
		checkIndexed(t, m, first+m.stream[13:], list, 12, 27)
		refuseIndexed(t, high24, "", first+m.stream[13:], list, 11, 13)
	}
}

func TestAnEmptyRange(t *testing.T) {
	m := makeOne(t, high24, "", zeros12+"\x01", 12)
	list := indexOf(t, m.stream)
	for _, places := range [][]impl.Place{nil, {}, list, {{}, {At: 4000, From: 2000}}} {
		for _, stream := range []string{"", "x", m.stream, m.stream[:13], strings.Repeat("x", 4000)} {
			for _, at := range []int{0, 1, 12, 13, 14, 1999, 2000} {
				if got, ok := impl.ReadIndexed(high24, "", stream, places, at, at); got != "" || !ok {
					t.Errorf("ReadIndexed(%.20x, %v, %d, %d) = %q, %v", stream, places, at, at, got, ok)
				}
			}
			for _, at := range append([]int{2001}, extremes...) {
				if at != 64 {
					refuseIndexed(t, high24, "", stream, places, at, at)
				}
			}
		}
		refuseIndexed(t, high24, "", strings.Repeat("x", 4001), places, 0, 0)
		refuseIndexed(t, high24, "", m.stream+strings.Repeat("x", 4001-len(m.stream)), places, 0, 1)
		for _, u := range unusable() {
			refuseIndexed(t, u.s, u.dict, m.stream, places, 0, 0)
			refuseIndexed(t, u.s, u.dict, m.stream, places, 12, 13)
		}
	}
	for at := range 14 {
		checkRange(t, m, at, at)
	}
	refuseRange(t, high24, "", m.stream, 14, 14)
	// Without blocks there is only one range.
	empty := makeOne(t, high24, "", "", 12)
	checkRange(t, empty, 0, 0)
	refuseRange(t, high24, "", "", 0, 1)
	refuseRange(t, high24, "", "", 1, 1)
	refuseIndexed(t, high24, "", "", nil, 0, 1)
	refuseIndexed(t, high24, "", m.stream, nil, 0, 1)
	refuseIndexed(t, high24, "", m.stream, nil, 12, 13)
}

func TestPlacesThatDoNotFit(t *testing.T) {
	m := makeOne(t, high24, "", zeros12+zeros12+"\x01\x02\x03", 12)
	refuse := func(list []impl.Place, from, to int) {
		t.Helper()
		refuseIndexed(t, high24, "", m.stream, list, from, to)
	}
	// A block is not where it should be, or is another one.
	refuse([]impl.Place{{}, {At: 12, From: 12}, {At: 26, From: 24}}, 0, 13)
	refuse([]impl.Place{{}, {At: 12, From: 12}, {At: 26, From: 24}}, 12, 13)
	refuse([]impl.Place{{}, {At: 26, From: 12}}, 0, 13)
	refuse([]impl.Place{{}, {At: 26, From: 12}}, 12, 13)
	refuse([]impl.Place{{}, {At: 39, From: 27}}, 27, 28)
	refuse([]impl.Place{{}, {At: 4000, From: 27}}, 27, 28)
	// The data of a block ends behind the next place, or before it; without the next block, this does not matter.
	for _, from := range []int{11, 13} {
		list := []impl.Place{{}, {At: 13, From: from}, {At: 26, From: 24}}
		checkIndexed(t, m, m.stream, list, 0, 11)
		checkIndexed(t, m, m.stream, list, 0, 12)
		checkIndexed(t, m, m.stream, list, 10, 12)
		refuse(list, 0, 13)
		refuse(list, 10, 14)
		refuse(list, 0, 24)
		refuse(list, 14, 27)
	}
	// Of the first block only, From is where the data begins, whatever is before it.
	list := []impl.Place{{}, {At: 13, From: 100}, {At: 26, From: 112}}
	if got, ok := impl.ReadIndexed(high24, "", m.stream, list, 111, 115); got != "\x00\x01\x02\x03" || !ok {
		t.Errorf("ReadIndexed = %q, %v", got, ok)
	}
	refuse(list, 111, 116)
	refuse(list, 11, 13)
	refuse(list, 99, 101)
	// A range may begin behind all data of the block that is found for it.
	refuse(list, 12, 13)
	refuse(list, 50, 51)
	refuse(list, 115, 116)
	refuse(list, 1999, 2000)
}

// Between blocks there may be anything, as only the places tell where they are.
func TestBlocksThatAreNoContainer(t *testing.T) {
	m := makeOne(t, high24, "", zeros12+zeros12+"\x01\x02\x03", 12)
	first, second, third := m.stream[:13], m.stream[13:26], m.stream[26:]
	stream := first + "abc" + second + second + first + third + "\xb5"
	checkNoContainer(t, stream)
	for _, at := range []int{16, 29} {
		list := []impl.Place{{}, {At: at, From: 12}, {At: 55, From: 24}}
		checkIndexed(t, m, stream, list, 0, 27)
		checkIndexed(t, m, stream, list, 12, 24)
		refuseIndexed(t, high24, "", stream, list, 0, 28)
		for _, wrong := range []int{30, 42, 54, 56, 68, 69, 4000} {
			list[2].At = wrong
			checkIndexed(t, m, stream, list, 0, 24)
			refuseIndexed(t, high24, "", stream, list, 0, 25)
			refuseIndexed(t, high24, "", stream, list, 24, 25)
		}
	}
}

// A block whose checksum is right may have no data; then it is as bad as a missing one.
func TestRangesOfBlocksWithoutData(t *testing.T) {
	bad := textOf(impl.Block{Number: 1, Size: 13, Body: "\x83\x78\x65"})
	m := made{s: high24, data: zeros12 + zeros12 + "\x01\x02\x03", size: 12}
	stream := textOf(impl.Block{Size: 12, Body: "\x83\x78\x65"}) + bad + textOf(rawBlock(2, "\x01\x02\x03"))
	list := indexOf(t, stream)
	checkIndexed(t, m, stream, list, 0, 12)
	refuseIndexed(t, high24, "", stream, list, 0, 13)
	refuseIndexed(t, high24, "", stream, list, 12, 13)
	refuseIndexed(t, high24, "", stream, list, 24, 26)
	if got, ok := impl.ReadIndexed(high24, "", stream, list, 25, 28); got != "\x01\x02\x03" || !ok {
		t.Errorf("ReadIndexed = %q, %v", got, ok)
	}
	refuseRange(t, high24, "", stream, 25, 28)
	refuseRange(t, high24, "", stream, 0, 12)
	// With another dictionary, only raw blocks are read.
	refuseIndexed(t, high24, "\x00\x01\x02", stream, list, 0, 12)
	if got, ok := impl.ReadIndexed(high24, "\x00\x01\x02", stream, list, 26, 27); got != "\x02" || !ok {
		t.Errorf("ReadIndexed = %q, %v", got, ok)
	}
}

// The largest containers have blocks at the limits of all fields.
func TestTheLargestContainers(t *testing.T) {
	r := newRandom()
	for _, s := range []impl.Setting{high24, low810} {
		for _, size := range []int{50, 51, 64} {
			for _, dict := range []string{"", fillingDict(r, s)} {
				m := makeOne(t, s, dict, mixedData(r, s, 2000), size)
				checkContainer(t, s, dict, m.stream, m.data)
				checkBlocks(t, m.stream)
				list := indexOf(t, m.stream)
				if len(list) != (2000+size-1)/size {
					t.Errorf("there are %d blocks", len(list))
				}
				for _, c := range [][2]int{{0, 2000}, {1999, 2000}, {0, 1}, {1000, 1000}, {size - 1, 2000 - size}, {37, 1234}} {
					checkRange(t, m, c[0], c[1])
					checkIndexed(t, m, m.stream, list, c[0], c[1])
				}
				refuseIndexed(t, s, dict, m.stream, list, 0, 2001)
				refuseRange(t, s, dict, m.stream, 0, 2001)
			}
		}
	}
}

// No result may share the memory of another one, and no argument may change.
func TestNoMemoryOfBlocksIsShared(t *testing.T) {
	stream := rawText(3, 2, 4)
	list := indexOf(t, stream)
	list[1] = impl.Place{At: 1, From: 1}
	blocks, _ := impl.ContainerBlocks(stream)
	blocks[0] = impl.Block{}
	touched := impl.TouchedBlocks(stream, 0, 9)
	touched[0] = 99
	parsed, _ := impl.ParseIndex("0:0 13:3")
	parsed[1] = impl.Place{}
	checkBlocks(t, stream)
	if got := impl.TouchedBlocks(stream, 0, 9); !slices.Equal(got, []int{0, 1, 2}) {
		t.Errorf("TouchedBlocks = %v", got)
	}
	if got, ok := impl.ParseIndex("0:0 13:3"); len(got) != 2 || got[1] != (impl.Place{At: 13, From: 3}) || !ok {
		t.Errorf("ParseIndex = %v, %v", got, ok)
	}
	room := append(indexOf(t, stream), slices.Repeat([]impl.Place{{At: 99, From: 99}}, 5)...)
	before := slices.Clone(room)
	for to := range 10 {
		impl.FormatIndex(room[:3])
		impl.SeekBlock(room[:3], to)
		impl.ReadIndexed(low810, "", stream, room[:3], 0, to)
	}
	if !slices.Equal(room, before) {
		t.Errorf("the places are %v, and were %v", room, before)
	}
}
