package tests

// Promise 6: editing a container is editing its data, and blocks that an edit does not touch stay as they are.

import (
	"fmt"
	"math"
	"math/rand"
	"slices"
	"strings"
	"testing"

	"loop.example/soughtstreams/impl"
)

// blocksIn reads the blocks of a container one after the other.
func blocksIn(t *testing.T, stream string) []impl.Block {
	t.Helper()
	var blocks []impl.Block
	for at := 0; at < len(stream); {
		b, next, ok := wantParse(stream, at)
		if !ok || b.Number != len(blocks) {
			t.Fatalf("there is no block %d at %d in %.80x", len(blocks), at, stream)
		}
		blocks = append(blocks, b)
		at = next
	}
	return blocks
}

func sizeOf(blocks []impl.Block) int {
	size := 0
	for _, b := range blocks {
		size += b.Size
	}
	return size
}

// An outcome is what an edit should return.
type outcome struct {
	stream string
	ok     bool
}

// wantMade returns the container that blocks make.
func wantMade(blocks []impl.Block) outcome {
	if len(blocks) > 40 || sizeOf(blocks) > 2000 {
		return outcome{}
	}
	stream := ""
	for i, b := range blocks {
		b.Number = i
		stream += textOf(b)
	}
	return outcome{stream, true}
}

func wantBlocks(s impl.Setting, dict, data string, size int) []impl.Block {
	var blocks []impl.Block
	for i := 0; i < len(data); i += size {
		blocks = append(blocks, wantBlock(s, dict, 0, data[i:min(i+size, len(data))]))
	}
	return blocks
}

// wantCut looks at each byte of all blocks.
func wantCut(s impl.Setting, dict string, blocks []impl.Block, from, to int) ([]impl.Block, bool) {
	var list []impl.Block
	begin := 0
	for _, b := range blocks {
		var bytes []int
		for i := range b.Size {
			if begin+i >= from && begin+i < to {
				bytes = append(bytes, i)
			}
		}
		begin += b.Size
		switch len(bytes) {
		case 0:
		case b.Size:
			list = append(list, b)
		default:
			data, ok := impl.BlockData(s, dict, b)
			if !ok {
				return nil, false
			}
			list = append(list, wantBlock(s, dict, 0, data[bytes[0]:bytes[0]+len(bytes)]))
		}
	}
	return list, true
}

func wantReplace(t *testing.T, m made, from, to int, data string, size int) outcome {
	t.Helper()
	blocks := blocksIn(t, m.stream)
	head, headOk := wantCut(m.s, m.dict, blocks, 0, from)
	tail, tailOk := wantCut(m.s, m.dict, blocks, to, sizeOf(blocks))
	if !headOk || !tailOk {
		return outcome{}
	}
	return wantMade(slices.Concat(head, wantBlocks(m.s, m.dict, data, size), tail))
}

// wantMerge puts the data of blocks together, and makes new blocks only where there are several.
func wantMerge(t *testing.T, m made, size int) outcome {
	t.Helper()
	var groups [][]impl.Block
	for _, b := range blocksIn(t, m.stream) {
		n := len(groups)
		if n > 0 && sizeOf(groups[n-1])+b.Size <= size {
			groups[n-1] = append(groups[n-1], b)
		} else {
			groups = append(groups, []impl.Block{b})
		}
	}
	var blocks []impl.Block
	begin := 0
	for _, group := range groups {
		end := begin + sizeOf(group)
		if len(group) == 1 {
			blocks = append(blocks, group[0])
		} else {
			blocks = append(blocks, wantBlock(m.s, m.dict, 0, m.data[begin:end]))
		}
		begin = end
	}
	return wantMade(blocks)
}

// mixedBlocks returns blocks of different sizes; some are raw although they need not be.
func mixedBlocks(r *rand.Rand, s impl.Setting, dict string, n, size int) ([]impl.Block, string) {
	var blocks []impl.Block
	data := ""
	for range n {
		part := mixedData(r, s, 1+r.Intn(size))
		b := wantBlock(s, dict, 0, part)
		if r.Intn(4) == 0 {
			b = rawBlock(0, part)
		}
		blocks = append(blocks, b)
		data += part
	}
	return blocks, data
}

func madeOf(t *testing.T, s impl.Setting, dict string, blocks []impl.Block, data string) made {
	t.Helper()
	want := wantMade(blocks)
	if !want.ok {
		t.Fatalf("%d blocks make no container", len(blocks))
	}
	return made{s: s, dict: dict, data: data, size: 12, stream: want.stream}
}

// someEdited returns containers with blocks of one size, and with blocks of different ones.
func someEdited(t *testing.T, r *rand.Rand) []made {
	t.Helper()
	var list []made
	for _, s := range fewSettings() {
		for _, dict := range []string{"", randomData(r, s, 30)} {
			list = append(list, makeOne(t, s, dict, "", 12), makeOne(t, s, dict, mixedData(r, s, 1), 12))
			list = append(list, makeOne(t, s, dict, mixedData(r, s, 50), 12), makeOne(t, s, dict, mixedData(r, s, 7), 1))
			for _, size := range []int{3, 14, 64} {
				blocks, data := mixedBlocks(r, s, dict, 1+r.Intn(8), size)
				list = append(list, madeOf(t, s, dict, blocks, data))
			}
		}
	}
	return list
}

// borders returns where the blocks of a container begin and end, and indices within them.
func borders(t *testing.T, stream string) []int {
	t.Helper()
	list := []int{0}
	at := 0
	for _, b := range blocksIn(t, stream) {
		list = append(list, at+1, at+b.Size/2, at+b.Size-1, at+b.Size)
		at += b.Size
	}
	slices.Sort(list)
	return slices.Compact(list)
}

// checkOutcome compares the outcome of an edit.
func checkOutcome(t *testing.T, what string, stream string, ok bool, want outcome) {
	t.Helper()
	if stream != want.stream || ok != want.ok {
		t.Fatalf("%s = %.80x, %v, want %.80x, %v", what, stream, ok, want.stream, want.ok)
	}
}

func refuseEdit(t *testing.T, what string, stream string, ok bool) {
	t.Helper()
	if stream != "" || ok {
		t.Errorf("%s = %.40x, %v", what, stream, ok)
	}
}

func without(b impl.Block) impl.Block {
	b.Number = 0
	return b
}

// checkUntouched checks that all blocks before a range, and all behind it, are there as they have been.
func checkUntouched(t *testing.T, m made, from, to int, stream string) {
	t.Helper()
	old, now := blocksIn(t, m.stream), blocksIn(t, stream)
	before, behind := 0, 0
	for at, i := 0, 0; i < len(old) && at+old[i].Size <= from; i++ {
		at += old[i].Size
		before++
	}
	for at, i := len(m.data), len(old)-1; i >= 0 && at-old[i].Size >= to; i-- {
		at -= old[i].Size
		behind++
	}
	for i := range before {
		if now[i] != old[i] {
			t.Fatalf("the block %d before %d is %v, and was %v", i, from, now[i], old[i])
		}
	}
	for i := 1; i <= behind; i++ {
		if without(now[len(now)-i]) != without(old[len(old)-i]) {
			t.Fatalf("the block %d behind %d is %v, and was %v", len(old)-i, to, now[len(now)-i], old[len(old)-i])
		}
	}
	if n := impl.SameBlocks(m.stream, stream); n < min(before+behind, len(old), len(now)) {
		t.Fatalf("SameBlocks = %d, want at least %d and %d", n, before, behind)
	}
}

// checkReplace checks an edit, its data, and the blocks that it does not touch; it reports whether it is possible.
func checkReplace(t *testing.T, m made, from, to int, data string, size int) bool {
	t.Helper()
	stream, ok := impl.ReplaceRange(m.s, m.dict, m.stream, from, to, data, size)
	what := fmt.Sprintf("ReplaceRange(%v, %.20q, %.40x, %d, %d, %.20q, %d)", m.s, m.dict, m.stream, from, to, data, size)
	checkOutcome(t, what, stream, ok, wantReplace(t, m, from, to, data, size))
	if !ok {
		return false
	}
	checkContainer(t, m.s, m.dict, stream, m.data[:from]+data+m.data[to:])
	checkUntouched(t, m, from, to, stream)
	return true
}

func TestExampleOfChapter6(t *testing.T) {
	p, ok := impl.PatchOf("banana", "bandana")
	if text := impl.FormatPatch(p); text != "3 3 64" || !ok {
		t.Errorf("PatchOf = %v, %v, FormatPatch = %q", p, ok, text)
	}
	back, ok := impl.ParsePatch("3 3 64")
	if back != p || !ok {
		t.Errorf("ParsePatch = %v, %v", back, ok)
	}
	if got, ok := impl.ApplyPatch("banana", back); got != "bandana" || !ok {
		t.Errorf("ApplyPatch = %q, %v", got, ok)
	}
}

func TestAppending(t *testing.T) {
	r := newRandom()
	for _, m := range someEdited(t, r) {
		for _, size := range []int{1, 5, 12, 64} {
			for _, n := range []int{0, 1, size - 1, size, size + 1, 3*size + 1} {
				data := mixedData(r, m.s, n)
				stream, ok := impl.AppendData(m.s, m.dict, m.stream, data, size)
				want := wantMade(append(blocksIn(t, m.stream), wantBlocks(m.s, m.dict, data, size)...))
				checkOutcome(t, fmt.Sprintf("AppendData(%.40x, %q, %d)", m.stream, data, size), stream, ok, want)
				checkContainer(t, m.s, m.dict, stream, m.data+data)
				// The last block stays as it is, even if it is short.
				if !strings.HasPrefix(stream, m.stream) {
					t.Fatalf("AppendData(%.40x) = %.40x", m.stream, stream)
				}
			}
		}
	}
}

func TestJoining(t *testing.T) {
	r := newRandom()
	list := someEdited(t, r)
	for _, a := range list {
		for range 8 {
			b := list[r.Intn(len(list))]
			stream, ok := impl.JoinContainers(a.stream, b.stream)
			want := wantMade(append(blocksIn(t, a.stream), blocksIn(t, b.stream)...))
			checkOutcome(t, fmt.Sprintf("JoinContainers(%.40x, %.40x)", a.stream, b.stream), stream, ok, want)
			if ok && a.s == b.s && a.dict == b.dict {
				checkContainer(t, a.s, a.dict, stream, a.data+b.data)
			}
		}
		for _, other := range []string{"", a.stream} {
			stream, ok := impl.JoinContainers(a.stream, other)
			checkOutcome(t, "JoinContainers", stream, ok, wantMade(append(blocksIn(t, a.stream), blocksIn(t, other)...)))
		}
		stream, ok := impl.JoinContainers("", a.stream)
		checkOutcome(t, "JoinContainers", stream, ok, outcome{a.stream, true})
	}
}

func TestTakingBlocks(t *testing.T) {
	for _, m := range someEdited(t, newRandom()) {
		blocks := blocksIn(t, m.stream)
		begin := 0
		for first := range len(blocks) + 1 {
			for n := range len(blocks) - first + 1 {
				stream, ok := impl.TakeBlocks(m.stream, first, n)
				checkOutcome(t, fmt.Sprintf("TakeBlocks(%.40x, %d, %d)", m.stream, first, n), stream, ok, wantMade(blocks[first:first+n]))
				checkContainer(t, m.s, m.dict, stream, m.data[begin:begin+sizeOf(blocks[first:first+n])])
			}
			if first < len(blocks) {
				begin += blocks[first].Size
			}
			for _, n := range append([]int{len(blocks) - first + 1, len(blocks) + 1, math.MaxInt - first, math.MaxInt - first + 1}, extremes...) {
				stream, ok := impl.TakeBlocks(m.stream, first, n)
				refuseEdit(t, fmt.Sprintf("TakeBlocks(%.40x, %d, %d)", m.stream, first, n), stream, ok)
			}
		}
		for _, first := range append([]int{len(blocks) + 1}, extremes...) {
			for _, n := range append([]int{0, 1, -first, 1 - first}, extremes...) {
				stream, ok := impl.TakeBlocks(m.stream, first, n)
				refuseEdit(t, fmt.Sprintf("TakeBlocks(%.40x, %d, %d)", m.stream, first, n), stream, ok)
			}
		}
	}
}

func TestCutting(t *testing.T) {
	for _, m := range someEdited(t, newRandom()) {
		blocks := blocksIn(t, m.stream)
		points := borders(t, m.stream)
		for _, from := range points {
			for _, to := range points {
				stream, ok := impl.CutContainer(m.s, m.dict, m.stream, from, to)
				what := fmt.Sprintf("CutContainer(%v, %.20q, %.40x, %d, %d)", m.s, m.dict, m.stream, from, to)
				if from > to {
					refuseEdit(t, what, stream, ok)
					continue
				}
				list, _ := wantCut(m.s, m.dict, blocks, from, to)
				checkOutcome(t, what, stream, ok, wantMade(list))
				checkContainer(t, m.s, m.dict, stream, m.data[from:to])
			}
		}
		n := len(m.data)
		for _, x := range append([]int{n + 1, 2001}, extremes...) {
			if x >= 0 && x <= n {
				continue
			}
			for _, c := range [][2]int{{0, x}, {x, n}, {x, x}, {n, x}, {x, 0}} {
				stream, ok := impl.CutContainer(m.s, m.dict, m.stream, c[0], c[1])
				refuseEdit(t, fmt.Sprintf("CutContainer(%.40x, %d, %d)", m.stream, c[0], c[1]), stream, ok)
			}
		}
	}
}

func TestReplacingRanges(t *testing.T) {
	r := newRandom()
	possible := 0
	for _, m := range someEdited(t, r) {
		points := borders(t, m.stream)
		for range 60 {
			from, to := points[r.Intn(len(points))], points[r.Intn(len(points))]
			if from > to {
				from, to = to, from
			}
			size := 1 + r.Intn(64)
			data := mixedData(r, m.s, r.Intn(3*size))
			if checkReplace(t, m, from, to, data, size) {
				possible++
			}
		}
	}
	if possible < 1000 {
		t.Errorf("only %d edits were possible", possible)
	}
}

func TestEditsAtBordersOfBlocks(t *testing.T) {
	m := makeOne(t, high24, "", zeros12+"\x01\x02\x03\x01"+zeros12, 4)
	first, behind := m.stream, "\x01\x02"
	for at := 0; at <= 28; at += 4 {
		// Nothing is made anew but the block of the data.
		stream, ok := impl.InsertData(high24, "", first, at, behind, 64)
		blocks := slices.Insert(blocksIn(t, first), at/4, rawBlock(0, behind))
		checkOutcome(t, fmt.Sprintf("InsertData at %d", at), stream, ok, wantMade(blocks))
		if n := impl.SameBlocks(first, stream); n != 7 {
			t.Errorf("SameBlocks = %d", n)
		}
		for to := at; to <= 28; to += 4 {
			stream, ok := impl.DeleteRange(high24, "", first, at, to)
			blocks := slices.Delete(blocksIn(t, first), at/4, to/4)
			checkOutcome(t, fmt.Sprintf("DeleteRange(%d, %d)", at, to), stream, ok, wantMade(blocks))
		}
	}
	// One byte further, a block is made of what is left of it.
	stream, ok := impl.ReplaceRange(high24, "", first, 4, 13, "", 1)
	blocks := slices.Replace(blocksIn(t, first), 1, 4, wantBlocksOf("\x02\x03\x01")...)
	checkOutcome(t, "ReplaceRange", stream, ok, wantMade(blocks))
	stream, ok = impl.ReplaceRange(high24, "", first, 13, 16, "", 1)
	blocks = slices.Replace(blocksIn(t, first), 3, 4, wantBlocksOf("\x01")...)
	checkOutcome(t, "ReplaceRange", stream, ok, wantMade(blocks))
}

func TestEditsWithinOneBlock(t *testing.T) {
	r := newRandom()
	for _, s := range []impl.Setting{high24, low810} {
		for _, dict := range []string{"", "\x00\x01\x02"} {
			m := makeOne(t, s, dict, zeros12+"\x01\x02\x03"+zeros12+zeros12[:5], 16)
			for from := 16; from <= 32; from++ {
				for to := from; to <= 32; to++ {
					for _, n := range []int{0, 1, 9} {
						if !checkReplace(t, m, from, to, mixedData(r, s, n), 8) {
							t.Fatalf("there is no edit from %d to %d", from, to)
						}
					}
				}
			}
		}
	}
	// Both parts are there, also if nothing is put between them.
	m := makeOne(t, high24, "", zeros12, 12)
	stream, ok := impl.DeleteRange(high24, "", m.stream, 4, 7)
	checkOutcome(t, "DeleteRange", stream, ok, wantMade(wantBlocksOf(zeros12[:4], zeros12[:5])))
	stream, ok = impl.DeleteRange(high24, "", m.stream, 5, 5)
	checkOutcome(t, "DeleteRange", stream, ok, wantMade(wantBlocksOf(zeros12[:5], zeros12[:7])))
	stream, ok = impl.CutContainer(high24, "", m.stream, 4, 7)
	checkOutcome(t, "CutContainer", stream, ok, wantMade(wantBlocksOf(zeros12[:3])))
}

// wantBlocksOf returns the blocks of several parts for high24.
func wantBlocksOf(parts ...string) []impl.Block {
	var blocks []impl.Block
	for _, part := range parts {
		blocks = append(blocks, wantBlock(high24, "", 0, part))
	}
	return blocks
}

func TestNothingLeft(t *testing.T) {
	for _, m := range someEdited(t, newRandom()) {
		n := len(m.data)
		nothing := outcome{"", true}
		stream, ok := impl.DeleteRange(m.s, m.dict, m.stream, 0, n)
		checkOutcome(t, "DeleteRange", stream, ok, nothing)
		stream, ok = impl.ReplaceRange(m.s, m.dict, m.stream, 0, n, "", 64)
		checkOutcome(t, "ReplaceRange", stream, ok, nothing)
		for at := range n + 1 {
			stream, ok = impl.CutContainer(m.s, m.dict, m.stream, at, at)
			checkOutcome(t, "CutContainer", stream, ok, nothing)
		}
		// There is data again behind what has gone.
		checkReplace(t, m, 0, n, "\x01\x00\x01", 2)
	}
	for _, edit := range sampleEdits() {
		stream, ok := edit.do(high24, "", "", 12)
		want := outcome{"", true}
		if edit.adds {
			want = wantMade(wantBlocksOf("\x00"))
		}
		checkOutcome(t, edit.name, stream, ok, want)
	}
	for _, n := range []int{0, 1} {
		stream, ok := impl.TakeBlocks("", 0, n)
		checkOutcome(t, "TakeBlocks", stream, ok, outcome{"", n == 0})
	}
	if stream, ok := impl.JoinContainers("", ""); stream != "" || !ok {
		t.Errorf("JoinContainers = %x, %v", stream, ok)
	}
}

func TestInsertingAndDeleting(t *testing.T) {
	r := newRandom()
	for _, m := range someEdited(t, r) {
		points := borders(t, m.stream)
		for range 20 {
			at, to := points[r.Intn(len(points))], points[r.Intn(len(points))]
			size := 1 + r.Intn(64)
			data := mixedData(r, m.s, r.Intn(2*size))
			stream, ok := impl.InsertData(m.s, m.dict, m.stream, at, data, size)
			checkOutcome(t, "InsertData", stream, ok, wantReplace(t, m, at, at, data, size))
			stream, ok = impl.DeleteRange(m.s, m.dict, m.stream, at, to)
			if at > to {
				refuseEdit(t, "DeleteRange", stream, ok)
			} else {
				checkOutcome(t, "DeleteRange", stream, ok, wantReplace(t, m, at, to, "", 1))
			}
		}
	}
}

func TestRangesOfEditsThatAreRefused(t *testing.T) {
	for _, m := range someEdited(t, newRandom()) {
		n := len(m.data)
		for _, x := range append([]int{n + 1, 2001}, extremes...) {
			if x >= 0 && x <= n {
				continue
			}
			for _, c := range [][2]int{{0, x}, {x, n}, {x, x}, {n, x}, {x, 0}, {x, x + 1}} {
				what := fmt.Sprintf("from %d to %d of %d bytes", c[0], c[1], n)
				stream, ok := impl.ReplaceRange(m.s, m.dict, m.stream, c[0], c[1], "\x00", 12)
				refuseEdit(t, "ReplaceRange "+what, stream, ok)
				stream, ok = impl.ReplaceRange(m.s, m.dict, m.stream, c[0], c[1], "", 12)
				refuseEdit(t, "ReplaceRange "+what, stream, ok)
				stream, ok = impl.DeleteRange(m.s, m.dict, m.stream, c[0], c[1])
				refuseEdit(t, "DeleteRange "+what, stream, ok)
				stream, ok = impl.PatchContainer(m.s, m.dict, m.stream, impl.Patch{From: c[0], To: c[1], Data: "\x00"}, 12)
				refuseEdit(t, "PatchContainer "+what, stream, ok)
			}
			stream, ok := impl.InsertData(m.s, m.dict, m.stream, x, "\x00", 12)
			refuseEdit(t, fmt.Sprintf("InsertData at %d of %d bytes", x, n), stream, ok)
		}
		if n > 0 {
			stream, ok := impl.ReplaceRange(m.s, m.dict, m.stream, n, n-1, "", 12)
			refuseEdit(t, "ReplaceRange", stream, ok)
		}
	}
}

// A sampleEdit can be done to any container with a setting and a dictionary, the empty one included.
type sampleEdit struct {
	name  string
	sized bool // whether it depends on the size
	adds  bool // whether there is one more block then, of a byte 0
	do    func(s impl.Setting, dict, stream string, size int) (string, bool)
}

func sampleEdits() []sampleEdit {
	return []sampleEdit{
		{"AppendData of nothing", true, false, func(s impl.Setting, dict, stream string, size int) (string, bool) {
			return impl.AppendData(s, dict, stream, "", size)
		}},
		{"AppendData", true, true, func(s impl.Setting, dict, stream string, size int) (string, bool) {
			return impl.AppendData(s, dict, stream, "\x00", size)
		}},
		{"CutContainer", false, false, func(s impl.Setting, dict, stream string, _ int) (string, bool) {
			return impl.CutContainer(s, dict, stream, 0, 0)
		}},
		{"ReplaceRange by nothing", true, false, func(s impl.Setting, dict, stream string, size int) (string, bool) {
			return impl.ReplaceRange(s, dict, stream, 0, 0, "", size)
		}},
		{"ReplaceRange", true, true, func(s impl.Setting, dict, stream string, size int) (string, bool) {
			return impl.ReplaceRange(s, dict, stream, 0, 0, "\x00", size)
		}},
		{"InsertData of nothing", true, false, func(s impl.Setting, dict, stream string, size int) (string, bool) {
			return impl.InsertData(s, dict, stream, 0, "", size)
		}},
		{"InsertData", true, true, func(s impl.Setting, dict, stream string, size int) (string, bool) {
			return impl.InsertData(s, dict, stream, 0, "\x00", size)
		}},
		{"DeleteRange", false, false, func(s impl.Setting, dict, stream string, _ int) (string, bool) {
			return impl.DeleteRange(s, dict, stream, 0, 0)
		}},
		{"TurnContainer", false, false, func(s impl.Setting, dict, stream string, _ int) (string, bool) {
			return impl.TurnContainer(s, dict, stream)
		}},
		{"ResizeBlocks", true, false, impl.ResizeBlocks},
		{"MergeBlocks", true, false, impl.MergeBlocks},
		{"PatchContainer by nothing", true, false, func(s impl.Setting, dict, stream string, size int) (string, bool) {
			return impl.PatchContainer(s, dict, stream, impl.Patch{}, size)
		}},
		{"PatchContainer", true, true, func(s impl.Setting, dict, stream string, size int) (string, bool) {
			return impl.PatchContainer(s, dict, stream, impl.Patch{Data: "\x00"}, size)
		}},
	}
}

func TestEditsThatAreRefused(t *testing.T) {
	m := makeOne(t, high24, "", zeros12+"\x01", 12)
	for _, edit := range sampleEdits() {
		if _, ok := edit.do(high24, "", m.stream, 12); !ok {
			t.Errorf("%s is false", edit.name)
		}
		for _, stream := range noContainers() {
			got, ok := edit.do(high24, "", stream, 12)
			refuseEdit(t, fmt.Sprintf("%s of %.40x", edit.name, stream), got, ok)
			got, ok = edit.do(low810, "abc", stream, 64)
			refuseEdit(t, fmt.Sprintf("%s of %.40x", edit.name, stream), got, ok)
		}
		// Setting and dictionary count also where nothing depends on them.
		for _, u := range unusable() {
			for _, stream := range []string{"", m.stream, rawText(3, 2)} {
				got, ok := edit.do(u.s, u.dict, stream, 12)
				refuseEdit(t, fmt.Sprintf("%s with %v, %.20q", edit.name, u.s, u.dict), got, ok)
			}
		}
		for _, size := range append([]int{0, 65, 2000}, extremes...) {
			for _, stream := range []string{"", m.stream, rawText(3, 2)} {
				if edit.sized && size != 64 {
					got, ok := edit.do(high24, "", stream, size)
					refuseEdit(t, fmt.Sprintf("%s with the size %d", edit.name, size), got, ok)
				}
			}
		}
	}
	for _, stream := range noContainers() {
		for _, other := range append(noContainers(), "", m.stream) {
			got, ok := impl.JoinContainers(stream, other)
			refuseEdit(t, "JoinContainers", got, ok)
			got, ok = impl.JoinContainers(other, stream)
			refuseEdit(t, "JoinContainers", got, ok)
			if a, b := impl.SameBlocks(stream, other), impl.SameBlocks(other, stream); a != -1 || b != -1 {
				t.Errorf("SameBlocks(%.40x, %.40x) = %d, %d", stream, other, a, b)
			}
		}
		for _, n := range []int{0, 1} {
			got, ok := impl.TakeBlocks(stream, 0, n)
			refuseEdit(t, "TakeBlocks", got, ok)
		}
	}
}

// zerosMade returns a container with raw blocks of zeros of some sizes, and its data.
func zerosMade(t *testing.T, sizes ...int) made {
	t.Helper()
	var blocks []impl.Block
	for _, size := range sizes {
		blocks = append(blocks, rawBlock(0, strings.Repeat("\x00", size)))
	}
	return madeOf(t, high24, "", blocks, strings.Repeat("\x00", sizeOf(blocks)))
}

func TestThereAreTooManyBlocks(t *testing.T) {
	for n := 36; n <= 40; n++ {
		m := zerosMade(t, slices.Repeat([]int{3}, n)...)
		for more := range 6 {
			data := strings.Repeat("\x01", more)
			stream, ok := impl.AppendData(high24, "", m.stream, data, 1)
			checkOutcome(t, "AppendData", stream, ok, wantMade(append(blocksIn(t, m.stream), wantBlocks(high24, "", data, 1)...)))
			if ok != (n+more <= 40) {
				t.Errorf("%d blocks and %d: %v", n, more, ok)
			}
			other := zerosMade(t, slices.Repeat([]int{1}, more)...)
			if stream, ok := impl.JoinContainers(m.stream, other.stream); ok != (n+more <= 40) || ok != (stream != "") {
				t.Errorf("%d blocks and %d: %v", n, more, ok)
			}
			// At a border no block is divided, and within a block one is.
			if ok := checkReplace(t, m, 6, 6, data, 1); ok != (n+more <= 40) {
				t.Errorf("%d blocks and %d: %v", n, more, ok)
			}
			if ok := checkReplace(t, m, 7, 7, data, 1); ok != (n+1+more <= 40) {
				t.Errorf("%d blocks and %d: %v", n+1, more, ok)
			}
			if ok := checkReplace(t, m, 7, 8, data, 1); ok != (n+1+more <= 40) {
				t.Errorf("%d blocks and %d: %v", n+1, more, ok)
			}
			if ok := checkReplace(t, m, 6, 12, data, 1); ok != (n-2+more <= 40) {
				t.Errorf("%d blocks and %d: %v", n-2, more, ok)
			}
		}
	}
	// Less data may be too much, too.
	m := zerosMade(t, slices.Repeat([]int{3}, 40)...)
	for at := range 121 {
		for to := at; to <= min(at+3, 120); to++ {
			stream, ok := impl.DeleteRange(high24, "", m.stream, at, to)
			checkOutcome(t, "DeleteRange", stream, ok, wantReplace(t, m, at, to, "", 1))
			if within := at%3 != 0 && (to+2)/3 == at/3+1; ok != !(within && to%3 != 0) {
				t.Errorf("DeleteRange(%d, %d) = %v", at, to, ok)
			}
		}
	}
	for size := 1; size <= 64; size++ {
		zeros := strings.Repeat("\x00", min(2000, 40*size))
		stream, ok := impl.AppendData(high24, "", "", zeros, size)
		checkOutcome(t, "AppendData", stream, ok, outcome{makeOne(t, high24, "", zeros, size).stream, true})
		stream, ok = impl.AppendData(high24, "", "", zeros+"\x00", size)
		refuseEdit(t, "AppendData", stream, ok)
		stream, ok = impl.ReplaceRange(high24, "", m.stream, 0, 120, zeros+"\x00", size)
		refuseEdit(t, "ReplaceRange", stream, ok)
	}
}

func TestThereIsTooMuchData(t *testing.T) {
	for _, sizes := range [][]int{slices.Repeat([]int{50}, 39), slices.Repeat([]int{64}, 31), append(slices.Repeat([]int{64}, 31), 16), slices.Repeat([]int{60}, 33)} {
		m := zerosMade(t, sizes...)
		room := 2000 - len(m.data)
		for _, more := range []int{0, 1, room - 1, room, room + 1, room + 2} {
			if more < 0 || more > 64 {
				continue
			}
			data := strings.Repeat("\x01", more)
			stream, ok := impl.AppendData(high24, "", m.stream, data, 64)
			checkOutcome(t, "AppendData", stream, ok, wantMade(append(blocksIn(t, m.stream), wantBlocks(high24, "", data, 64)...)))
			if ok != (more <= room) {
				t.Errorf("%d bytes for %d: %v", more, room, ok)
			}
			other := makeOne(t, high24, "", data, 64)
			if stream, ok := impl.JoinContainers(other.stream, m.stream); ok != (more <= room) || ok != (stream != "") {
				t.Errorf("%d bytes for %d: %v", more, room, ok)
			}
			if ok := checkReplace(t, m, 0, 0, data, 64); ok != (more <= room) {
				t.Errorf("%d bytes for %d: %v", more, room, ok)
			}
			if ok := checkReplace(t, m, 100, 103, data+"\x00\x00\x00", 64); ok != (more <= room) {
				t.Errorf("%d bytes for %d: %v", more, room, ok)
			}
		}
		for _, data := range []string{strings.Repeat("\x00", 2001), strings.Repeat("\x00", 100000)} {
			stream, ok := impl.ReplaceRange(high24, "", m.stream, 0, len(m.data), data, 64)
			refuseEdit(t, "ReplaceRange", stream, ok)
			stream, ok = impl.InsertData(high24, "", "", 0, data, 64)
			refuseEdit(t, "InsertData", stream, ok)
			stream, ok = impl.AppendData(high24, "", "", data, 64)
			refuseEdit(t, "AppendData", stream, ok)
			stream, ok = impl.PatchContainer(high24, "", "", impl.Patch{Data: data}, 64)
			refuseEdit(t, "PatchContainer", stream, ok)
		}
	}
}

// badBlocks returns blocks without data for high24: one with a wrong size, one that ends early, and one with bytes behind its end.
func badBlocks() []impl.Block {
	return []impl.Block{{Size: 13, Body: "\x83\x78\x65"}, {Size: 12, Body: "\x83\x78"}, {Size: 12, Body: "\x83\x78\x65\x00"}}
}

func TestBlocksThatAreTakenOverNeedNoData(t *testing.T) {
	for _, bad := range badBlocks() {
		blocks := []impl.Block{rawBlock(0, "\x01\x02\x03"), bad, rawBlock(0, "\x03\x02\x01")}
		m := madeOf(t, high24, "", blocks, "")
		begin, end := 3, 3+bad.Size
		size := end + 3
		for from := range size + 1 {
			for to := from; to <= size; to++ {
				inside := func(at int) bool { return at > begin && at < end }
				stream, ok := impl.ReplaceRange(high24, "", m.stream, from, to, "\x00", 12)
				checkOutcome(t, fmt.Sprintf("ReplaceRange(%d, %d)", from, to), stream, ok, wantReplace(t, m, from, to, "\x00", 12))
				if ok != (!inside(from) && !inside(to)) {
					t.Errorf("ReplaceRange(%d, %d) = %v", from, to, ok)
				}
				stream, ok = impl.CutContainer(high24, "", m.stream, from, to)
				list, whole := wantCut(high24, "", blocks, from, to)
				want := wantMade(list)
				if !whole {
					want = outcome{}
				}
				checkOutcome(t, fmt.Sprintf("CutContainer(%d, %d)", from, to), stream, ok, want)
				if ok != (from == to || from <= begin && (to <= begin || to >= end) || from >= end) {
					t.Errorf("CutContainer(%d, %d) = %v", from, to, ok)
				}
			}
		}
		stream, ok := impl.AppendData(high24, "", m.stream, "\x00", 1)
		checkOutcome(t, "AppendData", stream, ok, wantMade(append(slices.Clone(blocks), rawBlock(0, "\x00"))))
		stream, ok = impl.JoinContainers(m.stream, m.stream)
		checkOutcome(t, "JoinContainers", stream, ok, wantMade(append(slices.Clone(blocks), blocks...)))
		stream, ok = impl.TakeBlocks(m.stream, 1, 2)
		checkOutcome(t, "TakeBlocks", stream, ok, wantMade(blocks[1:]))
		if n := impl.SameBlocks(m.stream, stream); n != 2 {
			t.Errorf("SameBlocks = %d", n)
		}
		for at := range 3 {
			list := slices.Clone(blocks)
			list[at], list[1] = list[1], list[at]
			refuseAll(t, wantMade(list).stream)
		}
		refuseAll(t, wantMade([]impl.Block{bad}).stream)
	}
}

// refuseAll checks what needs the data of all blocks.
func refuseAll(t *testing.T, stream string) {
	t.Helper()
	got, ok := impl.TurnContainer(high24, "", stream)
	refuseEdit(t, "TurnContainer", got, ok)
	for size := 1; size <= 64; size++ {
		got, ok = impl.ResizeBlocks(high24, "", stream, size)
		refuseEdit(t, "ResizeBlocks", got, ok)
		got, ok = impl.MergeBlocks(high24, "", stream, size)
		refuseEdit(t, "MergeBlocks", got, ok)
	}
}

func otherOrder(s impl.Setting) impl.Setting {
	s.Order = 1 - s.Order
	return s
}

func TestTurning(t *testing.T) {
	turned := 0
	for _, m := range someEdited(t, newRandom()) {
		blocks := blocksIn(t, m.stream)
		for i, b := range blocks {
			if !b.Raw {
				body, ok := impl.RepackStream(startWith(t, m.s, m.dict), b.Body)
				if !ok {
					t.Fatalf("RepackStream(%x) is false", b.Body)
				}
				blocks[i].Body = body
				turned++
			}
		}
		stream, ok := impl.TurnContainer(m.s, m.dict, m.stream)
		checkOutcome(t, fmt.Sprintf("TurnContainer(%v, %.20q, %.40x)", m.s, m.dict, m.stream), stream, ok, wantMade(blocks))
		other := otherOrder(m.s)
		checkContainer(t, other, m.dict, stream, m.data)
		stream, ok = impl.TurnContainer(other, m.dict, stream)
		checkOutcome(t, "TurnContainer", stream, ok, outcome{m.stream, true})
	}
	if turned < 50 {
		t.Errorf("only %d blocks have been turned", turned)
	}
	for _, size := range []int{50, 64} {
		m := makeOne(t, low810, "abc", mixedData(newRandom(), low810, 2000), size)
		stream, ok := impl.TurnContainer(low810, "abc", m.stream)
		want := makeOne(t, otherOrder(low810), "abc", m.data, size)
		checkOutcome(t, "TurnContainer", stream, ok, outcome{want.stream, true})
	}
}

// Bits behind the end code do not make a stream wrong. Only where it is written anew they are zeros.
func TestAStreamWithFurtherBits(t *testing.T) {
	turned := textOf(impl.Block{Size: 8, Body: turnBody(t, "\x83\x76\x50")})
	for further := range 16 {
		b := impl.Block{Size: 8, Body: "\x83\x76" + string([]byte{0x50 + byte(further)})}
		m := madeOf(t, high24, "", []impl.Block{b}, zeros12[:8])
		checkContainer(t, high24, "", m.stream, m.data)
		stream, ok := impl.TurnContainer(high24, "", m.stream)
		checkOutcome(t, "TurnContainer", stream, ok, outcome{turned, true})
		checkContainer(t, otherOrder(high24), "", stream, m.data)
		stream, ok = impl.CutContainer(high24, "", m.stream, 0, 8)
		checkOutcome(t, "CutContainer", stream, ok, outcome{m.stream, true})
		stream, ok = impl.MergeBlocks(high24, "", m.stream, 64)
		checkOutcome(t, "MergeBlocks", stream, ok, outcome{m.stream, true})
		stream, ok = impl.ResizeBlocks(high24, "", m.stream, 64)
		checkOutcome(t, "ResizeBlocks", stream, ok, outcome{wantContainer(high24, "", m.data, 64), true})
		checkReplace(t, m, 8, 8, "\x01", 1)
		checkReplace(t, m, 0, 0, "\x01", 1)
	}
}

// turnBody returns a stream for high24 in the other order.
func turnBody(t *testing.T, body string) string {
	t.Helper()
	codes, end, _ := impl.UnpackCodes(start(t, high24), body)
	if end != impl.EndWhole {
		t.Fatalf("UnpackCodes(%x) ends with %d", body, end)
	}
	turned, ok := impl.PackCodes(start(t, otherOrder(high24)), codes)
	if !ok {
		t.Fatalf("PackCodes(%v) is false", codes)
	}
	return turned
}

func TestResizing(t *testing.T) {
	for _, m := range someEdited(t, newRandom()) {
		for _, size := range []int{1, 2, 5, 12, 13, 50, 63, 64} {
			stream, ok := impl.ResizeBlocks(m.s, m.dict, m.stream, size)
			want := outcome{}
			if len(m.data) <= 40*size {
				want = outcome{wantContainer(m.s, m.dict, m.data, size), true}
			}
			checkOutcome(t, fmt.Sprintf("ResizeBlocks(%.40x, %d)", m.stream, size), stream, ok, want)
			if ok {
				checkContainer(t, m.s, m.dict, stream, m.data)
			}
		}
	}
	m := zerosMade(t, slices.Repeat([]int{64}, 31)...)
	for size := 1; size <= 64; size++ {
		stream, ok := impl.ResizeBlocks(high24, "", m.stream, size)
		if ok != (len(m.data) <= 40*size) || ok != (stream != "") {
			t.Errorf("ResizeBlocks(%d) = %v", size, ok)
		}
	}
}

func TestMerging(t *testing.T) {
	for _, m := range someEdited(t, newRandom()) {
		for _, size := range []int{1, 2, 3, 7, 12, 13, 24, 25, 40, 63, 64} {
			stream, ok := impl.MergeBlocks(m.s, m.dict, m.stream, size)
			checkOutcome(t, fmt.Sprintf("MergeBlocks(%v, %.20q, %.40x, %d)", m.s, m.dict, m.stream, size), stream, ok, wantMerge(t, m, size))
			checkContainer(t, m.s, m.dict, stream, m.data)
		}
	}
	r := newRandom()
	blocks, data := mixedBlocks(r, low810, "abc", 40, 49)
	m := madeOf(t, low810, "abc", blocks, data)
	for size := 1; size <= 64; size++ {
		stream, ok := impl.MergeBlocks(low810, "abc", m.stream, size)
		checkOutcome(t, "MergeBlocks", stream, ok, wantMerge(t, m, size))
	}
}

func TestWhichBlocksAreMerged(t *testing.T) {
	for _, c := range []struct {
		sizes []int
		size  int
		want  []int
	}{
		{[]int{3, 3, 3, 3}, 9, []int{9, 3}}, {[]int{3, 3, 3, 3}, 8, []int{6, 6}}, {[]int{3, 3, 3, 3}, 5, []int{3, 3, 3, 3}},
		{[]int{3, 3, 3, 3}, 11, []int{9, 3}}, {[]int{3, 3, 3, 3}, 12, []int{12}}, {[]int{3, 4, 3}, 6, []int{3, 4, 3}},
		{[]int{3, 4, 3}, 7, []int{7, 3}}, {[]int{4, 3, 3}, 6, []int{4, 6}}, {[]int{10, 1, 1}, 5, []int{10, 2}},
		{[]int{1, 1, 10, 1, 1}, 5, []int{2, 10, 2}}, {[]int{63, 1}, 64, []int{64}}, {[]int{1, 64}, 64, []int{1, 64}},
		{[]int{1, 1}, 1, []int{1, 1}}, {[]int{1, 1, 1}, 2, []int{2, 1}}, {[]int{5}, 64, []int{5}},
		{slices.Repeat([]int{1}, 40), 64, []int{40}}, {slices.Repeat([]int{1}, 40), 13, []int{13, 13, 13, 1}},
	} {
		stream, ok := impl.MergeBlocks(high24, "", zerosMade(t, c.sizes...).stream, c.size)
		var sizes []int
		for _, b := range blocksIn(t, stream) {
			sizes = append(sizes, b.Size)
		}
		if !slices.Equal(sizes, c.want) || !ok {
			t.Errorf("MergeBlocks(%v, %d) = %v, %v, want %v", c.sizes, c.size, sizes, ok, c.want)
		}
	}
	// A block that is not merged stays as it is, even if it would become shorter.
	m := zerosMade(t, 12, 30)
	stream, ok := impl.MergeBlocks(high24, "", m.stream, 41)
	checkOutcome(t, "MergeBlocks", stream, ok, outcome{m.stream, true})
	stream, ok = impl.MergeBlocks(high24, "", m.stream, 42)
	checkOutcome(t, "MergeBlocks", stream, ok, outcome{makeOne(t, high24, "", m.data, 42).stream, true})
}

// wantSame counts by the bytes that blocks have with the number 0.
func wantSame(t *testing.T, a, b string) int {
	t.Helper()
	texts := func(stream string) []string {
		var list []string
		for _, block := range blocksIn(t, stream) {
			list = append(list, textOf(without(block)))
		}
		return list
	}
	x, y := texts(a), texts(b)
	n := 0
	for len(x) > 0 && len(y) > 0 && x[0] == y[0] {
		x, y = x[1:], y[1:]
		n++
	}
	for len(x) > 0 && len(y) > 0 && x[len(x)-1] == y[len(y)-1] {
		x, y = x[:len(x)-1], y[:len(y)-1]
		n++
	}
	return n
}

func TestSameBlocks(t *testing.T) {
	for _, c := range []struct {
		a, b []int
		want int
	}{
		{nil, nil, 0}, {nil, []int{1}, 0}, {[]int{1}, []int{1}, 1}, {[]int{1}, []int{2}, 0},
		{[]int{1, 2, 3}, []int{1, 2, 3}, 3}, {[]int{1, 2, 3}, []int{2, 3}, 2}, {[]int{1, 2, 3}, []int{1, 3}, 2}, {[]int{1, 2, 3}, []int{1, 2}, 2},
		{[]int{1, 2, 1}, []int{1, 2, 1, 2, 1}, 3}, {[]int{1, 2, 1}, []int{1}, 1}, {[]int{1, 1, 1}, []int{1, 1}, 2}, {[]int{1, 2, 1}, []int{1, 1}, 2},
		{[]int{1, 2, 3}, []int{1, 4, 3}, 2}, {[]int{1, 2, 3, 4}, []int{5, 2, 3, 6}, 0}, {[]int{1, 2, 3, 4}, []int{1, 3, 2, 4}, 2},
		{[]int{7, 1}, []int{1, 7}, 0}, {[]int{1, 1}, []int{1, 1, 2, 1}, 2}, {[]int{1, 2, 2, 3}, []int{1, 2, 3}, 3},
	} {
		a, b := rawText(c.a...), rawText(c.b...)
		if x, y := impl.SameBlocks(a, b), impl.SameBlocks(b, a); x != c.want || y != c.want {
			t.Errorf("SameBlocks(%v, %v) = %d, %d, want %d", c.a, c.b, x, y, c.want)
		}
	}
	r := newRandom()
	for range 500 {
		var streams [2]string
		for i := range streams {
			sizes := make([]int, r.Intn(7))
			for j := range sizes {
				sizes[j] = 1 + r.Intn(2)
			}
			streams[i] = rawText(sizes...)
		}
		if got, want := impl.SameBlocks(streams[0], streams[1]), wantSame(t, streams[0], streams[1]); got != want {
			t.Errorf("SameBlocks(%x, %x) = %d, want %d", streams[0], streams[1], got, want)
		}
	}
}

// Each of these blocks differs from the others in one thing.
func TestBlocksThatAreNotTheSame(t *testing.T) {
	blocks := []impl.Block{rawBlock(0, "xy"), rawBlock(0, "xz"), rawBlock(0, "xyz"), {Size: 3, Body: "xy"}, {Size: 4, Body: "xy"}, {Size: 4, Body: "xyz"}, {Size: 4, Body: "xz"}}
	for i, a := range blocks {
		for j, b := range blocks {
			want := 0
			if i == j {
				want = 1
			}
			if n := impl.SameBlocks(textOf(a), textOf(b)); n != want {
				t.Errorf("SameBlocks of %v and %v = %d", a, b, n)
			}
			// The same at the end, where the numbers differ.
			x, y := wantMade([]impl.Block{rawBlock(0, "1"), a}), wantMade([]impl.Block{rawBlock(0, "2"), rawBlock(0, "3"), b})
			if n := impl.SameBlocks(x.stream, y.stream); n != want {
				t.Errorf("SameBlocks of %v and %v at the end = %d", a, b, n)
			}
		}
	}
}

func TestSharedBytes(t *testing.T) {
	for _, c := range []struct {
		a, b       string
		start, end int
	}{
		{"", "", 0, 0}, {"", "a", 0, 0}, {"a", "a", 1, 1}, {"a", "b", 0, 0}, {"banana", "bandana", 3, 3}, {"aa", "aaa", 2, 2},
		{"abc", "abd", 2, 0}, {"xbc", "abc", 0, 2}, {"abcabc", "abc", 3, 3}, {"\x00\xff", "\x00\xff\x00", 2, 0}, {"abxcd", "abycd", 2, 2}, {"axbxc", "aybyc", 1, 1},
	} {
		for _, pair := range [][2]string{{c.a, c.b}, {c.b, c.a}} {
			if n := impl.SharedStart(pair[0], pair[1]); n != c.start {
				t.Errorf("SharedStart(%q, %q) = %d, want %d", pair[0], pair[1], n, c.start)
			}
			if n := impl.SharedEnd(pair[0], pair[1]); n != c.end {
				t.Errorf("SharedEnd(%q, %q) = %d, want %d", pair[0], pair[1], n, c.end)
			}
		}
	}
	long := strings.Repeat("\x00\xff", 50000)
	for _, other := range []string{long, long + "x", "x" + long, long[:99999]} {
		start, end := 0, 0
		for start < min(len(long), len(other)) && long[start] == other[start] {
			start++
		}
		for end < min(len(long), len(other)) && long[len(long)-1-end] == other[len(other)-1-end] {
			end++
		}
		if a, b := impl.SharedStart(long, other), impl.SharedEnd(other, long); a != start || b != end {
			t.Errorf("SharedStart = %d, SharedEnd = %d, want %d, %d", a, b, start, end)
		}
	}
}

// patchText writes a patch as the document says.
func patchText(p impl.Patch) string {
	return fmt.Sprintf("%d %d %s", p.From, p.To, dash(fmt.Sprintf("%x", p.Data)))
}

// checkPatch checks the patch of two strings, and the way back.
func checkPatch(t *testing.T, a, b string) impl.Patch {
	t.Helper()
	p, ok := impl.PatchOf(a, b)
	n := impl.SharedStart(a, b)
	k := impl.SharedEnd(a[n:], b[n:])
	if want := (impl.Patch{From: n, To: len(a) - k, Data: b[n : len(b)-k]}); p != want || !ok {
		t.Fatalf("PatchOf(%.40q, %.40q) = %.40v, %v, want %.40v", a, b, p, ok, want)
	}
	if got, ok := impl.ApplyPatch(a, p); got != b || !ok {
		t.Fatalf("ApplyPatch(%.40q, %.40v) = %.40q, %v, want %.40q", a, p, got, ok, b)
	}
	back, ok := impl.InvertPatch(a, p)
	if want := (impl.Patch{From: n, To: len(b) - k, Data: a[n : len(a)-k]}); back != want || !ok {
		t.Fatalf("InvertPatch(%.40q, %.40v) = %.40v, %v, want %.40v", a, p, back, ok, want)
	}
	if got, ok := impl.ApplyPatch(b, back); got != a || !ok {
		t.Fatalf("ApplyPatch(%.40q, %.40v) = %.40q, %v, want %.40q", b, back, got, ok, a)
	}
	for _, x := range []impl.Patch{p, back} {
		if text := impl.FormatPatch(x); text != patchText(x) {
			t.Fatalf("FormatPatch(%.40v) = %.40q", x, text)
		}
		if got, ok := impl.ParsePatch(patchText(x)); got != x || !ok {
			t.Fatalf("ParsePatch(%.40q) = %.40v, %v", patchText(x), got, ok)
		}
	}
	return p
}

func TestPatches(t *testing.T) {
	for _, c := range []struct{ a, b, text string }{
		{"", "", "0 0 -"}, {"", "a", "0 0 61"}, {"a", "", "0 1 -"}, {"a", "a", "1 1 -"}, {"banana", "bandana", "3 3 64"}, {"bandana", "banana", "3 4 -"},
		{"aa", "aaa", "2 2 61"}, {"aaa", "aa", "2 3 -"}, {"abcabc", "abc", "3 6 -"}, {"abc", "abcabc", "3 3 616263"}, {"abc", "axc", "1 2 78"}, {"abc", "xyz", "0 3 78797a"}, {"\x00", "\xff", "0 1 ff"},
	} {
		if text := impl.FormatPatch(checkPatch(t, c.a, c.b)); text != c.text {
			t.Errorf("the patch of %q and %q is %q, want %q", c.a, c.b, text, c.text)
		}
	}
	r := newRandom()
	for range 2000 {
		a := randomData(r, high24, r.Intn(12))
		checkPatch(t, a, randomData(r, high24, r.Intn(12)))
		at := r.Intn(len(a) + 1)
		to := at + r.Intn(len(a)-at+1)
		checkPatch(t, a, a[:at]+randomData(r, low810, r.Intn(4))+a[to:])
	}
}

func TestLimitsOfPatches(t *testing.T) {
	zeros, ones := strings.Repeat("\x00", 2001), strings.Repeat("\x01", 2001)
	for _, c := range [][2]string{{zeros[:2000], ones[:2000]}, {zeros[:2000], ""}, {"", zeros[:2000]}, {zeros[:2000], zeros[:2000]}, {zeros[:1999] + "\x01", zeros[:2000]}} {
		checkPatch(t, c[0], c[1])
	}
	for _, c := range [][2]string{{zeros, ""}, {"", zeros}, {zeros, zeros}, {zeros, ones[:2000]}, {zeros[:2000], zeros}} {
		if p, ok := impl.PatchOf(c[0], c[1]); p != (impl.Patch{}) || ok {
			t.Errorf("PatchOf of %d and %d bytes = %.40v, %v", len(c[0]), len(c[1]), p, ok)
		}
	}
}

// checkApply checks whether a patch can be applied.
func checkApply(t *testing.T, data string, p impl.Patch, want bool) {
	t.Helper()
	got, ok := impl.ApplyPatch(data, p)
	back, backOk := impl.InvertPatch(data, p)
	if ok != want || backOk != want {
		t.Errorf("ApplyPatch, InvertPatch of %d bytes and %d %d with %d bytes: %v, %v, want %v", len(data), p.From, p.To, len(p.Data), ok, backOk, want)
		return
	}
	if !want {
		if got != "" || back != (impl.Patch{}) {
			t.Errorf("ApplyPatch = %.40q, InvertPatch = %.40v", got, back)
		}
		return
	}
	if got != data[:p.From]+p.Data+data[p.To:] || back != (impl.Patch{From: p.From, To: p.From + len(p.Data), Data: data[p.From:p.To]}) {
		t.Errorf("ApplyPatch = %.40q, InvertPatch = %.40v", got, back)
	}
}

func TestPatchesThatCannotBeApplied(t *testing.T) {
	zeros := strings.Repeat("\x00", 2001)
	for _, data := range []string{"", "a", "banana", zeros[:1999], zeros[:2000]} {
		n := len(data)
		points := append([]int{0, 1, n - 1, n, n + 1, 2000, 2001}, extremes...)
		for _, from := range points {
			for _, to := range points {
				fits := from >= 0 && from <= to && to <= n
				for _, more := range []int{0, 1, 2, 2000, 2001} {
					checkApply(t, data, impl.Patch{From: from, To: to, Data: zeros[:more]}, fits && n-(to-from)+more <= 2000)
				}
			}
		}
	}
	// The data may be too long, although the result is not.
	for _, p := range []impl.Patch{{}, {From: 0, To: 1}, {From: 0, To: 2000}, {From: 0, To: 2001}, {From: 2001, To: 2001}, {From: 1, To: 2000, Data: "x"}} {
		checkApply(t, zeros, p, false)
	}
}

func TestTextsOfPatches(t *testing.T) {
	zeros := strings.Repeat("\x00", 2001)
	for _, from := range append([]int{0, 1, 9, 10, 1999, 2000, 2001}, extremes...) {
		for _, to := range append([]int{0, 1, 9, 10, 1999, 2000, 2001}, extremes...) {
			for _, data := range []string{"", "\x00", "ab\xff", zeros[:2000], zeros} {
				p := impl.Patch{From: from, To: to, Data: data}
				want := patchText(p)
				if from < 0 || from > to || to > 2000 || len(data) > 2000 {
					refusePatch(t, want)
					want = ""
				} else if got, ok := impl.ParsePatch(want); got != p || !ok {
					t.Errorf("ParsePatch(%.40q) = %.40v, %v", want, got, ok)
				}
				if text := impl.FormatPatch(p); text != want {
					t.Errorf("FormatPatch(%.40v) = %.40q, want %.40q", p, text, want)
				}
			}
		}
	}
	for _, text := range []string{
		"", " ", "  ", "-", "3", "3 4", "3 4 ", "3  4 -", " 3 4 -", "3 4 - ", "3 4 -\n", "3 4 - -", "3 4 --", "4 3 -", "3 4 6", "3 4 6g", "3 4 6A", "3 4 61 61", "3 4 61-", "3 4 -61",
		"03 4 -", "3 04 -", "+3 4 -", "3 +4 -", "-0 4 -", "-1 4 -", "0x3 4 -", "3. 4 -", "3,4,-", "3\t4\t-", "a b -", "3 4 0x61", "1_0 11 -", "3 1e1 -", "3 ٤ -", "18446744073709551619 4 -", "3 18446744073709551620 -", "3 99999999999999999999999 -",
		"0 0 " + strings.Repeat("00", 2001), "0 0 " + strings.Repeat("00", 4001), "0 0 " + strings.Repeat("0", 3999), strings.Repeat("0 ", 100000),
	} {
		refusePatch(t, text)
	}
}

func refusePatch(t *testing.T, text string) {
	t.Helper()
	if p, ok := impl.ParsePatch(text); p != (impl.Patch{}) || ok {
		t.Errorf("ParsePatch(%.60q) = %.40v, %v", text, p, ok)
	}
}

func TestPatchingContainers(t *testing.T) {
	r := newRandom()
	for _, m := range someEdited(t, r) {
		n := len(m.data)
		for range 10 {
			from := r.Intn(n + 1)
			to := from + r.Intn(n-from+1)
			p := checkPatch(t, m.data, m.data[:from]+mixedData(r, m.s, r.Intn(20))+m.data[to:])
			stream, ok := impl.PatchContainer(m.s, m.dict, m.stream, p, 9)
			checkOutcome(t, "PatchContainer", stream, ok, wantReplace(t, m, p.From, p.To, p.Data, 9))
			if !ok {
				continue
			}
			after, _ := impl.ApplyPatch(m.data, p)
			checkContainer(t, m.s, m.dict, stream, after)
			checkUntouched(t, m, p.From, p.To, stream)
			back, _ := impl.InvertPatch(m.data, p)
			if stream, ok = impl.PatchContainer(m.s, m.dict, stream, back, 9); ok {
				checkContainer(t, m.s, m.dict, stream, m.data)
			}
		}
	}
}

// Many edits after each other are those of a string.
func TestOneEditAfterAnother(t *testing.T) {
	r := newRandom()
	done := 0
	for _, s := range fewSettings() {
		for _, dict := range []string{"", randomData(r, s, 30)} {
			stream, data := "", ""
			for range 60 {
				from := r.Intn(len(data) + 1)
				to := from + r.Intn(min(len(data)-from, 70)+1)
				more := mixedData(r, s, r.Intn(60))
				wanted := data
				var got string
				var ok bool
				switch r.Intn(7) {
				case 0:
					got, ok = impl.AppendData(s, dict, stream, more, 20)
					wanted = data + more
				case 1, 2:
					got, ok = impl.ReplaceRange(s, dict, stream, from, to, more, 20)
					wanted = data[:from] + more + data[to:]
				case 3:
					got, ok = impl.InsertData(s, dict, stream, from, more, 64)
					wanted = data[:from] + more + data[from:]
				case 4:
					got, ok = impl.DeleteRange(s, dict, stream, from, to)
					wanted = data[:from] + data[to:]
				case 5:
					got, ok = impl.MergeBlocks(s, dict, stream, 1+r.Intn(64))
				case 6:
					if got, ok = impl.TurnContainer(s, dict, stream); ok {
						s = otherOrder(s)
					}
				}
				if !ok {
					stream, ok = impl.ResizeBlocks(s, dict, stream, 64)
					if !ok || len(blocksIn(t, stream)) != (len(data)+63)/64 {
						t.Fatalf("ResizeBlocks = %.40x, %v", stream, ok)
					}
					continue
				}
				stream, data = got, wanted
				checkContainer(t, s, dict, stream, data)
				done++
			}
		}
	}
	if done < 500 {
		t.Errorf("only %d edits were possible", done)
	}
}
