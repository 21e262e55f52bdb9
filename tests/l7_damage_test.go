package tests

// Promise 7: whatever happens to one block of a group, the container is restored, as long as all its other blocks, and no blocks that are not its own, are found.

import (
	"bytes"
	"fmt"
	"math"
	"math/rand"
	"slices"
	"strings"
	"testing"

	"loop.example/soughtstreams/impl"
)

// wantNext tries all indices.
func wantNext(stream string, at int) int {
	if len(stream) > 8000 || at < 0 {
		return -1
	}
	for ; at < len(stream); at++ {
		if _, _, ok := wantParse(stream, at); ok {
			return at
		}
	}
	return -1
}

func wantFound(stream string) []impl.Found {
	var list []impl.Found
	for at := wantNext(stream, 0); at >= 0; {
		b, next, _ := wantParse(stream, at)
		list = append(list, impl.Found{At: at, Block: b})
		at = wantNext(stream, next)
	}
	return list
}

// wantFirst returns the first block with a number that is found.
func wantFirst(stream string, number int) (impl.Block, bool) {
	for _, f := range wantFound(stream) {
		if f.Block.Number == number {
			return f.Block, true
		}
	}
	return impl.Block{}, false
}

func wantCheck(stream string) (int, int) {
	at, size := 0, 0
	for n := 0; at < len(stream); n++ {
		b, next, ok := wantParse(stream, at)
		size += b.Size
		switch {
		case !ok:
			return 1, at
		case b.Number != n:
			return 2, at
		case size > 2000:
			return 3, at
		}
		at = next
	}
	return 0, len(stream)
}

// wantXor counts the bits in each place.
func wantXor(list []string) string {
	size := 0
	for _, text := range list {
		size = max(size, len(text))
	}
	sum := make([]byte, size)
	for i := range sum {
		for bit := range 8 {
			n := 0
			for _, text := range list {
				if i < len(text) && int(text[i])>>bit%2 == 1 {
					n++
				}
			}
			sum[i] += byte(n % 2 << bit)
		}
	}
	return string(sum)
}

func wantParity(list []string) string {
	var lengths []string
	for _, text := range list {
		lengths = append(lengths, two(len(text)%65536))
	}
	return wantXor(lengths) + wantXor(list)
}

// wantRebuilt looks for the length with which the lengths have this parity.
func wantRebuilt(list []string, parity string) outcome {
	if len(parity) < 2 || len(list) > 40 {
		return outcome{}
	}
	rest := parity[2:]
	lengths := []string{parity[:2]}
	for _, text := range list {
		if len(text) > len(rest) {
			return outcome{}
		}
		lengths = append(lengths, two(len(text)%65536))
	}
	for n := range min(len(rest), 65535) + 1 {
		if two(n) == wantXor(lengths) {
			return outcome{wantXor(append(slices.Clone(list), rest))[:n], true}
		}
	}
	return outcome{}
}

func groupsOf(count, group int) int {
	n := 0
	for first := 0; first < count; first += group {
		n++
	}
	return n
}

func wantRepair(stream string, parity []string, group, count int) outcome {
	if len(stream) > 8000 || group < 1 || group > 40 || count < 0 || count > 40 || len(parity) != groupsOf(count, group) {
		return outcome{}
	}
	whole := ""
	for number := range count {
		b, ok := wantFirst(stream, number)
		if !ok {
			var others []string
			for other := range count {
				if other == number || other/group != number/group {
					continue
				}
				b, ok := wantFirst(stream, other)
				if !ok {
					return outcome{}
				}
				others = append(others, textOf(b))
			}
			rebuilt := wantRebuilt(others, parity[number/group])
			next := 0
			b, next, ok = wantParse(rebuilt.stream, 0)
			if !rebuilt.ok || !ok || next != len(rebuilt.stream) || b.Number != number {
				return outcome{}
			}
		}
		whole += textOf(b)
	}
	if kind, _ := wantCheck(whole); kind != 0 {
		return outcome{}
	}
	return outcome{whole, true}
}

// put returns a stream with bytes in place of others.
func put(stream string, from, to int, bytes string) string {
	return stream[:from] + bytes + stream[to:]
}

// endsOf returns where each block of a container ends, behind a 0 for where the first one begins.
func endsOf(t *testing.T, stream string) []int {
	t.Helper()
	ends := []int{0}
	for _, b := range blocksIn(t, stream) {
		ends = append(ends, ends[len(ends)-1]+len(textOf(b)))
	}
	return ends
}

// losses returns streams in which something has happened to the bytes from an index to another one.
func losses(r *rand.Rand, stream string, from, to int) []string {
	noise := make([]byte, r.Intn(100))
	r.Read(noise)
	size := to - from
	changed := []byte(stream[from:to])
	changed[r.Intn(size)] ^= byte(1 + r.Intn(255))
	some := r.Intn(size)
	n := 1 + r.Intn(size-some)
	list := []string{
		put(stream, from, to, ""),
		put(stream, from, to, string(noise)),
		put(stream, from, to, string(changed)),
		put(stream, from, to, strings.Repeat("\x00", size)),
		put(stream, from, to, strings.Repeat("\xb5", size)),
		put(stream, from+some, from+some+n, ""),
		put(stream, from+some, from+some, stream[from+some:from+some+n]),
		put(stream, from, from+1, "x"),
		put(stream, to-2, to, string([]byte{stream[to-2] + 1, stream[to-1]})),
	}
	return append(list, string(noise)+put(stream, from, to, "")+string(noise))
}

func checkNext(t *testing.T, stream string, at int) {
	t.Helper()
	if got, want := impl.NextBlock(stream, at), wantNext(stream, at); got != want {
		t.Fatalf("NextBlock(%.80x, %d) = %d, want %d", stream, at, got, want)
	}
}

func checkFound(t *testing.T, stream string) {
	t.Helper()
	if got, want := impl.FindBlocks(stream), wantFound(stream); !slices.Equal(got, want) {
		t.Fatalf("FindBlocks(%.80x) = %v, want %v", stream, got, want)
	}
}

func checkRepair(t *testing.T, stream string, parity []string, group, count int, want outcome) {
	t.Helper()
	what := fmt.Sprintf("RepairContainer(%.200x, %.100x, %d, %d)", stream, parity, group, count)
	got, ok := impl.RepairContainer(stream, parity, group, count)
	checkOutcome(t, what, got, ok, want)
}

func parityOf(t *testing.T, stream string, group int) []string {
	t.Helper()
	list, ok := impl.ParityOf(stream, group)
	if !ok {
		t.Fatalf("ParityOf(%.40x, %d) is false", stream, group)
	}
	return list
}

func TestLimitsOfChecks(t *testing.T) {
	got := []int{impl.CheckOk, impl.CheckBlock, impl.CheckNumber, impl.CheckLong}
	if !slices.Equal(got, []int{0, 1, 2, 3}) {
		t.Errorf("the results of checks are %v", got)
	}
}

func TestExampleOfChapter7(t *testing.T) {
	m := makeOne(t, high24, "", zeros12+"\x01", 12)
	for value := range 256 {
		damaged, ok := impl.ChangeByte(m.stream, 0, value)
		if !ok || value == 0xb5 {
			continue
		}
		list := impl.FindBlocks(damaged)
		if !slices.Equal(list, []impl.Found{{At: 13, Block: rawBlock(1, "\x01")}}) {
			t.Errorf("FindBlocks = %v", list)
		}
		checkRepair(t, damaged, parityOf(t, m.stream, 2), 2, 2, outcome{m.stream, true})
	}
}

func TestChangingBytes(t *testing.T) {
	r := newRandom()
	for _, n := range []int{1, 2, 9, 40} {
		b := make([]byte, n)
		r.Read(b)
		for at := range n {
			for value := range 256 {
				got, ok := impl.ChangeByte(string(b), at, value)
				want := bytes.Clone(b)
				want[at] = byte(value)
				checkOutcome(t, fmt.Sprintf("ChangeByte(%x, %d, %d)", b, at, value), got, ok, outcome{string(want), true})
			}
			for _, value := range append([]int{256, 511}, slices.DeleteFunc(slices.Clone(extremes), func(x int) bool { return x == 64 })...) {
				got, ok := impl.ChangeByte(string(b), at, value)
				refuseEdit(t, fmt.Sprintf("ChangeByte(%x, %d, %d)", b, at, value), got, ok)
			}
		}
		for _, at := range append([]int{n, n + 1}, extremes...) {
			got, ok := impl.ChangeByte(string(b), at, 0)
			refuseEdit(t, fmt.Sprintf("ChangeByte(%x, %d, 0)", b, at), got, ok)
		}
	}
	got, ok := impl.ChangeByte("", 0, 0)
	refuseEdit(t, "ChangeByte", got, ok)
	long := strings.Repeat("a", 8000)
	got, ok = impl.ChangeByte(long, 7999, 98)
	checkOutcome(t, "ChangeByte", got, ok, outcome{long[1:] + "b", true})
	for _, more := range []string{"a", long} {
		got, ok = impl.ChangeByte(long+more, 0, 98)
		refuseEdit(t, "ChangeByte", got, ok)
	}
}

func TestDroppingAndRepeatingBytes(t *testing.T) {
	text := "\x00\xb5abc\xff\x80"
	for at := range len(text) + 1 {
		for n := range len(text) - at + 1 {
			span := text[at : at+n]
			got, ok := impl.DropBytes(text, at, n)
			checkOutcome(t, fmt.Sprintf("DropBytes(%d, %d)", at, n), got, ok, outcome{put(text, at, at+n, ""), true})
			got, ok = impl.RepeatBytes(text, at, n)
			checkOutcome(t, fmt.Sprintf("RepeatBytes(%d, %d)", at, n), got, ok, outcome{put(text, at, at+n, span+span), true})
		}
		for _, n := range append([]int{len(text) - at + 1, math.MaxInt - at, math.MaxInt - at + 1}, extremes...) {
			refuseSpan(t, text, at, n)
		}
	}
	for _, at := range append([]int{len(text) + 1}, extremes...) {
		for _, n := range append([]int{0, 1, -at, 1 - at, len(text) - at}, extremes...) {
			refuseSpan(t, text, at, n)
		}
	}
	for _, edit := range []func(string, int, int) (string, bool){impl.DropBytes, impl.RepeatBytes} {
		got, ok := edit("", 0, 0)
		checkOutcome(t, "an edit of nothing", got, ok, outcome{"", true})
	}
	refuseSpan(t, "", 0, 1)
	refuseSpan(t, "", 1, 0)
}

func refuseSpan(t *testing.T, stream string, at, n int) {
	t.Helper()
	got, ok := impl.DropBytes(stream, at, n)
	refuseEdit(t, fmt.Sprintf("DropBytes(%d bytes, %d, %d)", len(stream), at, n), got, ok)
	got, ok = impl.RepeatBytes(stream, at, n)
	refuseEdit(t, fmt.Sprintf("RepeatBytes(%d bytes, %d, %d)", len(stream), at, n), got, ok)
}

func TestLimitsOfDamagedStreams(t *testing.T) {
	long := strings.Repeat("ab", 4000)
	got, ok := impl.DropBytes(long, 1, 7998)
	checkOutcome(t, "DropBytes", got, ok, outcome{"ab", true})
	got, ok = impl.RepeatBytes(long, 8000, 0)
	checkOutcome(t, "RepeatBytes", got, ok, outcome{long, true})
	for _, n := range []int{1, 2, 3999, 4000} {
		rest := long[:8000-n]
		got, ok = impl.RepeatBytes(rest, 0, n)
		checkOutcome(t, "RepeatBytes", got, ok, outcome{rest[:n] + rest, true})
		got, ok = impl.RepeatBytes(rest+"b", 0, n)
		refuseEdit(t, "RepeatBytes", got, ok)
		got, ok = impl.RepeatBytes(long, 0, n)
		refuseEdit(t, "RepeatBytes", got, ok)
	}
	// A stream that is too long is refused, even if the result would not be.
	for _, c := range [][2]int{{0, 0}, {0, 1}, {0, 8001}, {8001, 0}, {4000, 2000}} {
		refuseSpan(t, long+"a", c[0], c[1])
	}
}

func TestShuffling(t *testing.T) {
	r := newRandom()
	for _, m := range someEdited(t, r) {
		blocks := blocksIn(t, m.stream)
		for range 4 {
			order := r.Perm(len(blocks))
			want := ""
			for _, number := range order {
				want += textOf(blocks[number])
			}
			before := slices.Clone(order)
			got, ok := impl.ShuffleBlocks(m.stream, order)
			checkOutcome(t, fmt.Sprintf("ShuffleBlocks(%.40x, %v)", m.stream, order), got, ok, outcome{want, true})
			if !slices.Equal(order, before) {
				t.Fatalf("the order is %v, and was %v", order, before)
			}
			parity := parityOf(t, m.stream, 3)
			checkRepair(t, got, parity, 3, len(blocks), outcome{m.stream, true})
			list := impl.Salvage(m.s, m.dict, got)
			if data, ok := impl.JoinPieces(list, len(blocks), 1, 0); data != m.data || !ok {
				t.Fatalf("JoinPieces = %.40q, %v, want %.40q", data, ok, m.data)
			}
		}
	}
	most := rawText(slices.Repeat([]int{50}, 40)...)
	order := r.Perm(40)
	got, ok := impl.ShuffleBlocks(most, order)
	if !ok || len(got) != 2400 || impl.NextBlock(got, 0) != 0 || impl.FindBlocks(got)[0].Block.Number != order[0] {
		t.Errorf("ShuffleBlocks = %.40x, %v", got, ok)
	}
}

func TestWrongOrdersOfBlocks(t *testing.T) {
	stream := rawText(3, 2, 4)
	for _, order := range [][]int{nil, {0}, {0, 1}, {1, 2}, {0, 1, 1}, {0, 0, 0}, {0, 1, 2, 0}, {0, 1, 2, 3}, {1, 2, 3}, {-1, 0, 1}, {0, 1, 2, -1}, {0, 1, 2, 0, 1, 2}} {
		got, ok := impl.ShuffleBlocks(stream, order)
		refuseEdit(t, fmt.Sprintf("ShuffleBlocks(%v)", order), got, ok)
	}
	for _, x := range extremes {
		for at := range 3 {
			order := []int{0, 1, 2}
			order[at] = x
			got, ok := impl.ShuffleBlocks(stream, order)
			refuseEdit(t, fmt.Sprintf("ShuffleBlocks(%v)", order), got, ok)
		}
	}
	got, ok := impl.ShuffleBlocks("", nil)
	checkOutcome(t, "ShuffleBlocks", got, ok, outcome{"", true})
	got, ok = impl.ShuffleBlocks("", []int{0})
	refuseEdit(t, "ShuffleBlocks", got, ok)
	for _, stream := range noContainers() {
		for n := range 42 {
			got, ok := impl.ShuffleBlocks(stream, newRandom().Perm(n))
			refuseEdit(t, fmt.Sprintf("ShuffleBlocks(%.40x)", stream), got, ok)
		}
	}
}

func checkCheck(t *testing.T, stream string) int {
	t.Helper()
	kind, at := impl.CheckContainer(stream)
	if wantKind, wantAt := wantCheck(stream); kind != wantKind || at != wantAt {
		t.Fatalf("CheckContainer(%d bytes %.60x) = %d, %d, want %d, %d", len(stream), stream, kind, at, wantKind, wantAt)
	}
	if _, ok := impl.ContainerBlocks(stream); ok != (kind == 0) {
		t.Fatalf("ContainerBlocks(%.60x): %v", stream, ok)
	}
	return kind
}

func TestChecksOfContainers(t *testing.T) {
	r := newRandom()
	kinds := map[int]int{}
	for _, m := range someEdited(t, r) {
		if kind := checkCheck(t, m.stream); kind != 0 {
			t.Fatalf("CheckContainer(%.60x) = %d", m.stream, kind)
		}
		ends := endsOf(t, m.stream)
		for i := 1; i < len(ends); i++ {
			for _, damaged := range losses(r, m.stream, ends[i-1], ends[i]) {
				kinds[checkCheck(t, damaged)]++
			}
			got, _ := impl.ShuffleBlocks(m.stream, r.Perm(len(ends)-1))
			kinds[checkCheck(t, got)]++
		}
	}
	for _, stream := range noContainers() {
		kinds[checkCheck(t, stream)]++
	}
	if kinds[1] < 100 || kinds[2] < 100 || kinds[3] < 2 {
		t.Errorf("the results were %v", kinds)
	}
}

func TestWhatIsWrongFirst(t *testing.T) {
	full := rawText(slices.Repeat([]int{50}, 40)...)
	large := rawText(slices.Repeat([]int{64}, 31)...)
	for _, c := range []struct {
		stream   string
		kind, at int
	}{
		{"", 0, 0}, {"x", 1, 0}, {"\xb5", 1, 0}, {rawText(3), 0, 13}, {rawText(3) + "\xb5", 1, 13},
		{rawText(3)[:12], 1, 0}, {rawText(3, 2)[:24], 1, 13}, {textOf(rawBlock(1, "y")), 2, 0}, {rawText(3) + rawText(3), 2, 13},
		{rawText(3) + textOf(rawBlock(2, "y")) + "x", 2, 13},
		{full, 0, 2400}, {full + "x", 1, 2400}, {full + rawText(1), 2, 2400}, {full + blockText(0, 40, 1, 1, "y"), 1, 2400},
		{large, 0, 2294}, {large + textOf(rawBlock(31, strings.Repeat("y", 16))), 0, 2320},
		{large + textOf(rawBlock(31, strings.Repeat("y", 17))), 3, 2294}, {large + textOf(rawBlock(31, strings.Repeat("y", 17))) + "x", 3, 2294},
		// A wrong number is seen before too much data is, and a block that is none before both.
		{large + textOf(rawBlock(30, strings.Repeat("y", 17))), 2, 2294}, {large + textOf(rawBlock(32, strings.Repeat("y", 64))), 2, 2294},
		{large + textOf(rawBlock(31, strings.Repeat("y", 17)))[:26], 1, 2294},
		{strings.Repeat("\xb5", 100000), 1, 0}, {full + strings.Repeat("\x00", 100000), 1, 2400}, {large + strings.Repeat(rawText(64), 1000), 2, 2294},
	} {
		if kind, at := impl.CheckContainer(c.stream); kind != c.kind || at != c.at {
			t.Errorf("CheckContainer(%d bytes %.40x) = %d, %d, want %d, %d", len(c.stream), c.stream, kind, at, c.kind, c.at)
		}
		checkCheck(t, c.stream)
	}
}

func TestBlocksAreFoundInDamagedStreams(t *testing.T) {
	r := newRandom()
	for _, m := range someEdited(t, r) {
		checkFound(t, m.stream)
		if n := len(impl.FindBlocks(m.stream)); n != len(blocksIn(t, m.stream)) {
			t.Fatalf("%d blocks are found in %.40x", n, m.stream)
		}
		ends := endsOf(t, m.stream)
		for i := 1; i < len(ends); i++ {
			for _, damaged := range losses(r, m.stream, ends[i-1], ends[i]) {
				checkFound(t, damaged)
				for range 5 {
					checkNext(t, damaged, r.Intn(len(damaged)+1))
				}
			}
		}
		for range 5 {
			from := r.Intn(len(m.stream) + 1)
			checkFound(t, m.stream[from:])
			checkFound(t, m.stream[:from]+m.stream)
		}
	}
	stream := "x" + rawText(3, 2) + "\xb5\x00" + rawText(1)
	for at := range len(stream) + 1 {
		checkNext(t, stream, at)
	}
	if n := impl.NextBlock(stream, 28); n != 28 {
		t.Errorf("NextBlock = %d", n)
	}
	for _, at := range append([]int{len(stream) + 1}, extremes...) {
		if at != 64 {
			checkNext(t, stream, at)
			if n := impl.NextBlock(stream, at); n != -1 {
				t.Errorf("NextBlock(%d) = %d", at, n)
			}
		}
	}
	for _, at := range []int{-1, 0, 1} {
		if n := impl.NextBlock("", at); n != -1 {
			t.Errorf("NextBlock of nothing from %d = %d", at, n)
		}
	}
	checkFound(t, "")
}

func TestBytesThatOnlyLookLikeABlock(t *testing.T) {
	block := textOf(rawBlock(7, "abc"))
	stream := textOf(impl.Block{Number: 3, Size: 12, Body: "\x83\x78\x65"})
	like := []string{
		"\xb5", "\xb5\xb5", strings.Repeat("\xb5", 200), strings.Repeat("\xb5\x00", 100), strings.Repeat("\xb5\x00\x00\x01\x00\x01\x00\x01", 50),
		block[:1], block[:8], block[:12], block[:len(block)-2], put(block, 12, 13, "\x00"), put(block, 8, 9, "b"), put(block, 0, 1, "\xb4"),
		blockText(2, 7, 3, 3, "abc"), blockText(255, 7, 3, 3, "abc"), blockText(0, 40, 3, 3, "abc"), blockText(0, 256, 3, 3, "abc"),
		blockText(0, 7, 4, 3, "abc"), blockText(0, 7, 2, 3, "abc"), blockText(0, 7, 0, 0, ""), blockText(0, 7, 65, 65, strings.Repeat("x", 65)),
		blockText(1, 7, 3, 3, "abc"), blockText(1, 7, 2, 3, "abc"), blockText(1, 7, 3, 0, ""), blockText(1, 7, 65, 3, "abc"),
		blockText(0, 7, 3, 4, "abcd"), blockText(0, 7, 3, 3, "abc")[1:], blockText(0, 7, 60, 60, "abc"),
	}
	for _, bytes := range like {
		checkFound(t, bytes)
		if list := impl.FindBlocks(bytes); len(list) != 0 {
			t.Errorf("FindBlocks(%x) = %v", bytes, list)
		}
		if n := impl.NextBlock(bytes, 0); n != -1 {
			t.Errorf("NextBlock(%x) = %d", bytes, n)
		}
		// The blocks around them are found, even where the bytes tell of a body that reaches into them.
		both := []impl.Found{
			{At: len(bytes), Block: rawBlock(7, "abc")},
			{At: 2*len(bytes) + len(block), Block: impl.Block{Number: 3, Size: 12, Body: "\x83\x78\x65"}},
		}
		text := bytes + block + bytes + stream + bytes
		if list := impl.FindBlocks(text); !slices.Equal(list, both) {
			t.Errorf("FindBlocks(%x) = %v", text, list)
		}
		checkFound(t, text)
	}
}

func TestABlockWithinABlock(t *testing.T) {
	inner := textOf(rawBlock(2, "inner"))
	outer := textOf(rawBlock(1, "<"+inner+">"))
	text := outer + textOf(rawBlock(2, "other"))
	if list := impl.FindBlocks(text); len(list) != 2 || list[0].At != 0 || list[1].Block.Body != "other" {
		t.Errorf("FindBlocks = %v", list)
	}
	// The next block from an index on may be one that does not stand by itself.
	if n := impl.NextBlock(text, 1); n != 9 {
		t.Errorf("NextBlock = %d", n)
	}
	// Behind damage, the inner one is the first with its number.
	damaged := put(text, 0, 1, "x")
	if list := impl.FindBlocks(damaged); len(list) != 2 || list[0].At != 9 || list[0].Block.Body != "inner" {
		t.Errorf("FindBlocks = %v", list)
	}
	if list := impl.Salvage(low810, "", damaged); !slices.Equal(list, []impl.Piece{{Number: 2, Data: "inner"}}) {
		t.Errorf("Salvage = %v", list)
	}
	// A block whose bytes begin within those of an earlier one is not found.
	first := textOf(rawBlock(0, "ab"+inner[:4]))
	if rest := first[len(first)-2:]; rest == inner[4:6] {
		t.Fatalf("the bytes %x fit", rest)
	}
	checkFound(t, first+inner[4:]+outer)
	for body := range 256 {
		// Blocks that share bytes: the checksum of the one is the beginning of the other.
		shared := textOf(rawBlock(0, string([]byte{byte(body)})))
		if shared[len(shared)-1] == 0xb5 {
			checkFound(t, shared[:len(shared)-1]+inner)
			if list := impl.FindBlocks(shared[:len(shared)-1] + inner); len(list) != 1 || list[0].Block.Number != 0 {
				t.Errorf("FindBlocks = %v", list)
			}
		}
	}
}

func TestLimitsOfFoundBlocks(t *testing.T) {
	block := textOf(rawBlock(39, "a"))
	noise := strings.Repeat("\xb5", 8000-2*len(block))
	text := block + noise + block
	want := []impl.Found{{At: 0, Block: rawBlock(39, "a")}, {At: 8000 - len(block), Block: rawBlock(39, "a")}}
	if list := impl.FindBlocks(text); !slices.Equal(list, want) {
		t.Errorf("FindBlocks = %v", list)
	}
	if n := impl.NextBlock(text, 1); n != 8000-len(block) {
		t.Errorf("NextBlock = %d", n)
	}
	if list := impl.Salvage(low810, "", text); len(list) != 1 {
		t.Errorf("Salvage = %v", list)
	}
	for _, more := range []string{"a", block, text} {
		if list := impl.FindBlocks(text + more); len(list) != 0 {
			t.Errorf("FindBlocks = %v", list)
		}
		for _, at := range []int{0, 1, 8000, 8001} {
			if n := impl.NextBlock(text+more, at); n != -1 {
				t.Errorf("NextBlock = %d", n)
			}
		}
		if list := impl.Salvage(low810, "", text+more); len(list) != 0 {
			t.Errorf("Salvage = %v", list)
		}
		if list := impl.Survivors(rawText(1), rawText(1)+text+more); len(list) != 0 {
			t.Errorf("Survivors = %v", list)
		}
	}
	// Many blocks with the same number are all found.
	many := strings.Repeat(block, 8000/len(block))
	if list := impl.FindBlocks(many); len(list) != 8000/len(block) {
		t.Errorf("%d blocks are found", len(list))
	}
	checkFound(t, many)
}

func wantSalvage(s impl.Setting, dict, stream string) []impl.Piece {
	var list []impl.Piece
	found := wantFound(stream)
	for number := range 40 {
		first := slices.IndexFunc(found, func(f impl.Found) bool { return f.Block.Number == number })
		if first < 0 {
			continue
		}
		if data, ok := impl.BlockData(s, dict, found[first].Block); ok {
			list = append(list, impl.Piece{Number: number, Data: data})
		}
	}
	return list
}

func TestSalvage(t *testing.T) {
	r := newRandom()
	for _, m := range someMade(t, r) {
		ends := endsOf(t, m.stream)
		count := len(ends) - 1
		for range min(count, 3) {
			i := r.Intn(count)
			for _, damaged := range losses(r, m.stream, ends[i], ends[i+1]) {
				list := impl.Salvage(m.s, m.dict, damaged)
				if want := wantSalvage(m.s, m.dict, damaged); !slices.Equal(list, want) {
					t.Fatalf("Salvage(%v, %.20q, %.80x) = %v, want %v", m.s, m.dict, damaged, list, want)
				}
			}
			list := impl.Salvage(m.s, m.dict, put(m.stream, ends[i], ends[i]+1, "x"))
			if lost := impl.LostNumbers(list, count); !slices.Equal(lost, []int{i}) {
				t.Fatalf("LostNumbers(%v, %d) = %v, want %d", list, count, lost, i)
			}
			// In place of the lost data there is a filler of the same size, unless this is the last block.
			from, to := i*m.size, min(i*m.size+m.size, len(m.data))
			want := put(m.data, from, to, strings.Repeat("?", m.size))
			if got, ok := impl.JoinPieces(list, count, m.size, '?'); got != want || !ok {
				t.Fatalf("JoinPieces(%v, %d, %d) = %q, %v, want %q", list, count, m.size, got, ok, want)
			}
		}
	}
}

func TestBlocksThatOccurTwice(t *testing.T) {
	first, second := textOf(rawBlock(1, "first")), textOf(rawBlock(1, "second"))
	other := textOf(rawBlock(0, "other"))
	want := []impl.Piece{{Number: 0, Data: "other"}, {Number: 1, Data: "first"}}
	for _, text := range []string{first + second + other, first + other + second, other + first + second, first + first + second + other + second} {
		if list := impl.Salvage(low810, "", text); !slices.Equal(list, want) {
			t.Errorf("Salvage(%x) = %v", text, list)
		}
		if list := impl.Survivors(other+first, text); !slices.Equal(list, []int{0, 1}) {
			t.Errorf("Survivors = %v", list)
		}
		if list := impl.Survivors(other+second, text); !slices.Equal(list, []int{0}) {
			t.Errorf("Survivors = %v", list)
		}
		checkRepair(t, text, []string{""}, 2, 2, outcome{other + first, true})
	}
	// The second one is looked at only if the first one is not found, and not if it has no data.
	if list := impl.Salvage(low810, "", put(first, 8, 9, "F")+second); !slices.Equal(list, []impl.Piece{{Number: 1, Data: "second"}}) {
		t.Errorf("Salvage = %v", list)
	}
	for _, bad := range badBlocks() {
		bad.Number = 1
		text := other + textOf(bad) + second
		if list := impl.Salvage(high24, "", text); !slices.Equal(list, []impl.Piece{{Number: 0, Data: "other"}}) {
			t.Errorf("Salvage(%x) = %v", text, list)
		}
		if list := impl.Salvage(high24, "", second+textOf(bad)); !slices.Equal(list, []impl.Piece{{Number: 1, Data: "second"}}) {
			t.Errorf("Salvage(%x) = %v", text, list)
		}
		// A block needs no data in order to survive, or to be taken for a repair.
		if list := impl.Survivors(other+textOf(bad), text); !slices.Equal(list, []int{0, 1}) {
			t.Errorf("Survivors = %v", list)
		}
		checkRepair(t, text, []string{""}, 40, 2, outcome{other + textOf(bad), true})
	}
	m := makeOne(t, high24, "", zeros12+"\x01\x02"+zeros12+"\x03", 6)
	count := len(blocksIn(t, m.stream))
	for from := range len(m.stream) {
		damaged := m.stream[from:] + m.stream
		checkRepair(t, damaged, make([]string, 1), 40, count, outcome{m.stream, true})
		if list := impl.Survivors(m.stream, damaged); len(list) != count {
			t.Errorf("Survivors = %v", list)
		}
	}
}

func TestSalvageWithWhatCannotBeUsed(t *testing.T) {
	text := rawText(3, 2)
	for _, u := range unusable() {
		if list := impl.Salvage(u.s, u.dict, text); len(list) != 0 {
			t.Errorf("Salvage(%v, %.20q) = %v", u.s, u.dict, list)
		}
	}
	for _, stream := range []string{"", "x", text[1:13]} {
		if list := impl.Salvage(low810, "", stream); len(list) != 0 {
			t.Errorf("Salvage(%x) = %v", stream, list)
		}
	}
	// With another dictionary or setting, only blocks that are raw or whose stream still ends well have data.
	r := newRandom()
	for _, m := range someMade(t, r)[:20] {
		for _, dict := range []string{"", "\x00\x00\x00", randomData(r, m.s, 20)} {
			for _, s := range []impl.Setting{m.s, high24, low810, otherOrder(m.s)} {
				if !impl.DataFits(s, dict) {
					continue
				}
				if got, want := impl.Salvage(s, dict, m.stream), wantSalvage(s, dict, m.stream); !slices.Equal(got, want) {
					t.Fatalf("Salvage(%v, %.20q, %.80x) = %v, want %v", s, dict, m.stream, got, want)
				}
			}
		}
	}
}

func TestSurvivors(t *testing.T) {
	r := newRandom()
	for _, m := range someEdited(t, r) {
		ends := endsOf(t, m.stream)
		blocks := blocksIn(t, m.stream)
		for i := range blocks {
			for _, damaged := range append(losses(r, m.stream, ends[i], ends[i+1]), m.stream, "") {
				var want []int
				for number, b := range blocks {
					if first, ok := wantFirst(damaged, number); ok && first == b {
						want = append(want, number)
					}
				}
				if got := impl.Survivors(m.stream, damaged); !slices.Equal(got, want) {
					t.Fatalf("Survivors(%.80x, %.80x) = %v, want %v", m.stream, damaged, got, want)
				}
			}
		}
	}
	// Blocks with the same data, but not the same bytes, are not equal.
	stream := textOf(impl.Block{Number: 0, Size: 12, Body: "\x83\x78\x65"})
	for _, other := range []string{rawText(12), textOf(rawBlock(0, zeros12)), textOf(impl.Block{Size: 13, Body: "\x83\x78\x65"}), textOf(impl.Block{Size: 12, Body: "\x83\x78\x64"})} {
		if list := impl.Survivors(stream, other); len(list) != 0 {
			t.Errorf("Survivors(%x) = %v", other, list)
		}
		if list := impl.Survivors(stream, other+stream); len(list) != 0 {
			t.Errorf("Survivors(%x) = %v", other, list)
		}
	}
	for _, stream := range noContainers() {
		if list := impl.Survivors(stream, stream); len(list) != 0 {
			t.Errorf("Survivors(%.40x) = %v", stream, list)
		}
	}
	if list := impl.Survivors("", rawText(1)); len(list) != 0 {
		t.Errorf("Survivors = %v", list)
	}
}

// pieces returns the pieces with some numbers.
func pieces(numbers []int, data ...string) []impl.Piece {
	var list []impl.Piece
	for i, number := range numbers {
		list = append(list, impl.Piece{Number: number, Data: data[i]})
	}
	return list
}

// wrongPieces returns lists that are no pieces of the count 3.
func wrongPieces() [][]impl.Piece {
	long := strings.Repeat("x", 65)
	list := [][]impl.Piece{
		pieces([]int{0}, ""), pieces([]int{0}, long), pieces([]int{0, 1}, "a", ""), pieces([]int{0, 2}, "a", long), pieces([]int{2, 0}, long, "a"),
	}
	orders := [][]int{{0, 0}, {1, 0}, {0, 2, 1}, {1, 1, 2}, {2, 2}, {3}, {0, 3}, {0, 1, 2, 3}, {0, 1, 2, 2}, {-1}, {-1, 0}}
	for _, x := range extremes {
		orders = append(orders, []int{x}, []int{0, x}, []int{x, 2})
	}
	for _, order := range orders {
		list = append(list, pieces(order, "a", "b", "c", "d"))
	}
	return list
}

func refusePieces(t *testing.T, list []impl.Piece, count int) {
	t.Helper()
	if lost := impl.LostNumbers(list, count); len(lost) != 0 {
		t.Errorf("LostNumbers(%v, %d) = %v", list, count, lost)
	}
	got, ok := impl.JoinPieces(list, count, 1, 0)
	refuseEdit(t, fmt.Sprintf("JoinPieces(%v, %d)", list, count), got, ok)
}

func TestPieces(t *testing.T) {
	r := newRandom()
	for count := range 41 {
		for _, odds := range []int{1, 2, 5, 1000} {
			var list []impl.Piece
			var lost []int
			size, filler := 1+r.Intn(64), r.Intn(256)
			want := ""
			for number := range count {
				if r.Intn(odds) == 0 {
					lost = append(lost, number)
					want += strings.Repeat(string([]byte{byte(filler)}), size)
					continue
				}
				data := randomData(r, low810, 1+r.Intn(64))
				list = append(list, impl.Piece{Number: number, Data: data})
				want += data
			}
			before := slices.Clone(list)
			if got := impl.LostNumbers(list, count); !slices.Equal(got, lost) {
				t.Fatalf("LostNumbers(%v, %d) = %v, want %v", list, count, got, lost)
			}
			got, ok := impl.JoinPieces(list, count, size, filler)
			checkOutcome(t, fmt.Sprintf("JoinPieces(%v, %d, %d, %d)", list, count, size, filler), got, ok, outcome{want, true})
			if !slices.Equal(list, before) {
				t.Fatalf("the pieces are %v, and were %v", list, before)
			}
		}
	}
}

func TestWrongPieces(t *testing.T) {
	for _, list := range wrongPieces() {
		refusePieces(t, list, 3)
	}
	good := pieces([]int{0, 2}, "a", strings.Repeat("x", 64))
	for _, count := range append([]int{0, 1, 2, 41, 42}, extremes...) {
		refusePieces(t, good, count)
		if count > 40 || count < 0 {
			refusePieces(t, nil, count)
		}
	}
	for _, size := range append([]int{0, 65}, extremes...) {
		if size != 64 {
			got, ok := impl.JoinPieces(good, 3, size, 0)
			refuseEdit(t, fmt.Sprintf("JoinPieces with the size %d", size), got, ok)
			// This is so also if the size and the filler are not needed.
			got, ok = impl.JoinPieces(good[:1], 1, size, 0)
			refuseEdit(t, fmt.Sprintf("JoinPieces with the size %d", size), got, ok)
		}
	}
	for _, filler := range append([]int{256, 257, 511}, extremes...) {
		if filler != 64 {
			got, ok := impl.JoinPieces(good, 3, 1, filler)
			refuseEdit(t, fmt.Sprintf("JoinPieces with the filler %d", filler), got, ok)
			got, ok = impl.JoinPieces(nil, 0, 1, filler)
			refuseEdit(t, fmt.Sprintf("JoinPieces with the filler %d", filler), got, ok)
		}
	}
	got, ok := impl.JoinPieces(good, 3, 64, 255)
	checkOutcome(t, "JoinPieces", got, ok, outcome{"a" + strings.Repeat("\xff", 64) + good[1].Data, true})
	got, ok = impl.JoinPieces(nil, 40, 64, 0)
	checkOutcome(t, "JoinPieces", got, ok, outcome{strings.Repeat("\x00", 2560), true})
	got, ok = impl.JoinPieces(nil, 0, 1, 0)
	checkOutcome(t, "JoinPieces", got, ok, outcome{"", true})
	if lost := impl.LostNumbers(nil, 40); len(lost) != 40 || lost[39] != 39 {
		t.Errorf("LostNumbers = %v", lost)
	}
}

func randomTexts(r *rand.Rand, n, size int) []string {
	var list []string
	for range n {
		b := make([]byte, r.Intn(size+1))
		r.Read(b)
		list = append(list, string(b))
	}
	return list
}

func TestSumsOfStrings(t *testing.T) {
	r := newRandom()
	for n := range 12 {
		for _, size := range []int{0, 1, 3, 70} {
			list := randomTexts(r, n, size)
			before := slices.Clone(list)
			got := impl.XorTexts(list)
			if want := wantXor(list); got != want {
				t.Fatalf("XorTexts(%x) = %x, want %x", list, got, want)
			}
			if !slices.Equal(list, before) {
				t.Fatalf("the strings are %x, and were %x", list, before)
			}
			// The sum of all strings and their sum is zeros.
			if zeros := impl.XorTexts(append(list, got)); strings.Trim(zeros, "\x00") != "" || len(zeros) != len(got) {
				t.Fatalf("XorTexts(%x, %x) = %x", list, got, zeros)
			}
		}
	}
	for _, list := range [][]string{nil, {""}, {"", ""}} {
		if got := impl.XorTexts(list); got != "" {
			t.Errorf("XorTexts(%q) = %x", list, got)
		}
	}
	long := randomTexts(r, 100, 100000)
	got := impl.XorTexts(long)
	slices.Reverse(long)
	if other := impl.XorTexts(long); got != other || got != impl.XorTexts([]string{impl.XorTexts(long[:50]), impl.XorTexts(long[50:])}) {
		t.Error("XorTexts depends on the order")
	}
	if got := impl.XorTexts([]string{"\x00\x00", "\x00"}); got != "\x00\x00" {
		t.Errorf("XorTexts = %x", got)
	}
}

func TestParities(t *testing.T) {
	r := newRandom()
	for _, m := range someEdited(t, r) {
		var texts []string
		for _, b := range blocksIn(t, m.stream) {
			texts = append(texts, textOf(b))
		}
		for group := 1; group <= 40; group++ {
			var want []string
			for first := 0; first < len(texts); first += group {
				want = append(want, wantParity(texts[first:min(first+group, len(texts))]))
			}
			got, ok := impl.ParityOf(m.stream, group)
			if !slices.Equal(got, want) || !ok {
				t.Fatalf("ParityOf(%.40x, %d) = %x, %v, want %x", m.stream, group, got, ok, want)
			}
			checkParityText(t, got)
		}
	}
	full := rawText(slices.Repeat([]int{50}, 40)...)
	if list := parityOf(t, full, 1); len(list) != 40 || list[7] != "\x00\x3c"+full[7*60:8*60] {
		t.Errorf("ParityOf = %x", list)
	}
	if list := parityOf(t, full, 39); len(list) != 2 || list[1] != "\x00\x3c"+full[39*60:] {
		t.Errorf("ParityOf = %x", list)
	}
	checkParityText(t, parityOf(t, full, 1))
	for _, stream := range []string{"", rawText(3, 2)} {
		for _, group := range append([]int{0, 41}, extremes...) {
			refuseParityOf(t, stream, group)
		}
	}
	for _, stream := range noContainers() {
		for _, group := range []int{1, 2, 40} {
			refuseParityOf(t, stream, group)
		}
	}
}

func refuseParityOf(t *testing.T, stream string, group int) {
	t.Helper()
	if list, ok := impl.ParityOf(stream, group); len(list) != 0 || ok {
		t.Errorf("ParityOf(%.40x, %d) = %x, %v", stream, group, list, ok)
	}
}

func hexTexts(list []string) string {
	var texts []string
	for _, text := range list {
		texts = append(texts, fmt.Sprintf("%x", text))
	}
	return strings.Join(texts, " ")
}

func checkParityText(t *testing.T, list []string) {
	t.Helper()
	text := impl.FormatParity(list)
	if want := dash(hexTexts(list)); text != want {
		t.Fatalf("FormatParity(%x) = %q, want %q", list, text, want)
	}
	back, ok := impl.ParseParity(text)
	if !slices.Equal(back, list) || !ok {
		t.Fatalf("ParseParity(%q) = %x, %v", text, back, ok)
	}
}

func refuseParity(t *testing.T, text string) {
	t.Helper()
	if list, ok := impl.ParseParity(text); len(list) != 0 || ok {
		t.Errorf("ParseParity(%.80q) = %x, %v", text, list, ok)
	}
}

func TestTextsOfParities(t *testing.T) {
	r := newRandom()
	checkParityText(t, nil)
	for n := range 41 {
		var list []string
		for range n {
			b := make([]byte, 2+r.Intn(75))
			r.Read(b)
			list = append(list, string(b))
		}
		checkParityText(t, list)
		if n == 0 {
			continue
		}
		// Strings that are not of 2 to 76 bytes have no text.
		for _, size := range []int{0, 1, 77, 78, 4000, 4001} {
			wrong := slices.Clone(list)
			wrong[r.Intn(n)] = strings.Repeat("a", size)
			if text := impl.FormatParity(wrong); text != "" {
				t.Errorf("FormatParity(%x) = %q", wrong, text)
			}
			refuseParity(t, hexTexts(wrong))
		}
	}
	checkParityText(t, []string{"ab"})
	checkParityText(t, slices.Repeat([]string{strings.Repeat("\xff", 76)}, 40))
	for _, n := range []int{41, 42, 1000} {
		list := slices.Repeat([]string{"ab"}, n)
		if text := impl.FormatParity(list); text != "" {
			t.Errorf("FormatParity = %q", text)
		}
		refuseParity(t, hexTexts(list))
	}
	for _, text := range []string{
		"", " ", "--", "- ", " -", "- 0000", "0000 -", "0", "00", "000", "0g00", "0000 ", " 0000", "0000  0000", "0000 00", "00 0000", "0000,0000",
		"00A0", "0000\n", "\n", "0x00", "+000", "0000 000", "\x00\x00", "00 00", "é000", strings.Repeat("00", 77), strings.Repeat("00", 9000), strings.Repeat("0000 ", 100000),
	} {
		refuseParity(t, text)
	}
}

func checkRebuilt(t *testing.T, list []string, parity string) bool {
	t.Helper()
	before := slices.Clone(list)
	got, ok := impl.RebuildText(list, parity)
	checkOutcome(t, fmt.Sprintf("RebuildText(%.80x, %.80x)", list, parity), got, ok, wantRebuilt(list, parity))
	if !slices.Equal(list, before) {
		t.Fatalf("the strings are %x, and were %x", list, before)
	}
	return ok
}

func TestTheMissingStringIsRebuilt(t *testing.T) {
	r := newRandom()
	for n := 1; n <= 41; n++ {
		for _, size := range []int{0, 2, 74, 700} {
			list := randomTexts(r, n, size)
			parity := wantParity(list)
			for _, i := range []int{0, n / 2, n - 1} {
				others := slices.Delete(slices.Clone(list), i, i+1)
				got, ok := impl.RebuildText(others, parity)
				checkOutcome(t, fmt.Sprintf("RebuildText(%.80x, %.80x)", others, parity), got, ok, outcome{list[i], true})
				// The order of the others does not matter.
				slices.Reverse(others)
				got, ok = impl.RebuildText(others, parity)
				checkOutcome(t, "RebuildText", got, ok, outcome{list[i], true})
			}
		}
	}
	// What is missing of all lengths is rebuilt modulo 65536.
	long := strings.Repeat("long", 20000)
	for _, missing := range []string{"", "x", long[:300], long[:14464], long[:65535]} {
		got, ok := impl.RebuildText([]string{long}, wantParity([]string{long, missing}))
		checkOutcome(t, "RebuildText", got, ok, outcome{missing, true})
	}
	got, ok := impl.RebuildText([]string{"x"}, wantParity([]string{"x", long}))
	checkOutcome(t, "RebuildText", got, ok, outcome{long[:len(long)-65536], true})
}

func TestWhatCannotBeRebuilt(t *testing.T) {
	for _, c := range []struct {
		list   []string
		parity string
		want   outcome
	}{
		{nil, "", outcome{}}, {nil, "\x00", outcome{}}, {nil, "\x01", outcome{}}, {[]string{""}, "\x00", outcome{}},
		{nil, "\x00\x00", outcome{"", true}}, {nil, "\x00\x01", outcome{}}, {nil, "\x00\x01a", outcome{"a", true}}, {nil, "\x00\x02a", outcome{}},
		{nil, "\x01\x00" + strings.Repeat("a", 255), outcome{}}, {nil, "\x01\x00" + strings.Repeat("a", 256), outcome{strings.Repeat("a", 256), true}},
		{nil, "\xff\xff" + strings.Repeat("a", 300), outcome{}},
		{[]string{"a"}, "\x00\x00", outcome{}}, {[]string{"a"}, "\x00\x01", outcome{}}, {[]string{"a"}, "\x00\x01a", outcome{"", true}},
		{[]string{"a"}, "\x00\x00a", outcome{"\x00", true}}, {[]string{"ab"}, "\x00\x02a", outcome{}}, {[]string{"ab"}, "\x00\x03ab", outcome{"\x00", true}},
		{[]string{"", "ab", "c"}, "\x00\x00abc", outcome{"c\x00c", true}}, {[]string{"abcd", "c"}, "\x00\x00abc", outcome{}},
		// Further bytes do not matter, even if they are not zeros.
		{nil, "\x00\x02abcdef", outcome{"ab", true}}, {[]string{"x"}, "\x00\x00\x00zzz", outcome{"x", true}}, {nil, "\x00\x00abc", outcome{"", true}},
		{slices.Repeat([]string{"a"}, 40), "\x00\x01b", outcome{"b", true}}, {slices.Repeat([]string{"a"}, 41), "\x00\x01b", outcome{}},
		{slices.Repeat([]string{""}, 41), "\x00\x00", outcome{}}, {slices.Repeat([]string{""}, 40), "\x00\x00", outcome{"", true}},
	} {
		got, ok := impl.RebuildText(c.list, c.parity)
		checkOutcome(t, fmt.Sprintf("RebuildText(%q, %q)", c.list, c.parity), got, ok, c.want)
	}
	r := newRandom()
	refused := 0
	for range 2000 {
		list := randomTexts(r, r.Intn(5), 1+r.Intn(6))
		parity := wantParity(append(slices.Clone(list), randomTexts(r, 1, 6)...))
		b := []byte(parity)
		b[r.Intn(min(3, len(b)))] ^= byte(r.Intn(4))
		if !checkRebuilt(t, list, string(b[:len(b)-min(r.Intn(3), len(b))])) {
			refused++
		}
	}
	if refused < 200 || refused > 1800 {
		t.Errorf("%d were refused", refused)
	}
}

// onlyOwn reports whether all blocks of a container but one of a group are found, and no others.
func onlyOwn(blocks []impl.Block, damaged string, group int) bool {
	lost := map[int]int{}
	for number, b := range blocks {
		first, ok := wantFirst(damaged, number)
		if !ok {
			lost[number/group]++
		}
		if ok && first != b || lost[number/group] > 1 {
			return false
		}
	}
	return true
}

// checkRestored checks the promise for a damaged container, and reports whether it has to be restored.
func checkRestored(t *testing.T, stream, damaged string, group int) bool {
	t.Helper()
	blocks := blocksIn(t, stream)
	parity := parityOf(t, stream, group)
	want := wantRepair(damaged, parity, group, len(blocks))
	own := onlyOwn(blocks, damaged, group)
	if own && want != (outcome{stream, true}) {
		t.Fatalf("the model does not restore %x from %x with groups of %d", stream, damaged, group)
	}
	before := slices.Clone(parity)
	checkRepair(t, damaged, parity, group, len(blocks), want)
	if !slices.Equal(parity, before) {
		t.Fatalf("the parities are %x, and were %x", parity, before)
	}
	return own
}

func TestContainersAreRestored(t *testing.T) {
	r := newRandom()
	restored, all := 0, 0
	for _, m := range someEdited(t, r) {
		ends := endsOf(t, m.stream)
		count := len(ends) - 1
		for i := range count {
			group := 1 + r.Intn(count+1)
			for _, damaged := range losses(r, m.stream, ends[i], ends[i+1]) {
				all++
				if checkRestored(t, m.stream, damaged, group) {
					restored++
				}
			}
		}
		checkRestored(t, m.stream, m.stream, 1+r.Intn(40))
		checkRestored(t, m.stream, "", 1+r.Intn(40))
	}
	if restored < all*9/10 || all < 2000 {
		t.Errorf("%d of %d containers are restored", restored, all)
	}
}

// Any one change within one block of a small container, whatever it is.
func TestAnyDamageOfABlock(t *testing.T) {
	m := makeOne(t, high24, "", zeros12+"\x01\xb5\x00"+zeros12+"\xff", 12)
	ends := endsOf(t, m.stream)
	foreign := 0
	check := func(damaged string, group int) {
		t.Helper()
		if !checkRestored(t, m.stream, damaged, group) {
			foreign++
		}
	}
	for i := 1; i < len(ends); i++ {
		for at := ends[i-1]; at < ends[i]; at++ {
			for value := range 256 {
				damaged, _ := impl.ChangeByte(m.stream, at, value)
				check(damaged, 1+value%4)
			}
			for n := range ends[i] - at + 1 {
				damaged, _ := impl.DropBytes(m.stream, at, n)
				check(damaged, 3)
				damaged, _ = impl.RepeatBytes(m.stream, at, n)
				check(damaged, 2)
			}
		}
	}
	// The checksum does not tell a byte 0 from a byte 255, so a block in which one has become the other is found.
	want := 0
	for _, b := range blocksIn(t, m.stream) {
		want += strings.Count(b.Body, "\x00") + strings.Count(b.Body, "\xff")
	}
	if foreign != want {
		t.Errorf("%d blocks that are not its own are found, want %d", foreign, want)
	}
}

func TestOneBlockOfEachGroupIsLost(t *testing.T) {
	r := newRandom()
	for _, m := range someEdited(t, r) {
		ends := endsOf(t, m.stream)
		count := len(ends) - 1
		for group := 1; group <= count+1; group++ {
			lost := map[int]bool{}
			for first := 0; first < count; first += group {
				lost[first+r.Intn(min(group, count-first))] = true
			}
			damaged := ""
			for _, i := range r.Perm(count) {
				if !lost[i] {
					damaged += m.stream[ends[i]:ends[i+1]] + "\xb5"
				}
			}
			want := outcome{m.stream, true}
			checkRepair(t, damaged, parityOf(t, m.stream, group), group, count, want)
			// The parity in its text is enough, too.
			parity, ok := impl.ParseParity(impl.FormatParity(parityOf(t, m.stream, group)))
			if !ok {
				t.Fatal("ParseParity is false")
			}
			checkRepair(t, damaged, parity, group, count, want)
		}
	}
}

func TestTwoBlocksOfAGroupAreLost(t *testing.T) {
	m := makeOne(t, high24, "", zeros12+"\x01\x02"+zeros12+"\x03"+zeros12, 6)
	ends := endsOf(t, m.stream)
	count := len(ends) - 1
	for group := 1; group <= 8; group++ {
		for i := range count {
			for k := i + 1; k < count; k++ {
				damaged := put(put(m.stream, ends[k], ends[k]+1, "x"), ends[i], ends[i]+1, "x")
				want := outcome{m.stream, true}
				if i/group == k/group {
					want = outcome{}
				}
				checkRepair(t, damaged, parityOf(t, m.stream, group), group, count, want)
			}
		}
	}
}

func TestAGroupWithOneBlock(t *testing.T) {
	stream := rawText(3, 64, 4, 1, 9)
	for _, group := range []int{1, 2, 4} {
		parity := parityOf(t, stream, group)
		// The last group has only the last block, whose bytes are in the parity.
		if last := parity[len(parity)-1]; last != "\x00\x13"+stream[len(stream)-19:] {
			t.Errorf("the last parity is %x", last)
		}
		checkRepair(t, stream[:len(stream)-19], parity, group, 5, outcome{stream, true})
		// Further bytes of this parity do not matter.
		longer := slices.Clone(parity)
		longer[len(parity)-1] += "more"
		checkRepair(t, stream[:len(stream)-19], longer, group, 5, outcome{stream, true})
	}
	checkRepair(t, "", parityOf(t, stream, 1), 1, 5, outcome{stream, true})
	checkRepair(t, "", parityOf(t, rawText(7), 40), 40, 1, outcome{rawText(7), true})
	checkRepair(t, "", parityOf(t, stream, 2), 2, 5, outcome{})
	// Of another container there is nothing but its parity.
	checkRepair(t, stream, parityOf(t, rawText(1, 1, 1, 1, 1), 1), 1, 5, outcome{stream, true})
	checkRepair(t, stream[13:], parityOf(t, rawText(1, 1, 1, 1, 1), 1), 1, 5, outcome{rawText(1) + stream[13:], true})
}

func TestParitiesThatDoNotFit(t *testing.T) {
	m := makeOne(t, high24, "", zeros12+"\x01\x02\x03"+zeros12, 9)
	ends := endsOf(t, m.stream)
	count := len(ends) - 1
	parity := parityOf(t, m.stream, 3)
	damaged := m.stream[ends[1]:]
	checkRepair(t, damaged, parity, 3, count, outcome{m.stream, true})
	changed := 0
	for at := range len(parity[0]) {
		for _, bit := range []int{1, 2, 128} {
			b := []byte(parity[0])
			b[at] ^= byte(bit)
			want := wantRepair(damaged, []string{string(b)}, 3, count)
			checkRepair(t, damaged, []string{string(b)}, 3, count, want)
			if !want.ok {
				changed++
			}
		}
		checkRepair(t, damaged, []string{parity[0][:at]}, 3, count, wantRepair(damaged, []string{parity[0][:at]}, 3, count))
	}
	if changed < 3*(2+ends[1]) {
		t.Errorf("%d of %d changes are refused", changed, 3*len(parity[0]))
	}
	for _, wrong := range []string{"", "\x00", "\x00\x00", parity[0][2:], strings.Repeat("\x00", 76), strings.Repeat("\xff", 76)} {
		checkRepair(t, damaged, []string{wrong}, 3, count, outcome{})
		// A parity that is not needed may be anything.
		checkRepair(t, m.stream, []string{wrong}, 3, count, outcome{m.stream, true})
	}
	// What is made must be a block with this number, and all of the bytes must be those of the block.
	for _, text := range []string{textOf(rawBlock(1, "a")), textOf(rawBlock(39, "a")), rawText(3) + "x", "x" + rawText(3), rawText(3)[:12], rawText(3, 2), blockText(0, 0, 2, 1, "a"), "a"} {
		checkRepair(t, "", []string{wantParity([]string{text})}, 1, 1, outcome{})
		checkRepair(t, textOf(rawBlock(1, "b")), []string{wantParity([]string{text, textOf(rawBlock(1, "b"))})}, 2, 2, outcome{})
	}
	checkRepair(t, "", []string{wantParity([]string{rawText(3)})}, 1, 1, outcome{rawText(3), true})
}

func TestArgumentsOfRepairs(t *testing.T) {
	stream := rawText(3, 2, 4, 1, 7)
	for group := 1; group <= 40; group++ {
		for count := range 8 {
			for n := range 8 {
				parity := make([]string, n)
				want := outcome{}
				if n == groupsOf(count, group) && count <= 5 {
					want = outcome{wantMade(blocksIn(t, stream)[:min(count, 5)]).stream, true}
				}
				checkRepair(t, stream, parity, group, count, want)
			}
		}
	}
	for _, x := range append([]int{0, 41, 42}, extremes...) {
		for n := range 8 {
			checkRepair(t, stream, make([]string, n), x, 5, outcome{})
			checkRepair(t, stream, make([]string, n), x, 0, outcome{})
			if x != 0 {
				checkRepair(t, stream, make([]string, n), 1, x, outcome{})
				checkRepair(t, stream, make([]string, n), 5, x, outcome{})
				checkRepair(t, stream, make([]string, n), x, x, outcome{})
			}
		}
	}
	checkRepair(t, stream, nil, 1, 0, outcome{"", true})
	checkRepair(t, "", nil, 40, 0, outcome{"", true})
	checkRepair(t, "", []string{""}, 40, 0, outcome{})
	noise := strings.Repeat("\xb5", 8000-len(stream))
	checkRepair(t, noise+stream, make([]string, 5), 1, 5, outcome{stream, true})
	checkRepair(t, noise+stream+"x", make([]string, 5), 1, 5, outcome{})
	checkRepair(t, stream+noise+"x", make([]string, 5), 1, 5, outcome{})
	checkRepair(t, noise+"xx"+stream, nil, 1, 0, outcome{})
}

func TestRepairsOfLargeContainers(t *testing.T) {
	r := newRandom()
	full := rawText(slices.Repeat([]int{50}, 40)...)
	for _, group := range []int{1, 3, 8, 20, 39, 40} {
		lost := r.Intn(40)
		damaged := put(full, lost*60, lost*60+60, "")
		checkRepair(t, damaged, parityOf(t, full, group), group, 40, outcome{full, true})
	}
	// Too much data is no container, even if all blocks are found.
	large := rawText(append(slices.Repeat([]int{64}, 31), 16)...)
	checkRepair(t, large, make([]string, 1), 40, 32, outcome{large, true})
	over := rawText(append(slices.Repeat([]int{64}, 31), 17)...)
	checkRepair(t, over, make([]string, 1), 40, 32, outcome{})
	checkRepair(t, over, make([]string, 1), 40, 31, outcome{over[:31*74], true})
	last := textOf(rawBlock(31, strings.Repeat("x", 17)))
	checkRepair(t, large[:31*74], append(make([]string, 1), wantParity([]string{last})), 31, 32, outcome{})
	checkRepair(t, over[74:], []string{wantParity([]string{rawText(64)})}, 40, 32, outcome{})
}

func TestFoundBlocksThatAreNotItsOwn(t *testing.T) {
	stream := rawText(3, 2, 4)
	parity := parityOf(t, stream, 3)
	foreign := textOf(rawBlock(1, "other"))
	// A foreign block in front is taken; it is not known which one is the right one.
	checkRepair(t, foreign+stream, parity, 3, 3, wantMadeOf(t, stream, 1, "other"))
	checkRepair(t, stream+foreign, parity, 3, 3, outcome{stream, true})
	checkRepair(t, put(stream, 13, 14, "x")+foreign, parity, 3, 3, wantMadeOf(t, stream, 1, "other"))
	// Together with another lost block, the parity does not fit.
	checkRepair(t, foreign+put(stream, 0, 1, "x"), parity, 3, 3, outcome{})
	// Blocks with a number that the container does not have do not matter.
	far := textOf(rawBlock(3, "far")) + textOf(rawBlock(39, "far"))
	checkRepair(t, far+put(stream, 13, 14, "x")+far, parity, 3, 3, outcome{stream, true})
}

// wantMadeOf returns a container with another block in place of one.
func wantMadeOf(t *testing.T, stream string, number int, data string) outcome {
	t.Helper()
	blocks := blocksIn(t, stream)
	blocks[number] = rawBlock(number, data)
	return wantMade(blocks)
}

// No result may share the memory of another one, and no argument may change.
func TestNoMemoryOfDamageIsShared(t *testing.T) {
	stream := rawText(3, 2, 4)
	found := impl.FindBlocks(stream)
	salvaged := impl.Salvage(low810, "", stream)
	parity := parityOf(t, stream, 2)
	parsed, _ := impl.ParseParity("0000 0001")
	survivors := impl.Survivors(stream, stream)
	lost := impl.LostNumbers(salvaged[1:], 3)
	found[0], salvaged[0], parity[0], parsed[0], survivors[0], lost[0] = impl.Found{}, impl.Piece{}, "", "", 9, 9
	checkFound(t, stream)
	checkRestored(t, stream, stream[13:], 2)
	if list := impl.Survivors(stream, stream); !slices.Equal(list, []int{0, 1, 2}) {
		t.Errorf("Survivors = %v", list)
	}
	if list, _ := impl.ParseParity("0000 0001"); !slices.Equal(list, []string{"\x00\x00", "\x00\x01"}) {
		t.Errorf("ParseParity = %x", list)
	}
	if list := impl.LostNumbers(salvaged[1:], 3); !slices.Equal(list, []int{0}) {
		t.Errorf("LostNumbers = %v", list)
	}
	// Nothing is written into the room behind a list.
	room := append([]string{"ab", "c"}, slices.Repeat([]string{"behind"}, 5)...)
	before := slices.Clone(room)
	impl.RebuildText(room[:2], "\x00\x00abc")
	impl.XorTexts(room[:2])
	impl.FormatParity(room[:2])
	impl.RepairContainer(stream, room[:2], 2, 3)
	if !slices.Equal(room, before) {
		t.Errorf("the strings are %q, and were %q", room, before)
	}
}
