package tests

// Promise 1: a number is read back from its bits in either order, bits are read back from bytes,
// and reversing the bits of each byte exchanges both orders.

import (
	"fmt"
	"math"
	"slices"
	"strconv"
	"strings"
	"testing"

	"loop.example/soughtstreams/impl"
)

var orders = []int{impl.OrderLow, impl.OrderHigh}
var wrongOrders = []int{-1, 2, math.MinInt, math.MaxInt}

// extremes are numbers with which sums and shifts may go wrong.
var extremes = []int{math.MinInt, math.MinInt + 1, -64, -1, 64, 1 << 32, math.MaxInt - 1, math.MaxInt}

func reversed(text string) string {
	b := []byte(text)
	slices.Reverse(b)
	return string(b)
}

// wantBits writes a number as the document says, by the way of its binary text.
func wantBits(order, n, width int) string {
	high := fmt.Sprintf("%0*b", width, n)
	if order == impl.OrderLow {
		return reversed(high)
	}
	return high
}

// someBits returns n bits without a short period.
func someBits(n int) string {
	b := make([]byte, n)
	x := uint32(2463534242)
	for i := range b {
		x ^= x << 13
		x ^= x >> 17
		x ^= x << 5
		b[i] = '0' + byte(x>>7&1)
	}
	return string(b)
}

func allBytes() string {
	b := make([]byte, 256)
	for i := range b {
		b[i] = byte(i)
	}
	return string(b)
}

func allSettings() []impl.Setting {
	var list []impl.Setting
	for _, order := range orders {
		for literal := 1; literal <= 8; literal++ {
			for most := literal + 2; most <= 10; most++ {
				list = append(list, impl.Setting{Order: order, Literal: literal, Most: most})
			}
		}
	}
	return list
}

func wrongSettings() []impl.Setting {
	list := []impl.Setting{
		{},
		{Order: -1, Literal: 2, Most: 4},
		{Order: 2, Literal: 2, Most: 4},
		{Order: 0, Literal: 0, Most: 4},
		{Order: 0, Literal: -1, Most: 4},
		{Order: 0, Literal: 9, Most: 11},
		{Order: 0, Literal: 9, Most: 10},
		{Order: 0, Literal: 8, Most: 9},
		{Order: 1, Literal: 8, Most: 11},
		{Order: 1, Literal: 2, Most: 3},
		{Order: 1, Literal: 2, Most: 2},
	}
	for _, x := range extremes {
		list = append(list,
			impl.Setting{Order: x, Literal: 2, Most: 4},
			impl.Setting{Order: 0, Literal: x, Most: 4},
			impl.Setting{Order: 0, Literal: x, Most: x + 2},
			impl.Setting{Order: 0, Literal: 2, Most: x})
	}
	return list
}

func TestLimitsOfCodes(t *testing.T) {
	got := []int{impl.OrderLow, impl.OrderHigh, impl.MaxLiteral, impl.MaxWidth, impl.MaxData, impl.MaxStream, impl.MaxBits}
	want := []int{0, 1, 8, 10, 2000, 4000, 32000}
	if !slices.Equal(got, want) {
		t.Errorf("limits are %v, want %v", got, want)
	}
}

func TestExampleOfChapter1(t *testing.T) {
	s, ok := impl.ParseSetting("low 2 4")
	if want := (impl.Setting{Order: impl.OrderLow, Literal: 2, Most: 4}); s != want || !ok {
		t.Fatalf("ParseSetting = %v, %v", s, ok)
	}
	if !impl.DataFits(s, "\x00\x01\x02\x03") || impl.DataFits(s, "\x04") {
		t.Error("the literals are not 0 to 3")
	}
	if a, b, c := impl.ClearCode(s), impl.EndCode(s), impl.LastCode(s); a != 4 || b != 5 || c != 15 {
		t.Errorf("codes are %d, %d, %d", a, b, c)
	}
	six := []string{"011", "110"}
	packed := []string{"\x46", "\x62"}
	for i, order := range orders {
		if got, ok := impl.CodeBits(order, 6, 3); got != six[i] || !ok {
			t.Errorf("CodeBits(%d, 6, 3) = %q, %v", order, got, ok)
		}
		if got, ok := impl.PackBits(order, "0110001"); got != packed[i] || !ok {
			t.Errorf("PackBits(%d) = %q, %v", order, got, ok)
		}
	}
}

func TestSettings(t *testing.T) {
	for _, s := range allSettings() {
		if !impl.SettingValid(s) {
			t.Errorf("SettingValid(%v) is false", s)
		}
		want := fmt.Sprintf("%s %d %d", []string{"low", "high"}[s.Order], s.Literal, s.Most)
		if got := impl.FormatSetting(s); got != want {
			t.Errorf("FormatSetting(%v) = %q", s, got)
		}
		if got, ok := impl.ParseSetting(want); got != s || !ok {
			t.Errorf("ParseSetting(%q) = %v, %v", want, got, ok)
		}
		literals := int(math.Pow(2, float64(s.Literal)))
		last := int(math.Pow(2, float64(s.Most))) - 1
		if a, b, c := impl.ClearCode(s), impl.EndCode(s), impl.LastCode(s); a != literals || b != literals+1 || c != last {
			t.Errorf("codes of %v are %d, %d, %d", s, a, b, c)
		}
	}
}

func TestWrongSettings(t *testing.T) {
	for _, s := range wrongSettings() {
		if impl.SettingValid(s) {
			t.Errorf("SettingValid(%v) is true", s)
		}
		if got := impl.FormatSetting(s); got != "" {
			t.Errorf("FormatSetting(%v) = %q", s, got)
		}
		if a, b, c := impl.ClearCode(s), impl.EndCode(s), impl.LastCode(s); a != -1 || b != -1 || c != -1 {
			t.Errorf("codes of %v are %d, %d, %d", s, a, b, c)
		}
		if impl.DataFits(s, "") || impl.DataFits(s, "\x00") {
			t.Errorf("DataFits(%v) is true", s)
		}
	}
}

func TestParseSettingRefuses(t *testing.T) {
	texts := []string{
		"", " ", "  ", "low", "low 2", "low 2 ", "low  4", " 2 4", "low 2 4 ", " low 2 4", "low 2 4 5", "low 2  4",
		"low 02 4", "low 2 04", "low +2 4", "low 2 +4", "low -2 4", "low 2 4\n", "low\t2\t4", "low 2 4\x00",
		"Low 2 4", "LOW 2 4", "mid 2 4", "0 2 4", "1 2 4", "lowhigh 2 4", "highlow 2 4", "hig 2 4",
		"low 2 3", "low 0 4", "low 9 11", "low 8 11", "low 8 9", "low 2 four", "low 0x2 4", "low 2.0 4", "low 1_0 4",
		"low 99999999999999999999 4", "low 2 99999999999999999999", "low 18446744073709551618 4",
		"low 2 4 " + strings.Repeat(" ", 100000),
	}
	for _, text := range texts {
		if got, ok := impl.ParseSetting(text); got != (impl.Setting{}) || ok {
			t.Errorf("ParseSetting(%.30q) = %v, %v", text, got, ok)
		}
	}
}

func TestDataFits(t *testing.T) {
	for _, s := range allSettings() {
		for b := range 256 {
			want := b < 1<<s.Literal
			for _, data := range []string{string([]byte{byte(b)}), "\x00" + string([]byte{byte(b)}), string([]byte{byte(b)}) + "\x00"} {
				if impl.DataFits(s, data) != want {
					t.Errorf("DataFits(%v, %q) is not %v", s, data, want)
				}
			}
		}
		if !impl.DataFits(s, "") || !impl.DataFits(s, strings.Repeat("\x01", 2000)) || impl.DataFits(s, strings.Repeat("\x01", 2001)) {
			t.Errorf("DataFits(%v) is wrong about the length", s)
		}
		if impl.DataFits(s, strings.Repeat("\x01", 1999)+"\xff") != (s.Literal == 8) {
			t.Errorf("DataFits(%v) is wrong about the last byte", s)
		}
	}
}

func TestBitsNeeded(t *testing.T) {
	numbers := []int{math.MaxInt, math.MaxInt - 1, math.MaxInt32, 1 << 32, 1 << 62}
	for n := range 5000 {
		numbers = append(numbers, n)
	}
	for _, n := range numbers {
		if got, want := impl.BitsNeeded(n), len(strconv.FormatInt(int64(n), 2)); got != want {
			t.Errorf("BitsNeeded(%d) = %d, want %d", n, got, want)
		}
	}
	for _, n := range []int{-1, -2, -256, math.MinInt, math.MinInt + 1} {
		if got := impl.BitsNeeded(n); got != -1 {
			t.Errorf("BitsNeeded(%d) = %d", n, got)
		}
	}
}

func TestBitsValid(t *testing.T) {
	for _, bits := range []string{"", "0", "1", "0101", someBits(31999), someBits(32000)} {
		if !impl.BitsValid(bits) {
			t.Errorf("BitsValid(%.20q) is false", bits)
		}
	}
	for b := range 256 {
		one := string([]byte{byte(b)})
		want := one == "0" || one == "1"
		for _, bits := range []string{one, "0" + one, one + "1", someBits(31999) + one} {
			if impl.BitsValid(bits) != want {
				t.Errorf("BitsValid with the byte %d is not %v", b, want)
			}
		}
	}
	if impl.BitsValid(someBits(32001)) {
		t.Error("BitsValid is true for 32001 bits")
	}
}

func TestNumbersAreReadBack(t *testing.T) {
	for _, order := range orders {
		for width := 1; width <= 10; width++ {
			for n := range 1 << width {
				want := wantBits(order, n, width)
				if got, ok := impl.CodeBits(order, n, width); got != want || !ok {
					t.Errorf("CodeBits(%d, %d, %d) = %q, %v, want %q", order, n, width, got, ok, want)
				}
				if got, ok := impl.BitsCode(order, want); got != n || !ok {
					t.Errorf("BitsCode(%d, %q) = %d, %v, want %d", order, want, got, ok, n)
				}
			}
		}
	}
}

func TestReverseBits(t *testing.T) {
	for width := 1; width <= 10; width++ {
		for n := range 1 << width {
			want, err := strconv.ParseInt(wantBits(impl.OrderLow, n, width), 2, 64)
			if err != nil {
				t.Fatal(err)
			}
			if got, ok := impl.ReverseBits(n, width); got != int(want) || !ok {
				t.Errorf("ReverseBits(%d, %d) = %d, %v, want %d", n, width, got, ok, want)
			}
		}
	}
}

func TestCodesThatDoNotFit(t *testing.T) {
	check := func(order, code, width int) {
		if got, ok := impl.CodeBits(order, code, width); got != "" || ok {
			t.Errorf("CodeBits(%d, %d, %d) = %q, %v", order, code, width, got, ok)
		}
	}
	for _, order := range wrongOrders {
		check(order, 0, 1)
		check(order, 6, 3)
	}
	wrong := [][2]int{{0, 0}, {1, 0}, {0, -1}, {0, 11}, {1, 11}, {2047, 11}}
	for width := 1; width <= 10; width++ {
		wrong = append(wrong, [2]int{1 << width, width}, [2]int{-1, width}, [2]int{1<<width + 1, width})
		for _, x := range extremes {
			if x < 0 || x >= 1<<width {
				wrong = append(wrong, [2]int{x, width})
			}
		}
	}
	for _, x := range extremes {
		wrong = append(wrong, [2]int{0, x}, [2]int{1, x}, [2]int{x, x})
	}
	for _, w := range wrong {
		for _, order := range orders {
			check(order, w[0], w[1])
		}
		if got, ok := impl.ReverseBits(w[0], w[1]); got != 0 || ok {
			t.Errorf("ReverseBits(%d, %d) = %d, %v", w[0], w[1], got, ok)
		}
	}
}

func TestBitsCodeRefuses(t *testing.T) {
	check := func(order int, bits string) {
		if got, ok := impl.BitsCode(order, bits); got != 0 || ok {
			t.Errorf("BitsCode(%d, %.20q) = %d, %v", order, bits, got, ok)
		}
	}
	for _, order := range wrongOrders {
		check(order, "011")
	}
	for _, order := range orders {
		for _, bits := range []string{"", "00000000001", "10000000000", "00000000000", "2", "01 ", "0a1", "-1", "+1", "\x00", "\x01", "é", "1\n", someBits(32001)} {
			check(order, bits)
		}
	}
}

// wantBytes packs bits as the document says, by the way of the binary texts of the bytes.
func wantBytes(t *testing.T, order int, bits string) string {
	t.Helper()
	var packed []byte
	for len(bits) > 0 {
		n := min(8, len(bits))
		text := bits[:n] + strings.Repeat("0", 8-n)
		bits = bits[n:]
		if order == impl.OrderLow {
			text = reversed(text)
		}
		b, err := strconv.ParseUint(text, 2, 8)
		if err != nil {
			t.Fatal(err)
		}
		packed = append(packed, byte(b))
	}
	return string(packed)
}

func TestBitsAreReadBackFromBytes(t *testing.T) {
	sizes := []int{31993, 31999, 32000}
	for n := range 70 {
		sizes = append(sizes, n)
	}
	for _, n := range sizes {
		bits := someBits(n)
		padded, ok := impl.PadBits(bits)
		if !ok || padded != bits+strings.Repeat("0", (n+7)/8*8-n) {
			t.Errorf("PadBits of %d bits has %d, %v", n, len(padded), ok)
		}
		var packed [2]string
		for _, order := range orders {
			packed[order], ok = impl.PackBits(order, bits)
			if packed[order] != wantBytes(t, order, bits) || !ok {
				t.Errorf("PackBits(%d) of %d bits = %.20q, %v", order, n, packed[order], ok)
			}
			if got, ok := impl.UnpackBits(order, packed[order]); got != padded || !ok {
				t.Errorf("UnpackBits(%d) of %d bits = %.40q, %v", order, n, got, ok)
			}
		}
		for _, order := range orders {
			if got, ok := impl.TurnBytes(packed[order]); got != packed[1-order] || !ok {
				t.Errorf("TurnBytes of %d bits in order %d = %.20q, %v", n, order, got, ok)
			}
		}
	}
}

func TestEachByteInBothOrders(t *testing.T) {
	stream := allBytes()
	turned, ok := impl.TurnBytes(stream)
	if !ok || len(turned) != 256 {
		t.Fatalf("TurnBytes = %q, %v", turned, ok)
	}
	for i := range 256 {
		want, _ := strconv.ParseUint(wantBits(impl.OrderLow, i, 8), 2, 8)
		if turned[i] != byte(want) {
			t.Errorf("TurnBytes of the byte %d has %d, want %d", i, turned[i], want)
		}
		for _, order := range orders {
			if got, ok := impl.UnpackBits(order, stream[i:i+1]); got != wantBits(order, i, 8) || !ok {
				t.Errorf("UnpackBits(%d) of the byte %d = %q, %v", order, i, got, ok)
			}
		}
	}
	low, _ := impl.UnpackBits(impl.OrderLow, stream)
	high, _ := impl.UnpackBits(impl.OrderHigh, turned)
	if low == "" || low != high {
		t.Error("turning the bytes does not exchange the orders")
	}
	if again, ok := impl.TurnBytes(turned); again != stream || !ok {
		t.Error("turning the bytes twice changes them")
	}
}

func TestPackBitsAndPadBitsRefuse(t *testing.T) {
	for _, bits := range []string{"2", "01020", "0 1", "0101010a", "\x00", someBits(32001), someBits(32000) + "0", someBits(31999) + "x"} {
		for _, order := range orders {
			if got, ok := impl.PackBits(order, bits); got != "" || ok {
				t.Errorf("PackBits(%d, %.20q) = %.20q, %v", order, bits, got, ok)
			}
		}
		if got, ok := impl.PadBits(bits); got != "" || ok {
			t.Errorf("PadBits(%.20q) = %.20q, %v", bits, got, ok)
		}
	}
	for _, order := range wrongOrders {
		for _, bits := range []string{"", "0110001"} {
			if got, ok := impl.PackBits(order, bits); got != "" || ok {
				t.Errorf("PackBits(%d, %q) = %q, %v", order, bits, got, ok)
			}
		}
	}
}

func TestLengthsOfStreams(t *testing.T) {
	whole := strings.Repeat("\x46", 4000)
	long := whole + "\x46"
	if got, ok := impl.TurnBytes(whole); got != strings.Repeat("\x62", 4000) || !ok {
		t.Errorf("TurnBytes of 4000 bytes has %d, %v", len(got), ok)
	}
	if got, ok := impl.TurnBytes(long); got != "" || ok {
		t.Errorf("TurnBytes of 4001 bytes has %d, %v", len(got), ok)
	}
	for _, order := range orders {
		if got, ok := impl.UnpackBits(order, whole); len(got) != 32000 || !ok {
			t.Errorf("UnpackBits(%d) of 4000 bytes has %d, %v", order, len(got), ok)
		}
		if got, ok := impl.SpanBits(order, whole, 0, 32000); len(got) != 32000 || !ok {
			t.Errorf("SpanBits(%d) of 4000 bytes has %d, %v", order, len(got), ok)
		}
		if got := impl.BitAt(order, whole, 31999); got != 0 {
			t.Errorf("BitAt(%d) of 4000 bytes = %d", order, got)
		}
		if got, ok := impl.UnpackBits(order, long); got != "" || ok {
			t.Errorf("UnpackBits(%d) of 4001 bytes has %d, %v", order, len(got), ok)
		}
		if got, ok := impl.SpanBits(order, long, 0, 1); got != "" || ok {
			t.Errorf("SpanBits(%d) of 4001 bytes = %q, %v", order, got, ok)
		}
		if got := impl.BitAt(order, long, 0); got != -1 {
			t.Errorf("BitAt(%d) of 4001 bytes = %d", order, got)
		}
	}
}

func TestBitAt(t *testing.T) {
	for _, order := range orders {
		for _, stream := range []string{"", "\x46", "\x46\x01", allBytes()} {
			bits, ok := impl.UnpackBits(order, stream)
			if !ok {
				t.Fatal("UnpackBits fails")
			}
			for at := range len(bits) {
				if got := impl.BitAt(order, stream, at); got != int(bits[at]-'0') {
					t.Errorf("BitAt(%d, %.10q, %d) = %d", order, stream, at, got)
				}
			}
			for _, at := range []int{-1, -8, len(bits), len(bits) + 1, math.MinInt, math.MaxInt} {
				if got := impl.BitAt(order, stream, at); got != -1 {
					t.Errorf("BitAt(%d, %.10q, %d) = %d", order, stream, at, got)
				}
			}
		}
	}
	for _, order := range wrongOrders {
		if got := impl.BitAt(order, "\x46", 1); got != -1 {
			t.Errorf("BitAt(%d) = %d", order, got)
		}
	}
}

func TestSpanBits(t *testing.T) {
	numbers := append([]int{}, extremes...)
	for n := -2; n <= 27; n++ {
		numbers = append(numbers, n)
	}
	for _, order := range orders {
		for _, stream := range []string{"", "\x46", "\x46\x01\xd5"} {
			bits, ok := impl.UnpackBits(order, stream)
			if !ok {
				t.Fatal("UnpackBits fails")
			}
			for _, from := range numbers {
				for _, n := range numbers {
					wantOK := from >= 0 && n >= 0 && from <= len(bits) && n <= len(bits)-from
					want := ""
					if wantOK {
						want = bits[from : from+n]
					}
					if got, ok := impl.SpanBits(order, stream, from, n); got != want || ok != wantOK {
						t.Errorf("SpanBits(%d, %q, %d, %d) = %q, %v, want %q, %v", order, stream, from, n, got, ok, want, wantOK)
					}
				}
			}
		}
	}
}

func TestWrongOrdersOfStreams(t *testing.T) {
	for _, order := range wrongOrders {
		for _, stream := range []string{"", "\x46"} {
			if got, ok := impl.UnpackBits(order, stream); got != "" || ok {
				t.Errorf("UnpackBits(%d, %q) = %q, %v", order, stream, got, ok)
			}
			if got, ok := impl.SpanBits(order, stream, 0, 0); got != "" || ok {
				t.Errorf("SpanBits(%d, %q) = %q, %v", order, stream, got, ok)
			}
		}
		if got, ok := impl.SpanBits(order, "\x46", 0, 4); got != "" || ok {
			t.Errorf("SpanBits(%d) = %q, %v", order, got, ok)
		}
	}
}

func TestHex(t *testing.T) {
	for _, data := range []string{"", "\x00", "\x0a\xff", allBytes(), strings.Repeat("\xa5", 4000)} {
		text := fmt.Sprintf("%x", data)
		if got := impl.FormatHex(data); got != text {
			t.Errorf("FormatHex(%.20q) = %.40q", data, got)
		}
		if got, ok := impl.ParseHex(text); got != data || !ok {
			t.Errorf("ParseHex(%.20q) = %.20q, %v", text, got, ok)
		}
	}
	if got := impl.FormatHex(strings.Repeat("\xa5", 4001)); got != "" {
		t.Errorf("FormatHex of 4001 bytes has %d", len(got))
	}
	wrong := []string{"0", "000", "0A", "A0", "0g", "g0", "0x", "-1", " 0", "0 ", "00 ", "-", "0\x00", "00\n", "é", strings.Repeat("a5", 4001), strings.Repeat("a5", 3999) + "a"}
	for b := range 256 {
		one := string([]byte{byte(b)})
		if !strings.Contains("0123456789abcdef", one) {
			wrong = append(wrong, one+"0", "0"+one, "00"+one+"0")
		}
	}
	for _, text := range wrong {
		if got, ok := impl.ParseHex(text); got != "" || ok {
			t.Errorf("ParseHex(%.20q) = %.20q, %v", text, got, ok)
		}
	}
}
