package impl

import (
	"math/bits"
	"strconv"
	"strings"
)

// Orders of bits.
const (
	OrderLow = iota
	OrderHigh
)

// Limits of literals, codes, data and streams.
const (
	MaxLiteral = 8
	MaxWidth   = 10
	MaxData    = 2000
	MaxStream  = 4000
	MaxBits    = 32000
)

const (
	byteBits  = 8
	hexDigits = "0123456789abcdef"
)

// A Setting has an order of bits, the width of literals, and the greatest width of codes.
type Setting struct {
	Order   int
	Literal int
	Most    int
}

// A bitOrder tells in which order the bits of a number follow each other.
type bitOrder int

func (o bitOrder) valid() bool {
	return o == OrderLow || o == OrderHigh
}

// name is empty for what is no order, so that no text of a setting has it.
func (o bitOrder) name() string {
	switch o {
	case OrderLow:
		return "low"
	case OrderHigh:
		return "high"
	}
	return ""
}

// place returns which binary digit of a number of some width stands at an index.
// It is all in which the orders differ, so that each loop over bits serves both.
func (o bitOrder) place(index, width int) int {
	if o == OrderHigh {
		return width - 1 - index
	}
	return index
}

// digit returns the bit at an index of a number of some width.
func (o bitOrder) digit(n, index, width int) int {
	return n >> o.place(index, width) & 1
}

func (o bitOrder) appendNumber(to []byte, n, width int) []byte {
	for i := range width {
		to = append(to, '0'+byte(o.digit(n, i, width)))
	}
	return to
}

// number returns the number of some width that begins with digits; zeros stand for those that are missing.
func (o bitOrder) number(digits string, width int) int {
	n := 0
	for i := range len(digits) {
		n |= int(digits[i]&1) << o.place(i, width)
	}
	return n
}

// SettingValid reports whether a setting is valid.
func SettingValid(s Setting) bool {
	return bitOrder(s.Order).valid() &&
		s.Literal >= 1 && s.Literal <= MaxLiteral &&
		s.Most >= s.Literal+2 && s.Most <= MaxWidth
}

// FormatSetting returns the text of a setting.
func FormatSetting(s Setting) string {
	if !SettingValid(s) {
		return ""
	}
	return bitOrder(s.Order).name() + " " + strconv.Itoa(s.Literal) + " " + strconv.Itoa(s.Most)
}

// ParseSetting parses the text of a setting.
func ParseSetting(t string) (Setting, bool) {
	fields := strings.SplitN(t, " ", 4)
	if len(fields) != 3 {
		return Setting{}, false
	}
	s := Setting{Order: OrderLow}
	if fields[0] == bitOrder(OrderHigh).name() {
		s.Order = OrderHigh
	}
	// The comparison below refuses whatever is misread here.
	s.Literal, _ = strconv.Atoi(fields[1])
	s.Most, _ = strconv.Atoi(fields[2])
	if FormatSetting(s) != t {
		return Setting{}, false
	}
	return s, true
}

// ClearCode returns the code that forgets words.
func ClearCode(s Setting) int {
	if !SettingValid(s) {
		return -1
	}
	return 1 << s.Literal
}

// EndCode returns the code that ends a stream.
func EndCode(s Setting) int {
	if !SettingValid(s) {
		return -1
	}
	return 1<<s.Literal + 1
}

// LastCode returns the greatest code.
func LastCode(s Setting) int {
	if !SettingValid(s) {
		return -1
	}
	return 1<<s.Most - 1
}

// DataFits reports whether data has only literals, and is not too long.
func DataFits(s Setting, data string) bool {
	if !SettingValid(s) || len(data) > MaxData {
		return false
	}
	literals := ClearCode(s)
	for i := range len(data) {
		if int(data[i]) >= literals {
			return false
		}
	}
	return true
}

// BitsNeeded returns the number of binary digits of a number.
func BitsNeeded(n int) int {
	if n < 0 {
		return -1
	}
	return max(1, bits.Len(uint(n)))
}

// BitsValid reports whether a string has only bits, and not too many.
func BitsValid(bits string) bool {
	if len(bits) > MaxBits {
		return false
	}
	for i := range len(bits) {
		if bits[i] != '0' && bits[i] != '1' {
			return false
		}
	}
	return true
}

func widthValid(width int) bool {
	return width >= 1 && width <= MaxWidth
}

func codeFits(code, width int) bool {
	return widthValid(width) && code >= 0 && code>>width == 0
}

// CodeBits returns the bits of a code in an order.
func CodeBits(order int, code int, width int) (string, bool) {
	o := bitOrder(order)
	if !o.valid() || !codeFits(code, width) {
		return "", false
	}
	return string(o.appendNumber(nil, code, width)), true
}

// BitsCode returns the code with some bits in an order.
func BitsCode(order int, bits string) (int, bool) {
	o := bitOrder(order)
	if !o.valid() || !widthValid(len(bits)) || !BitsValid(bits) {
		return 0, false
	}
	return o.number(bits, len(bits)), true
}

// reverse returns a number of 1 to 16 bits with its bits in reverse order.
// A wider number needs all the exchanges of a narrower one, and first one of larger parts.
func reverse(n, width int) int {
	switch {
	case width > 8:
		n = n&0x00ff<<8 | n>>8
		fallthrough
	case width > 4:
		n = n&0x0f0f<<4 | n>>4&0x0f0f
		fallthrough
	case width > 2:
		n = n&0x3333<<2 | n>>2&0x3333
		fallthrough
	case width > 1:
		n = n&0x5555<<1 | n>>1&0x5555
	}
	// The exchanges turn as many bits as the next power of 2; the number now has the upper ones of these.
	turned := 1 << bits.Len(uint(width-1))
	return n >> (turned - width)
}

// ReverseBits returns the number whose bits are those of another one in reverse order.
func ReverseBits(n int, width int) (int, bool) {
	if !codeFits(n, width) {
		return 0, false
	}
	return reverse(n, width), true
}

// bytesFor returns how many bytes have room for bits.
func bytesFor(bits int) int {
	return (bits + byteBits - 1) / byteBits
}

// PackBits puts bits into bytes.
func PackBits(order int, bits string) (string, bool) {
	o := bitOrder(order)
	if !o.valid() || !BitsValid(bits) {
		return "", false
	}
	packed := make([]byte, 0, bytesFor(len(bits)))
	for at := 0; at < len(bits); at += byteBits {
		digits := bits[at:min(at+byteBits, len(bits))]
		packed = append(packed, byte(o.number(digits, byteBits)))
	}
	return string(packed), true
}

func streamReadable(order int, stream string) bool {
	return bitOrder(order).valid() && len(stream) <= MaxStream
}

// UnpackBits returns the bits of bytes.
func UnpackBits(order int, stream string) (string, bool) {
	if !streamReadable(order, stream) {
		return "", false
	}
	unpacked := make([]byte, 0, len(stream)*byteBits)
	for i := range len(stream) {
		unpacked = bitOrder(order).appendNumber(unpacked, int(stream[i]), byteBits)
	}
	return string(unpacked), true
}

// TurnBytes reverses the bits of each byte.
func TurnBytes(stream string) (string, bool) {
	if len(stream) > MaxStream {
		return "", false
	}
	turned := []byte(stream)
	for i, b := range turned {
		turned[i] = byte(reverse(int(b), byteBits))
	}
	return string(turned), true
}

// bitAt returns the bit at an index that the stream has.
func bitAt(o bitOrder, stream string, at int) int {
	return o.digit(int(stream[at/byteBits]), at%byteBits, byteBits)
}

// BitAt returns a bit of a stream.
func BitAt(order int, stream string, at int) int {
	if !streamReadable(order, stream) || at < 0 || at >= len(stream)*byteBits {
		return -1
	}
	return bitAt(bitOrder(order), stream, at)
}

// SpanBits returns some bits of a stream.
func SpanBits(order int, stream string, from int, n int) (string, bool) {
	if !streamReadable(order, stream) || from < 0 || n < 0 {
		return "", false
	}
	size := len(stream) * byteBits
	// The second check subtracts, because from plus n may be too great for an int.
	if from > size || n > size-from {
		return "", false
	}
	span := make([]byte, n)
	for i := range span {
		span[i] = '0' + byte(bitAt(bitOrder(order), stream, from+i))
	}
	return string(span), true
}

// PadBits appends zeros up to a whole number of bytes.
func PadBits(bits string) (string, bool) {
	if !BitsValid(bits) {
		return "", false
	}
	missing := -len(bits) & (byteBits - 1)
	return bits + strings.Repeat("0", missing), true
}

// FormatHex writes bytes as pairs of hexadecimal digits.
func FormatHex(data string) string {
	if len(data) > MaxStream {
		return ""
	}
	text := make([]byte, 0, 2*len(data))
	for i := range len(data) {
		text = append(text, hexDigits[data[i]>>4], hexDigits[data[i]&0xf])
	}
	return string(text)
}

// ParseHex parses pairs of hexadecimal digits.
func ParseHex(t string) (string, bool) {
	if len(t)%2 != 0 || len(t) > 2*MaxStream {
		return "", false
	}
	data := make([]byte, len(t)/2)
	for i := range data {
		high := strings.IndexByte(hexDigits, t[2*i])
		low := strings.IndexByte(hexDigits, t[2*i+1])
		if high < 0 || low < 0 {
			return "", false
		}
		data[i] = byte(high<<4 | low)
	}
	return string(data), true
}
