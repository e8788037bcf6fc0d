package impl

import (
	"errors"
	"strconv"
	"strings"
)

// Constants, see chapter 1.
const (
	OK        = 0
	ErrForm   = 1
	ErrSize   = 2
	ErrSyntax = 3
	ErrShort  = 4
	ErrSum    = 5
	ErrNone   = 6
	ErrThere  = 7
	ErrRange  = 8
	ErrFull   = 9
	ErrState  = 10
	MaxBytes  = 8000
	MaxList   = 400
	MaxTime   = 1000000
)

const (
	maxNumBytes  = 10
	maxNameBytes = 20
	sumBytes     = 4
	maxCrc       = 1<<32 - 1
	crcPoly      = 0xEDB88320
)

// NumOut is a decoded integer and the offset behind it.
type NumOut struct {
	N    int64
	At   int64
	Code int64
}

// TextOut is a decoded string and the offset behind it.
type TextOut struct {
	Text string
	At   int64
	Code int64
}

// malformed is an encoding that cannot be read, with the code that callers return for it.
type malformed struct {
	code int64
}

func (m malformed) Error() string {
	return "malformed encoding, code " + strconv.FormatInt(m.code, 10)
}

func tooLong(text string) bool {
	return len(text) > MaxBytes
}

// listFault returns the code of what is wrong with a list, which right reports to be valid or not, or OK.
func listFault[T any](l []T, right func(l []T) bool) int64 {
	if len(l) > MaxList {
		return ErrSize
	}
	if !right(l) {
		return ErrForm
	}
	return OK
}

// listRight reports whether a list has at most so many elements, all of them right and each greater than the one before it.
func listRight[T any](l []T, most int, right func(x T) bool, compare func(a T, b T) int) bool {
	if len(l) > most {
		return false
	}
	for i, x := range l {
		if !right(x) || i > 0 && compare(l[i-1], x) >= 0 {
			return false
		}
	}
	return true
}

func isTime(n int64) bool {
	return n >= 0 && n <= MaxTime
}

func joined(a string, b string) string {
	out := make([]byte, len(a)+len(b))
	n := copy(out, a)
	copy(out[n:], b)
	return string(out)
}

// zigzag interleaves the signs, so that numbers near zero have short encodings.
func zigzag(n int64) uint64 {
	return uint64(n)<<1 ^ uint64(n>>63)
}

func unzigzag(u uint64) int64 {
	return int64(u>>1) ^ -int64(u&1)
}

// PutNum returns the zigzag varint encoding of n, see chapter 2.
func PutNum(n int64) string {
	u := zigzag(n)
	var out []byte
	for u >= 128 {
		out = append(out, byte(u)|128)
		u >>= 7
	}
	return string(append(out, byte(u)))
}

// readNum reads a varint at an offset that is not negative, and returns it and the offset behind it.
func readNum(text string, at int64) (uint64, int64, error) {
	var u uint64
	var b byte
	var shift uint
	count := 0
	code := int64(ErrSyntax)
more:
	if at >= int64(len(text)) {
		code = ErrShort
		goto wrong
	}
	b = text[at]
	at++
	count++
	// Nine bytes hold 63 bits: a tenth one has room for a single bit more.
	if count == maxNumBytes && b > 1 {
		goto wrong
	}
	u |= uint64(b&127) << shift
	shift += 7
	if b < 128 {
		goto last
	}
	goto more
last:
	// A highest group of zero could have been left out.
	if b == 0 && count > 1 {
		goto wrong
	}
	return u, at, nil
wrong:
	return 0, 0, malformed{code}
}

// GetNum decodes an integer at an offset, see chapter 2.
func GetNum(text string, at int64) NumOut {
	if tooLong(text) {
		return NumOut{Code: ErrSize}
	}
	if at < 0 {
		return NumOut{Code: ErrForm}
	}
	u, end, err := readNum(text, at)
	var bad malformed
	if errors.As(err, &bad) {
		return NumOut{Code: bad.code}
	}
	return NumOut{N: unzigzag(u), At: end}
}

// putNums returns the encodings of numbers, one behind the other.
func putNums(nums []int64) string {
	text := ""
	for _, n := range nums {
		text = joined(text, PutNum(n))
	}
	return text
}

// getNums decodes the first numbers of a text, and returns them and the offset behind them, or false if there are fewer.
func getNums(text string, count int) ([]int64, int64, bool) {
	var nums []int64
	at := int64(0)
	for range count {
		next := GetNum(text, at)
		if next.Code != OK {
			return nil, 0, false
		}
		nums = append(nums, next.N)
		at = next.At
	}
	return nums, at, true
}

// PutText returns a string behind its length, see chapter 2.
func PutText(t string) string {
	if tooLong(t) {
		return ""
	}
	return joined(PutNum(int64(len(t))), t)
}

// GetText decodes a string behind its length at an offset, see chapter 2.
func GetText(text string, at int64) TextOut {
	size := GetNum(text, at)
	if size.Code != OK {
		return TextOut{Code: size.Code}
	}
	if size.N < 0 || size.N > MaxBytes {
		return TextOut{Code: ErrSyntax}
	}
	end := size.At + size.N
	if end > int64(len(text)) {
		return TextOut{Code: ErrShort}
	}
	return TextOut{Text: strings.Clone(text[size.At:end]), At: end}
}

func isLetter(b byte) bool {
	return b >= 'a' && b <= 'z'
}

func isDigit(b byte) bool {
	return b >= '0' && b <= '9'
}

// NameRight reports whether t is a name, see chapter 1.
func NameRight(t string) bool {
	if len(t) < 1 || len(t) > maxNameBytes || !isLetter(t[0]) {
		return false
	}
	for i := 1; i < len(t); i++ {
		if !isLetter(t[i]) && !isDigit(t[i]) && t[i] != '_' {
			return false
		}
	}
	return true
}

// Crc returns the CRC-32 of a string, see chapter 2.
func Crc(text string) int64 {
	// 0 is the CRC of the empty string, and its complement the initial register.
	return CrcMore(0, text)
}

// CrcMore continues a CRC over a further string, see chapter 2.
func CrcMore(crc int64, text string) int64 {
	if tooLong(text) || crc < 0 || crc > maxCrc {
		return 0
	}
	register := ^uint32(crc)
	for i := 0; i < len(text); i++ {
		register = crcByte(register, text[i])
	}
	return int64(^register)
}

func crcByte(register uint32, b byte) uint32 {
	// The low bits of the register meet the bits of the byte in order, so all eight can be combined at once.
	register ^= uint32(b)
	for range 8 {
		low := register & 1
		register >>= 1
		if low == 1 {
			register ^= crcPoly
		}
	}
	return register
}

// sumOf returns the CRC of a string in four little-endian bytes.
func sumOf(text string) string {
	crc := uint32(Crc(text))
	out := make([]byte, sumBytes)
	for i := range out {
		out[i] = byte(crc >> (8 * uint(i)))
	}
	return string(out)
}

// Seal returns a string followed by its CRC, see chapter 2.
func Seal(text string) string {
	if len(text) > MaxBytes-sumBytes {
		return ""
	}
	return joined(text, sumOf(text))
}

// Unseal checks and removes the CRC behind a string, see chapter 2.
func Unseal(text string) TextOut {
	if tooLong(text) {
		return TextOut{Code: ErrSize}
	}
	if len(text) < sumBytes {
		return TextOut{Code: ErrShort}
	}
	end := len(text) - sumBytes
	if sumOf(text[:end]) != text[end:] {
		return TextOut{Code: ErrSum}
	}
	return TextOut{Text: strings.Clone(text[:end])}
}
