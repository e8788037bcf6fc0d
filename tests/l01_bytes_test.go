package tests

import (
	"encoding/binary"
	"fmt"
	"hash/crc32"
	"math"
	"strings"
	"testing"

	"loop.example/g00667/impl"
)

// someNums returns the least and the greatest integers, and those around every power of two.
func someNums() []int64 {
	out := []int64{0, math.MinInt64, math.MinInt64 + 1, math.MaxInt64, math.MaxInt64 - 1}
	for bit := range 63 {
		p := int64(1) << bit
		out = append(out, p-1, p, p+1, -p-1, -p, -p+1)
	}
	return out
}

// numOfSize returns an integer whose encoding has this many bytes, 1 to 10.
func numOfSize(size int) int64 {
	return int64(uint64(1) << (7 * (size - 1)) >> 1)
}

func TestPutNumExamples(t *testing.T) {
	for n, want := range map[int64]string{
		0:              "\x00",
		-1:             "\x01",
		1:              "\x02",
		63:             "\x7e",
		-64:            "\x7f",
		64:             "\x80\x01",
		-65:            "\x81\x01",
		8191:           "\xfe\x7f",
		8192:           "\x80\x80\x01",
		math.MaxInt64:  "\xfe\xff\xff\xff\xff\xff\xff\xff\xff\x01",
		math.MinInt64:  "\xff\xff\xff\xff\xff\xff\xff\xff\xff\x01",
		-(1 << 62):     "\xff\xff\xff\xff\xff\xff\xff\xff\x7f",
		1<<62 - 1:      "\xfe\xff\xff\xff\xff\xff\xff\xff\x7f",
		1 << 62:        "\x80\x80\x80\x80\x80\x80\x80\x80\x80\x01",
		-(1 << 62) - 1: "\x81\x80\x80\x80\x80\x80\x80\x80\x80\x01",
	} {
		same(t, fmt.Sprint("PutNum of ", n), impl.PutNum(n), want)
	}
}

func TestPromise1NumsAreRecovered(t *testing.T) {
	for _, n := range someNums() {
		code := impl.PutNum(n)
		same(t, fmt.Sprint("PutNum of ", n), code, string(binary.AppendVarint(nil, n)))
		for _, before := range []string{"", "\xff", "\x80\x00abc"} {
			for _, after := range []string{"", "\x00", "\xff\x80"} {
				at := int64(len(before))
				want := impl.NumOut{N: n, At: at + int64(len(code))}
				same(t, fmt.Sprint("GetNum of ", n), impl.GetNum(before+code+after, at), want)
			}
		}
	}
}

func TestGetNumTruncated(t *testing.T) {
	for size := 1; size <= 10; size++ {
		code := impl.PutNum(numOfSize(size))
		same(t, "length of the encoding", len(code), size)
		for cut := range size {
			what := fmt.Sprintf("%d of %d bytes", cut, size)
			same(t, what, impl.GetNum(code[:cut], 0), impl.NumOut{Code: impl.ErrShort})
			same(t, what+" behind two", impl.GetNum("\x00\x02"+code[:cut], 2), impl.NumOut{Code: impl.ErrShort})
		}
	}
}

func TestGetNumTenthByte(t *testing.T) {
	for _, nine := range []string{strings.Repeat("\x80", 9), strings.Repeat("\xff", 9)} {
		same(t, "no tenth byte", impl.GetNum(nine, 0), impl.NumOut{Code: impl.ErrShort})
		for b := range 256 {
			tenth := string([]byte{byte(b)})
			for _, after := range []string{"", "\x00", "\x01", "\x80\x01"} {
				got := impl.GetNum(nine+tenth+after, 0)
				if b != 1 {
					same(t, fmt.Sprint("tenth byte ", b), got, impl.NumOut{Code: impl.ErrSyntax})
					continue
				}
				n, _ := binary.Varint([]byte(nine + tenth))
				same(t, "tenth byte 1", got, impl.NumOut{N: n, At: 10})
			}
		}
	}
}

func TestGetNumLongerThanNecessary(t *testing.T) {
	same(t, "0 alone", impl.GetNum("\x00", 0), impl.NumOut{At: 1})
	for size := 1; size <= 9; size++ {
		for _, b := range []string{"\x80", "\x81", "\xff"} {
			code := strings.Repeat(b, size) + "\x00"
			same(t, fmt.Sprintf("%x", code), impl.GetNum(code, 0), impl.NumOut{Code: impl.ErrSyntax})
			same(t, fmt.Sprintf("%x and more", code), impl.GetNum("a"+code+"\x01", 1), impl.NumOut{Code: impl.ErrSyntax})
		}
	}
}

// Of all strings of up to three bytes, exactly those are accepted that begin with what PutNum returns.
func TestGetNumAcceptsOnlyEncodings(t *testing.T) {
	for size := 1; size <= 3; size++ {
		for u := range 1 << (8 * size) {
			text := string([]byte{byte(u), byte(u >> 8), byte(u >> 16)}[:size])
			n, used := binary.Varint([]byte(text))
			want := impl.NumOut{N: n, At: int64(used)}
			if used <= 0 {
				want = impl.NumOut{Code: impl.ErrShort}
			} else if used > 1 && text[used-1] == 0 {
				want = impl.NumOut{Code: impl.ErrSyntax}
			}
			if got := impl.GetNum(text, 0); got != want {
				t.Fatalf("%x: got %+v, want %+v", text, got, want)
			}
			if want.Code == impl.OK && impl.PutNum(n) != text[:used] {
				t.Fatalf("%x is not PutNum of %d", text, n)
			}
		}
	}
}

func TestGetNumOffsets(t *testing.T) {
	for _, text := range []string{"", "\x02", "\x80\x00", strings.Repeat("\x02", impl.MaxBytes)} {
		size := int64(len(text))
		for _, at := range []int64{-1, -2, math.MinInt64} {
			same(t, fmt.Sprint("offset ", at), impl.GetNum(text, at), impl.NumOut{Code: impl.ErrForm})
			same(t, fmt.Sprint("text at offset ", at), impl.GetText(text, at), impl.TextOut{Code: impl.ErrForm})
		}
		for _, at := range []int64{size, size + 1, math.MaxInt64 - 1, math.MaxInt64} {
			same(t, fmt.Sprint("offset ", at), impl.GetNum(text, at), impl.NumOut{Code: impl.ErrShort})
			same(t, fmt.Sprint("text at offset ", at), impl.GetText(text, at), impl.TextOut{Code: impl.ErrShort})
		}
	}
}

func TestGetNumSize(t *testing.T) {
	full := strings.Repeat("\x02", impl.MaxBytes)
	same(t, "first of MaxBytes", impl.GetNum(full, 0), impl.NumOut{N: 1, At: 1})
	same(t, "last of MaxBytes", impl.GetNum(full, impl.MaxBytes-1), impl.NumOut{N: 1, At: impl.MaxBytes})
	for _, at := range []int64{0, 5, impl.MaxBytes, impl.MaxBytes + 1, -1, math.MinInt64} {
		what := fmt.Sprint("MaxBytes + 1 at ", at)
		same(t, what, impl.GetNum(full+"\x02", at), impl.NumOut{Code: impl.ErrSize})
		same(t, what, impl.GetText(full+"\x02", at), impl.TextOut{Code: impl.ErrSize})
	}
}

func TestTextExamples(t *testing.T) {
	same(t, "GetText", impl.GetText("x\x04ab", 1), impl.TextOut{Text: "ab", At: 4})
	same(t, "PutText", impl.PutText("ab"), "\x04ab")
	same(t, "PutText of nothing", impl.PutText(""), "\x00")
	same(t, "PutText of 64 bytes", impl.PutText(strings.Repeat("q", 64)), "\x80\x01"+strings.Repeat("q", 64))
}

func TestPromise1TextsAreRecovered(t *testing.T) {
	// Behind the two bytes of its length, this is the longest string whose encoding has at most MaxBytes.
	longest := impl.MaxBytes - 2
	for _, size := range []int{0, 1, 2, 3, 62, 63, 64, 65, 127, 128, 1000, longest - 1, longest} {
		text := someBytes(int64(size), size)
		code := impl.PutText(text)
		same(t, fmt.Sprint("PutText of ", size), code, string(binary.AppendVarint(nil, int64(size)))+text)
		same(t, fmt.Sprint("GetText of ", size), impl.GetText(code, 0), impl.TextOut{Text: text, At: int64(len(code))})
		if size+10 > longest {
			continue
		}
		want := impl.TextOut{Text: text, At: int64(len(code)) + 3}
		same(t, fmt.Sprint("GetText within more of ", size), impl.GetText("\xff\x80\x00"+code+"\xff\x00", 3), want)
	}
}

func TestTextSize(t *testing.T) {
	full := someBytes(7, impl.MaxBytes)
	same(t, "PutText of MaxBytes", impl.PutText(full), "\x80\x7d"+full)
	same(t, "PutText of MaxBytes + 1", impl.PutText(full+"a"), "")
	same(t, "PutText of much more", impl.PutText(full+full+full), "")
	for _, size := range []int{impl.MaxBytes - 1, impl.MaxBytes} {
		same(t, fmt.Sprint("GetText of ", size), impl.GetText(impl.PutText(full[:size]), 0), impl.TextOut{Code: impl.ErrSize})
	}
}

func TestGetTextErrors(t *testing.T) {
	for _, n := range []int64{-1, -2, math.MinInt64, impl.MaxBytes + 1, impl.MaxBytes + 2, 1 << 40, math.MaxInt64} {
		same(t, fmt.Sprint("length ", n), impl.GetText(impl.PutNum(n), 0), impl.TextOut{Code: impl.ErrSyntax})
		same(t, fmt.Sprint("length ", n, " and more"), impl.GetText("a"+impl.PutNum(n)+"abc", 1), impl.TextOut{Code: impl.ErrSyntax})
	}
	for _, text := range []string{"", "\x80", "\xff\xff", strings.Repeat("\x80", 9)} {
		same(t, fmt.Sprintf("truncated length %x", text), impl.GetText(text, 0), impl.TextOut{Code: impl.ErrShort})
	}
	for _, text := range []string{"\x80\x00", "\x84\x00ab", strings.Repeat("\x80", 9) + "\x02"} {
		same(t, fmt.Sprintf("malformed length %x", text), impl.GetText(text, 0), impl.TextOut{Code: impl.ErrSyntax})
	}
	for _, n := range []int64{1, 2, 63, 64, impl.MaxBytes - 1, impl.MaxBytes} {
		same(t, fmt.Sprint("nothing of ", n), impl.GetText(impl.PutNum(n), 0), impl.TextOut{Code: impl.ErrShort})
	}
	code := impl.PutText("a text of some length")
	for cut := range len(code) {
		same(t, fmt.Sprint("cut at ", cut), impl.GetText(code[:cut], 0), impl.TextOut{Code: impl.ErrShort})
		same(t, fmt.Sprint("cut behind two at ", cut), impl.GetText("\x00\x00"+code[:cut], 2), impl.TextOut{Code: impl.ErrShort})
	}
}

func TestNameRight(t *testing.T) {
	long := "a" + strings.Repeat("z", 18)
	for name, want := range map[string]bool{
		"a_9": true, "_a": false, "": false, "a": true, "z": true, "9a": false, "a__": true, "aB": false,
		"A": false, "a b": false, "a\n": false, "\xc3\xa9": false, "a\xc3\xa9": false,
		long: true, long + "9": true, long + "9_": false, strings.Repeat("a", impl.MaxBytes+1): false,
	} {
		same(t, fmt.Sprintf("name %q", name), impl.NameRight(name), want)
	}
	for b := range 256 {
		text := string([]byte{byte(b)})
		letter := strings.Contains("abcdefghijklmnopqrstuvwxyz", text)
		other := letter || strings.Contains("0123456789_", text)
		same(t, fmt.Sprintf("first %q", text), impl.NameRight(text), letter)
		same(t, fmt.Sprintf("first of two %q", text), impl.NameRight(text+"a"), letter)
		same(t, fmt.Sprintf("second %q", text), impl.NameRight("a"+text), other)
		same(t, fmt.Sprintf("last %q", text), impl.NameRight(long+text), other)
	}
}

func TestCrc(t *testing.T) {
	same(t, "example", impl.Crc("123456789"), 3421780262)
	same(t, "empty", impl.Crc(""), 0)
	for size := range 300 {
		text := someBytes(int64(size), size)
		same(t, fmt.Sprint("size ", size), impl.Crc(text), int64(crc32.ChecksumIEEE([]byte(text))))
	}
	for b := range 256 {
		text := string([]byte{byte(b)})
		same(t, fmt.Sprint("byte ", b), impl.Crc(text), int64(crc32.ChecksumIEEE([]byte(text))))
	}
	full := someBytes(3, impl.MaxBytes)
	same(t, "MaxBytes", impl.Crc(full), int64(crc32.ChecksumIEEE([]byte(full))))
	same(t, "MaxBytes + 1", impl.Crc(full+"a"), 0)
}

func TestPromise2CrcIsContinued(t *testing.T) {
	text := someBytes(11, 200)
	for cut := range len(text) + 1 {
		a, b := text[:cut], text[cut:]
		same(t, fmt.Sprint("cut at ", cut), impl.CrcMore(impl.Crc(a), b), impl.Crc(text))
		same(t, fmt.Sprint("three parts, cut at ", cut), impl.CrcMore(impl.CrcMore(impl.Crc(a), b[:len(b)/2]), b[len(b)/2:]), impl.Crc(text))
	}
	// Each part is within the limit, though the concatenation is not.
	full := someBytes(12, impl.MaxBytes)
	want := int64(crc32.ChecksumIEEE([]byte(full + full)))
	same(t, "twice MaxBytes", impl.CrcMore(impl.Crc(full), full), want)
}

func TestCrcMoreArguments(t *testing.T) {
	for _, crc := range []int64{0, 1, 1 << 31, 1<<32 - 2, 1<<32 - 1} {
		same(t, fmt.Sprint("nothing more, CRC ", crc), impl.CrcMore(crc, ""), crc)
		want := int64(crc32.Update(uint32(crc), crc32.IEEETable, []byte("more")))
		same(t, fmt.Sprint("more, CRC ", crc), impl.CrcMore(crc, "more"), want)
		same(t, fmt.Sprint("MaxBytes + 1, CRC ", crc), impl.CrcMore(crc, strings.Repeat("a", impl.MaxBytes+1)), 0)
	}
	for _, crc := range []int64{-1, -2, 1 << 32, 1<<32 + 1, math.MinInt64, math.MaxInt64} {
		for _, text := range []string{"", "a", "123456789"} {
			same(t, fmt.Sprint("CRC ", crc), impl.CrcMore(crc, text), 0)
		}
	}
}

func TestSeal(t *testing.T) {
	same(t, "nothing", impl.Seal(""), "\x00\x00\x00\x00")
	same(t, "example", impl.Seal("123456789"), "123456789\x26\x39\xf4\xcb")
	full := someBytes(5, impl.MaxBytes+1)
	longest := full[:impl.MaxBytes-4]
	sum := binary.LittleEndian.AppendUint32(nil, crc32.ChecksumIEEE([]byte(longest)))
	same(t, "MaxBytes - 4", impl.Seal(longest), longest+string(sum))
	for _, size := range []int{impl.MaxBytes - 3, impl.MaxBytes - 1, impl.MaxBytes, impl.MaxBytes + 1} {
		same(t, fmt.Sprint("size ", size), impl.Seal(full[:size]), "")
	}
}

func TestPromise2SealedIsRecovered(t *testing.T) {
	for _, size := range []int{0, 1, 2, 3, 4, 5, 8, 100, 4000, impl.MaxBytes - 5, impl.MaxBytes - 4} {
		text := someBytes(int64(size), size)
		same(t, fmt.Sprint("size ", size), impl.Unseal(impl.Seal(text)), impl.TextOut{Text: text})
	}
}

func TestPromise2ChangedIsRejected(t *testing.T) {
	bad := impl.TextOut{Code: impl.ErrSum}
	for _, text := range []string{"", "a", "ab", "\x00\x00\x00\x00", "a sealed string", someBytes(9, 64)} {
		sealed := impl.Seal(text)
		for at := range sealed {
			for mask := 1; mask < 256; mask++ {
				same(t, fmt.Sprintf("%x at %d with %d", sealed, at, mask), impl.Unseal(changed(sealed, at, byte(mask))), bad)
			}
		}
	}
	sealed := impl.Seal(someBytes(10, impl.MaxBytes-4))
	for at := 0; at < len(sealed); at += 97 {
		same(t, fmt.Sprint("MaxBytes at ", at), impl.Unseal(changed(sealed, at, byte(1<<(at%8)))), bad)
	}
}

func TestUnsealErrors(t *testing.T) {
	for _, text := range []string{"", "a", "ab", "abc", "\x00\x00\x00"} {
		same(t, fmt.Sprintf("%q", text), impl.Unseal(text), impl.TextOut{Code: impl.ErrShort})
	}
	same(t, "four wrong bytes", impl.Unseal("abcd"), impl.TextOut{Code: impl.ErrSum})
	sealed := impl.Seal("a sealed string")
	for cut := 4; cut < len(sealed); cut++ {
		same(t, fmt.Sprint("cut at ", cut), impl.Unseal(sealed[:cut]), impl.TextOut{Code: impl.ErrSum})
	}
	same(t, "a byte more", impl.Unseal(sealed+"\x00"), impl.TextOut{Code: impl.ErrSum})
	// The checksum is right, but the string with it is longer than a string may be.
	text := someBytes(6, impl.MaxBytes-3)
	sum := binary.LittleEndian.AppendUint32(nil, crc32.ChecksumIEEE([]byte(text)))
	same(t, "MaxBytes + 1", impl.Unseal(text+string(sum)), impl.TextOut{Code: impl.ErrSize})
}
