package tests

import (
	"encoding/binary"
	"fmt"
	"math"
	"strings"
	"testing"

	"loop.example/g00667/impl"
)

// inAndOut are numbers at both ends of a range, and outside of it.
type inAndOut struct {
	in  []int64
	out []int64
}

func rangeOf(least int64, most int64) inAndOut {
	return inAndOut{
		in:  []int64{least, least + 1, (least + most) / 2, most - 1, most},
		out: []int64{least - 1, most + 1, -1, -most, math.MinInt64, math.MaxInt64},
	}
}

var (
	macs  = rangeOf(0, impl.MaxMac)
	ips   = rangeOf(0, impl.MaxIp)
	vnis  = rangeOf(1, impl.MaxVni)
	kinds = rangeOf(0, 65535)
	ops   = inAndOut{in: []int64{1, 2}, out: []int64{0, 3, -1, 255, 256, 257, 258, math.MinInt64, math.MaxInt64}}
)

// lowBytes returns the size lowest bytes of n, the highest of them first.
func lowBytes(n int64, size int) string {
	all := binary.BigEndian.AppendUint64(nil, uint64(n))
	return string(all[8-size:])
}

func frameText(e impl.Eth) string {
	return lowBytes(e.To, 6) + lowBytes(e.From, 6) + lowBytes(e.Kind, 2) + e.Body
}

func arpText(a impl.Arp) string {
	start := "\x00\x01\x08\x00\x06\x04\x00" + lowBytes(a.Op, 1)
	return start + lowBytes(a.Mac, 6) + lowBytes(a.Ip, 4) + lowBytes(a.ToMac, 6) + lowBytes(a.ToIp, 4)
}

func vxText(vni int64, text string) string {
	return "\x08\x00\x00\x00" + lowBytes(vni, 3) + "\x00" + text
}

// someFrames returns valid frames, with each field at its limits.
func someFrames() []impl.Eth {
	var out []impl.Eth
	for _, kind := range append(kinds.in, 2048, impl.ArpKind) {
		for _, to := range append(macs.in, 0x010203040506) {
			for _, from := range append(macs.in, 0xa1b2c3d4e5f6) {
				for _, size := range []int{0, 1, 28, impl.MaxBody - 1, impl.MaxBody} {
					out = append(out, impl.Eth{To: to, From: from, Kind: kind, Body: someBytes(kind, size)})
				}
			}
		}
	}
	return out
}

// someArps returns valid ARP messages, with each field at its limits.
func someArps() []impl.Arp {
	var out []impl.Arp
	for _, op := range ops.in {
		for _, mac := range append(macs.in, 0x010203040506) {
			for _, ip := range append(ips.in, 0x0a0b0c0d) {
				out = append(out,
					impl.Arp{Op: op, Mac: mac, Ip: ip, ToMac: 0xa1b2c3d4e5f6, ToIp: 0xf1f2f3f4},
					impl.Arp{Op: op, Mac: 0xa1b2c3d4e5f6, Ip: 0xf1f2f3f4, ToMac: mac, ToIp: ip})
			}
		}
	}
	return out
}

func TestIsGroup(t *testing.T) {
	same(t, "example of a group", impl.IsGroup(1099511627776), true)
	same(t, "example of a single one", impl.IsGroup(5), false)
	for first := range int64(256) {
		for _, rest := range []int64{0, 1, 1 << 32, 1<<40 - 2, 1<<40 - 1} {
			mac := first<<40 | rest
			same(t, fmt.Sprintf("%012x", mac), impl.IsGroup(mac), first%2 == 1)
		}
	}
	same(t, "MaxMac", impl.IsGroup(impl.MaxMac), true)
	for _, mac := range append(macs.out, impl.MaxMac+1+1<<40, -1<<40, -(1<<48)+1<<40, math.MinInt64+1<<40) {
		same(t, fmt.Sprint("no MAC address: ", mac), impl.IsGroup(mac), false)
	}
}

func TestEthBytes(t *testing.T) {
	e := impl.Eth{To: impl.MaxMac, From: 5, Kind: 2048, Body: "hi"}
	same(t, "To, From, Kind, Body", impl.EthBytes(e), "\xff\xff\xff\xff\xff\xff\x00\x00\x00\x00\x00\x05\x08\x00hi")
	same(t, "the zero frame", impl.EthBytes(impl.Eth{}), strings.Repeat("\x00", 14))
}

func TestPromise3FramesAreRecovered(t *testing.T) {
	for _, e := range someFrames() {
		text := impl.EthBytes(e)
		same(t, fmt.Sprintf("EthBytes of %+v", e), text, frameText(e))
		same(t, fmt.Sprintf("EthRead of %+v", e), impl.EthRead(text), impl.EthOut{Eth: e})
	}
}

func TestEthBytesOfInvalidFrames(t *testing.T) {
	right := impl.Eth{To: 1, From: 2, Kind: 3, Body: "b"}
	same(t, "valid", len(impl.EthBytes(right)), 15)
	for _, mac := range macs.out {
		to, from := right, right
		to.To, from.From = mac, mac
		same(t, fmt.Sprint("To ", mac), impl.EthBytes(to), "")
		same(t, fmt.Sprint("From ", mac), impl.EthBytes(from), "")
	}
	for _, kind := range kinds.out {
		wrong := right
		wrong.Kind = kind
		same(t, fmt.Sprint("Kind ", kind), impl.EthBytes(wrong), "")
	}
	for _, size := range []int{impl.MaxBody + 1, impl.MaxBody + 2, impl.MaxBytes, impl.MaxBytes + 1} {
		wrong := right
		wrong.Body = someBytes(1, size)
		same(t, fmt.Sprint("Body of ", size), impl.EthBytes(wrong), "")
	}
}

func TestEthReadSizes(t *testing.T) {
	full := someBytes(21, impl.MaxBytes+1)
	for size := range 120 {
		got := impl.EthRead(full[:size])
		what := fmt.Sprint("size ", size)
		switch {
		case size < 14:
			same(t, what, got, impl.EthOut{Code: impl.ErrShort})
		case size > 74:
			same(t, what, got, impl.EthOut{Code: impl.ErrSyntax})
		default:
			same(t, what, got.Code, impl.OK)
			same(t, what+" encoded again", impl.EthBytes(got.Eth), full[:size])
		}
	}
	same(t, "MaxBytes", impl.EthRead(full[:impl.MaxBytes]), impl.EthOut{Code: impl.ErrSyntax})
	same(t, "MaxBytes + 1", impl.EthRead(full), impl.EthOut{Code: impl.ErrSize})
}

func TestArpBytes(t *testing.T) {
	a := impl.Arp{Op: 1, Mac: 5, Ip: 11, ToMac: 0x010203040506, ToIp: 0x0a0b0c0d}
	want := "\x00\x01\x08\x00\x06\x04\x00\x01" + "\x00\x00\x00\x00\x00\x05\x00\x00\x00\x0b" + "\x01\x02\x03\x04\x05\x06\x0a\x0b\x0c\x0d"
	same(t, "request", impl.ArpBytes(a), want)
	a.Op = 2
	same(t, "reply", impl.ArpBytes(a), strings.Replace(want, "\x04\x00\x01", "\x04\x00\x02", 1))
}

func TestPromise3ArpsAreRecovered(t *testing.T) {
	for _, a := range someArps() {
		text := impl.ArpBytes(a)
		same(t, fmt.Sprintf("ArpBytes of %+v", a), text, arpText(a))
		same(t, fmt.Sprintf("ArpRead of %+v", a), impl.ArpRead(text), impl.ArpOut{Arp: a})
	}
}

func TestArpBytesOfInvalidMessages(t *testing.T) {
	right := impl.Arp{Op: 1, Mac: 2, Ip: 3, ToMac: 4, ToIp: 5}
	same(t, "valid", len(impl.ArpBytes(right)), 28)
	same(t, "the zero message", impl.ArpBytes(impl.Arp{}), "")
	for _, op := range ops.out {
		wrong := right
		wrong.Op = op
		same(t, fmt.Sprint("Op ", op), impl.ArpBytes(wrong), "")
	}
	for _, mac := range macs.out {
		from, to := right, right
		from.Mac, to.ToMac = mac, mac
		same(t, fmt.Sprint("Mac ", mac), impl.ArpBytes(from), "")
		same(t, fmt.Sprint("ToMac ", mac), impl.ArpBytes(to), "")
	}
	for _, ip := range ips.out {
		from, to := right, right
		from.Ip, to.ToIp = ip, ip
		same(t, fmt.Sprint("Ip ", ip), impl.ArpBytes(from), "")
		same(t, fmt.Sprint("ToIp ", ip), impl.ArpBytes(to), "")
	}
}

func TestArpReadSizes(t *testing.T) {
	full := arpText(impl.Arp{Op: 2, Mac: 2, Ip: 3, ToMac: 4, ToIp: 5}) + strings.Repeat("\x00", impl.MaxBytes)
	bad := impl.ArpOut{Code: impl.ErrSyntax}
	for size := range 60 {
		if size == 28 {
			same(t, "28 bytes", impl.ArpRead(full[:size]).Code, impl.OK)
			continue
		}
		same(t, fmt.Sprint("size ", size), impl.ArpRead(full[:size]), bad)
	}
	same(t, "a byte before", impl.ArpRead("\x00"+full[:28]), bad)
	same(t, "a byte before, 28 in all", impl.ArpRead("\x00"+full[:27]), bad)
	same(t, "MaxBytes", impl.ArpRead(full[:impl.MaxBytes]), bad)
	same(t, "MaxBytes + 1", impl.ArpRead(full[:impl.MaxBytes+1]), impl.ArpOut{Code: impl.ErrSize})
}

func TestArpReadChangedBytes(t *testing.T) {
	a := impl.Arp{Op: 1, Mac: 0x010203040506, Ip: 0x0a0b0c0d, ToMac: 0xa1b2c3d4e5f6, ToIp: 0xf1f2f3f4}
	text := arpText(a)
	for at := range text {
		for mask := 1; mask < 256; mask++ {
			other := changed(text, at, byte(mask))
			got := impl.ArpRead(other)
			what := fmt.Sprintf("byte %d is %d", at, other[at])
			if at < 7 || at == 7 && other[at] != 2 {
				same(t, what, got, impl.ArpOut{Code: impl.ErrSyntax})
				continue
			}
			same(t, what, got.Code, impl.OK)
			same(t, what+", encoded again", impl.ArpBytes(got.Arp), other)
		}
	}
}

func TestVxBytes(t *testing.T) {
	same(t, "example", impl.VxBytes(258, "q"), "\x08\x00\x00\x00\x00\x01\x02\x00\x71")
	same(t, "example read", impl.VxRead("\x08\x00\x00\x00\x00\x01\x02\x00\x71"), impl.VxOut{Vni: 258, Text: "q"})
	same(t, "three bytes", impl.VxBytes(0x010203, ""), "\x08\x00\x00\x00\x01\x02\x03\x00")
}

func TestPromise3EncapsulatedIsRecovered(t *testing.T) {
	for _, vni := range append(vnis.in, 258, 0x010203) {
		for _, size := range []int{0, 1, 13, 14, 73, 74} {
			text := someBytes(vni, size)
			code := impl.VxBytes(vni, text)
			what := fmt.Sprintf("VNI %d, %d bytes", vni, size)
			same(t, "VxBytes of "+what, code, vxText(vni, text))
			same(t, "VxRead of "+what, impl.VxRead(code), impl.VxOut{Vni: vni, Text: text})
		}
	}
	for _, e := range someFrames() {
		inner := impl.VxRead(impl.VxBytes(impl.MaxVni, impl.EthBytes(e)))
		same(t, fmt.Sprintf("encapsulated %+v", e), impl.EthRead(inner.Text), impl.EthOut{Eth: e})
	}
}

func TestVxBytesOfInvalidArguments(t *testing.T) {
	for _, vni := range vnis.out {
		same(t, fmt.Sprint("VNI ", vni), impl.VxBytes(vni, "q"), "")
		same(t, fmt.Sprint("nothing for VNI ", vni), impl.VxBytes(vni, ""), "")
	}
	for _, size := range []int{75, 76, 82, impl.MaxBytes, impl.MaxBytes + 1} {
		same(t, fmt.Sprint("size ", size), impl.VxBytes(1, someBytes(1, size)), "")
	}
}

func TestVxReadSizes(t *testing.T) {
	full := vxText(7, someBytes(22, impl.MaxBytes))
	for size := range 120 {
		got := impl.VxRead(full[:size])
		what := fmt.Sprint("size ", size)
		switch {
		case size < 8:
			same(t, what, got, impl.VxOut{Code: impl.ErrShort})
			// Too short is found before malformed.
			same(t, what+", malformed", impl.VxRead(strings.Repeat("\xff", size)), impl.VxOut{Code: impl.ErrShort})
		case size > 82:
			same(t, what, got, impl.VxOut{Code: impl.ErrSyntax})
		default:
			same(t, what, got, impl.VxOut{Vni: 7, Text: full[8:size]})
		}
	}
	same(t, "MaxBytes", impl.VxRead(full[:impl.MaxBytes]), impl.VxOut{Code: impl.ErrSyntax})
	same(t, "MaxBytes + 1", impl.VxRead(full[:impl.MaxBytes+1]), impl.VxOut{Code: impl.ErrSize})
	same(t, "MaxBytes + 1, malformed", impl.VxRead(strings.Repeat("\xff", impl.MaxBytes+1)), impl.VxOut{Code: impl.ErrSize})
}

func TestVxReadChangedBytes(t *testing.T) {
	text := vxText(0x010203, "text")
	for at := range text {
		for mask := 1; mask < 256; mask++ {
			other := changed(text, at, byte(mask))
			got := impl.VxRead(other)
			what := fmt.Sprintf("byte %d is %d", at, other[at])
			if at < 4 || at == 7 {
				same(t, what, got, impl.VxOut{Code: impl.ErrSyntax})
				continue
			}
			same(t, what, got.Code, impl.OK)
			same(t, what+", encoded again", impl.VxBytes(got.Vni, got.Text), other)
		}
	}
	for _, size := range []int{0, 1, 74, 75} {
		same(t, fmt.Sprint("VNI 0 and ", size), impl.VxRead(vxText(0, someBytes(1, size))), impl.VxOut{Code: impl.ErrSyntax})
	}
}
