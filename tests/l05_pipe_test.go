package tests

import (
	"encoding/binary"
	"fmt"
	"hash/crc32"
	"math"
	"math/rand"
	"slices"
	"strings"
	"testing"
	"unsafe"

	"loop.example/g00667/impl"
)

var epochs = rangeOf(1, impl.MaxTime)

// somePacket is a packet whose fields all differ from zero and from each other.
func somePacket() impl.Packet {
	return impl.Packet{Epoch: 7, Echo: 5, Num: 300, Ack: 11, Text: "hello"}
}

// somePipe is a pipe whose fields all differ from zero and from each other.
func somePipe() impl.Pipe {
	return impl.Pipe{Epoch: 5, Peer: 7, Base: 10, In: 20, Out: []string{"eleven", "twelve", "thirteen"}}
}

// sealed returns a text behind which its CRC is written without the program.
func sealed(text string) string {
	return string(binary.LittleEndian.AppendUint32([]byte(text), crc32.ChecksumIEEE([]byte(text))))
}

func numsOfPacket(x impl.Packet) []int64 {
	return []int64{x.Epoch, x.Echo, x.Num, x.Ack, int64(len(x.Text))}
}

// packetText returns what the document says of the encoding of a packet, valid or not.
func packetText(x impl.Packet) string {
	return sealed(numsText(numsOfPacket(x)) + x.Text)
}

func notAPacket() impl.PacketOut {
	return impl.PacketOut{Code: impl.ErrSyntax}
}

func formError() impl.PipeOut {
	return impl.PipeOut{Code: impl.ErrForm}
}

func samePipes(a impl.Pipe, b impl.Pipe) bool {
	return a.Epoch == b.Epoch && a.Peer == b.Peer && a.Base == b.Base && a.In == b.In && slices.Equal(a.Out, b.Out)
}

func wantPipe(t *testing.T, what string, got impl.PipeOut, want impl.PipeOut) {
	t.Helper()
	if !samePipes(got.Pipe, want.Pipe) || !slices.Equal(got.Texts, want.Texts) || got.Fresh != want.Fresh || got.Code != want.Code {
		t.Errorf("%s: got %+v, want %+v", what, got, want)
	}
}

func wantPackets(t *testing.T, what string, got []impl.Packet, want []impl.Packet) {
	t.Helper()
	if !slices.Equal(got, want) {
		t.Errorf("%s: got %+v, want %+v", what, got, want)
	}
}

// copyOf returns the pipe with its messages in memory of their own.
func copyOf(p impl.Pipe) impl.Pipe {
	var out []string
	for _, text := range p.Out {
		out = append(out, strings.Clone(text))
	}
	p.Out = out
	return p
}

// messages returns n messages, no two of them alike.
func messages(n int) []string {
	out := make([]string, n)
	for i := range out {
		out[i] = fmt.Sprint("message ", i)
	}
	return out
}

func TestSessionLimits(t *testing.T) {
	same(t, "MaxOut", impl.MaxOut, 60)
	same(t, "MaxText", impl.MaxText, 60)
}

// wantRightPacket checks a packet with all functions that tell a valid packet from others.
func wantRightPacket(t *testing.T, x impl.Packet) {
	t.Helper()
	what := fmt.Sprintf("%+v", x)
	same(t, "PacketRight of "+what, impl.PacketRight(x), true)
	same(t, "PacketBytes of "+what, impl.PacketBytes(x), packetText(x))
	same(t, "PacketRead of "+what, impl.PacketRead(packetText(x)), impl.PacketOut{Packet: x})
	same(t, what+" encoded and decoded", impl.PacketRead(impl.PacketBytes(x)), impl.PacketOut{Packet: x})
	wantPipe(t, "PipeHear of "+what, impl.PipeHear(somePipe(), x), hearByRule(somePipe(), x))
}

func wantWrongPacket(t *testing.T, x impl.Packet) {
	t.Helper()
	what := fmt.Sprintf("%+v", x)
	same(t, "PacketRight of "+what, impl.PacketRight(x), false)
	same(t, "PacketBytes of "+what, impl.PacketBytes(x), "")
	wantPipe(t, "PipeHear of "+what, impl.PipeHear(somePipe(), x), formError())
	wantPipe(t, "PipeHear at first of "+what, impl.PipeHear(impl.Pipe{Epoch: 5}, x), formError())
	want := notAPacket()
	if len(packetText(x)) > impl.MaxBytes {
		want.Code = impl.ErrSize
	}
	same(t, "PacketRead of "+what, impl.PacketRead(packetText(x)), want)
}

// packetField is one number of a packet and its range.
type packetField struct {
	set    func(x *impl.Packet, n int64)
	limits inAndOut
}

func packetFields() []packetField {
	return []packetField{
		{func(x *impl.Packet, n int64) { x.Epoch = n }, epochs},
		{func(x *impl.Packet, n int64) { x.Echo = n }, times},
		{func(x *impl.Packet, n int64) { x.Num = n }, times},
		{func(x *impl.Packet, n int64) { x.Ack = n }, times},
	}
}

func TestPromise6PacketsAreRecovered(t *testing.T) {
	texts := []string{"", "x", "\x00", "\xff\xfe", "hé", someBytes(51, impl.MaxText-1), someBytes(52, impl.MaxText)}
	for _, epoch := range epochs.in {
		for _, echo := range times.in {
			for _, num := range times.in {
				for _, ack := range times.in {
					for _, text := range texts {
						if num != 0 || text == "" {
							wantRightPacket(t, impl.Packet{Epoch: epoch, Echo: echo, Num: num, Ack: ack, Text: text})
						}
					}
				}
			}
		}
	}
}

func TestPacketBytes(t *testing.T) {
	same(t, "only an epoch", impl.PacketBytes(impl.Packet{Epoch: 3}), sealed("\x06\x00\x00\x00\x00"))
	same(t, "a packet", impl.PacketBytes(somePacket()), sealed("\x0e\x0a\xd8\x04\x16\x0ahello"))
	same(t, "a message of no bytes", impl.PacketBytes(impl.Packet{Epoch: 1, Num: 1}), sealed("\x02\x00\x02\x00\x00"))
	long := someBytes(53, impl.MaxText)
	same(t, "a message of MaxText bytes", impl.PacketBytes(impl.Packet{Epoch: 1, Num: 1, Text: long}), sealed("\x02\x00\x02\x00\x78"+long))
}

func TestPacketFields(t *testing.T) {
	for i, f := range packetFields() {
		for _, n := range f.limits.in {
			x := somePacket()
			f.set(&x, n)
			// Num is the field that may be 0 only without a message.
			if x.Num == 0 {
				wantWrongPacket(t, x)
				x.Text = ""
			}
			wantRightPacket(t, x)
		}
		for _, n := range append(f.limits.out, 7+1<<32, -7) {
			x := somePacket()
			f.set(&x, n)
			wantWrongPacket(t, x)
			x.Text = ""
			wantWrongPacket(t, x)
			for j, other := range packetFields() {
				if i != j {
					other.set(&x, n)
					wantWrongPacket(t, x)
				}
			}
		}
	}
	wantWrongPacket(t, impl.Packet{})
}

func TestPacketTextSizes(t *testing.T) {
	for n := range 2*impl.MaxText + 10 {
		x := somePacket()
		x.Text = someBytes(54, n)
		if n <= impl.MaxText {
			wantRightPacket(t, x)
		} else {
			wantWrongPacket(t, x)
		}
		x.Num = 0
		if n == 0 {
			wantRightPacket(t, x)
		} else {
			wantWrongPacket(t, x)
		}
	}
	for _, n := range []int{256, 256 + impl.MaxText, impl.MaxBytes - 13, impl.MaxBytes - 12, impl.MaxBytes - 11, impl.MaxBytes - 10, impl.MaxBytes - 4, impl.MaxBytes, impl.MaxBytes + 1, 65536, 65537} {
		x := somePacket()
		x.Text = someBytes(55, n)
		wantWrongPacket(t, x)
	}
}

// somePackets returns packets with short and long numbers, with and without a message.
func somePackets() []impl.Packet {
	return []impl.Packet{
		{Epoch: 1},
		{Epoch: 3, Echo: 1, Num: 1},
		{Epoch: 64, Echo: 63, Num: 64, Ack: 8192, Text: "x"},
		somePacket(),
		{Epoch: impl.MaxTime, Echo: impl.MaxTime, Num: impl.MaxTime, Ack: impl.MaxTime, Text: someBytes(56, impl.MaxText)},
	}
}

func TestPromise6PacketsWithOneByteChanged(t *testing.T) {
	for _, x := range somePackets() {
		text := packetText(x)
		for at := range text {
			for mask := 1; mask < 256; mask++ {
				got := impl.PacketRead(changed(text, at, byte(mask)))
				same(t, fmt.Sprintf("%+v with byte %d changed by %x", x, at, mask), got, impl.PacketOut{Code: impl.ErrSum})
			}
		}
	}
}

func TestPacketReadNumbersLeftOutOrAdded(t *testing.T) {
	for _, x := range somePackets() {
		nums := numsOfPacket(x)
		for i := range nums {
			what := fmt.Sprintf("%+v, number %d", x, i)
			less := slices.Delete(slices.Clone(nums), i, i+1)
			// Without the length, the first byte of a message could be taken for one.
			if i < 4 || x.Text == "" {
				same(t, what+" left out", impl.PacketRead(sealed(numsText(less)+x.Text)), notAPacket())
			}
			same(t, what+" and all behind it left out", impl.PacketRead(sealed(numsText(nums[:i]))), notAPacket())
		}
		for i := range len(nums) + 1 {
			for _, n := range []int64{1, 2, 61, -1, impl.MaxTime} {
				more := slices.Insert(slices.Clone(nums), i, n)
				wantPacketInverse(t, sealed(numsText(more)+x.Text))
			}
			if i < 5 {
				more := slices.Insert(slices.Clone(nums), i, impl.MaxTime+1)
				same(t, fmt.Sprintf("%+v with a great number at %d", x, i), impl.PacketRead(sealed(numsText(more)+x.Text)), notAPacket())
			}
		}
		body := numsText(nums) + x.Text
		for _, more := range []string{"\x00", "\x02", "x", body} {
			same(t, fmt.Sprintf("%+v with %q behind it", x, more), impl.PacketRead(sealed(body+more)), notAPacket())
		}
		for n := range len(body) {
			same(t, fmt.Sprintf("%+v: the first %d bytes", x, n), impl.PacketRead(sealed(body[:n])), notAPacket())
		}
		same(t, fmt.Sprintf("%+v sealed twice", x), impl.PacketRead(sealed(sealed(body))), notAPacket())
	}
}

func TestPacketReadNumbersEncodedOtherwise(t *testing.T) {
	for _, x := range somePackets() {
		nums := numsOfPacket(x)
		for i, n := range nums {
			before, after := numsText(nums[:i]), numsText(nums[i+1:])+x.Text
			for _, other := range otherCodes(n)[:5] {
				same(t, fmt.Sprintf("%+v with number %d as %x", x, i, other), impl.PacketRead(sealed(before+other+after)), notAPacket())
			}
		}
	}
}

func TestPacketReadLengthsOfText(t *testing.T) {
	head := numsText([]int64{7, 5, 300, 11})
	for _, n := range []int64{-1, -5, 4, 6, 8000, 8001, 5 + 1<<32, math.MinInt64, math.MaxInt64} {
		same(t, fmt.Sprint("five bytes behind the length ", n), impl.PacketRead(sealed(head+numsText([]int64{n})+"hello")), notAPacket())
	}
}

func TestPacketReadErrorsInOrder(t *testing.T) {
	for n := range 4 {
		for _, text := range []string{"\x00\x00\x00", "abc", packetText(somePacket())} {
			same(t, fmt.Sprint(n, " bytes"), impl.PacketRead(text[:n]), impl.PacketOut{Code: impl.ErrShort})
		}
	}
	same(t, "four bytes", impl.PacketRead("abcd"), impl.PacketOut{Code: impl.ErrSum})
	// The CRC of nothing is 0: the seal is right, and there is nothing in it.
	same(t, "four bytes of zero", impl.PacketRead("\x00\x00\x00\x00"), notAPacket())
	same(t, "malformed, not sealed", impl.PacketRead("\xff\xff\xff\xff\xff\xff"), impl.PacketOut{Code: impl.ErrSum})
	same(t, "malformed, sealed", impl.PacketRead(sealed("\xff\xff")), notAPacket())
	same(t, "a packet, not sealed", impl.PacketRead("\x06\x00\x00\x00\x00"), impl.PacketOut{Code: impl.ErrSum})
	long := strings.Repeat("\x00", impl.MaxBytes-4)
	same(t, "MaxBytes, sealed", impl.PacketRead(sealed(long)), notAPacket())
	same(t, "MaxBytes, not sealed", impl.PacketRead("abcd"+long), impl.PacketOut{Code: impl.ErrSum})
	same(t, "MaxBytes + 1, sealed", impl.PacketRead(sealed("\x02"+long)), impl.PacketOut{Code: impl.ErrSize})
	same(t, "MaxBytes + 1, not sealed", impl.PacketRead("abcde"+long), impl.PacketOut{Code: impl.ErrSize})
}

// wantPacketInverse checks that a sealed text is accepted only as the encoding of the packet that it is decoded to.
func wantPacketInverse(t *testing.T, text string) {
	t.Helper()
	got := impl.PacketRead(text)
	what := fmt.Sprintf("%x", text)
	if got.Code != impl.OK {
		same(t, what, got, notAPacket())
		return
	}
	same(t, what+", decoded, is valid", impl.PacketRight(got.Packet), true)
	same(t, what+", encoded again", packetText(got.Packet), text)
}

func TestPacketReadAcceptsOnlyEncodings(t *testing.T) {
	for _, x := range somePackets() {
		body := numsText(numsOfPacket(x)) + x.Text
		for at := range body {
			for mask := 1; mask < 256; mask++ {
				wantPacketInverse(t, sealed(changed(body, at, byte(mask))))
			}
		}
	}
	some := "\x00\x01\x02\x04\x80"
	random := rand.New(rand.NewSource(57))
	for range 200000 {
		text := make([]byte, random.Intn(9))
		for i := range text {
			text[i] = some[random.Intn(len(some))]
		}
		wantPacketInverse(t, sealed(string(text)))
	}
}

// wantRightPipe checks a pipe with all functions that tell a valid pipe from others.
func wantRightPipe(t *testing.T, what string, p impl.Pipe) {
	t.Helper()
	same(t, "PipeRight of "+what, impl.PipeRight(p), true)
	wantPackets(t, "PipeSend of "+what, impl.PipeSend(p), sendByRule(p))
	wantPipe(t, "PipePut of "+what, impl.PipePut(p, "more"), putByRule(p, "more"))
	wantPipe(t, "PipePut of much to "+what, impl.PipePut(p, someBytes(58, impl.MaxText+1)), formError())
	for _, x := range somePackets() {
		wantPipe(t, fmt.Sprintf("%s hears %+v", what, x), impl.PipeHear(p, x), hearByRule(p, x))
	}
	for _, epoch := range []int64{p.Epoch - 1, p.Epoch, p.Epoch + 1, impl.MaxTime, impl.MaxTime + 1} {
		want := formError()
		if epoch > p.Epoch && epoch <= impl.MaxTime {
			want = impl.PipeOut{Pipe: impl.Pipe{Epoch: epoch, Peer: p.Peer}}
		}
		wantPipe(t, fmt.Sprint("PipeReset of ", what, " to ", epoch), impl.PipeReset(p, epoch), want)
	}
}

func wantWrongPipe(t *testing.T, what string, p impl.Pipe) {
	t.Helper()
	same(t, "PipeRight of "+what, impl.PipeRight(p), false)
	if got := impl.PipeSend(p); len(got) != 0 {
		t.Errorf("PipeSend of %s: got %+v, want nothing", what, got)
	}
	for _, n := range []int{0, 5, impl.MaxText, impl.MaxText + 1, impl.MaxBytes} {
		wantPipe(t, fmt.Sprint("PipePut of ", n, " bytes to ", what), impl.PipePut(p, someBytes(59, n)), formError())
	}
	wantPipe(t, "PipePut of very much to "+what, impl.PipePut(p, someBytes(59, impl.MaxBytes+1)), impl.PipeOut{Code: impl.ErrSize})
	for _, x := range append(somePackets(), impl.Packet{}) {
		wantPipe(t, fmt.Sprintf("%s hears %+v", what, x), impl.PipeHear(p, x), formError())
	}
	for _, epoch := range []int64{1, 100, impl.MaxTime, impl.MaxTime + 1} {
		wantPipe(t, fmt.Sprint("PipeReset of ", what, " to ", epoch), impl.PipeReset(p, epoch), formError())
	}
}

// pipeField is one number of a pipe and its range if Peer is not 0.
type pipeField struct {
	set    func(p *impl.Pipe, n int64)
	limits inAndOut
}

func pipeFields() []pipeField {
	return []pipeField{
		{func(p *impl.Pipe, n int64) { p.Epoch = n }, epochs},
		{func(p *impl.Pipe, n int64) { p.Peer = n }, inAndOut{in: epochs.in, out: times.out}},
		{func(p *impl.Pipe, n int64) { p.Base = n }, times},
		{func(p *impl.Pipe, n int64) { p.In = n }, times},
	}
}

func TestPipeFields(t *testing.T) {
	for _, f := range pipeFields() {
		for _, n := range f.limits.in {
			p := somePipe()
			p.Out = nil
			f.set(&p, n)
			wantRightPipe(t, fmt.Sprintf("%+v", p), p)
		}
		for _, n := range append(f.limits.out, 7+1<<32, -7) {
			p := somePipe()
			f.set(&p, n)
			wantWrongPipe(t, fmt.Sprintf("%+v", p), p)
			p.Out = nil
			wantWrongPipe(t, fmt.Sprintf("%+v", p), p)
		}
	}
	wantWrongPipe(t, "the zero pipe", impl.Pipe{})
}

func TestPipeThatDoesNotKnowTheOther(t *testing.T) {
	for _, epoch := range epochs.in {
		wantRightPipe(t, fmt.Sprint("only the epoch ", epoch), impl.Pipe{Epoch: epoch})
		wantRightPipe(t, fmt.Sprint("an empty Out and the epoch ", epoch), impl.Pipe{Epoch: epoch, Out: []string{}})
	}
	for _, epoch := range epochs.out {
		wantWrongPipe(t, fmt.Sprint("only the epoch ", epoch), impl.Pipe{Epoch: epoch})
	}
	for _, n := range []int64{1, 2, -1, impl.MaxTime, impl.MaxTime + 1, math.MinInt64, math.MaxInt64} {
		wantWrongPipe(t, fmt.Sprint("without a peer, Base ", n), impl.Pipe{Epoch: 5, Base: n})
		wantWrongPipe(t, fmt.Sprint("without a peer, In ", n), impl.Pipe{Epoch: 5, In: n})
		wantWrongPipe(t, fmt.Sprint("without a peer, Base and In ", n), impl.Pipe{Epoch: 5, Base: n, In: n})
	}
	wantWrongPipe(t, "without a peer, a message", impl.Pipe{Epoch: 5, Out: []string{"x"}})
	wantWrongPipe(t, "without a peer, a message of no bytes", impl.Pipe{Epoch: 5, Out: []string{""}})
	wantWrongPipe(t, "without a peer, a message and Base -1", impl.Pipe{Epoch: 5, Base: -1, Out: []string{"x"}})
	wantWrongPipe(t, "without a peer, many messages", impl.Pipe{Epoch: 5, Out: messages(impl.MaxOut)})
}

func TestPipeSizesOfOut(t *testing.T) {
	for n := range impl.MaxOut + 1 {
		p := somePipe()
		p.Out = messages(n)
		wantRightPipe(t, fmt.Sprint("a pipe with messages: ", n), p)
	}
	for _, n := range []int{impl.MaxOut + 1, impl.MaxOut + 2, 100, 256, 316, impl.MaxList, impl.MaxList + 1, 65536, 65537} {
		p := somePipe()
		p.Out = messages(n)
		wantWrongPipe(t, fmt.Sprint("a pipe with messages: ", n), p)
	}
}

func TestPipeSizesOfMessages(t *testing.T) {
	for _, count := range []int{1, 2, 3, 30, impl.MaxOut} {
		for at := range count {
			for _, n := range []int{0, 1, impl.MaxText - 1, impl.MaxText} {
				p := somePipe()
				p.Out = messages(count)
				p.Out[at] = someBytes(60, n)
				wantRightPipe(t, fmt.Sprintf("a pipe with %d bytes at %d of %d", n, at, count), p)
			}
			for _, n := range []int{impl.MaxText + 1, 256, impl.MaxBytes + 1} {
				p := somePipe()
				p.Out = messages(count)
				p.Out[at] = someBytes(60, n)
				wantWrongPipe(t, fmt.Sprintf("a pipe with %d bytes at %d of %d", n, at, count), p)
			}
		}
	}
}

func TestPipeBaseAndOut(t *testing.T) {
	for _, n := range []int{0, 1, 2, 30, impl.MaxOut - 1, impl.MaxOut} {
		p := somePipe()
		p.Out = messages(n)
		for _, less := range []int64{2, 1, 0} {
			p.Base = impl.MaxTime - int64(n) - less
			wantRightPipe(t, fmt.Sprint("Base plus ", n, " is MaxTime - ", less), p)
		}
		for _, more := range []int64{1, 2, int64(n) + 1} {
			p.Base = impl.MaxTime - int64(n) + more
			wantWrongPipe(t, fmt.Sprint("Base plus ", n, " is MaxTime + ", more), p)
		}
		p.Base = math.MaxInt64
		wantWrongPipe(t, fmt.Sprint("a sum beyond all integers, with ", n), p)
	}
}

func TestPipeNew(t *testing.T) {
	for _, epoch := range epochs.in {
		wantPipe(t, fmt.Sprint("PipeNew of ", epoch), impl.PipeNew(epoch), impl.PipeOut{Pipe: impl.Pipe{Epoch: epoch}})
	}
	for _, epoch := range append(epochs.out, 1+1<<32) {
		wantPipe(t, fmt.Sprint("PipeNew of ", epoch), impl.PipeNew(epoch), formError())
	}
}

// putByRule returns what the document says of PipePut, for a valid pipe and a short text.
func putByRule(p impl.Pipe, text string) impl.PipeOut {
	switch {
	case p.Peer == 0:
		return impl.PipeOut{Code: impl.ErrState}
	case len(p.Out) == 60 || p.Base+int64(len(p.Out)) == 1000000:
		return impl.PipeOut{Code: impl.ErrFull}
	}
	p = copyOf(p)
	p.Out = append(p.Out, text)
	return impl.PipeOut{Pipe: p}
}

func TestPipePut(t *testing.T) {
	for n := range impl.MaxOut + 1 {
		for _, size := range []int{0, 1, impl.MaxText - 1, impl.MaxText} {
			p := somePipe()
			p.Out = messages(n)
			text := someBytes(61, size)
			want := impl.PipeOut{Code: impl.ErrFull}
			if n < impl.MaxOut {
				want = impl.PipeOut{Pipe: p}
				want.Pipe.Out = append(messages(n), text)
			}
			wantPipe(t, fmt.Sprint(size, " bytes behind messages: ", n), impl.PipePut(p, text), want)
		}
	}
}

func TestPipePutErrorsInOrder(t *testing.T) {
	full := somePipe()
	full.Out = messages(impl.MaxOut)
	late := somePipe()
	late.Base = impl.MaxTime - 3
	last := impl.Pipe{Epoch: 5, Peer: 7, Base: impl.MaxTime}
	unknown := impl.Pipe{Epoch: 5}
	for _, size := range []int{0, 1, impl.MaxText} {
		text := someBytes(62, size)
		wantPipe(t, fmt.Sprint("MaxOut, ", size, " bytes"), impl.PipePut(full, text), impl.PipeOut{Code: impl.ErrFull})
		wantPipe(t, fmt.Sprint("MaxTime in all, ", size, " bytes"), impl.PipePut(late, text), impl.PipeOut{Code: impl.ErrFull})
		wantPipe(t, fmt.Sprint("Base MaxTime, ", size, " bytes"), impl.PipePut(last, text), impl.PipeOut{Code: impl.ErrFull})
		wantPipe(t, fmt.Sprint("no peer, ", size, " bytes"), impl.PipePut(unknown, text), impl.PipeOut{Code: impl.ErrState})
	}
	for _, p := range []impl.Pipe{somePipe(), full, late, last, unknown, {}} {
		for _, size := range []int{impl.MaxText + 1, 256, impl.MaxBytes} {
			wantPipe(t, fmt.Sprintf("%d bytes to %+v", size, p), impl.PipePut(p, someBytes(63, size)), formError())
		}
		for _, size := range []int{impl.MaxBytes + 1, 65536} {
			wantPipe(t, fmt.Sprintf("%d bytes to %+v", size, p), impl.PipePut(p, someBytes(63, size)), impl.PipeOut{Code: impl.ErrSize})
		}
	}
	late.Base--
	want := late
	want.Out = append(slices.Clone(late.Out), "x")
	wantPipe(t, "the last message of all", impl.PipePut(late, "x"), impl.PipeOut{Pipe: want})
}

// sendByRule returns what the document says of PipeSend, for a valid pipe.
func sendByRule(p impl.Pipe) []impl.Packet {
	var out []impl.Packet
	for i := range p.Out {
		out = append(out, impl.Packet{Epoch: p.Epoch, Echo: p.Peer, Num: p.Base + int64(i) + 1, Ack: p.In, Text: p.Out[i]})
	}
	if len(p.Out) == 0 {
		out = append(out, impl.Packet{Epoch: p.Epoch, Echo: p.Peer, Ack: p.In})
	}
	return out
}

func TestPipeSend(t *testing.T) {
	wantPackets(t, "a new pipe", impl.PipeSend(impl.Pipe{Epoch: 3}), []impl.Packet{{Epoch: 3}})
	wantPackets(t, "nothing to send", impl.PipeSend(impl.Pipe{Epoch: 5, Peer: 7, Base: 10, In: 20}), []impl.Packet{{Epoch: 5, Echo: 7, Ack: 20}})
	wantPackets(t, "three messages", impl.PipeSend(somePipe()), []impl.Packet{
		{Epoch: 5, Echo: 7, Num: 11, Ack: 20, Text: "eleven"},
		{Epoch: 5, Echo: 7, Num: 12, Ack: 20, Text: "twelve"},
		{Epoch: 5, Echo: 7, Num: 13, Ack: 20, Text: "thirteen"},
	})
	wantPackets(t, "a message of no bytes", impl.PipeSend(impl.Pipe{Epoch: 1, Peer: 2, Out: []string{""}}), []impl.Packet{{Epoch: 1, Echo: 2, Num: 1}})
	for n := range impl.MaxOut + 1 {
		p := impl.Pipe{Epoch: impl.MaxTime, Peer: impl.MaxTime, Base: impl.MaxTime - int64(n), In: impl.MaxTime, Out: messages(n)}
		for _, x := range impl.PipeSend(p) {
			same(t, fmt.Sprintf("%+v is valid", x), impl.PacketRight(x), true)
		}
	}
}

// hearByRule returns what the document says of PipeHear, for a valid pipe and a valid packet.
func hearByRule(p impl.Pipe, x impl.Packet) impl.PipeOut {
	out := impl.PipeOut{Pipe: copyOf(p)}
	if x.Epoch < p.Peer {
		return out
	}
	if x.Epoch > p.Peer {
		out.Fresh = true
		out.Pipe.Peer = x.Epoch
		out.Pipe.Base = 0
		out.Pipe.In = 0
		out.Pipe.Out = nil
	}
	if x.Echo != p.Epoch {
		return out
	}
	if n := x.Ack - out.Pipe.Base; n > 0 && n <= int64(len(out.Pipe.Out)) {
		out.Pipe.Out = out.Pipe.Out[n:]
		out.Pipe.Base = x.Ack
	}
	if x.Num == out.Pipe.In+1 {
		out.Pipe.In = x.Num
		out.Texts = []string{x.Text}
	}
	return out
}

// message is the next message for somePipe.
func message(ack int64) impl.Packet {
	return impl.Packet{Epoch: 7, Echo: 5, Num: 21, Ack: ack, Text: "t"}
}

// heard is somePipe after it has received as many messages, and as many of its own are acknowledged.
func heard(in int64, acked int64) impl.Pipe {
	p := somePipe()
	p.In += in
	p.Base += acked
	p.Out = p.Out[acked:]
	return p
}

func TestPipeHearOfTheSameEpoch(t *testing.T) {
	acks := map[int64]int64{0: 0, 1: 0, 9: 0, 10: 0, 11: 1, 12: 2, 13: 3, 14: 0, 15: 0, 20: 0, 21: 0, 11 + 1<<16: 0, impl.MaxTime: 0}
	for ack, acked := range acks {
		wantPipe(t, fmt.Sprint("the next message and Ack ", ack), impl.PipeHear(somePipe(), message(ack)), impl.PipeOut{Pipe: heard(1, acked), Texts: []string{"t"}})
		for _, num := range []int64{1, 2, 10, 11, 13, 14, 19, 20, 22, 23, 21 + 1<<16, impl.MaxTime} {
			x := message(ack)
			x.Num = num
			wantPipe(t, fmt.Sprintf("%+v", x), impl.PipeHear(somePipe(), x), impl.PipeOut{Pipe: heard(0, acked)})
		}
		x := message(ack)
		x.Num, x.Text = 0, ""
		wantPipe(t, fmt.Sprintf("%+v", x), impl.PipeHear(somePipe(), x), impl.PipeOut{Pipe: heard(0, acked)})
	}
	empty := message(0)
	empty.Text = ""
	wantPipe(t, "a message of no bytes", impl.PipeHear(somePipe(), empty), impl.PipeOut{Pipe: heard(1, 0), Texts: []string{""}})
	long := message(0)
	long.Text = someBytes(64, impl.MaxText)
	wantPipe(t, "a message of MaxText bytes", impl.PipeHear(somePipe(), long), impl.PipeOut{Pipe: heard(1, 0), Texts: []string{long.Text}})
}

func TestPipeHearOfOtherEchoes(t *testing.T) {
	for _, echo := range []int64{0, 1, 4, 6, 7, 8, 10, 20, 21, 5 + 1<<16, impl.MaxTime} {
		for _, ack := range []int64{0, 10, 11, 13} {
			x := message(ack)
			x.Echo = echo
			wantPipe(t, fmt.Sprintf("%+v", x), impl.PipeHear(somePipe(), x), impl.PipeOut{Pipe: somePipe()})
		}
	}
}

func TestPipeHearOfANewerEpoch(t *testing.T) {
	for _, epoch := range []int64{8, 9, 7 + 1<<16, impl.MaxTime} {
		anew := impl.Pipe{Epoch: 5, Peer: epoch}
		for _, echo := range []int64{0, 4, 5, 6, 7, 8, impl.MaxTime} {
			for _, num := range []int64{0, 1, 2, 20, 21, 22, impl.MaxTime} {
				for _, ack := range []int64{0, 1, 2, 3, 10, 11, 13, impl.MaxTime} {
					x := impl.Packet{Epoch: epoch, Echo: echo, Num: num, Ack: ack}
					want := impl.PipeOut{Pipe: anew, Fresh: true}
					if num > 0 {
						x.Text = "t"
					}
					if echo == 5 && num == 1 {
						want.Pipe.In = 1
						want.Texts = []string{"t"}
					}
					wantPipe(t, fmt.Sprintf("%+v", x), impl.PipeHear(somePipe(), x), want)
					x.Epoch = min(x.Epoch, 100)
					want.Pipe.Peer = x.Epoch
					wantPipe(t, fmt.Sprintf("%+v is the first", x), impl.PipeHear(impl.Pipe{Epoch: 5}, x), want)
				}
			}
		}
	}
}

func TestPromise6NothingOfAPastEpoch(t *testing.T) {
	for _, epoch := range []int64{1, 4, 5, 6} {
		for _, echo := range []int64{0, 4, 5, 6, 7} {
			for _, num := range []int64{1, 20, 21, 22} {
				for _, ack := range []int64{0, 1, 10, 11, 13, 14} {
					x := impl.Packet{Epoch: epoch, Echo: echo, Num: num, Ack: ack, Text: "t"}
					wantPipe(t, fmt.Sprintf("%+v", x), impl.PipeHear(somePipe(), x), impl.PipeOut{Pipe: somePipe()})
				}
			}
		}
	}
	// What was sent to an end before it started anew is of a past epoch of its own.
	other := impl.Pipe{Epoch: 7, Peer: 5, Base: 0, In: 0, Out: messages(3)}
	anew := impl.PipeReset(somePipe(), 6).Pipe
	for _, x := range impl.PipeSend(other) {
		wantPipe(t, fmt.Sprintf("%+v after a restart", x), impl.PipeHear(anew, x), impl.PipeOut{Pipe: impl.Pipe{Epoch: 6, Peer: 7}})
	}
}

func TestPipeHearAtTheLastNumbers(t *testing.T) {
	p := impl.Pipe{Epoch: impl.MaxTime, Peer: impl.MaxTime, Base: impl.MaxTime - 2, In: impl.MaxTime - 1, Out: []string{"a", "b"}}
	x := impl.Packet{Epoch: impl.MaxTime, Echo: impl.MaxTime, Num: impl.MaxTime, Ack: impl.MaxTime, Text: "t"}
	done := impl.Pipe{Epoch: impl.MaxTime, Peer: impl.MaxTime, Base: impl.MaxTime, In: impl.MaxTime}
	wantPipe(t, "the last message", impl.PipeHear(p, x), impl.PipeOut{Pipe: done, Texts: []string{"t"}})
	wantPipe(t, "the last message again", impl.PipeHear(done, x), impl.PipeOut{Pipe: done})
}

// randomPipe returns a valid pipe with small numbers.
func randomPipe(random *rand.Rand) impl.Pipe {
	p := impl.Pipe{Epoch: 1 + random.Int63n(4), Peer: random.Int63n(5)}
	if p.Peer != 0 {
		p.Base, p.In, p.Out = random.Int63n(4), random.Int63n(4), messages(random.Intn(4))
	}
	return p
}

func randomPacket(random *rand.Rand) impl.Packet {
	x := impl.Packet{Epoch: 1 + random.Int63n(5), Echo: random.Int63n(6), Num: random.Int63n(6), Ack: random.Int63n(9)}
	if x.Num != 0 {
		x.Text = fmt.Sprint("text ", random.Intn(100))
	}
	return x
}

func TestPipeOfAnyPipeAndPacket(t *testing.T) {
	random := rand.New(rand.NewSource(65))
	for range 100000 {
		p, x := randomPipe(random), randomPacket(random)
		what := fmt.Sprintf("%+v and %+v", p, x)
		got := impl.PipeHear(p, x)
		wantPipe(t, "PipeHear of "+what, got, hearByRule(p, x))
		same(t, "the result is valid: "+what, impl.PipeRight(got.Pipe), true)
		wantPipe(t, "PipePut of "+what, impl.PipePut(p, x.Text), putByRule(p, x.Text))
		wantPackets(t, "PipeSend of "+what, impl.PipeSend(p), sendByRule(p))
	}
}

func TestPipeReset(t *testing.T) {
	for _, epoch := range []int64{6, 7, 8, 5 + 1<<16, impl.MaxTime - 1, impl.MaxTime} {
		wantPipe(t, fmt.Sprint("PipeReset to ", epoch), impl.PipeReset(somePipe(), epoch), impl.PipeOut{Pipe: impl.Pipe{Epoch: epoch, Peer: 7}})
		wantPipe(t, fmt.Sprint("PipeReset without a peer to ", epoch), impl.PipeReset(impl.Pipe{Epoch: 5}, epoch), impl.PipeOut{Pipe: impl.Pipe{Epoch: epoch}})
	}
	for _, epoch := range []int64{5, 4, 1, 0, -1, -6, impl.MaxTime + 1, 6 + 1<<32, math.MinInt64, math.MaxInt64} {
		wantPipe(t, fmt.Sprint("PipeReset to ", epoch), impl.PipeReset(somePipe(), epoch), formError())
		wantPipe(t, fmt.Sprint("PipeReset without a peer to ", epoch), impl.PipeReset(impl.Pipe{Epoch: 5}, epoch), formError())
	}
	last := impl.Pipe{Epoch: impl.MaxTime, Peer: 7}
	wantPipe(t, "PipeReset behind the last epoch", impl.PipeReset(last, impl.MaxTime), formError())
	wantPipe(t, "PipeReset beyond the last epoch", impl.PipeReset(last, impl.MaxTime+1), formError())
}

func TestPipeExample(t *testing.T) {
	one, three := impl.PipeNew(1).Pipe, impl.PipeNew(3).Pipe
	fresh := impl.PipeHear(one, impl.PipeSend(three)[0])
	wantPipe(t, "the first packet", fresh, impl.PipeOut{Pipe: impl.Pipe{Epoch: 1, Peer: 3}, Fresh: true})
	both := impl.PipePut(impl.PipePut(fresh.Pipe, "first").Pipe, "second").Pipe
	packets := impl.PipeSend(both)
	early := impl.PipeHear(three, packets[1])
	wantPipe(t, "the second message before the first one", early, impl.PipeOut{Pipe: impl.Pipe{Epoch: 3, Peer: 1}, Fresh: true})
	first := impl.PipeHear(early.Pipe, packets[0])
	wantPipe(t, "the first message", first, impl.PipeOut{Pipe: impl.Pipe{Epoch: 3, Peer: 1, In: 1}, Texts: []string{"first"}})
	wantPipe(t, "the first message again", impl.PipeHear(first.Pipe, packets[0]), impl.PipeOut{Pipe: first.Pipe})
	second := impl.PipeHear(first.Pipe, packets[1])
	wantPipe(t, "the second message", second, impl.PipeOut{Pipe: impl.Pipe{Epoch: 3, Peer: 1, In: 2}, Texts: []string{"second"}})
	acked := impl.PipeHear(both, impl.PipeSend(first.Pipe)[0])
	wantPipe(t, "the first one acknowledged", acked, impl.PipeOut{Pipe: impl.Pipe{Epoch: 1, Peer: 3, Base: 1, Out: []string{"second"}}})
}

// site is one end of a session, with what was said and heard since both epochs of it are the same.
type site struct {
	pipe  impl.Pipe
	said  []string
	heard []string
}

func (s *site) forget() {
	s.said, s.heard = nil, nil
}

// say puts a message into the pipe, if there is room for it.
func (s *site) say(t *testing.T, text string) {
	got := impl.PipePut(s.pipe, text)
	wantPipe(t, "PipePut", got, putByRule(s.pipe, text))
	if got.Code == impl.OK {
		s.pipe = got.Pipe
		s.said = append(s.said, text)
	}
}

func (s *site) hear(t *testing.T, text string) {
	t.Helper()
	x := impl.PacketRead(text)
	same(t, "PacketRead", x.Code, impl.OK)
	got := impl.PipeHear(s.pipe, x.Packet)
	same(t, "PipeHear", got.Code, impl.OK)
	if got.Fresh {
		s.forget()
	}
	s.pipe = got.Pipe
	s.heard = append(s.heard, got.Texts...)
}

// restart starts the site anew, with or without knowledge of the other end.
func (s *site) restart(t *testing.T, keeps bool) {
	t.Helper()
	got := impl.PipeNew(s.pipe.Epoch + 1)
	if keeps {
		got = impl.PipeReset(s.pipe, s.pipe.Epoch+1)
	}
	same(t, "the restart", got.Code, impl.OK)
	s.pipe = got.Pipe
	s.forget()
}

func isPrefix(l []string, of []string) bool {
	return len(l) <= len(of) && slices.Equal(l, of[:len(l)])
}

// wantPrefixes checks what is promised of two ends, and reports whether they know the epochs of each other.
func wantPrefixes(t *testing.T, a *site, b *site) bool {
	t.Helper()
	if a.pipe.Peer != b.pipe.Epoch || b.pipe.Peer != a.pipe.Epoch {
		return false
	}
	for _, pair := range [][2]*site{{a, b}, {b, a}} {
		from, to := pair[0], pair[1]
		if !isPrefix(to.heard, from.said) {
			t.Fatalf("%+v is said, and %+v heard", from.said, to.heard)
		}
		same(t, "In is what was heard", to.pipe.In, int64(len(to.heard)))
		if from.pipe.Base > to.pipe.In || !slices.Equal(from.pipe.Out, from.said[from.pipe.Base:]) {
			t.Fatalf("%+v has said %+v, and %+v is heard", from.pipe, from.said, to.heard)
		}
	}
	return true
}

// wire is the packets under way to a site, in no order.
type wire struct {
	texts []string
}

// carry delivers one packet or loses it; a delivered one may stay and arrive again.
func (w *wire) carry(t *testing.T, random *rand.Rand, to *site) {
	t.Helper()
	if len(w.texts) == 0 {
		return
	}
	at := random.Intn(len(w.texts))
	if fate := random.Intn(10); fate > 0 {
		to.hear(t, w.texts[at])
		if fate > 6 {
			return
		}
	}
	w.texts = slices.Delete(w.texts, at, at+1)
}

func (w *wire) take(from *site) {
	for _, x := range impl.PipeSend(from.pipe) {
		w.texts = append(w.texts, impl.PacketBytes(x))
	}
	// The oldest ones are lost if there are too many.
	if extra := len(w.texts) - 200; extra > 0 {
		w.texts = slices.Delete(w.texts, 0, extra)
	}
}

func TestPromise7MessagesReceivedAreAPrefix(t *testing.T) {
	known, heardInAll := 0, 0
	for seed := range int64(40) {
		random := rand.New(rand.NewSource(seed))
		sites := [2]*site{{pipe: impl.PipeNew(1).Pipe}, {pipe: impl.PipeNew(1 + seed%3).Pipe}}
		var wires [2]wire
		// Some networks have many restarts, some have few and some have none.
		restarts := []int{0, 200, 30}[seed%3]
		for step := range 3000 {
			i := random.Intn(2)
			me := sites[i]
			switch random.Intn(6) {
			case 0:
				me.say(t, fmt.Sprint("step ", step))
			case 1:
				wires[1-i].take(me)
			default:
				wires[i].carry(t, random, me)
			}
			if restarts > 0 && random.Intn(restarts) == 0 {
				me.restart(t, random.Intn(2) == 0)
			}
			if wantPrefixes(t, sites[0], sites[1]) {
				known++
			}
		}
		wantAllHeard(t, sites)
		heardInAll += len(sites[0].heard) + len(sites[1].heard)
	}
	if known < 10000 || heardInAll < 1000 {
		t.Errorf("the ends know each other in %d steps, and %d messages are received: too few to tell", known, heardInAll)
	}
}

// wantAllHeard lets each end hear all that the other one sends, and checks that nothing remains to be sent.
func wantAllHeard(t *testing.T, sites [2]*site) {
	t.Helper()
	for range 3 {
		for i, me := range sites {
			for _, x := range impl.PipeSend(sites[1-i].pipe) {
				me.hear(t, impl.PacketBytes(x))
			}
		}
	}
	same(t, "the ends know each other", wantPrefixes(t, sites[0], sites[1]), true)
	for i, me := range sites {
		same(t, "all is heard", len(me.heard), len(sites[1-i].said))
		same(t, "all is acknowledged", len(me.pipe.Out), 0)
	}
}

func TestPromise7AfterEachRestart(t *testing.T) {
	for _, keeps := range []bool{true, false} {
		sites := [2]*site{{pipe: impl.PipeNew(1).Pipe}, {pipe: impl.PipeNew(1).Pipe}}
		var old []string
		for round := range 6 {
			wantAllHeard(t, sites)
			for i, me := range sites {
				for n := range 5 {
					me.say(t, fmt.Sprintf("round %d, site %d, message %d", round, i, n))
				}
				for _, x := range impl.PipeSend(me.pipe) {
					old = append(old, impl.PacketBytes(x))
				}
			}
			wantAllHeard(t, sites)
			sites[round%2].restart(t, keeps)
			// The packets of all rounds arrive again, the last ones first.
			for _, text := range slices.Backward(old) {
				for _, me := range sites {
					me.hear(t, text)
					wantPrefixes(t, sites[0], sites[1])
				}
			}
		}
		wantAllHeard(t, sites)
	}
}

// roomy returns the pipe with unused room behind its messages, and all of that memory.
func roomy(p impl.Pipe) (impl.Pipe, []string) {
	all := append(copyOf(p).Out, "room", "room", "room", "room")
	p.Out = all[:len(p.Out)]
	return p, all
}

// pipeCalls are all functions that take a pipe and return one, in each of their cases.
func pipeCalls() map[string]func(p impl.Pipe) impl.PipeOut {
	calls := map[string]func(p impl.Pipe) impl.PipeOut{
		"PipePut":   func(p impl.Pipe) impl.PipeOut { return impl.PipePut(p, "more") },
		"PipeReset": func(p impl.Pipe) impl.PipeOut { return impl.PipeReset(p, p.Epoch+1) },
	}
	for _, epoch := range []int64{6, 7, 8} {
		for _, echo := range []int64{4, 5} {
			for _, ack := range []int64{0, 11, 13, 14} {
				x := message(ack)
				x.Epoch, x.Echo = epoch, echo
				calls[fmt.Sprintf("PipeHear %+v", x)] = func(p impl.Pipe) impl.PipeOut { return impl.PipeHear(p, x) }
			}
		}
	}
	return calls
}

func argumentPipes() []impl.Pipe {
	full, wrong, empty := somePipe(), somePipe(), somePipe()
	full.Out = messages(impl.MaxOut)
	wrong.Out = append(messages(3), someBytes(66, impl.MaxText+1))
	empty.Out = nil
	return []impl.Pipe{somePipe(), full, wrong, empty, {Epoch: 5}}
}

func TestPipesLeaveTheirArguments(t *testing.T) {
	for _, want := range argumentPipes() {
		for what, call := range pipeCalls() {
			p, all := roomy(want)
			before := slices.Clone(all)
			call(p)
			impl.PipeSend(p)
			impl.PipeRight(p)
			if !slices.Equal(all, before) {
				t.Errorf("%s changes %+v to %+v", what, before, all)
			}
		}
	}
}

func TestPipesAreNew(t *testing.T) {
	for _, given := range argumentPipes() {
		for what, call := range pipeCalls() {
			p, all := roomy(given)
			first, second := call(p), call(p)
			want := impl.PipeOut{Pipe: copyOf(first.Pipe), Texts: slices.Clone(first.Texts), Fresh: first.Fresh, Code: first.Code}
			clear(all)
			wantPipe(t, what+" after its argument is changed", first, want)
			clear(first.Texts[:cap(first.Texts)])
			if !samePipes(first.Pipe, want.Pipe) {
				t.Errorf("%s: Out changes with Texts", what)
			}
			clear(first.Pipe.Out[:cap(first.Pipe.Out)])
			wantPipe(t, what+" after another result is changed", second, want)
		}
	}
}

// overlap reports whether two strings share a byte of memory.
func overlap(a string, b string) bool {
	if a == "" || b == "" {
		return false
	}
	from := func(s string) uintptr { return uintptr(unsafe.Pointer(unsafe.StringData(s))) }
	return from(a) < from(b)+uintptr(len(b)) && from(b) < from(a)+uintptr(len(a))
}

func wantNoOverlap(t *testing.T, what string, got []string, given []string) {
	t.Helper()
	for _, a := range got {
		for _, b := range given {
			if overlap(a, b) {
				t.Errorf("%s: %q is in memory of the argument %q", what, a, b)
			}
		}
	}
}

func TestSessionTextsAreNew(t *testing.T) {
	p := copyOf(somePipe())
	for what, call := range pipeCalls() {
		wantNoOverlap(t, what, call(p).Pipe.Out, p.Out)
	}
	var sent []string
	for _, x := range impl.PipeSend(p) {
		sent = append(sent, x.Text)
	}
	wantNoOverlap(t, "PipeSend", sent, p.Out)
	more := strings.Clone("more")
	wantNoOverlap(t, "PipePut", impl.PipePut(p, more).Pipe.Out, []string{more})
	x := message(0)
	x.Text = strings.Clone("text")
	wantNoOverlap(t, "PipeHear", impl.PipeHear(p, x).Texts, []string{x.Text})
	text := packetText(somePacket())
	wantNoOverlap(t, "PacketRead", []string{impl.PacketRead(text).Packet.Text}, []string{text})
}
