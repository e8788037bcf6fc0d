package tests

import (
	"fmt"
	"math"
	"math/rand"
	"slices"
	"strings"
	"testing"

	"loop.example/g00667/impl"
)

// maxDumped is the greatest number of routes of a dump.
const maxDumped = 60

// badNoteKinds are near the three kinds, also if only some of their bits are considered.
var badNoteKinds = []int64{0, 4, 5, -1, -2, -3, -4, 1 + 1<<8, 2 + 1<<8, 3 + 1<<8, 1 + 1<<32, 2 + 1<<32, 3 + 1<<32, math.MinInt64, math.MinInt64 + 1, math.MaxInt64}

func put(r impl.Route) impl.Note {
	return impl.Note{Kind: impl.NtPut, Route: r}
}

func take(r impl.Route) impl.Note {
	return impl.Note{Kind: impl.NtTake, Route: r}
}

func end() impl.Note {
	return impl.Note{Kind: impl.NtEnd}
}

// stickyRoute is a route whose numbers all differ from zero.
func stickyRoute() impl.Route {
	r := macRoute()
	r.Sticky = true
	return r
}

// numsOfNote returns the numbers of which the encoding of a note consists, valid or not.
func numsOfNote(n impl.Note) []int64 {
	nums := []int64{n.Kind}
	if n.Kind == impl.NtEnd && n.Route == (impl.Route{}) {
		return nums
	}
	return append(nums, numsOfRoute(n.Route)...)
}

func noteText(n impl.Note) string {
	return numsText(numsOfNote(n))
}

func notANote() impl.NoteOut {
	return impl.NoteOut{Code: impl.ErrSyntax}
}

// wantRightNote checks a note with all functions that tell a valid note from others.
func wantRightNote(t *testing.T, n impl.Note) {
	t.Helper()
	what := fmt.Sprintf("%+v", n)
	same(t, "NoteRight of "+what, impl.NoteRight(n), true)
	same(t, "NoteBytes of "+what, impl.NoteBytes(n), noteText(n))
	same(t, "NoteRead of "+what, impl.NoteRead(noteText(n)), impl.NoteOut{Note: n})
}

func wantWrongNote(t *testing.T, n impl.Note) {
	t.Helper()
	what := fmt.Sprintf("%+v", n)
	same(t, "NoteRight of "+what, impl.NoteRight(n), false)
	same(t, "NoteBytes of "+what, impl.NoteBytes(n), "")
	same(t, "NoteRead of "+what, impl.NoteRead(noteText(n)), notANote())
}

// wrongRoutes returns routes each of which has one field that is not valid.
func wrongRoutes() []impl.Route {
	sticky := roomRoute()
	sticky.Sticky = true
	out := []impl.Route{{}, {Sticky: true}, sticky}
	for _, f := range macFields() {
		for _, n := range f.limits.out {
			r := macRoute()
			f.set(&r, n)
			out = append(out, r)
		}
	}
	for _, kind := range badKinds {
		mac, room := macRoute(), roomRoute()
		mac.Kind, room.Kind = kind, kind
		out = append(out, mac, room)
	}
	for _, n := range []int64{1, -1, impl.MaxMac, math.MinInt64, math.MaxInt64} {
		mac, ip, seq := roomRoute(), roomRoute(), roomRoute()
		mac.Mac, ip.Ip, seq.Seq = n, n, n
		out = append(out, mac, ip, seq)
	}
	for _, vni := range vnis.out {
		out = append(out, impl.Route{Kind: impl.RtRoom, Vni: vni, Origin: 1})
	}
	for _, origin := range origins.out {
		out = append(out, impl.Route{Kind: impl.RtRoom, Vni: 5, Origin: origin})
	}
	return out
}

func TestNoteKinds(t *testing.T) {
	same(t, "NtPut", impl.NtPut, 1)
	same(t, "NtTake", impl.NtTake, 2)
	same(t, "NtEnd", impl.NtEnd, 3)
}

func TestNoteBytes(t *testing.T) {
	same(t, "the end", impl.NoteBytes(end()), "\x06")
	same(t, "a room", impl.NoteBytes(put(roomRoute())), "\x02\x06\x0a\x00\x00\x02\x00\x00")
	same(t, "a room withdrawn", impl.NoteBytes(take(roomRoute())), "\x04\x06\x0a\x00\x00\x02\x00\x00")
	same(t, "a guest", impl.NoteBytes(put(macRoute())), "\x02\x04\x0a\xc2\x02\x16\x04\x06\x00")
	same(t, "a guest that is Sticky", impl.NoteBytes(put(stickyRoute())), "\x02\x04\x0a\xc2\x02\x16\x04\x06\x02")
	same(t, "a guest withdrawn", impl.NoteBytes(take(impl.KeyOf(macRoute()))), "\x04\x04\x0a\xc2\x02\x00\x04\x00\x00")
}

func TestPromise5NotesAreRecovered(t *testing.T) {
	notes := []impl.Note{end()}
	for _, r := range someRoutes() {
		notes = append(notes, put(r), take(impl.KeyOf(r)))
	}
	for _, n := range notes {
		wantRightNote(t, n)
		same(t, fmt.Sprintf("%+v encoded and decoded", n), impl.NoteRead(impl.NoteBytes(n)), impl.NoteOut{Note: n})
	}
}

func TestNoteOfUnknownKind(t *testing.T) {
	wantWrongNote(t, impl.Note{})
	for _, kind := range badNoteKinds {
		for _, r := range []impl.Route{{}, macRoute(), impl.KeyOf(macRoute()), roomRoute(), stickyRoute()} {
			wantWrongNote(t, impl.Note{Kind: kind, Route: r})
		}
		same(t, fmt.Sprint("only the kind ", kind), impl.NoteRead(numsText([]int64{kind})), notANote())
	}
}

func TestNotesOfWrongRoutes(t *testing.T) {
	for _, r := range wrongRoutes() {
		wantWrongNote(t, put(r))
		wantWrongNote(t, take(r))
		wantWrongNote(t, take(impl.Route{Kind: r.Kind, Vni: r.Vni, Mac: r.Mac, Origin: r.Origin, Ip: 1}))
		if !impl.RouteRight(impl.KeyOf(r)) {
			wantWrongNote(t, take(impl.KeyOf(r)))
		}
	}
}

func TestTakeOfOtherThanKeys(t *testing.T) {
	key := impl.KeyOf(macRoute())
	wantRightNote(t, take(key))
	var others []impl.Route
	for _, n := range ips.in[1:] {
		r := key
		r.Ip = n
		others = append(others, r)
	}
	for _, n := range times.in[1:] {
		r := key
		r.Seq = n
		others = append(others, r)
	}
	sticky := key
	sticky.Sticky = true
	for _, r := range append(others, sticky, stickyRoute()) {
		wantWrongNote(t, take(r))
		wantRightNote(t, put(r))
	}
}

func TestEndWithARoute(t *testing.T) {
	wantRightNote(t, end())
	for _, n := range []int64{1, 2, 3, 5, -1, impl.MaxMac, math.MinInt64, math.MaxInt64} {
		routes := []impl.Route{{Kind: n}, {Vni: n}, {Mac: n}, {Ip: n}, {Origin: n}, {Seq: n}}
		for _, r := range routes {
			wantWrongNote(t, impl.Note{Kind: impl.NtEnd, Route: r})
		}
	}
	for _, r := range []impl.Route{{Sticky: true}, macRoute(), stickyRoute(), impl.KeyOf(macRoute()), roomRoute()} {
		wantWrongNote(t, impl.Note{Kind: impl.NtEnd, Route: r})
	}
	// The numbers of the zero route are not left out behind the kinds that have a route, and are not allowed behind the one that has none.
	zeros := numsText(make([]int64, 7))
	for kind := range int64(5) {
		same(t, fmt.Sprint("zeros behind the kind ", kind), impl.NoteRead(numsText([]int64{kind})+zeros), notANote())
	}
	same(t, "a byte behind the end", impl.NoteRead("\x06x"), notANote())
	same(t, "an end behind the end", impl.NoteRead("\x06\x06"), notANote())
}

// someNotes returns a note of each form.
func someNotes() []impl.Note {
	big := impl.Route{Kind: impl.RtMac, Vni: impl.MaxVni, Mac: lastSingleMac, Ip: impl.MaxIp, Origin: 4, Seq: impl.MaxTime, Sticky: true}
	return []impl.Note{put(macRoute()), put(stickyRoute()), put(roomRoute()), put(big), take(impl.KeyOf(macRoute())), take(impl.KeyOf(big)), take(roomRoute()), end()}
}

func TestNoteReadNumbersLeftOutOrAdded(t *testing.T) {
	for _, note := range someNotes() {
		nums := numsOfNote(note)
		for i := range nums {
			less := slices.Delete(slices.Clone(nums), i, i+1)
			same(t, fmt.Sprintf("%v without number %d", nums, i), impl.NoteRead(numsText(less)), notANote())
			same(t, fmt.Sprintf("%v up to number %d", nums, i), impl.NoteRead(numsText(nums[:i])), notANote())
		}
		for i := range len(nums) + 1 {
			for _, n := range []int64{0, 1, 2, 3, 5, -1} {
				more := slices.Insert(slices.Clone(nums), i, n)
				same(t, fmt.Sprintf("%v with %d at %d", nums, n, i), impl.NoteRead(numsText(more)), notANote())
			}
		}
		for _, other := range someNotes() {
			same(t, fmt.Sprintf("%v and %+v", nums, other), impl.NoteRead(noteText(note)+noteText(other)), notANote())
		}
	}
}

func TestNoteReadNumbersEncodedOtherwise(t *testing.T) {
	for _, note := range someNotes() {
		nums := numsOfNote(note)
		for i, n := range nums {
			before, after := numsText(nums[:i]), numsText(nums[i+1:])
			for _, other := range otherCodes(n) {
				same(t, fmt.Sprintf("%v with number %d as %x", nums, i, other), impl.NoteRead(before+other+after), notANote())
			}
		}
	}
}

func TestNoteReadSizes(t *testing.T) {
	same(t, "the empty text", impl.NoteRead(""), notANote())
	for _, note := range someNotes() {
		full := noteText(note) + strings.Repeat("\x00", impl.MaxBytes)
		size := len(noteText(note))
		for n := range 2*size + 2 {
			want := notANote()
			if n == size {
				want = impl.NoteOut{Note: note}
			}
			same(t, fmt.Sprintf("%+v: the first bytes: %d", note, n), impl.NoteRead(full[:n]), want)
		}
		same(t, "a byte before", impl.NoteRead("\x00"+full[:size]), notANote())
		same(t, "MaxBytes", impl.NoteRead(full[:impl.MaxBytes]), notANote())
		same(t, "MaxBytes + 1", impl.NoteRead(full[:impl.MaxBytes+1]), impl.NoteOut{Code: impl.ErrSize})
	}
	same(t, "MaxBytes, malformed", impl.NoteRead(strings.Repeat("\xff", impl.MaxBytes)), notANote())
	same(t, "MaxBytes + 1, malformed", impl.NoteRead(strings.Repeat("\xff", impl.MaxBytes+1)), impl.NoteOut{Code: impl.ErrSize})
}

// wantNoteInverse checks that a text is accepted only as the encoding of the note that it is decoded to.
func wantNoteInverse(t *testing.T, text string) {
	t.Helper()
	got := impl.NoteRead(text)
	what := fmt.Sprintf("%x", text)
	if got.Code != impl.OK {
		same(t, what, got, notANote())
		return
	}
	same(t, what+", decoded, is valid", impl.NoteRight(got.Note), true)
	same(t, what+", encoded again", impl.NoteBytes(got.Note), text)
}

func TestNoteReadAcceptsOnlyEncodings(t *testing.T) {
	for _, note := range someNotes() {
		text := noteText(note)
		for at := range text {
			for mask := 1; mask < 256; mask++ {
				wantNoteInverse(t, changed(text, at, byte(mask)))
			}
		}
	}
	some := "\x00\x02\x04\x06\x80\x01"
	random := rand.New(rand.NewSource(41))
	for range 200000 {
		text := make([]byte, random.Intn(11))
		for i := range text {
			text[i] = some[random.Intn(len(some))]
		}
		wantNoteInverse(t, string(text))
	}
}

// dumpByRule returns what the document says of a dump, put together without the program.
func dumpByRule(l []impl.Route) []string {
	var out []string
	for _, r := range l {
		out = append(out, noteText(put(r)))
	}
	return append(out, "\x06")
}

func wantDump(t *testing.T, what string, l []impl.Route) {
	t.Helper()
	if got, want := impl.DumpOf(l), dumpByRule(l); !slices.Equal(got, want) {
		t.Errorf("%s: got %q, want %q", what, got, want)
	}
}

func wantNoDump(t *testing.T, what string, l []impl.Route) {
	t.Helper()
	if got := impl.DumpOf(l); len(got) != 0 {
		t.Errorf("%s: got %q, want nothing", what, got)
	}
}

// guests returns n valid routes, no two of them alike and not in order of any field.
func guests(n int) []impl.Route {
	out := make([]impl.Route, n)
	for i := range out {
		if i%5 == 4 {
			out[i] = impl.Route{Kind: impl.RtRoom, Vni: int64(1 + i*37%411), Origin: int64(1 + i%4)}
			continue
		}
		out[i] = impl.Route{Kind: impl.RtMac, Vni: 5, Mac: int64(i * 37 % 411), Ip: int64(i), Origin: int64(1 + i%4), Seq: int64(i % 7), Sticky: i%3 == 0}
	}
	return out
}

func TestPromise5DumpIsEachRouteAndTheEnd(t *testing.T) {
	for n := range maxDumped + 1 {
		l := guests(n)
		dump := impl.DumpOf(l)
		same(t, fmt.Sprint("the length of a dump of ", n), len(dump), n+1)
		if len(dump) != n+1 {
			continue
		}
		for i, r := range l {
			same(t, fmt.Sprintf("element %d of %d", i, n), impl.NoteRead(dump[i]), impl.NoteOut{Note: put(r)})
		}
		same(t, fmt.Sprint("the last one behind ", n), impl.NoteRead(dump[n]), impl.NoteOut{Note: end()})
		wantDump(t, fmt.Sprint("a dump of ", n), l)
	}
}

func TestDumpOfFewRoutes(t *testing.T) {
	wantDump(t, "nil", nil)
	wantDump(t, "an empty list", []impl.Route{})
	wantDump(t, "a room", []impl.Route{roomRoute()})
	wantDump(t, "a guest", []impl.Route{macRoute()})
	wantDump(t, "both orders, first", []impl.Route{macRoute(), roomRoute()})
	wantDump(t, "both orders, second", []impl.Route{roomRoute(), macRoute()})
	wantDump(t, "the same route again", []impl.Route{macRoute(), macRoute(), stickyRoute(), macRoute()})
}

func TestDumpOfManyRoutes(t *testing.T) {
	wantDump(t, "59", guests(maxDumped-1))
	wantDump(t, "60", guests(maxDumped))
	wantDump(t, "60 of one", slices.Repeat([]impl.Route{roomRoute()}, maxDumped))
	for _, n := range []int{maxDumped + 1, maxDumped + 2, 100, 256, 316, impl.MaxList - 1, impl.MaxList, impl.MaxList + 1, 2 * impl.MaxList, 65536, 65537} {
		wantNoDump(t, fmt.Sprint(n, " routes"), guests(n))
		wantNoDump(t, fmt.Sprint(n, " of one"), slices.Repeat([]impl.Route{roomRoute()}, n))
		wantNoDump(t, fmt.Sprint(n, " zero ones"), make([]impl.Route, n))
	}
}

func TestDumpOfWrongRoutes(t *testing.T) {
	for _, r := range wrongRoutes() {
		what := fmt.Sprintf("%+v", r)
		wantNoDump(t, what, []impl.Route{r})
		wantNoDump(t, what+" first", []impl.Route{r, macRoute()})
		wantNoDump(t, what+" last", []impl.Route{macRoute(), r})
	}
	for _, n := range []int{1, 2, 3, 30, maxDumped, maxDumped + 1} {
		for at := range n {
			for _, r := range []impl.Route{{}, {Kind: impl.RtRoom, Vni: 5, Origin: 5}, {Kind: impl.RtMac, Vni: 5, Mac: impl.MaxMac, Origin: 1}} {
				l := guests(n)
				l[at] = r
				wantNoDump(t, fmt.Sprintf("%+v at %d of %d", r, at, n), l)
			}
		}
	}
}

func TestDumpOfLeavesItsArgument(t *testing.T) {
	for _, n := range []int{0, 1, 5, maxDumped, maxDumped + 1, impl.MaxList + 1} {
		// Elements behind the length are not to be written either.
		all := guests(n + 8)
		impl.DumpOf(all[:n])
		if !slices.Equal(all, guests(n+8)) {
			t.Errorf("a list of %d is changed", n)
		}
	}
	l := guests(3)
	l[1] = impl.Route{}
	impl.DumpOf(l)
	same(t, "before a wrong one", l[0], guests(3)[0])
	same(t, "a wrong one", l[1], impl.Route{})
	same(t, "behind a wrong one", l[2], guests(3)[2])
}

func TestDumpOfIsNew(t *testing.T) {
	for _, n := range []int{0, 1, 5, maxDumped} {
		l := guests(n)
		want := dumpByRule(l)
		first, second := impl.DumpOf(l), impl.DumpOf(l)
		clear(l)
		if !slices.Equal(first, want) {
			t.Errorf("a dump of %d changes with its routes", n)
		}
		clear(first[:cap(first)])
		if !slices.Equal(second, want) {
			t.Errorf("a dump of %d changes with another one", n)
		}
		if third := impl.DumpOf(guests(n)); !slices.Equal(third, want) {
			t.Errorf("a dump of %d is not the same again: %q", n, third)
		}
	}
}
