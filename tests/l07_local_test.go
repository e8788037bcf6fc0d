package tests

import (
	"fmt"
	"maps"
	"math"
	"math/rand"
	"slices"
	"testing"

	"loop.example/g00667/impl"
)

var doorNums = rangeOf(1, 4)

// farNums are numbers that name no guest, or at most one that is at the limits.
var farNums = []int64{0, -1, 1 << 24, 1 << 32, 1 << 40, impl.MaxMac, impl.MaxMac + 1, math.MinInt64, math.MaxInt64}

func someGuest() impl.Guest {
	return impl.Guest{Vni: 5, Mac: 161, Ip: 11, Door: 2, Seq: 3, Seen: 300}
}

// guestIn is a guest of a room whose other fields follow from its Mac.
func guestIn(vni int64, mac int64) impl.Guest {
	return impl.Guest{Vni: vni, Mac: mac, Ip: 1000 + mac%1000, Door: 1 + mac%4, Seq: mac % 7, Seen: 100 * (mac % 5), Sticky: mac%3 == 1}
}

// crowd returns 420 guests of seven rooms in the order of a list; the rooms have the same MAC addresses.
func crowd() []impl.Guest {
	var out []impl.Guest
	for vni := int64(5); vni <= 11; vni++ {
		for mac := int64(161); mac < 221; mac++ {
			out = append(out, guestIn(vni, mac))
		}
	}
	return out
}

// crowdOf returns n guests of all rooms in the order of a list.
func crowdOf(n int) []impl.Guest {
	all := crowd()
	var out []impl.Guest
	for i := range n {
		out = append(out, all[i*len(all)/n])
	}
	return out
}

// fewGuests is a list of two rooms in which one MAC address occurs twice, and some guests are Sticky.
func fewGuests() []impl.Guest {
	return []impl.Guest{guestIn(5, 161), guestIn(5, 163), guestIn(6, 160), guestIn(6, 161), guestIn(6, 165)}
}

func pinned(g impl.Guest) impl.Guest {
	g.Sticky = true
	return g
}

func seenAt(g impl.Guest, at int64) impl.Guest {
	g.Seen = at
	return g
}

// moved returns the guest with other contents under the same Vni and Mac.
func moved(g impl.Guest) impl.Guest {
	return impl.Guest{Vni: g.Vni, Mac: g.Mac, Ip: 77, Door: 1 + g.Door%4, Seq: g.Seq + 5, Seen: g.Seen + 9, Sticky: !g.Sticky}
}

// guestField is one number of a guest and its range.
type guestField struct {
	name   string
	set    func(g *impl.Guest, n int64)
	limits inAndOut
}

func guestFields() []guestField {
	return []guestField{
		{"Vni", func(g *impl.Guest, n int64) { g.Vni = n }, vnis},
		{"Mac", func(g *impl.Guest, n int64) { g.Mac = n }, singles},
		{"Ip", func(g *impl.Guest, n int64) { g.Ip = n }, ips},
		{"Door", func(g *impl.Guest, n int64) { g.Door = n }, doorNums},
		{"Seq", func(g *impl.Guest, n int64) { g.Seq = n }, times},
		{"Seen", func(g *impl.Guest, n int64) { g.Seen = n }, times},
	}
}

// guestsWith returns guests with one field set to each number that is picked from its range, Sticky ones and others.
func guestsWith(pick func(limits inAndOut) []int64) []impl.Guest {
	var out []impl.Guest
	for _, f := range guestFields() {
		for _, n := range pick(f.limits) {
			g := someGuest()
			f.set(&g, n)
			out = append(out, g, pinned(g))
		}
	}
	return out
}

// guestsAtLimits returns valid guests, with each field at its limits.
func guestsAtLimits() []impl.Guest {
	least := impl.Guest{Vni: 1, Door: 1}
	greatest := impl.Guest{Vni: impl.MaxVni, Mac: lastSingleMac, Ip: impl.MaxIp, Door: 4, Seq: impl.MaxTime, Seen: impl.MaxTime, Sticky: true}
	return append(guestsWith(func(limits inAndOut) []int64 { return limits.in }), least, greatest)
}

// wrongGuests returns guests that are not valid, most of them because of one field.
func wrongGuests() []impl.Guest {
	return append(guestsWith(func(limits inAndOut) []int64 { return limits.out }), impl.Guest{}, impl.Guest{Sticky: true})
}

func guestsError(code int64) impl.GuestsOut {
	return impl.GuestsOut{Code: code}
}

func sameGuests(a impl.GuestsOut, b impl.GuestsOut) bool {
	return slices.Equal(a.Guests, b.Guests) && slices.Equal(a.Gone, b.Gone) && a.Code == b.Code
}

func wantGuests(t *testing.T, what string, got impl.GuestsOut, want impl.GuestsOut) {
	t.Helper()
	if !sameGuests(got, want) {
		t.Errorf("%s: got %+v, want %+v", what, got, want)
	}
}

func sameName(a impl.Guest, b impl.Guest) bool {
	return a.Vni == b.Vni && a.Mac == b.Mac
}

// sortedGuests brings guests into the order of a list.
func sortedGuests(l []impl.Guest) []impl.Guest {
	slices.SortFunc(l, func(a impl.Guest, b impl.Guest) int {
		return slices.Compare([]int64{a.Vni, a.Mac}, []int64{b.Vni, b.Mac})
	})
	return l
}

func guestsWithout(l []impl.Guest, drop func(g impl.Guest) bool) ([]impl.Guest, []impl.Guest) {
	rest := slices.DeleteFunc(slices.Clone(l), drop)
	gone := slices.DeleteFunc(slices.Clone(l), func(g impl.Guest) bool { return !drop(g) })
	return rest, gone
}

// guestPutByRule returns what the document says of GuestPut, for valid arguments.
func guestPutByRule(l []impl.Guest, g impl.Guest) impl.GuestsOut {
	rest, _ := guestsWithout(l, func(other impl.Guest) bool { return sameName(other, g) })
	if len(rest) == 8 {
		return guestsError(impl.ErrFull)
	}
	return impl.GuestsOut{Guests: sortedGuests(append(rest, g))}
}

// guestDropByRule returns what the document says of GuestDrop, for a valid list.
func guestDropByRule(l []impl.Guest, vni int64, mac int64) impl.GuestsOut {
	rest, gone := guestsWithout(l, func(g impl.Guest) bool { return g.Vni == vni && g.Mac == mac })
	if len(gone) == 0 {
		return guestsError(impl.ErrNone)
	}
	return impl.GuestsOut{Guests: rest, Gone: gone}
}

// guestsAgeByRule returns what the document says of GuestsAge, for valid arguments.
func guestsAgeByRule(l []impl.Guest, now int64) impl.GuestsOut {
	rest, gone := guestsWithout(l, func(g impl.Guest) bool { return !g.Sticky && g.Seen+200 < now })
	return impl.GuestsOut{Guests: rest, Gone: gone}
}

// guestAtByRule returns what the document says of GuestAt, for a valid list.
func guestAtByRule(l []impl.Guest, vni int64, mac int64) impl.Guest {
	_, found := guestsWithout(l, func(g impl.Guest) bool { return g.Vni == vni && g.Mac == mac })
	return append(found, impl.Guest{})[0]
}

// guestProbes are guests some of which have the Vni and Mac of others in the lists.
func guestProbes() []impl.Guest {
	out := []impl.Guest{someGuest(), {Vni: 1, Door: 1}, guestIn(impl.MaxVni, lastSingleMac)}
	for _, g := range fewGuests() {
		out = append(out, moved(g), guestIn(g.Vni, g.Mac+1))
	}
	return out
}

// ageTimes are times around those at which guests of the lists go.
var ageTimes = []int64{0, 1, 199, 200, 201, 300, 301, 500, 501, 600, 601, impl.MaxTime - 1, impl.MaxTime}

// wantRightGuests checks a list with all functions that tell a valid list from others.
func wantRightGuests(t *testing.T, what string, l []impl.Guest) {
	t.Helper()
	same(t, "GuestsRight of "+what, impl.GuestsRight(l), true)
	for _, g := range append(guestProbes(), l...) {
		what := fmt.Sprintf("%s, %+v", what, g)
		wantGuests(t, "GuestPut: "+what, impl.GuestPut(l, g), guestPutByRule(l, g))
		wantGuests(t, "GuestDrop: "+what, impl.GuestDrop(l, g.Vni, g.Mac), guestDropByRule(l, g.Vni, g.Mac))
		same(t, "GuestAt: "+what, impl.GuestAt(l, g.Vni, g.Mac), guestAtByRule(l, g.Vni, g.Mac))
	}
	for _, now := range ageTimes {
		wantGuests(t, fmt.Sprint("GuestsAge: ", what, ", now ", now), impl.GuestsAge(l, now), guestsAgeByRule(l, now))
	}
}

// wantWrongGuests checks that all functions reject a list, whatever their other arguments are.
func wantWrongGuests(t *testing.T, what string, l []impl.Guest) {
	t.Helper()
	same(t, "GuestsRight of "+what, impl.GuestsRight(l), false)
	code := int64(impl.ErrForm)
	if len(l) > impl.MaxList {
		code = impl.ErrSize
	}
	for _, g := range append(guestProbes(), impl.Guest{}, l[0], l[len(l)-1]) {
		what := fmt.Sprintf("%s, %+v", what, g)
		wantGuests(t, "GuestPut: "+what, impl.GuestPut(l, g), guestsError(code))
		wantGuests(t, "GuestDrop: "+what, impl.GuestDrop(l, g.Vni, g.Mac), guestsError(code))
		same(t, "GuestAt: "+what, impl.GuestAt(l, g.Vni, g.Mac), impl.Guest{})
	}
	for _, now := range append([]int64{-1, impl.MaxTime + 1}, ageTimes...) {
		wantGuests(t, fmt.Sprint("GuestsAge: ", what, ", now ", now), impl.GuestsAge(l, now), guestsError(code))
	}
}

func TestGuestLimits(t *testing.T) {
	same(t, "MaxGuests", impl.MaxGuests, 8)
	same(t, "MaxDoors", impl.MaxDoors, 4)
	same(t, "AgeLimit", impl.AgeLimit, 200)
}

func TestGuestFieldsInside(t *testing.T) {
	for _, g := range guestsAtLimits() {
		what := fmt.Sprintf("%+v", g)
		wantRightGuests(t, what, []impl.Guest{g})
		wantGuests(t, "GuestPut of "+what, impl.GuestPut(nil, g), impl.GuestsOut{Guests: []impl.Guest{g}})
		same(t, "GuestAt: "+what, impl.GuestAt([]impl.Guest{g}, g.Vni, g.Mac), g)
		wantGuests(t, "GuestDrop: "+what, impl.GuestDrop([]impl.Guest{g}, g.Vni, g.Mac), impl.GuestsOut{Gone: []impl.Guest{g}})
	}
}

func TestGuestFieldsOutside(t *testing.T) {
	for _, g := range wrongGuests() {
		what := fmt.Sprintf("%+v", g)
		wantWrongGuests(t, what, []impl.Guest{g})
		wantWrongGuests(t, what+" first", append([]impl.Guest{g}, fewGuests()...))
		wantWrongGuests(t, what+" last", append(fewGuests(), g))
		for n := range impl.MaxGuests + 1 {
			wantGuests(t, fmt.Sprint("GuestPut of ", what, " in a list of ", n), impl.GuestPut(crowdOf(n), g), guestsError(impl.ErrForm))
		}
		own := []impl.Guest{someGuest()}
		wantGuests(t, "GuestPut of "+what+" for a valid one", impl.GuestPut(own, g), guestsError(impl.ErrForm))
	}
}

func TestGuestsWithAWrongOneInEachPlace(t *testing.T) {
	for n := 1; n <= impl.MaxGuests; n++ {
		for at := range n {
			for _, f := range guestFields() {
				for _, wrong := range []int64{f.limits.out[0], f.limits.out[1]} {
					l := crowdOf(n)
					f.set(&l[at], wrong)
					wantWrongGuests(t, fmt.Sprint(f.name, " ", wrong, " at ", at, " of ", n), l)
				}
			}
			l := crowdOf(n)
			l[at] = impl.Guest{}
			wantWrongGuests(t, fmt.Sprint("no guest at ", at, " of ", n), l)
		}
	}
}

func TestGuestsSizes(t *testing.T) {
	wantRightGuests(t, "nil", nil)
	wantRightGuests(t, "an empty list", []impl.Guest{})
	wantRightGuests(t, "a few guests", fewGuests())
	for n := range impl.MaxGuests + 1 {
		wantRightGuests(t, fmt.Sprint("a list of ", n), crowdOf(n))
	}
	wantRightGuests(t, "a full list of one room", crowd()[:impl.MaxGuests])
	for _, n := range []int{impl.MaxGuests + 1, impl.MaxGuests + 2, 16, 100, 256, 264, impl.MaxList - 1, impl.MaxList, impl.MaxList + 1, 420} {
		wantWrongGuests(t, fmt.Sprint("a list of ", n), crowdOf(n))
		wantWrongGuests(t, fmt.Sprint("nothing but zeros, as many as ", n), make([]impl.Guest, n))
		wantWrongGuests(t, fmt.Sprint("one guest, as often as ", n), slices.Repeat(fewGuests()[:1], n))
	}
}

func TestGuestsOrderOfEachField(t *testing.T) {
	for _, pair := range [][2]impl.Guest{
		{{Vni: 5, Mac: 161}, {Vni: 6, Mac: 161}},
		{{Vni: 5, Mac: 162}, {Vni: 6, Mac: 161}},
		{{Vni: 1, Mac: lastSingleMac}, {Vni: impl.MaxVni, Mac: 0}},
		{{Vni: 5, Mac: 161}, {Vni: 5, Mac: 162}},
		{{Vni: 5, Mac: 161}, {Vni: 5, Mac: 1 << 32}},
		{{Vni: 5, Mac: 0}, {Vni: 5, Mac: lastSingleMac}},
		// The Vni comes first: it is not a matter of their sum, nor of both as digits.
		{{Vni: 255, Mac: 300}, {Vni: 256, Mac: 1}},
	} {
		for _, more := range []impl.Guest{{Door: 2}, {Door: 2, Ip: 9, Seq: 9, Seen: 9, Sticky: true}} {
			// What is behind these two fields is greater in the first one.
			a, b := more, impl.Guest{Door: 1}
			a.Vni, a.Mac, b.Vni, b.Mac = pair[0].Vni, pair[0].Mac, pair[1].Vni, pair[1].Mac
			wantGuestOrder(t, fmt.Sprintf("%+v before %+v", a, b), a, b)
		}
	}
}

// wantGuestOrder checks that two guests are in a list only in this order.
func wantGuestOrder(t *testing.T, what string, a impl.Guest, b impl.Guest) {
	t.Helper()
	both := []impl.Guest{a, b}
	wantRightGuests(t, what, both)
	wantWrongGuests(t, what+", the other way round", []impl.Guest{b, a})
	wantWrongGuests(t, what+", first twice", []impl.Guest{a, a, b})
	wantWrongGuests(t, what+", last twice", []impl.Guest{a, b, b})
	wantWrongGuests(t, what+", first also last", []impl.Guest{a, b, a})
	wantGuests(t, what+", the first one stored last", impl.GuestPut([]impl.Guest{b}, a), impl.GuestsOut{Guests: both})
	wantGuests(t, what+", the last one stored last", impl.GuestPut([]impl.Guest{a}, b), impl.GuestsOut{Guests: both})
}

func TestGuestsNotInOrder(t *testing.T) {
	for n := 2; n <= impl.MaxGuests; n++ {
		for _, whole := range [][]impl.Guest{crowdOf(n), crowd()[:n]} {
			for at := range n - 1 {
				l := slices.Clone(whole)
				l[at], l[at+1] = l[at+1], l[at]
				wantWrongGuests(t, fmt.Sprint("guest ", at, " of ", n, " behind the next one"), l)
				l = slices.Clone(whole)
				l[at+1] = l[at]
				wantWrongGuests(t, fmt.Sprint("guest ", at, " of ", n, " twice"), l)
				l = slices.Clone(whole)
				l[at+1] = moved(l[at])
				wantWrongGuests(t, fmt.Sprint("guest ", at, " of ", n, " twice, not alike"), l)
				l = slices.Clone(whole)
				l[n-1] = l[at]
				wantWrongGuests(t, fmt.Sprint("guest ", at, " of ", n, " also last"), l)
			}
		}
	}
}

func TestGuestsWithAGuestTwice(t *testing.T) {
	g := someGuest()
	others := []impl.Guest{g, g, g, g, g, pinned(g)}
	others[1].Ip++
	others[2].Door++
	others[3].Seq++
	others[4].Seen++
	for _, other := range others {
		wantWrongGuests(t, fmt.Sprintf("%+v and %+v", g, other), []impl.Guest{g, other})
		wantWrongGuests(t, fmt.Sprintf("%+v and %+v", other, g), []impl.Guest{other, g})
	}
	elsewhere := g
	elsewhere.Vni++
	wantRightGuests(t, "a MAC address in two rooms", []impl.Guest{g, elsewhere})
}

func TestGuestAtAndDropOfAGuestThatIsThere(t *testing.T) {
	for n := 1; n <= impl.MaxGuests; n++ {
		for at := range n {
			l := crowdOf(n)
			g := l[at]
			what := fmt.Sprint("guest ", at, " of ", n)
			same(t, "GuestAt: "+what, impl.GuestAt(l, g.Vni, g.Mac), g)
			want := impl.GuestsOut{Guests: slices.Delete(crowdOf(n), at, at+1), Gone: []impl.Guest{g}}
			wantGuests(t, "GuestDrop: "+what, impl.GuestDrop(l, g.Vni, g.Mac), want)
			l[at] = pinned(g)
			want.Gone[0] = l[at]
			same(t, "GuestAt: Sticky "+what, impl.GuestAt(l, g.Vni, g.Mac), l[at])
			wantGuests(t, "GuestDrop: Sticky "+what, impl.GuestDrop(l, g.Vni, g.Mac), want)
		}
	}
}

// wantNoGuest checks that a list has no guest with this Vni and Mac.
func wantNoGuest(t *testing.T, l []impl.Guest, vni int64, mac int64) {
	t.Helper()
	what := fmt.Sprint("room ", vni, ", guest ", mac, " of ", len(l))
	same(t, "GuestAt: "+what, impl.GuestAt(l, vni, mac), impl.Guest{})
	wantGuests(t, "GuestDrop: "+what, impl.GuestDrop(l, vni, mac), guestsError(impl.ErrNone))
}

func TestGuestAtAndDropOfAGuestThatIsNotThere(t *testing.T) {
	for _, l := range [][]impl.Guest{nil, {someGuest()}, fewGuests(), crowdOf(impl.MaxGuests), crowd()[:impl.MaxGuests]} {
		wantNoGuest(t, l, 4, 161)
		wantNoGuest(t, l, 5, 159)
		wantNoGuest(t, l, 12, 161)
		for _, g := range l {
			// The numbers of a guest, but in the other order, or only one of them.
			wantNoGuest(t, l, g.Mac, g.Vni)
			wantNoGuest(t, l, 0, g.Mac)
			wantNoGuest(t, l, g.Vni, 0)
			for _, n := range farNums {
				wantNoGuest(t, l, n, g.Mac)
				wantNoGuest(t, l, g.Vni, n)
			}
			wantNoGuest(t, l, g.Vni+1<<32, g.Mac)
			wantNoGuest(t, l, g.Vni, g.Mac+1<<32)
			wantNoGuest(t, l, g.Vni, g.Mac+1<<40)
			wantNoGuest(t, l, -g.Vni, -g.Mac)
		}
		for _, vni := range farNums {
			for _, mac := range farNums {
				wantNoGuest(t, l, vni, mac)
			}
		}
	}
	// The least guest has the zero Mac, and no list has the zero Guest.
	least := impl.Guest{Vni: 1, Door: 1}
	same(t, "the least guest", impl.GuestAt([]impl.Guest{least}, 1, 0), least)
	wantNoGuest(t, []impl.Guest{least}, 0, 0)
}

func TestGuestPutOfANewGuest(t *testing.T) {
	for n := 1; n <= impl.MaxGuests; n++ {
		for at := range n {
			for _, whole := range [][]impl.Guest{crowdOf(n), crowd()[:n]} {
				rest := slices.Delete(slices.Clone(whole), at, at+1)
				wantGuests(t, fmt.Sprint("the guest at ", at, " of ", n), impl.GuestPut(rest, whole[at]), impl.GuestsOut{Guests: whole})
			}
		}
	}
	first, middle, last := guestIn(4, 999), guestIn(5, 162), guestIn(7, 1)
	wantGuests(t, "at the front", impl.GuestPut(fewGuests(), first), impl.GuestsOut{Guests: slices.Insert(fewGuests(), 0, first)})
	wantGuests(t, "in the middle", impl.GuestPut(fewGuests(), middle), impl.GuestsOut{Guests: slices.Insert(fewGuests(), 1, middle)})
	wantGuests(t, "at the end", impl.GuestPut(fewGuests(), last), impl.GuestsOut{Guests: append(fewGuests(), last)})
	wantGuests(t, "the first of all", impl.GuestPut(nil, last), impl.GuestsOut{Guests: []impl.Guest{last}})
}

func TestGuestPutOfAGuestThatIsThere(t *testing.T) {
	for n := 1; n <= impl.MaxGuests; n++ {
		for at := range n {
			l := crowdOf(n)
			// What is stored last counts, also if it is older, or no longer Sticky.
			older := impl.Guest{Vni: l[at].Vni, Mac: l[at].Mac, Door: 1}
			for _, g := range []impl.Guest{l[at], moved(l[at]), pinned(l[at]), older} {
				want := slices.Clone(l)
				want[at] = g
				wantGuests(t, fmt.Sprintf("%+v at %d of %d", g, at, n), impl.GuestPut(l, g), impl.GuestsOut{Guests: want})
			}
		}
	}
}

func TestGuestPutInAFullList(t *testing.T) {
	full := crowdOf(impl.MaxGuests)
	for _, g := range []impl.Guest{guestIn(1, 0), guestIn(5, 162), guestIn(8, 1), guestIn(impl.MaxVni, lastSingleMac), pinned(guestIn(1, 0))} {
		what := fmt.Sprintf("%+v", g)
		wantGuests(t, what, impl.GuestPut(full, g), guestsError(impl.ErrFull))
		for at := range full {
			rest := slices.Delete(slices.Clone(full), at, at+1)
			wantGuests(t, what+", one guest less", impl.GuestPut(rest, g), guestPutByRule(rest, g))
			same(t, what+", one guest less, then full", len(impl.GuestPut(rest, g).Guests), impl.MaxGuests)
		}
	}
	same(t, "a full list is valid", impl.GuestsRight(full), true)
}

func TestGuestErrorsInOrder(t *testing.T) {
	full := crowdOf(impl.MaxGuests)
	reversed := slices.Clone(full)
	slices.Reverse(reversed)
	long := crowdOf(impl.MaxList + 1)
	newOne := guestIn(1, 0)
	wantGuests(t, "GuestPut: long before wrong", impl.GuestPut(long, impl.Guest{}), guestsError(impl.ErrSize))
	wantGuests(t, "GuestPut: long before full", impl.GuestPut(long, newOne), guestsError(impl.ErrSize))
	wantGuests(t, "GuestPut: a wrong list before full", impl.GuestPut(reversed, newOne), guestsError(impl.ErrForm))
	wantGuests(t, "GuestPut: a wrong guest before full", impl.GuestPut(full, impl.Guest{Vni: 1, Mac: 1}), guestsError(impl.ErrForm))
	wantGuests(t, "GuestDrop: long before none", impl.GuestDrop(long, 1, 0), guestsError(impl.ErrSize))
	wantGuests(t, "GuestDrop: a wrong list before none", impl.GuestDrop(reversed, 1, 0), guestsError(impl.ErrForm))
	wantGuests(t, "GuestDrop: a guest of a wrong list", impl.GuestDrop(reversed, full[0].Vni, full[0].Mac), guestsError(impl.ErrForm))
	wantGuests(t, "GuestsAge: long before no time", impl.GuestsAge(long, -1), guestsError(impl.ErrSize))
	wantGuests(t, "GuestsAge: a wrong list", impl.GuestsAge(reversed, 0), guestsError(impl.ErrForm))
	same(t, "GuestAt: a guest of a wrong list", impl.GuestAt(reversed, full[0].Vni, full[0].Mac), impl.Guest{})
	same(t, "GuestAt: a guest of a long list", impl.GuestAt(long, long[0].Vni, long[0].Mac), impl.Guest{})
}

func TestGuestsAgeAtTheLimit(t *testing.T) {
	for _, seen := range []int64{0, 1, 3, 56, 199, 200, 201, 1000, impl.MaxTime - 201} {
		g := seenAt(someGuest(), seen)
		what := fmt.Sprint("seen at ", seen)
		for _, now := range []int64{0, seen, seen + 1, seen + 199, seen + 200} {
			wantGuests(t, fmt.Sprint(what, ", stays at ", now), impl.GuestsAge([]impl.Guest{g}, now), impl.GuestsOut{Guests: []impl.Guest{g}})
		}
		for _, now := range []int64{seen + 201, seen + 202, impl.MaxTime} {
			now = min(now, impl.MaxTime)
			wantGuests(t, fmt.Sprint(what, ", goes at ", now), impl.GuestsAge([]impl.Guest{g}, now), impl.GuestsOut{Gone: []impl.Guest{g}})
		}
	}
	// These are not old before the last time of all.
	for _, seen := range []int64{impl.MaxTime - 200, impl.MaxTime - 1, impl.MaxTime} {
		l := []impl.Guest{seenAt(someGuest(), seen)}
		for _, now := range []int64{0, 1, seen, impl.MaxTime} {
			wantGuests(t, fmt.Sprint("seen at ", seen, ", now ", now), impl.GuestsAge(l, now), impl.GuestsOut{Guests: l})
		}
	}
}

func TestGuestsAgeOfEachSubset(t *testing.T) {
	for mask := range 1 << impl.MaxGuests {
		l := crowdOf(impl.MaxGuests)
		var want impl.GuestsOut
		for i := range l {
			l[i].Sticky = false
			l[i].Seen = 300
			if mask>>i&1 == 1 {
				l[i].Seen = 299
				want.Gone = append(want.Gone, l[i])
			} else {
				want.Guests = append(want.Guests, l[i])
			}
		}
		wantGuests(t, fmt.Sprint("old as ", mask), impl.GuestsAge(l, 500), want)
		wantGuests(t, fmt.Sprint("old as ", mask, ", one earlier"), impl.GuestsAge(l, 499), impl.GuestsOut{Guests: l})
		wantGuests(t, fmt.Sprint("old as ", mask, ", one later"), impl.GuestsAge(l, 501), impl.GuestsOut{Gone: l})
	}
}

func TestGuestsAgeOfNoTime(t *testing.T) {
	for _, now := range times.out {
		for n := range impl.MaxGuests + 1 {
			wantGuests(t, fmt.Sprint("a list of ", n, ", now ", now), impl.GuestsAge(crowdOf(n), now), guestsError(impl.ErrForm))
		}
		sticky := []impl.Guest{pinned(someGuest())}
		wantGuests(t, fmt.Sprint("Sticky, now ", now), impl.GuestsAge(sticky, now), guestsError(impl.ErrForm))
		wantGuests(t, fmt.Sprint("a wrong list, now ", now), impl.GuestsAge(make([]impl.Guest, 1), now), guestsError(impl.ErrForm))
	}
	for _, now := range times.in {
		wantGuests(t, fmt.Sprint("nil, now ", now), impl.GuestsAge(nil, now), impl.GuestsOut{})
	}
}

func TestPromise9PinnedGuestsDoNotExpire(t *testing.T) {
	for _, seen := range times.in {
		l := []impl.Guest{pinned(seenAt(someGuest(), seen))}
		for _, now := range append(times.in, ageTimes...) {
			wantGuests(t, fmt.Sprint("Sticky, seen at ", seen, ", now ", now), impl.GuestsAge(l, now), impl.GuestsOut{Guests: l})
		}
	}
	for mask := range 1 << impl.MaxGuests {
		l := crowdOf(impl.MaxGuests)
		var want impl.GuestsOut
		for i := range l {
			l[i].Sticky = mask>>i&1 == 1
			if l[i].Sticky {
				want.Guests = append(want.Guests, l[i])
			} else {
				want.Gone = append(want.Gone, l[i])
			}
		}
		wantGuests(t, fmt.Sprint("Sticky as ", mask), impl.GuestsAge(l, impl.MaxTime), want)
	}
}

func TestRouteOf(t *testing.T) {
	for _, g := range guestsAtLimits() {
		for _, house := range origins.in {
			want := impl.Route{Kind: impl.RtMac, Vni: g.Vni, Mac: g.Mac, Ip: g.Ip, Origin: house, Seq: g.Seq, Sticky: g.Sticky}
			what := fmt.Sprintf("%+v at house %d", g, house)
			same(t, what, impl.RouteOf(g, house), want)
			same(t, what+": valid", impl.RouteRight(impl.RouteOf(g, house)), true)
		}
		for _, house := range append([]int64{1 + 1<<8, 1 + 1<<32}, origins.out...) {
			same(t, fmt.Sprintf("%+v at house %d", g, house), impl.RouteOf(g, house), impl.Route{})
		}
	}
	for _, g := range wrongGuests() {
		for _, house := range append([]int64{0, impl.MaxHouses + 1}, origins.in...) {
			same(t, fmt.Sprintf("%+v at house %d", g, house), impl.RouteOf(g, house), impl.Route{})
		}
	}
}

func TestRouteOfOneGuest(t *testing.T) {
	g := impl.Guest{Vni: 6, Mac: 162, Ip: 12, Door: 3, Seq: 7, Seen: 9, Sticky: true}
	want := impl.Route{Kind: 2, Vni: 6, Mac: 162, Ip: 12, Origin: 4, Seq: 7, Sticky: true}
	same(t, "a Sticky guest", impl.RouteOf(g, 4), want)
	g.Sticky, want.Sticky, want.Origin = false, false, 1
	same(t, "a guest", impl.RouteOf(g, 1), want)
	same(t, "MaxHouses", impl.MaxHouses, 4)
	same(t, "at house 0", impl.RouteOf(g, 0), impl.Route{})
	same(t, "at house 5", impl.RouteOf(g, 5), impl.Route{})
}

func TestGuestsExample(t *testing.T) {
	l := impl.GuestPut(nil, seenAt(someGuest(), 3)).Guests
	wantGuests(t, "at time 203", impl.GuestsAge(l, 203), impl.GuestsOut{Guests: l})
	wantGuests(t, "at time 204", impl.GuestsAge(l, 204), impl.GuestsOut{Gone: l})
	sticky := []impl.Guest{pinned(l[0])}
	wantGuests(t, "Sticky at time 204", impl.GuestsAge(sticky, 204), impl.GuestsOut{Guests: sticky})
}

func TestPromise9StoredOnceAndOthersUnchanged(t *testing.T) {
	random := rand.New(rand.NewSource(91))
	all := append(crowd()[:12], crowd()[60:72]...)
	for range 2000 {
		picks := random.Perm(len(all))
		var l []impl.Guest
		for _, at := range picks[:random.Intn(impl.MaxGuests+1)] {
			l = append(l, all[at])
		}
		l = sortedGuests(l)
		g := moved(all[random.Intn(len(all))])
		isIt := func(other impl.Guest) bool { return sameName(other, g) }
		others, own := guestsWithout(l, isIt)
		got := impl.GuestPut(l, g)
		if len(others) == impl.MaxGuests {
			wantGuests(t, "no room", got, guestsError(impl.ErrFull))
			continue
		}
		rest, stored := guestsWithout(got.Guests, isIt)
		what := fmt.Sprintf("%+v in %+v", g, l)
		wantList(t, "present once: "+what, stored, []impl.Guest{g})
		wantList(t, "others: "+what, rest, others)
		same(t, "valid: "+what, impl.GuestsRight(got.Guests), true)
		same(t, "found: "+what, impl.GuestAt(got.Guests, g.Vni, g.Mac), g)
		same(t, "found before: "+what, impl.GuestAt(l, g.Vni, g.Mac), append(own, impl.Guest{})[0])
		wantGuests(t, "dropped again: "+what, impl.GuestDrop(got.Guests, g.Vni, g.Mac), impl.GuestsOut{Guests: others, Gone: []impl.Guest{g}})
	}
}

// register is what is known of each guest, by Vni and Mac, without the order of a list.
type register map[[2]int64]impl.Guest

func (r register) list() []impl.Guest {
	return sortedGuests(slices.Collect(maps.Values(r)))
}

func (r register) put(g impl.Guest) impl.GuestsOut {
	at := [2]int64{g.Vni, g.Mac}
	if _, there := r[at]; !there && len(r) == impl.MaxGuests {
		return guestsError(impl.ErrFull)
	}
	r[at] = g
	return impl.GuestsOut{Guests: r.list()}
}

func (r register) drop(vni int64, mac int64) impl.GuestsOut {
	at := [2]int64{vni, mac}
	g, there := r[at]
	if !there {
		return guestsError(impl.ErrNone)
	}
	delete(r, at)
	return impl.GuestsOut{Guests: r.list(), Gone: []impl.Guest{g}}
}

func (r register) age(now int64) impl.GuestsOut {
	var gone []impl.Guest
	for at, g := range r {
		if !g.Sticky && now-g.Seen > 200 {
			delete(r, at)
			gone = append(gone, g)
		}
	}
	return impl.GuestsOut{Guests: r.list(), Gone: sortedGuests(gone)}
}

func TestPromise9GuestsComeAndGo(t *testing.T) {
	full, expired, stayed := 0, 0, 0
	for seed := range int64(8) {
		random := rand.New(rand.NewSource(seed))
		r := register{}
		var l []impl.Guest
		for now := int64(0); now < 40000; now += random.Int63n(60) {
			g := impl.Guest{Vni: 5 + random.Int63n(2), Mac: 161 + random.Int63n(7), Door: 1 + random.Int63n(4), Seq: random.Int63n(9), Seen: now, Sticky: random.Intn(20) == 0}
			var got, want impl.GuestsOut
			switch random.Intn(8) {
			case 0:
				got, want = impl.GuestDrop(l, g.Vni, g.Mac), r.drop(g.Vni, g.Mac)
			case 1:
				got, want = impl.GuestsAge(l, now), r.age(now)
				expired += len(want.Gone)
			default:
				got, want = impl.GuestPut(l, g), r.put(g)
			}
			wantGuests(t, fmt.Sprintf("%+v in %+v", g, l), got, want)
			if got.Code == impl.ErrFull {
				full++
			}
			if got.Code == impl.OK {
				l = got.Guests
			}
			for _, other := range l {
				if other.Sticky && now-other.Seen > 200 {
					stayed++
				}
			}
		}
	}
	for what, n := range map[string]int{"new guests in a full list": full, "guests that expired": expired, "Sticky guests that stayed": stayed} {
		if n < 50 {
			t.Errorf("%s: only %d, too few to tell", what, n)
		}
	}
}

// guestsOperation is a function that takes a list of guests and returns one, with its other arguments.
type guestsOperation func(l []impl.Guest) impl.GuestsOut

// guestsCalls are all functions that take a list of guests and return one, in each of their cases.
func guestsCalls() map[string]guestsOperation {
	calls := map[string]guestsOperation{}
	for _, g := range append(guestProbes(), append(fewGuests(), impl.Guest{})...) {
		calls[fmt.Sprintf("GuestPut of %+v", g)] = func(l []impl.Guest) impl.GuestsOut { return impl.GuestPut(l, g) }
		calls[fmt.Sprint("GuestDrop of ", g.Vni, " ", g.Mac)] = func(l []impl.Guest) impl.GuestsOut { return impl.GuestDrop(l, g.Vni, g.Mac) }
	}
	for _, now := range append([]int64{-1, impl.MaxTime + 1}, ageTimes...) {
		calls[fmt.Sprint("GuestsAge at ", now)] = func(l []impl.Guest) impl.GuestsOut { return impl.GuestsAge(l, now) }
	}
	return calls
}

// roomyGuests returns the list with unused room behind it, and all of that memory.
func roomyGuests(l []impl.Guest) ([]impl.Guest, []impl.Guest) {
	all := append(slices.Clone(l), fewGuests()...)
	return all[:len(l)], all
}

func argumentGuests() [][]impl.Guest {
	wrong := fewGuests()
	slices.Reverse(wrong)
	return [][]impl.Guest{{}, fewGuests()[:1], fewGuests(), crowdOf(impl.MaxGuests), wrong, crowdOf(impl.MaxGuests + 1), crowdOf(impl.MaxList + 1)}
}

func TestGuestsLeaveTheirArguments(t *testing.T) {
	for _, given := range argumentGuests() {
		for what, call := range guestsCalls() {
			l, all := roomyGuests(given)
			before := slices.Clone(all)
			call(l)
			impl.GuestsRight(l)
			impl.GuestAt(l, 5, 161)
			wantList(t, what+" changes its argument", all, before)
		}
	}
}

func TestGuestsAreNew(t *testing.T) {
	for _, given := range argumentGuests() {
		for what, call := range guestsCalls() {
			l, all := roomyGuests(given)
			first, second := call(l), call(l)
			want := impl.GuestsOut{Guests: slices.Clone(first.Guests), Gone: slices.Clone(first.Gone), Code: first.Code}
			clear(all)
			wantGuests(t, what+" after its argument is changed", first, want)
			clear(first.Guests[:cap(first.Guests)])
			wantList(t, what+": Gone after Guests is changed", first.Gone, want.Gone)
			wantGuests(t, what+" after another result is changed", second, want)
			clear(second.Gone[:cap(second.Gone)])
			wantList(t, what+": Guests after Gone is changed", second.Guests, want.Guests)
		}
	}
}
