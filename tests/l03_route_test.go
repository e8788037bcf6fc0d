package tests

import (
	"encoding/binary"
	"fmt"
	"math"
	"math/rand"
	"slices"
	"strings"
	"testing"

	"loop.example/g00667/impl"
)

// lastSingleMac is the greatest MAC address that is not a group.
const lastSingleMac = impl.MaxMac - 1<<40

var (
	origins = rangeOf(1, impl.MaxHouses)
	times   = rangeOf(0, impl.MaxTime)
	singles = inAndOut{
		in:  []int64{0, 1, 161, 1<<40 - 1, 1 << 41, 0x0201020304ff, lastSingleMac - 1, lastSingleMac},
		out: append([]int64{1 << 40, 1<<41 - 1, 3 << 40, 0x010203040506, lastSingleMac + 1, impl.MaxMac - 1, impl.MaxMac}, macs.out...),
	}
	badKinds = []int64{0, 1, 4, 5, -1, -impl.RtMac, -impl.RtRoom, 2 + 1<<32, 3 + 1<<32, math.MinInt64, math.MaxInt64}
)

func macRoute() impl.Route {
	return impl.Route{Kind: impl.RtMac, Vni: 5, Mac: 161, Ip: 11, Origin: 2, Seq: 3}
}

func roomRoute() impl.Route {
	return impl.Route{Kind: impl.RtRoom, Vni: 5, Origin: 1}
}

// numsOfRoute returns the numbers of which the encoding of a route consists, valid or not.
func numsOfRoute(r impl.Route) []int64 {
	nums := []int64{r.Kind, r.Vni, r.Mac, r.Ip, r.Origin, r.Seq, 0}
	if r.Sticky {
		nums[6] = 1
	}
	return nums
}

func numsText(nums []int64) string {
	var out []byte
	for _, n := range nums {
		out = binary.AppendVarint(out, n)
	}
	return string(out)
}

// otherCodes returns texts that could be taken for the encoding of a number and are not: longer than necessary, without an end, beyond 64 bits, or missing.
func otherCodes(n int64) []string {
	code := numsText([]int64{n})
	longer := changed(code, len(code)-1, 128)
	return []string{longer + "\x00", longer + "\x80\x00", longer, strings.Repeat("\xff", 10), strings.Repeat("\x80", 9) + "\x02", ""}
}

func routeText(r impl.Route) string {
	return numsText(numsOfRoute(r))
}

func notARoute() impl.RouteOut {
	return impl.RouteOut{Code: impl.ErrSyntax}
}

// wantValid checks a route with all functions that tell a valid route from others.
func wantValid(t *testing.T, r impl.Route) {
	t.Helper()
	what := fmt.Sprintf("%+v", r)
	same(t, "RouteRight of "+what, impl.RouteRight(r), true)
	same(t, "RouteBytes of "+what, impl.RouteBytes(r), routeText(r))
	same(t, "RouteRead of "+what, impl.RouteRead(routeText(r)), impl.RouteOut{Route: r})
}

func wantInvalid(t *testing.T, r impl.Route) {
	t.Helper()
	what := fmt.Sprintf("%+v", r)
	same(t, "RouteRight of "+what, impl.RouteRight(r), false)
	same(t, "RouteBytes of "+what, impl.RouteBytes(r), "")
	same(t, "RouteRead of "+what, impl.RouteRead(routeText(r)), notARoute())
}

// routeField is one number of a route and its range for RtMac.
type routeField struct {
	set    func(r *impl.Route, n int64)
	limits inAndOut
}

func macFields() []routeField {
	return []routeField{
		{func(r *impl.Route, n int64) { r.Vni = n }, vnis},
		{func(r *impl.Route, n int64) { r.Mac = n }, singles},
		{func(r *impl.Route, n int64) { r.Ip = n }, ips},
		{func(r *impl.Route, n int64) { r.Origin = n }, origins},
		{func(r *impl.Route, n int64) { r.Seq = n }, times},
	}
}

// someRoutes returns valid routes, with each field at its limits.
func someRoutes() []impl.Route {
	var out []impl.Route
	for _, vni := range vnis.in {
		for origin := range int64(impl.MaxHouses) {
			out = append(out, impl.Route{Kind: impl.RtRoom, Vni: vni, Origin: origin + 1})
			for _, mac := range singles.in {
				for _, ip := range ips.in {
					for _, seq := range times.in {
						r := impl.Route{Kind: impl.RtMac, Vni: vni, Mac: mac, Ip: ip, Origin: origin + 1, Seq: seq}
						sticky := r
						sticky.Sticky = true
						out = append(out, r, sticky)
					}
				}
			}
		}
	}
	return out
}

func TestPromise4RoutesAreRecovered(t *testing.T) {
	for _, r := range someRoutes() {
		wantValid(t, r)
		same(t, fmt.Sprintf("%+v encoded and decoded", r), impl.RouteRead(impl.RouteBytes(r)), impl.RouteOut{Route: r})
	}
}

func TestRouteBytes(t *testing.T) {
	same(t, "a room", impl.RouteBytes(roomRoute()), "\x06\x0a\x00\x00\x02\x00\x00")
	same(t, "a guest", impl.RouteBytes(macRoute()), "\x04\x0a\xc2\x02\x16\x04\x06\x00")
	r := macRoute()
	r.Sticky = true
	same(t, "a guest that is Sticky", impl.RouteBytes(r), "\x04\x0a\xc2\x02\x16\x04\x06\x02")
}

func TestMacRouteFields(t *testing.T) {
	for _, f := range macFields() {
		for _, n := range f.limits.in {
			r := macRoute()
			f.set(&r, n)
			wantValid(t, r)
			r.Sticky = true
			wantValid(t, r)
		}
		for _, n := range f.limits.out {
			r := macRoute()
			f.set(&r, n)
			wantInvalid(t, r)
			r.Sticky = true
			wantInvalid(t, r)
		}
	}
}

func TestMacRouteOfGroup(t *testing.T) {
	for first := range int64(256) {
		r := macRoute()
		r.Mac = first<<40 | 161
		if first%2 == 1 {
			wantInvalid(t, r)
		} else {
			wantValid(t, r)
		}
	}
}

func TestRoomRouteFields(t *testing.T) {
	for _, vni := range vnis.in {
		wantValid(t, impl.Route{Kind: impl.RtRoom, Vni: vni, Origin: 1})
	}
	for _, vni := range vnis.out {
		wantInvalid(t, impl.Route{Kind: impl.RtRoom, Vni: vni, Origin: 1})
	}
	for _, origin := range origins.in {
		wantValid(t, impl.Route{Kind: impl.RtRoom, Vni: 5, Origin: origin})
	}
	for _, origin := range origins.out {
		wantInvalid(t, impl.Route{Kind: impl.RtRoom, Vni: 5, Origin: origin})
	}
}

func TestRoomRouteWithAnotherField(t *testing.T) {
	for _, n := range []int64{1, -1, 161, 1 << 40, impl.MaxMac, math.MinInt64, math.MaxInt64} {
		mac, ip, seq := roomRoute(), roomRoute(), roomRoute()
		mac.Mac, ip.Ip, seq.Seq = n, n, n
		wantInvalid(t, mac)
		wantInvalid(t, ip)
		wantInvalid(t, seq)
	}
	sticky := roomRoute()
	sticky.Sticky = true
	wantInvalid(t, sticky)
}

func TestRouteOfUnknownKind(t *testing.T) {
	wantInvalid(t, impl.Route{})
	for _, kind := range badKinds {
		mac, room := macRoute(), roomRoute()
		mac.Kind, room.Kind = kind, kind
		wantInvalid(t, mac)
		wantInvalid(t, room)
	}
}

func TestRouteReadNumbersLeftOutOrAdded(t *testing.T) {
	for _, r := range []impl.Route{macRoute(), roomRoute()} {
		nums := numsOfRoute(r)
		for i := range nums {
			less := slices.Delete(slices.Clone(nums), i, i+1)
			same(t, fmt.Sprintf("%v without number %d", nums, i), impl.RouteRead(numsText(less)), notARoute())
		}
		for i := range len(nums) + 1 {
			for _, n := range []int64{0, 1, 2, 5, -1} {
				more := slices.Insert(slices.Clone(nums), i, n)
				same(t, fmt.Sprintf("%v with %d at %d", nums, n, i), impl.RouteRead(numsText(more)), notARoute())
			}
		}
		same(t, "twice", impl.RouteRead(routeText(r)+routeText(r)), notARoute())
	}
}

func TestRouteReadNumbersEncodedOtherwise(t *testing.T) {
	r := impl.Route{Kind: impl.RtMac, Vni: impl.MaxVni, Mac: lastSingleMac, Ip: impl.MaxIp, Origin: 4, Seq: impl.MaxTime, Sticky: true}
	for _, r := range []impl.Route{r, macRoute(), roomRoute()} {
		nums := numsOfRoute(r)
		for i, n := range nums {
			before, after := numsText(nums[:i]), numsText(nums[i+1:])
			for _, other := range otherCodes(n) {
				same(t, fmt.Sprintf("%v with number %d as %x", nums, i, other), impl.RouteRead(before+other+after), notARoute())
			}
		}
	}
}

func TestRouteReadLastNumber(t *testing.T) {
	for _, r := range []impl.Route{macRoute(), roomRoute()} {
		nums := numsOfRoute(r)
		for _, n := range []int64{2, 3, -1, -2, 256, 257, 1 << 32, 1<<32 + 1, math.MinInt64, math.MaxInt64} {
			nums[6] = n
			same(t, fmt.Sprint("last number ", n), impl.RouteRead(numsText(nums)), notARoute())
		}
	}
}

func TestRouteReadSizes(t *testing.T) {
	full := routeText(macRoute()) + strings.Repeat("\x00", impl.MaxBytes)
	size := len(routeText(macRoute()))
	same(t, "the empty text", impl.RouteRead(""), notARoute())
	for n := range 2 * size {
		want := notARoute()
		if n == size {
			want = impl.RouteOut{Route: macRoute()}
		}
		same(t, fmt.Sprint("the first bytes: ", n), impl.RouteRead(full[:n]), want)
	}
	same(t, "a byte before", impl.RouteRead("\x00"+full[:size]), notARoute())
	same(t, "MaxBytes", impl.RouteRead(full[:impl.MaxBytes]), notARoute())
	same(t, "MaxBytes + 1", impl.RouteRead(full[:impl.MaxBytes+1]), impl.RouteOut{Code: impl.ErrSize})
	same(t, "MaxBytes + 1, malformed", impl.RouteRead(strings.Repeat("\xff", impl.MaxBytes+1)), impl.RouteOut{Code: impl.ErrSize})
}

// wantInverse checks that a text is accepted only as the encoding of the route that it is decoded to.
func wantInverse(t *testing.T, text string) {
	t.Helper()
	got := impl.RouteRead(text)
	what := fmt.Sprintf("%x", text)
	if got.Code != impl.OK {
		same(t, what, got, notARoute())
		return
	}
	same(t, what+", decoded, is valid", impl.RouteRight(got.Route), true)
	same(t, what+", encoded again", impl.RouteBytes(got.Route), text)
}

func TestRouteReadAcceptsOnlyEncodings(t *testing.T) {
	for _, r := range []impl.Route{macRoute(), roomRoute()} {
		text := routeText(r)
		for at := range text {
			for mask := 1; mask < 256; mask++ {
				wantInverse(t, changed(text, at, byte(mask)))
			}
		}
	}
	some := "\x00\x02\x04\x06\x80\x01"
	random := rand.New(rand.NewSource(31))
	for range 200000 {
		text := make([]byte, 6+random.Intn(4))
		for i := range text {
			text[i] = some[random.Intn(len(some))]
		}
		wantInverse(t, string(text))
	}
}

func TestKeyOf(t *testing.T) {
	r := macRoute()
	r.Sticky = true
	same(t, "a guest", impl.KeyOf(r), impl.Route{Kind: impl.RtMac, Vni: 5, Mac: 161, Origin: 2})
	same(t, "a key", impl.KeyOf(impl.KeyOf(r)), impl.KeyOf(r))
	same(t, "a room", impl.KeyOf(roomRoute()), roomRoute())
	same(t, "the zero route", impl.KeyOf(impl.Route{}), impl.Route{})
	wrong := impl.Route{Kind: -7, Vni: math.MinInt64, Mac: impl.MaxMac, Ip: -1, Origin: math.MaxInt64, Seq: -1, Sticky: true}
	same(t, "no valid route", impl.KeyOf(wrong), impl.Route{Kind: -7, Vni: math.MinInt64, Mac: impl.MaxMac, Origin: math.MaxInt64})
	room := impl.Route{Kind: impl.RtRoom, Vni: 5, Mac: 1, Ip: 2, Origin: 3, Seq: 4, Sticky: true}
	same(t, "no valid room", impl.KeyOf(room), impl.Route{Kind: impl.RtRoom, Vni: 5, Mac: 1, Origin: 3})
	for _, r := range someRoutes() {
		same(t, fmt.Sprintf("the key of %+v is valid", r), impl.RouteRight(impl.KeyOf(r)), true)
	}
}

// wantBetter checks that a is preferred to b, and b not to a.
func wantBetter(t *testing.T, what string, a impl.Route, b impl.Route) {
	t.Helper()
	same(t, what, impl.Better(a, b), true)
	same(t, what+", the other way round", impl.Better(b, a), false)
}

func wantNeitherBetter(t *testing.T, what string, a impl.Route, b impl.Route) {
	t.Helper()
	same(t, what, impl.Better(a, b), false)
	same(t, what+", the other way round", impl.Better(b, a), false)
}

func TestBetterExample(t *testing.T) {
	first, second := macRoute(), macRoute()
	first.Origin = 1
	older := first
	older.Seq = 2
	sticky := older
	sticky.Sticky = true
	wantBetter(t, "Origin 1 and 2", first, second)
	wantBetter(t, "Origin 1, Seq 3 and 2", first, older)
	wantBetter(t, "Origin 2, Seq 3 and Origin 1, Seq 2", second, older)
	for _, r := range []impl.Route{first, second, older} {
		wantBetter(t, fmt.Sprintf("Sticky and %+v", r), sticky, r)
		wantNeitherBetter(t, fmt.Sprintf("%+v and itself", r), r, r)
	}
}

func TestBetterRules(t *testing.T) {
	at := func(sticky bool, seq int64, origin int64) impl.Route {
		r := macRoute()
		r.Sticky, r.Seq, r.Origin = sticky, seq, origin
		return r
	}
	wantBetter(t, "Sticky before Seq and Origin", at(true, 0, 4), at(false, impl.MaxTime, 1))
	wantBetter(t, "Sticky of one house", at(true, 3, 2), at(false, 3, 2))
	for _, sticky := range []bool{false, true} {
		wantBetter(t, "Seq before Origin", at(sticky, 1, 4), at(sticky, 0, 1))
		wantBetter(t, "the greatest Seq", at(sticky, impl.MaxTime, 4), at(sticky, impl.MaxTime-1, 1))
		wantBetter(t, "Seq of one house", at(sticky, 10, 2), at(sticky, 9, 2))
		wantBetter(t, "Origin last", at(sticky, 3, 3), at(sticky, 3, 4))
		wantNeitherBetter(t, "equal ones", at(sticky, 3, 3), at(sticky, 3, 3))
	}
	other := macRoute()
	other.Ip = impl.MaxIp
	wantNeitherBetter(t, "Ip does not count", macRoute(), other)
}

func TestBetterOfInvalidRoutes(t *testing.T) {
	// It would be preferred to all others if it were not for its invalid field.
	best := impl.Route{Kind: impl.RtMac, Vni: 5, Mac: 161, Ip: 11, Origin: 1, Seq: impl.MaxTime, Sticky: true}
	worst := impl.Route{Kind: impl.RtMac, Vni: 5, Mac: 161, Ip: 11, Origin: 4}
	wantBetter(t, "both valid", best, worst)
	for _, f := range macFields() {
		for _, n := range f.limits.out {
			a, b := best, worst
			f.set(&a, n)
			f.set(&b, n)
			what := fmt.Sprintf("%+v and %+v", a, b)
			wantNeitherBetter(t, what, a, b)
			wantNeitherBetter(t, what+", second valid", a, worst)
			wantNeitherBetter(t, what+", first valid", best, b)
		}
	}
	for _, kind := range append(badKinds, impl.RtRoom) {
		a, b := best, worst
		a.Kind, b.Kind = kind, kind
		what := fmt.Sprint("Kind ", kind)
		wantNeitherBetter(t, what, a, b)
		wantNeitherBetter(t, what+", second valid", a, worst)
		wantNeitherBetter(t, what+", first valid", best, b)
	}
	wantNeitherBetter(t, "zero routes", impl.Route{}, impl.Route{})
}

func TestBetterOfUnlikeRoutes(t *testing.T) {
	best := impl.Route{Kind: impl.RtMac, Vni: 5, Mac: 0, Origin: 1, Seq: 9, Sticky: true}
	worst := impl.Route{Kind: impl.RtMac, Vni: 5, Mac: 0, Origin: 2}
	room, guest := worst, worst
	room.Vni = 6
	guest.Mac = 1
	wantBetter(t, "of one guest", best, worst)
	wantNeitherBetter(t, "of two rooms", best, room)
	wantNeitherBetter(t, "of two guests", best, guest)
	wantNeitherBetter(t, "a guest and a room", best, impl.Route{Kind: impl.RtRoom, Vni: 5, Origin: 2})
	wantNeitherBetter(t, "two rooms", impl.Route{Kind: impl.RtRoom, Vni: 5, Origin: 1}, impl.Route{Kind: impl.RtRoom, Vni: 5, Origin: 2})
}

// routesOfOneGuest returns routes that differ in all that the preference could depend on.
func routesOfOneGuest() []impl.Route {
	var out []impl.Route
	for _, sticky := range []bool{false, true} {
		for _, seq := range []int64{0, 1, 9, 10, impl.MaxTime} {
			for origin := range int64(impl.MaxHouses) {
				for _, ip := range []int64{0, impl.MaxIp} {
					out = append(out, impl.Route{Kind: impl.RtMac, Vni: 5, Mac: 161, Ip: ip, Origin: origin + 1, Seq: seq, Sticky: sticky})
				}
			}
		}
	}
	return out
}

func TestPromise4ExactlyOneIsPreferred(t *testing.T) {
	for _, a := range routesOfOneGuest() {
		for _, b := range routesOfOneGuest() {
			what := fmt.Sprintf("%+v and %+v", a, b)
			if a.Origin != b.Origin {
				same(t, what, impl.Better(a, b), !impl.Better(b, a))
			} else if a.Seq == b.Seq && a.Sticky == b.Sticky {
				wantNeitherBetter(t, what, a, b)
			}
		}
	}
}

func TestPromise4PreferenceIsTransitive(t *testing.T) {
	routes := routesOfOneGuest()
	for _, a := range routes {
		for _, b := range routes {
			if !impl.Better(a, b) {
				continue
			}
			for _, c := range routes {
				if impl.Better(b, c) && !impl.Better(a, c) {
					t.Fatalf("%+v is better than %+v, and that than %+v, but the first not than the last", a, b, c)
				}
			}
		}
	}
}

func TestBestOfExample(t *testing.T) {
	first, second := macRoute(), macRoute()
	first.Origin = 1
	older := first
	older.Seq = 2
	sticky := older
	sticky.Sticky = true
	for _, l := range [][]impl.Route{{second, first, older}, {older, second, first}, {first, older, second}} {
		same(t, "the best of three", impl.BestOf(l, 5, 161), first)
		same(t, "the Sticky one behind them", impl.BestOf(append(l, sticky), 5, 161), sticky)
		same(t, "the Sticky one before them", impl.BestOf(append([]impl.Route{sticky}, l...), 5, 161), sticky)
	}
}

func TestBestOfNothing(t *testing.T) {
	same(t, "nil", impl.BestOf(nil, 5, 161), impl.Route{})
	same(t, "an empty list", impl.BestOf([]impl.Route{}, 5, 161), impl.Route{})
	l := []impl.Route{macRoute(), roomRoute()}
	same(t, "one guest", impl.BestOf(l, 5, 161), macRoute())
	same(t, "another room", impl.BestOf(l, 6, 161), impl.Route{})
	same(t, "another guest", impl.BestOf(l, 5, 162), impl.Route{})
	same(t, "rooms are no guests", impl.BestOf([]impl.Route{roomRoute()}, 5, 0), impl.Route{})
}

func TestBestOfInvalidGuest(t *testing.T) {
	for _, vni := range vnis.out {
		r := macRoute()
		r.Vni = vni
		same(t, fmt.Sprint("VNI ", vni), impl.BestOf([]impl.Route{r, macRoute()}, vni, 161), impl.Route{})
	}
	for _, mac := range singles.out {
		r := macRoute()
		r.Mac = mac
		same(t, fmt.Sprint("MAC address ", mac), impl.BestOf([]impl.Route{r, macRoute()}, 5, mac), impl.Route{})
	}
	same(t, "the zero guest", impl.BestOf([]impl.Route{{}, macRoute()}, 0, 0), impl.Route{})
}

func TestBestOfSkipsInvalidRoutes(t *testing.T) {
	best := impl.Route{Kind: impl.RtMac, Vni: 5, Mac: 161, Origin: 1, Seq: impl.MaxTime, Sticky: true}
	worst := impl.Route{Kind: impl.RtMac, Vni: 5, Mac: 161, Origin: 4}
	var wrong []impl.Route
	for _, f := range macFields() {
		for _, n := range f.limits.out {
			r := best
			f.set(&r, n)
			wrong = append(wrong, r)
		}
	}
	for _, kind := range append(badKinds, impl.RtRoom) {
		r := best
		r.Kind = kind
		wrong = append(wrong, r)
	}
	same(t, "only invalid ones", impl.BestOf(wrong, 5, 161), impl.Route{})
	for _, r := range wrong {
		what := fmt.Sprintf("%+v", r)
		same(t, what, impl.BestOf([]impl.Route{r}, 5, 161), impl.Route{})
		same(t, what+" before", impl.BestOf([]impl.Route{r, worst}, 5, 161), worst)
		same(t, what+" behind", impl.BestOf([]impl.Route{worst, r}, 5, 161), worst)
	}
	same(t, "the first of all", impl.BestOf(append([]impl.Route{worst}, wrong...), 5, 161), worst)
	same(t, "the last of all", impl.BestOf(append(wrong, worst), 5, 161), worst)
}

func TestBestOfLongLists(t *testing.T) {
	worst := impl.Route{Kind: impl.RtMac, Vni: 5, Mac: 161, Origin: 4}
	for _, best := range []impl.Route{macRoute(), worst} {
		full := slices.Repeat([]impl.Route{worst}, impl.MaxList)
		for _, at := range []int{0, 1, impl.MaxList / 2, impl.MaxList - 1} {
			l := slices.Clone(full)
			l[at] = best
			same(t, fmt.Sprint("MaxList, the best at ", at), impl.BestOf(l, 5, 161), best)
			same(t, fmt.Sprint("MaxList + 1, the best at ", at), impl.BestOf(append(l, best), 5, 161), impl.Route{})
			same(t, fmt.Sprint("many more, the best at ", at), impl.BestOf(append(l, l...), 5, 161), impl.Route{})
		}
	}
	others := make([]impl.Route, impl.MaxList+1)
	others[0] = macRoute()
	same(t, "invalid ones count", impl.BestOf(others, 5, 161), impl.Route{})
	same(t, "one less", impl.BestOf(others[:impl.MaxList], 5, 161), macRoute())
}

func TestBestOfEqualRoutes(t *testing.T) {
	for origin := range int64(impl.MaxHouses) {
		for _, sticky := range []bool{false, true} {
			var l []impl.Route
			for ip := range int64(9) {
				r := macRoute()
				r.Ip, r.Origin, r.Sticky = 100-ip, origin+1, sticky
				l = append(l, r)
			}
			for i := range l {
				same(t, "the first of equally good ones", impl.BestOf(l[i:], 5, 161), l[i])
			}
			same(t, "twice the same", impl.BestOf([]impl.Route{l[3], l[3]}, 5, 161), l[3])
		}
	}
}

// preferred compares valid routes of one guest by the document's rules, put into one number.
func preferred(a impl.Route, b impl.Route) bool {
	rank := func(r impl.Route) int64 {
		n := r.Seq*10 - r.Origin
		if r.Sticky {
			n += 100 * impl.MaxTime
		}
		return n
	}
	return rank(a) > rank(b)
}

// bestByRule returns the first route than which no other one is preferred, as the document words it.
func bestByRule(l []impl.Route, vni int64, mac int64) impl.Route {
	var own []impl.Route
	for _, r := range l {
		if impl.RouteRight(r) && r.Kind == impl.RtMac && r.Vni == vni && r.Mac == mac {
			own = append(own, r)
		}
	}
	for _, r := range own {
		if !slices.ContainsFunc(own, func(other impl.Route) bool { return preferred(other, r) }) {
			return r
		}
	}
	return impl.Route{}
}

// randomRoute returns a route of one of a few guests and rooms, and sometimes an invalid one.
func randomRoute(random *rand.Rand) impl.Route {
	return impl.Route{
		Kind:   impl.RtMac + random.Int63n(8)/7,
		Vni:    5 + random.Int63n(2),
		Mac:    random.Int63n(2),
		Ip:     random.Int63n(1000),
		Origin: random.Int63n(impl.MaxHouses + 2),
		Seq:    random.Int63n(6) - 1,
		Sticky: random.Intn(20) == 0,
	}
}

func TestBestOfRandomLists(t *testing.T) {
	random := rand.New(rand.NewSource(32))
	for range 5000 {
		l := make([]impl.Route, random.Intn(40))
		for i := range l {
			l[i] = randomRoute(random)
		}
		for _, vni := range []int64{5, 6, 7} {
			for _, mac := range []int64{0, 1, 2} {
				want := bestByRule(l, vni, mac)
				if got := impl.BestOf(l, vni, mac); got != want {
					t.Fatalf("%+v: room %d, guest %d: got %+v, want %+v", l, vni, mac, got, want)
				}
			}
		}
	}
}

func TestBestOfLeavesItsArgument(t *testing.T) {
	random := rand.New(rand.NewSource(33))
	for _, size := range []int{1, 2, 40, impl.MaxList, impl.MaxList + 1} {
		// Elements behind the length are not to be written either.
		all := make([]impl.Route, size+8)
		for i := range all {
			all[i] = randomRoute(random)
		}
		before := slices.Clone(all)
		best := impl.BestOf(all[:size], 5, 0)
		if !slices.Equal(all, before) {
			t.Errorf("a list of %d is changed", size)
		}
		same(t, fmt.Sprint("the same again, of ", size), impl.BestOf(all[:size], 5, 0), best)
	}
}
