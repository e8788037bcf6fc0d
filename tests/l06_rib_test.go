package tests

import (
	"fmt"
	"maps"
	"math"
	"math/rand"
	"slices"
	"testing"

	"loop.example/g00667/impl"
)

// peers are the numbers of peers, and others, also such as are near if only some of their bits are considered.
var peers = inAndOut{
	in:  []int64{1, 2, 3, 4, 5, 6, 7, 8, 9},
	out: []int64{0, 10, -1, -9, 11, 16, 1 + 1<<8, 9 + 1<<32, math.MinInt64, math.MaxInt64},
}

func held(peer int64, r impl.Route) impl.Held {
	return impl.Held{Peer: peer, Route: r}
}

func marked(h impl.Held) impl.Held {
	h.Stale = true
	return h
}

// guestRoute is a route of a guest in room 5, with an Ip and a Seq other than zero.
func guestRoute(mac int64, origin int64) impl.Route {
	return impl.Route{Kind: impl.RtMac, Vni: 5, Mac: mac, Ip: 1000 + mac%1000, Origin: origin, Seq: 1 + mac%7, Sticky: mac%2 == 1}
}

func roomAt(vni int64, origin int64) impl.Route {
	return impl.Route{Kind: impl.RtRoom, Vni: vni, Origin: origin}
}

// manyHeld returns 540 entries in the order of a table, 60 of each peer.
func manyHeld() []impl.Held {
	var out []impl.Held
	for _, peer := range peers.in {
		for vni := int64(5); vni <= 6; vni++ {
			for mac := int64(161); mac < 169; mac++ {
				for origin := int64(1); origin <= 3; origin++ {
					r := guestRoute(mac, origin)
					r.Vni = vni
					out = append(out, impl.Held{Peer: peer, Stale: (mac+origin)%3 == 0, Route: r})
				}
			}
		}
		for vni := int64(5); vni <= 7; vni++ {
			for origin := int64(1); origin <= impl.MaxHouses; origin++ {
				out = append(out, impl.Held{Peer: peer, Stale: origin == 3, Route: roomAt(vni, origin)})
			}
		}
	}
	return out
}

// ribOf returns n entries of all peers, Stale ones and others of both kinds, in the order of a table.
func ribOf(n int) []impl.Held {
	all := manyHeld()
	var out []impl.Held
	for i := range n {
		out = append(out, all[i*len(all)/n])
	}
	return out
}

// smallRib is a table of three peers: the first and the last have the same keys, and the second has others.
func smallRib() []impl.Held {
	return []impl.Held{
		held(1, guestRoute(161, 2)),
		marked(held(1, guestRoute(162, 2))),
		held(1, roomAt(5, 2)),
		marked(held(1, roomAt(6, 3))),
		held(4, guestRoute(161, 3)),
		held(4, roomAt(5, 3)),
		marked(held(9, guestRoute(161, 2))),
		held(9, guestRoute(162, 2)),
		held(9, roomAt(5, 2)),
		marked(held(9, roomAt(6, 3))),
	}
}

func ribError(code int64) impl.RibOut {
	return impl.RibOut{Code: code}
}

func sameRibs(a impl.RibOut, b impl.RibOut) bool {
	return slices.Equal(a.Rib, b.Rib) && slices.Equal(a.Gone, b.Gone) && a.Code == b.Code
}

func wantRib(t *testing.T, what string, got impl.RibOut, want impl.RibOut) {
	t.Helper()
	if !sameRibs(got, want) {
		t.Errorf("%s: got %+v, want %+v", what, got, want)
	}
}

func wantList[T comparable](t *testing.T, what string, got []T, want []T) {
	t.Helper()
	if !slices.Equal(got, want) {
		t.Errorf("%s: got %+v, want %+v", what, got, want)
	}
}

// placeNums returns the numbers by which the entries of a table increase.
func placeNums(h impl.Held) []int64 {
	return []int64{h.Peer, h.Route.Kind, h.Route.Vni, h.Route.Mac, h.Route.Origin}
}

// sortedRib brings entries into the order of a table.
func sortedRib(l []impl.Held) []impl.Held {
	slices.SortFunc(l, func(a impl.Held, b impl.Held) int { return slices.Compare(placeNums(a), placeNums(b)) })
	return l
}

func samePlace(a impl.Held, b impl.Held) bool {
	return slices.Equal(placeNums(a), placeNums(b))
}

func without(l []impl.Held, drop func(h impl.Held) bool) ([]impl.Held, []impl.Route) {
	var rest []impl.Held
	var gone []impl.Route
	for _, h := range l {
		if drop(h) {
			gone = append(gone, h.Route)
		} else {
			rest = append(rest, h)
		}
	}
	return rest, gone
}

// ribPutByRule returns what the document says of RibPut, for valid arguments.
func ribPutByRule(l []impl.Held, peer int64, r impl.Route) impl.RibOut {
	rest, _ := without(l, func(h impl.Held) bool { return samePlace(h, held(peer, r)) })
	if len(rest) == 60 {
		return ribError(impl.ErrFull)
	}
	rest = append(rest, held(peer, r))
	return impl.RibOut{Rib: sortedRib(rest)}
}

// ribTakeByRule returns what the document says of RibTake, for valid arguments.
func ribTakeByRule(l []impl.Held, peer int64, key impl.Route) impl.RibOut {
	rest, gone := without(l, func(h impl.Held) bool { return samePlace(h, held(peer, key)) })
	if len(gone) == 0 {
		return ribError(impl.ErrNone)
	}
	return impl.RibOut{Rib: rest, Gone: gone}
}

// ribStaleByRule returns what the document says of RibStale, for valid arguments.
func ribStaleByRule(l []impl.Held, peer int64) impl.RibOut {
	out := slices.Clone(l)
	for i := range out {
		if out[i].Peer == peer {
			out[i].Stale = true
		}
	}
	return impl.RibOut{Rib: out}
}

// ribSweepByRule returns what the document says of RibSweep, for valid arguments.
func ribSweepByRule(l []impl.Held, peer int64) impl.RibOut {
	rest, gone := without(l, func(h impl.Held) bool { return h.Peer == peer && h.Stale })
	return impl.RibOut{Rib: rest, Gone: gone}
}

func routesByRule(l []impl.Held) []impl.Route {
	_, all := without(l, func(impl.Held) bool { return true })
	return all
}

// roomsByRule returns what the document says of RoomsOf, for valid arguments.
func roomsByRule(l []impl.Held, vni int64, but int64) []int64 {
	var out []int64
	for origin := int64(1); origin <= 4; origin++ {
		if origin != but && slices.Contains(routesByRule(l), roomAt(vni, origin)) {
			out = append(out, origin)
		}
	}
	return out
}

// probes are routes of both kinds, some of which are in the tables.
func probes() []impl.Route {
	return []impl.Route{guestRoute(161, 2), guestRoute(162, 2), guestRoute(160, 1), guestRoute(lastSingleMac, 4), roomAt(5, 2), roomAt(6, 3), roomAt(7, 4), roomAt(1, 1), roomAt(impl.MaxVni, 4)}
}

// wantRightRib checks a table with all functions that tell a valid table from others.
func wantRightRib(t *testing.T, what string, l []impl.Held) {
	t.Helper()
	same(t, "RibRight of "+what, impl.RibRight(l), true)
	for _, peer := range peers.in {
		what := fmt.Sprint(what, ", peer ", peer)
		for _, r := range probes() {
			wantRib(t, fmt.Sprintf("RibPut: %s, %+v", what, r), impl.RibPut(l, peer, r), ribPutByRule(l, peer, r))
			wantRib(t, fmt.Sprintf("RibTake: %s, %+v", what, r), impl.RibTake(l, peer, r), ribTakeByRule(l, peer, r))
		}
		wantRib(t, "RibStale: "+what, impl.RibStale(l, peer), ribStaleByRule(l, peer))
		wantRib(t, "RibSweep: "+what, impl.RibSweep(l, peer), ribSweepByRule(l, peer))
	}
	wantList(t, "RoutesOf "+what, impl.RoutesOf(l), routesByRule(l))
	for _, vni := range []int64{1, 4, 5, 6, 7, 8, impl.MaxVni} {
		for but := range int64(6) {
			wantList(t, fmt.Sprint("RoomsOf ", what, ", room ", vni, " but ", but), impl.RoomsOf(l, vni, but), roomsByRule(l, vni, but))
		}
	}
}

// wantRibCode checks that all functions with a code return this one, whatever the route is.
func wantRibCode(t *testing.T, what string, l []impl.Held, peer int64, code int64) {
	t.Helper()
	for _, r := range append(probes(), impl.Route{}, impl.Route{Kind: impl.RtRoom, Vni: 5, Origin: 5}) {
		wantRib(t, fmt.Sprintf("RibPut: %s, %+v", what, r), impl.RibPut(l, peer, r), ribError(code))
		wantRib(t, fmt.Sprintf("RibTake: %s, %+v", what, r), impl.RibTake(l, peer, r), ribError(code))
	}
	wantRib(t, "RibStale: "+what, impl.RibStale(l, peer), ribError(code))
	wantRib(t, "RibSweep: "+what, impl.RibSweep(l, peer), ribError(code))
}

func wantWrongRib(t *testing.T, what string, l []impl.Held) {
	t.Helper()
	same(t, "RibRight of "+what, impl.RibRight(l), false)
	code := int64(impl.ErrForm)
	if len(l) > impl.MaxList {
		code = impl.ErrSize
	}
	for _, peer := range []int64{0, 1, 4, 9, 10} {
		wantRibCode(t, fmt.Sprint(what, ", peer ", peer), l, peer, code)
	}
	wantList(t, "RoutesOf "+what, impl.RoutesOf(l), nil)
	for _, vni := range []int64{0, 5, 6} {
		for but := range int64(5) {
			wantList(t, fmt.Sprint("RoomsOf ", what, ", room ", vni, " but ", but), impl.RoomsOf(l, vni, but), nil)
		}
	}
}

func TestRibLimit(t *testing.T) {
	same(t, "MaxHeld", impl.MaxHeld, 60)
}

func TestRibSizes(t *testing.T) {
	wantRightRib(t, "nil", nil)
	wantRightRib(t, "an empty table", []impl.Held{})
	wantRightRib(t, "a small table", smallRib())
	for n := range impl.MaxHeld + 1 {
		wantRightRib(t, fmt.Sprint("a table of ", n), ribOf(n))
	}
	wantRightRib(t, "a table of one peer", manyHeld()[:impl.MaxHeld])
	for _, n := range []int{impl.MaxHeld + 1, impl.MaxHeld + 2, 100, 256, 316, impl.MaxList - 1, impl.MaxList, impl.MaxList + 1, 540} {
		wantWrongRib(t, fmt.Sprint("a table of ", n), ribOf(n))
		wantWrongRib(t, fmt.Sprint("nothing but zeros, as many as ", n), make([]impl.Held, n))
		wantWrongRib(t, fmt.Sprint("one entry, as often as ", n), slices.Repeat(smallRib()[:1], n))
	}
}

func TestRibPeers(t *testing.T) {
	for _, peer := range peers.in {
		for _, r := range []impl.Route{macRoute(), roomRoute()} {
			wantRightRib(t, fmt.Sprint("one entry of peer ", peer), []impl.Held{held(peer, r)})
			wantRightRib(t, fmt.Sprint("one Stale entry of peer ", peer), []impl.Held{marked(held(peer, r))})
		}
	}
	for _, peer := range peers.out {
		wrong := held(peer, macRoute())
		wantWrongRib(t, fmt.Sprint("one entry of peer ", peer), []impl.Held{wrong})
		wantWrongRib(t, fmt.Sprint("one Stale entry of peer ", peer), []impl.Held{marked(wrong)})
		// One of these two is in order.
		wantWrongRib(t, fmt.Sprint("first an entry of peer ", peer), append([]impl.Held{wrong}, smallRib()...))
		wantWrongRib(t, fmt.Sprint("last an entry of peer ", peer), append(smallRib(), wrong))
	}
}

func TestRibPeerArguments(t *testing.T) {
	for _, peer := range peers.out {
		for _, n := range []int{0, 1, 10, impl.MaxHeld} {
			wantRibCode(t, fmt.Sprint("a table of ", n, ", peer ", peer), ribOf(n), peer, impl.ErrForm)
		}
		wantRibCode(t, fmt.Sprint("a long table, peer ", peer), ribOf(impl.MaxList+1), peer, impl.ErrSize)
	}
}

func TestRibRoutes(t *testing.T) {
	for _, r := range someRoutes() {
		l := []impl.Held{held(5, r)}
		what := fmt.Sprintf("%+v", r)
		same(t, "RibRight of "+what, impl.RibRight(l), true)
		wantRib(t, "RibPut of "+what, impl.RibPut(nil, 5, r), impl.RibOut{Rib: l})
		wantRib(t, "RibTake of "+what, impl.RibTake(l, 5, r), impl.RibOut{Gone: []impl.Route{r}})
		wantList(t, "RoutesOf "+what, impl.RoutesOf(l), []impl.Route{r})
	}
	for _, r := range wrongRoutes() {
		what := fmt.Sprintf("%+v", r)
		wantWrongRib(t, what, []impl.Held{held(5, r)})
		wantWrongRib(t, what+" first", append([]impl.Held{held(1, r)}, held(2, macRoute())))
		wantWrongRib(t, what+" last", append(smallRib()[:6], held(9, r)))
		for _, n := range []int{0, 1, 10, impl.MaxHeld} {
			what := fmt.Sprint(what, " and a table of ", n)
			wantRib(t, "RibPut: "+what, impl.RibPut(ribOf(n), 5, r), ribError(impl.ErrForm))
			wantRib(t, "RibTake: "+what, impl.RibTake(ribOf(n), 5, r), ribError(impl.ErrForm))
		}
	}
}

func TestRibWithAWrongEntryInEachPlace(t *testing.T) {
	wrong := []func(h *impl.Held){
		func(h *impl.Held) { h.Route.Seq = impl.MaxTime + 1 },
		func(h *impl.Held) { h.Route.Ip = -1 },
		func(h *impl.Held) { h.Route = impl.Route{} },
		func(h *impl.Held) { *h = impl.Held{} },
	}
	for _, n := range []int{1, 2, 3, 10, impl.MaxHeld} {
		for at := range n {
			for i, change := range wrong {
				l := ribOf(n)
				change(&l[at])
				same(t, fmt.Sprint("RibRight with change ", i, " at ", at, " of ", n), impl.RibRight(l), false)
				wantRib(t, "RibPut", impl.RibPut(l, 5, macRoute()), ribError(impl.ErrForm))
				wantRib(t, "RibTake", impl.RibTake(l, 5, macRoute()), ribError(impl.ErrForm))
				wantRib(t, "RibStale", impl.RibStale(l, 5), ribError(impl.ErrForm))
				wantRib(t, "RibSweep", impl.RibSweep(l, 5), ribError(impl.ErrForm))
				wantList(t, "RoutesOf", impl.RoutesOf(l), nil)
				wantList(t, "RoomsOf", impl.RoomsOf(l, 5, 0), nil)
			}
		}
	}
}

func TestRibOrderOfEachField(t *testing.T) {
	const m, r = impl.RtMac, impl.RtRoom
	// In the second pair for a field, all fields behind it decrease.
	for what, pairs := range map[string][][2][5]int64{
		"Peer": {
			{{3, m, 5, 161, 2}, {4, m, 5, 161, 2}},
			{{3, r, 6, 0, 3}, {4, m, 5, 161, 2}},
		},
		"Kind": {
			{{3, m, 5, 0, 2}, {3, r, 5, 0, 2}},
			{{3, m, 6, 162, 3}, {3, r, 5, 0, 2}},
		},
		"Vni": {
			{{3, m, 5, 161, 2}, {3, m, 6, 161, 2}},
			{{3, m, 5, 162, 3}, {3, m, 6, 161, 2}},
		},
		"Vni of rooms": {
			{{3, r, 5, 0, 2}, {3, r, 6, 0, 2}},
			{{3, r, 5, 0, 3}, {3, r, 6, 0, 2}},
		},
		"Mac": {
			{{3, m, 5, 161, 2}, {3, m, 5, 162, 2}},
			{{3, m, 5, 161, 3}, {3, m, 5, 162, 2}},
			{{3, m, 5, 161, 2}, {3, m, 5, 1 << 32, 2}},
			{{3, m, 5, 0, 3}, {3, m, 5, lastSingleMac, 2}},
		},
		"Origin":          {{{3, m, 5, 161, 2}, {3, m, 5, 161, 3}}},
		"Origin of rooms": {{{3, r, 5, 0, 2}, {3, r, 5, 0, 3}}},
	} {
		for i, pair := range pairs {
			wantOrder(t, fmt.Sprint(what, ", pair ", i), heldOf(pair[0]), heldOf(pair[1]))
		}
	}
}

// heldOf returns an entry with the numbers by which a table increases, and all else zero.
func heldOf(nums [5]int64) impl.Held {
	return held(nums[0], impl.Route{Kind: nums[1], Vni: nums[2], Mac: nums[3], Origin: nums[4]})
}

// wantOrder checks that two entries are in a table only in this order.
func wantOrder(t *testing.T, what string, a impl.Held, b impl.Held) {
	t.Helper()
	for _, pair := range [][2]impl.Held{{a, b}, {marked(a), b}, {a, marked(b)}} {
		a, b := pair[0], pair[1]
		wantRightRib(t, what, []impl.Held{a, b})
		wantWrongRib(t, what+", the other way round", []impl.Held{b, a})
		wantWrongRib(t, what+", first twice", []impl.Held{a, a, b})
		wantWrongRib(t, what+", last twice", []impl.Held{a, b, b})
		wantWrongRib(t, what+", first also last", []impl.Held{a, b, a})
	}
	both := []impl.Held{a, b}
	wantRib(t, what+", the first one stored last", impl.RibPut([]impl.Held{b}, a.Peer, a.Route), impl.RibOut{Rib: both})
	wantRib(t, what+", the last one stored last", impl.RibPut([]impl.Held{a}, b.Peer, b.Route), impl.RibOut{Rib: both})
}

func TestRibNotInOrder(t *testing.T) {
	for _, n := range []int{2, 3, 10, impl.MaxHeld} {
		for at := range n - 1 {
			l := ribOf(n)
			l[at], l[at+1] = l[at+1], l[at]
			wantWrongRib(t, fmt.Sprint("entry ", at, " of ", n, " behind the next one"), l)
		}
		for at := range n {
			l := ribOf(n)
			l[n-1-at] = l[at]
			if 2*at+1 != n {
				wantWrongRib(t, fmt.Sprint("entry ", at, " of ", n, " twice"), l)
			}
		}
	}
}

func TestRibWithAnEntryTwice(t *testing.T) {
	h := held(3, macRoute())
	others := []impl.Held{h, marked(h), h, h, h}
	others[2].Route.Ip++
	others[3].Route.Seq++
	others[4].Route.Sticky = true
	for _, other := range others {
		wantWrongRib(t, fmt.Sprintf("%+v and %+v", h, other), []impl.Held{h, other})
		wantWrongRib(t, fmt.Sprintf("%+v and %+v", other, h), []impl.Held{other, h})
	}
	room := held(3, roomRoute())
	wantWrongRib(t, "a room twice", []impl.Held{room, room})
	wantWrongRib(t, "a room twice, once Stale", []impl.Held{room, marked(room)})
	wantRightRib(t, "a room of two peers", []impl.Held{room, held(4, roomRoute())})
}

func TestRibPutOfANewKey(t *testing.T) {
	for _, n := range []int{1, 2, 3, 10, impl.MaxHeld - 1, impl.MaxHeld} {
		for at := range n {
			l := ribOf(n)
			h := l[at]
			l[at].Stale = false
			rest := slices.Delete(slices.Clone(l), at, at+1)
			wantRib(t, fmt.Sprint("the entry at ", at, " of ", n), impl.RibPut(rest, h.Peer, h.Route), impl.RibOut{Rib: l})
		}
	}
	l := smallRib()
	first, middle, last := guestRoute(160, 4), guestRoute(161, 4), roomAt(6, 4)
	wantRib(t, "at the front", impl.RibPut(l, 1, first), impl.RibOut{Rib: slices.Insert(smallRib(), 0, held(1, first))})
	wantRib(t, "in the middle", impl.RibPut(l, 4, middle), impl.RibOut{Rib: slices.Insert(smallRib(), 5, held(4, middle))})
	wantRib(t, "at the end", impl.RibPut(l, 9, last), impl.RibOut{Rib: append(smallRib(), held(9, last))})
	wantRib(t, "of a peer without entries", impl.RibPut(l, 5, last), impl.RibOut{Rib: slices.Insert(smallRib(), 6, held(5, last))})
	wantRib(t, "the first of all", impl.RibPut(nil, 9, last), impl.RibOut{Rib: []impl.Held{held(9, last)}})
}

// renewed returns the route with another content under the same key; a room has no content.
func renewed(r impl.Route) impl.Route {
	if r.Kind == impl.RtMac {
		r.Ip, r.Seq, r.Sticky = 77, r.Seq+5, !r.Sticky
	}
	return r
}

func TestRibPutOfAKeyThatIsThere(t *testing.T) {
	for _, n := range []int{1, 2, 10, impl.MaxHeld - 1, impl.MaxHeld} {
		for at := range n {
			for _, stale := range []bool{false, true} {
				l := ribOf(n)
				l[at].Stale = stale
				h := l[at]
				for _, r := range []impl.Route{h.Route, renewed(h.Route), impl.KeyOf(h.Route)} {
					want := slices.Clone(l)
					want[at] = held(h.Peer, r)
					wantRib(t, fmt.Sprintf("%+v for %+v at %d of %d", r, h, at, n), impl.RibPut(l, h.Peer, r), impl.RibOut{Rib: want})
				}
			}
		}
	}
}

func TestRibPutOfAWorseRoute(t *testing.T) {
	better := impl.Route{Kind: impl.RtMac, Vni: 5, Mac: 161, Ip: 1, Origin: 2, Seq: 9, Sticky: true}
	worse := impl.Route{Kind: impl.RtMac, Vni: 5, Mac: 161, Ip: 2, Origin: 2, Seq: 8}
	for _, l := range [][]impl.Held{{held(3, better)}, {marked(held(3, better))}} {
		wantRib(t, "a worse route replaces a better one", impl.RibPut(l, 3, worse), impl.RibOut{Rib: []impl.Held{held(3, worse)}})
	}
	other := better
	other.Origin = 3
	wantRib(t, "one of another house does not", impl.RibPut([]impl.Held{held(3, worse)}, 3, other), impl.RibOut{Rib: []impl.Held{held(3, worse), held(3, other)}})
}

func TestRibPutInAFullTable(t *testing.T) {
	l := ribOf(impl.MaxHeld)
	for _, peer := range peers.in {
		for _, r := range []impl.Route{guestRoute(1, 1), guestRoute(169, 4), roomAt(1, 1), roomAt(8, 4)} {
			wantRib(t, fmt.Sprintf("peer %d, %+v", peer, r), impl.RibPut(l, peer, r), ribError(impl.ErrFull))
			wantRib(t, fmt.Sprintf("peer %d, %+v, one entry less", peer, r), impl.RibPut(l[1:], peer, r), ribPutByRule(l[1:], peer, r))
			same(t, "one entry less, then full", len(impl.RibPut(l[1:], peer, r).Rib), impl.MaxHeld)
		}
	}
	own := manyHeld()[:impl.MaxHeld]
	wantRib(t, "a key that only another peer has", impl.RibPut(own, 2, own[0].Route), ribError(impl.ErrFull))
	// A full table is none of the first errors.
	wantRib(t, "a wrong route", impl.RibPut(l, 1, impl.Route{}), ribError(impl.ErrForm))
	wantRib(t, "a wrong peer", impl.RibPut(l, 10, roomAt(8, 4)), ribError(impl.ErrForm))
}

func TestRibPutOfAKeyOfAnotherPeer(t *testing.T) {
	for _, h := range smallRib() {
		for _, peer := range peers.in {
			l := []impl.Held{h}
			if peer == h.Peer {
				continue
			}
			for _, r := range []impl.Route{h.Route, renewed(h.Route)} {
				want := []impl.Held{h, held(peer, r)}
				if peer < h.Peer {
					slices.Reverse(want)
				}
				wantRib(t, fmt.Sprintf("%+v and the same of peer %d", h, peer), impl.RibPut(l, peer, r), impl.RibOut{Rib: want})
			}
		}
	}
}

func TestRibTakeOfAKeyThatIsThere(t *testing.T) {
	for _, n := range []int{1, 2, 3, 10, impl.MaxHeld} {
		for at := range n {
			l := ribOf(n)
			h := l[at]
			want := impl.RibOut{Rib: slices.Delete(ribOf(n), at, at+1), Gone: []impl.Route{h.Route}}
			for _, key := range []impl.Route{h.Route, impl.KeyOf(h.Route), renewed(h.Route)} {
				wantRib(t, fmt.Sprintf("%+v with the key %+v", h, key), impl.RibTake(l, h.Peer, key), want)
			}
		}
	}
}

func TestRibTakeByKeyAlone(t *testing.T) {
	h := held(3, macRoute())
	keys := []impl.Route{h.Route, h.Route, h.Route, h.Route}
	keys[0].Ip, keys[1].Seq, keys[2].Sticky = 0, impl.MaxTime, true
	keys[3].Ip = impl.MaxIp
	for _, key := range keys {
		for _, h := range []impl.Held{h, marked(h)} {
			wantRib(t, fmt.Sprintf("%+v with the key %+v", h, key), impl.RibTake([]impl.Held{h}, 3, key), impl.RibOut{Gone: []impl.Route{h.Route}})
		}
	}
	// The key is there, but what is passed as key is no route.
	wrong := []impl.Route{h.Route, h.Route, h.Route, h.Route}
	wrong[0].Ip, wrong[1].Ip, wrong[2].Seq, wrong[3].Seq = -1, impl.MaxIp+1, -1, impl.MaxTime+1
	for _, key := range wrong {
		wantRib(t, fmt.Sprintf("the key %+v", key), impl.RibTake([]impl.Held{h}, 3, key), ribError(impl.ErrForm))
	}
	sticky := roomRoute()
	sticky.Sticky = true
	wantRib(t, "a room that is Sticky", impl.RibTake([]impl.Held{held(3, roomRoute())}, 3, sticky), ribError(impl.ErrForm))
}

func TestRibTakeOfAKeyThatIsNotThere(t *testing.T) {
	h := held(3, macRoute())
	keys := []impl.Route{h.Route, h.Route, h.Route, {Kind: impl.RtRoom, Vni: h.Route.Vni, Origin: h.Route.Origin}}
	keys[0].Vni++
	keys[1].Mac++
	keys[2].Origin++
	for _, key := range keys {
		wantRib(t, fmt.Sprintf("the key %+v", key), impl.RibTake([]impl.Held{h}, 3, key), ribError(impl.ErrNone))
		wantRib(t, fmt.Sprintf("the key %+v of an empty table", key), impl.RibTake(nil, 3, key), ribError(impl.ErrNone))
	}
	for _, peer := range peers.in {
		if peer != 3 {
			wantRib(t, fmt.Sprint("of peer 3, taken by ", peer), impl.RibTake([]impl.Held{h}, peer, h.Route), ribError(impl.ErrNone))
		}
	}
	full := ribOf(impl.MaxHeld)
	wantRib(t, "not in a full table", impl.RibTake(full, 5, guestRoute(1, 1)), ribError(impl.ErrNone))
	wantRib(t, "a wrong route in an empty table", impl.RibTake(nil, 3, impl.Route{}), ribError(impl.ErrForm))
	wantRib(t, "a wrong peer in an empty table", impl.RibTake(nil, 0, h.Route), ribError(impl.ErrForm))
}

// markedAs returns a small table in which the entries of a peer are Stale as the bits of a mask say.
func markedAs(peer int64, mask int) []impl.Held {
	l := smallRib()
	bit := 0
	for i := range l {
		if l[i].Peer == peer {
			l[i].Stale = mask>>bit&1 == 1
			bit++
		}
	}
	return l
}

func TestRibStaleAndSweepOfEachSubset(t *testing.T) {
	for _, peer := range []int64{1, 4, 9} {
		for mask := range 16 {
			l := markedAs(peer, mask)
			what := fmt.Sprint("peer ", peer, ", Stale as ", mask)
			wantRib(t, "RibStale: "+what, impl.RibStale(l, peer), impl.RibOut{Rib: markedAs(peer, 15)})
			wantRib(t, "RibSweep: "+what, impl.RibSweep(l, peer), ribSweepByRule(l, peer))
		}
	}
}

func TestRibStaleAndSweep(t *testing.T) {
	l := smallRib()
	wantRib(t, "RibSweep of some", impl.RibSweep(l, 1), impl.RibOut{
		Rib:  slices.Concat(l[:1], l[2:3], l[4:]),
		Gone: []impl.Route{l[1].Route, l[3].Route},
	})
	wantRib(t, "RibSweep of none", impl.RibSweep(l, 4), impl.RibOut{Rib: l})
	wantRib(t, "RibSweep of all", impl.RibSweep(markedAs(9, 15), 9), impl.RibOut{
		Rib:  l[:6],
		Gone: []impl.Route{l[6].Route, l[7].Route, l[8].Route, l[9].Route},
	})
	for _, peer := range []int64{2, 3, 5, 8} {
		wantRib(t, fmt.Sprint("RibStale of a peer without entries: ", peer), impl.RibStale(l, peer), impl.RibOut{Rib: l})
		wantRib(t, fmt.Sprint("RibSweep of a peer without entries: ", peer), impl.RibSweep(l, peer), impl.RibOut{Rib: l})
		wantRib(t, "RibStale of an empty table", impl.RibStale(nil, peer), impl.RibOut{})
		wantRib(t, "RibSweep of an empty table", impl.RibSweep(nil, peer), impl.RibOut{})
	}
	own := manyHeld()[60:120]
	all := impl.RibStale(own, 2).Rib
	wantRib(t, "RibSweep of a full table", impl.RibSweep(all, 2), impl.RibOut{Gone: routesByRule(own)})
	wantRib(t, "RibSweep of a full table by another peer", impl.RibSweep(all, 1), impl.RibOut{Rib: all})
}

func TestRoomsOf(t *testing.T) {
	l := []impl.Held{
		held(1, roomAt(5, 2)),
		held(1, roomAt(5, 4)),
		held(1, roomAt(6, 3)),
		held(2, guestRoute(161, 3)),
		held(2, roomAt(5, 1)),
		marked(held(2, roomAt(5, 2))),
		held(9, roomAt(5, 1)),
		held(9, roomAt(5, 2)),
		marked(held(9, roomAt(7, 1))),
	}
	wantRightRib(t, "rooms of several peers", l)
	wantList(t, "each once, in order", impl.RoomsOf(l, 5, 3), []int64{1, 2, 4})
	wantList(t, "without the first", impl.RoomsOf(l, 5, 1), []int64{2, 4})
	wantList(t, "without one that several announced", impl.RoomsOf(l, 5, 2), []int64{1, 4})
	wantList(t, "without the last", impl.RoomsOf(l, 5, 4), []int64{1, 2})
	for _, but := range []int64{0, 3, 5, -1, -2, 2 + 1<<32, math.MinInt64, math.MaxInt64} {
		wantList(t, fmt.Sprint("but ", but), impl.RoomsOf(l, 5, but), []int64{1, 2, 4})
	}
	wantList(t, "one house", impl.RoomsOf(l, 6, 1), []int64{3})
	wantList(t, "one house, and but that", impl.RoomsOf(l, 6, 3), nil)
	wantList(t, "a house that is Stale", impl.RoomsOf(l, 7, 2), []int64{1})
	wantList(t, "a room that no house has", impl.RoomsOf(l, 8, 0), nil)
	for _, vni := range vnis.out {
		wantList(t, fmt.Sprint("room ", vni), impl.RoomsOf(l, vni, 0), nil)
		wantList(t, fmt.Sprint("room ", vni, " of a wrong table"), impl.RoomsOf([]impl.Held{held(1, roomAt(vni, 2))}, vni, 0), nil)
	}
	for _, vni := range vnis.in {
		wantList(t, fmt.Sprint("room ", vni), impl.RoomsOf([]impl.Held{held(1, roomAt(vni, 2))}, vni, 0), []int64{2})
	}
	guest := held(1, guestRoute(0, 2))
	wantList(t, "guests are no rooms", impl.RoomsOf([]impl.Held{guest}, 5, 0), nil)
}

func TestRoutesOf(t *testing.T) {
	r, q := guestRoute(161, 2), roomAt(5, 2)
	l := []impl.Held{held(1, r), held(1, q), marked(held(2, renewed(r))), held(2, q)}
	wantList(t, "a route as often as it is stored", impl.RoutesOf(l), []impl.Route{r, q, renewed(r), q})
	wantList(t, "of an empty table", impl.RoutesOf([]impl.Held{}), nil)
}

func TestRibExample(t *testing.T) {
	r, q := guestRoute(161, 2), roomAt(5, 2)
	for _, again := range []impl.Route{r, q} {
		l := impl.RibPut(impl.RibPut(nil, 1, q).Rib, 1, r).Rib
		wantList(t, "two routes", l, []impl.Held{held(1, r), held(1, q)})
		l = impl.RibStale(l, 1).Rib
		wantList(t, "both are Stale", l, []impl.Held{marked(held(1, r)), marked(held(1, q))})
		l = impl.RibPut(l, 1, again).Rib
		other := r
		if again == r {
			other = q
		}
		wantRib(t, "only the other one is removed", impl.RibSweep(l, 1), impl.RibOut{Rib: []impl.Held{held(1, again)}, Gone: []impl.Route{other}})
	}
}

func TestPromise8AfterARestart(t *testing.T) {
	for _, peer := range []int64{1, 4, 9} {
		others, own := without(smallRib(), func(h impl.Held) bool { return h.Peer == peer })
		for mask := range 1 << len(own) {
			l := impl.RibStale(smallRib(), peer).Rib
			var kept []impl.Held
			var gone []impl.Route
			for i := range own {
				if mask>>i&1 == 1 {
					kept = append(kept, held(peer, renewed(own[i])))
				} else {
					gone = append(gone, own[i])
				}
			}
			for _, h := range slices.Backward(kept) {
				l = impl.RibPut(l, peer, h.Route).Rib
			}
			got := impl.RibSweep(l, peer)
			rest, _ := without(got.Rib, func(h impl.Held) bool { return h.Peer == peer })
			mine, _ := without(got.Rib, func(h impl.Held) bool { return h.Peer != peer })
			what := fmt.Sprint("peer ", peer, " announces again ", mask)
			same(t, what, got.Code, impl.OK)
			wantList(t, what+": kept", mine, kept)
			wantList(t, what+": removed", got.Gone, gone)
			wantList(t, what+": others", rest, others)
			wantRib(t, what+": swept again", impl.RibSweep(got.Rib, peer), impl.RibOut{Rib: got.Rib})
		}
	}
}

// announced is what is known of each peer and key, without the order of a table.
type announced map[[5]int64]impl.Held

func placeOf(peer int64, r impl.Route) [5]int64 {
	return [5]int64(placeNums(held(peer, r)))
}

func (a announced) put(peer int64, r impl.Route) int64 {
	at := placeOf(peer, r)
	if _, there := a[at]; !there && len(a) == impl.MaxHeld {
		return impl.ErrFull
	}
	a[at] = held(peer, r)
	return impl.OK
}

func (a announced) take(peer int64, r impl.Route) int64 {
	at := placeOf(peer, r)
	if _, there := a[at]; !there {
		return impl.ErrNone
	}
	delete(a, at)
	return impl.OK
}

func (a announced) mark(peer int64) int64 {
	for at, h := range a {
		if h.Peer == peer {
			a[at] = marked(h)
		}
	}
	return impl.OK
}

func (a announced) sweep(peer int64) int64 {
	for at, h := range a {
		if h.Peer == peer && h.Stale {
			delete(a, at)
		}
	}
	return impl.OK
}

func (a announced) table() []impl.Held {
	var out []impl.Held
	for _, h := range a {
		out = append(out, h)
	}
	return sortedRib(out)
}

// step applies one random operation with this peer and key to the table and to what is announced, and returns the new table.
func (a announced) step(t *testing.T, random *rand.Rand, l []impl.Held, pick impl.Held) []impl.Held {
	t.Helper()
	peer, r := pick.Peer, pick.Route
	if random.Intn(2) == 0 {
		r = renewed(r)
	}
	var got impl.RibOut
	var code int64
	switch random.Intn(40) {
	case 0:
		got, code = impl.RibStale(l, peer), a.mark(peer)
	case 1:
		got, code = impl.RibSweep(l, peer), a.sweep(peer)
	case 2, 3, 4:
		got, code = impl.RibTake(l, peer, r), a.take(peer, r)
	default:
		got, code = impl.RibPut(l, peer, r), a.put(peer, r)
	}
	same(t, fmt.Sprintf("the code for peer %d, %+v", peer, r), got.Code, code)
	if got.Code != impl.OK {
		return l
	}
	return got.Rib
}

func TestPromise8StoredOnceForEachKey(t *testing.T) {
	full := 0
	// Three peers with 60 keys each: the table gets full, and restarts empty it.
	all := manyHeld()[:180]
	for seed := range int64(8) {
		random := rand.New(rand.NewSource(seed))
		a := announced{}
		var l []impl.Held
		for range 1000 {
			l = a.step(t, random, l, all[random.Intn(len(all))])
			wantList(t, "the last route of each peer and key", l, a.table())
			if len(l) == impl.MaxHeld {
				full++
			}
		}
		same(t, "the table is valid", impl.RibRight(l), true)
	}
	if full < 100 {
		t.Errorf("the table is full in %d steps: too few to tell", full)
	}
}

// ribOperation is a function that takes a table and returns one, with its other arguments.
type ribOperation func(l []impl.Held) impl.RibOut

// ribOperations returns the operations of a peer with a route, by their names.
func ribOperations(peer int64, r impl.Route) map[string]ribOperation {
	return map[string]ribOperation{
		fmt.Sprintf("RibPut of %d, %+v", peer, r):  func(l []impl.Held) impl.RibOut { return impl.RibPut(l, peer, r) },
		fmt.Sprintf("RibTake of %d, %+v", peer, r): func(l []impl.Held) impl.RibOut { return impl.RibTake(l, peer, r) },
		fmt.Sprint("RibStale of ", peer):           func(l []impl.Held) impl.RibOut { return impl.RibStale(l, peer) },
		fmt.Sprint("RibSweep of ", peer):           func(l []impl.Held) impl.RibOut { return impl.RibSweep(l, peer) },
	}
}

func TestPromise8PeersAreIndependent(t *testing.T) {
	random := rand.New(rand.NewSource(81))
	all := manyHeld()
	for range 300 {
		l := ribOf(random.Intn(impl.MaxHeld))
		for i := range l {
			l[i].Stale = random.Intn(2) == 0
		}
		pick := all[random.Intn(len(all))]
		for what, call := range ribOperations(pick.Peer, pick.Route) {
			own, _ := without(l, func(h impl.Held) bool { return h.Peer != pick.Peer })
			others, _ := without(l, func(h impl.Held) bool { return h.Peer == pick.Peer })
			// It is as if the entries of the others were added afterwards.
			want := call(own)
			if want.Code == impl.OK {
				want.Rib = sortedRib(append(want.Rib, others...))
			}
			wantRib(t, what, call(l), want)
		}
	}
}

// ribCalls are all functions that take a table and return one, in each of their cases.
func ribCalls() map[string]ribOperation {
	calls := map[string]ribOperation{}
	for _, peer := range []int64{0, 1, 4, 5, 9} {
		for _, r := range append(probes(), impl.Route{}) {
			maps.Copy(calls, ribOperations(peer, r))
		}
	}
	return calls
}

// roomyRib returns the table with unused room behind its entries, and all of that memory.
func roomyRib(l []impl.Held) ([]impl.Held, []impl.Held) {
	all := append(slices.Clone(l), smallRib()[:4]...)
	return all[:len(l)], all
}

func argumentRibs() [][]impl.Held {
	wrong := smallRib()
	slices.Reverse(wrong)
	return [][]impl.Held{{}, smallRib()[:1], smallRib(), ribOf(impl.MaxHeld), wrong, ribOf(impl.MaxHeld + 1), ribOf(impl.MaxList + 1)}
}

func TestRibsLeaveTheirArguments(t *testing.T) {
	for _, given := range argumentRibs() {
		for what, call := range ribCalls() {
			l, all := roomyRib(given)
			before := slices.Clone(all)
			call(l)
			impl.RibRight(l)
			impl.RoutesOf(l)
			impl.RoomsOf(l, 5, 2)
			wantList(t, what+" changes its argument", all, before)
		}
	}
}

func TestRibsAreNew(t *testing.T) {
	for _, given := range argumentRibs() {
		for what, call := range ribCalls() {
			l, all := roomyRib(given)
			first, second := call(l), call(l)
			want := impl.RibOut{Rib: slices.Clone(first.Rib), Gone: slices.Clone(first.Gone), Code: first.Code}
			clear(all)
			wantRib(t, what+" after its argument is changed", first, want)
			clear(first.Gone[:cap(first.Gone)])
			wantList(t, what+": Rib after Gone is changed", first.Rib, want.Rib)
			clear(first.Rib[:cap(first.Rib)])
			wantRib(t, what+" after another result is changed", second, want)
		}
	}
}

func TestRibListsAreNew(t *testing.T) {
	for _, given := range argumentRibs()[:4] {
		l, all := roomyRib(given)
		routes, routesAgain := impl.RoutesOf(l), impl.RoutesOf(l)
		rooms, roomsAgain := impl.RoomsOf(l, 5, 0), impl.RoomsOf(l, 5, 0)
		clear(all)
		wantList(t, "RoutesOf after its argument is changed", routes, routesByRule(given))
		wantList(t, "RoomsOf after its argument is changed", rooms, roomsByRule(given, 5, 0))
		clear(routes[:cap(routes)])
		clear(rooms[:cap(rooms)])
		wantList(t, "RoutesOf after another result is changed", routesAgain, routesByRule(given))
		wantList(t, "RoomsOf after another result is changed", roomsAgain, roomsByRule(given, 5, 0))
	}
}
