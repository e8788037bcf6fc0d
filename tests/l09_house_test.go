package tests

import (
	"fmt"
	"math"
	"math/rand"
	"slices"
	"testing"

	"loop.example/g00667/impl"
)

// route is a route of a guest.
func route(vni int64, mac int64, ip int64, origin int64, seq int64) impl.Route {
	return impl.Route{Kind: impl.RtMac, Vni: vni, Mac: mac, Ip: ip, Origin: origin, Seq: seq}
}

func stuck(r impl.Route) impl.Route {
	r.Sticky = true
	return r
}

// neighbour is another house than this one.
func neighbour(id int64) int64 {
	return 1 + id%4
}

// houseAt is a house with something in each of its fields, and guests here, elsewhere, at both, and frozen.
func houseAt(id int64) impl.House {
	return impl.House{
		Id:     id,
		Now:    300,
		Epoch:  7,
		Doors:  []int64{5, 6, 5, 0},
		Pipes:  []impl.Pipe{somePipe(), {Epoch: 7}},
		Rib:    heldByHouse(id),
		Guests: guestsOfHouse(),
		Went:   movesAt(280, 290, 300),
		Frozen: frozenOfHouse(id),
	}
}

func guestsOfHouse() []impl.Guest {
	return []impl.Guest{
		{Vni: 5, Mac: 161, Ip: 11, Door: 1, Seq: 3, Seen: 300},
		{Vni: 5, Mac: 162, Ip: 12, Door: 3, Seq: 3, Seen: 299},
		{Vni: 5, Mac: 163, Ip: 13, Door: 1, Seq: 0, Seen: 0, Sticky: true},
		{Vni: 5, Mac: 168, Ip: 18, Door: 1, Seq: 2, Seen: 100},
		{Vni: 6, Mac: 161, Ip: 61, Door: 2, Seq: 5, Seen: 200},
	}
}

func heldByHouse(id int64) []impl.Held {
	there, far := neighbour(id), neighbour(neighbour(id))
	return sortedRib([]impl.Held{
		held(1, route(5, 161, 21, there, 9)),
		held(1, route(5, 162, 22, there, 2)),
		held(1, route(5, 164, 24, there, 4)),
		held(1, route(5, 164, 34, far, 5)),
		held(1, route(5, 165, 25, id, 9)),
		marked(held(1, route(5, 166, 26, there, 1))),
		held(1, route(6, 164, 24, there, 1)),
		held(1, roomAt(5, there)),
		held(1, roomAt(6, far)),
		held(2, route(5, 164, 44, far, 5)),
		marked(held(2, route(5, 167, 27, there, 8))),
		held(2, stuck(route(5, 167, 37, far, 0))),
		held(2, route(5, 168, 28, far, 9)),
		held(2, roomAt(5, there)),
	})
}

func frozenOfHouse(id int64) []impl.Frozen {
	return []impl.Frozen{
		{Vni: 5, Mac: 166, House: neighbour(neighbour(id))},
		{Vni: 5, Mac: 168, House: id, Door: 3},
		{Vni: 6, Mac: 169},
	}
}

func someHouse() impl.House {
	return houseAt(2)
}

// copyOfHouse returns the house in memory of its own.
func copyOfHouse(h impl.House) impl.House {
	h.Doors, h.Rib, h.Guests = slices.Clone(h.Doors), slices.Clone(h.Rib), slices.Clone(h.Guests)
	h.Went, h.Frozen, h.Pipes = slices.Clone(h.Went), slices.Clone(h.Frozen), slices.Clone(h.Pipes)
	for i := range h.Pipes {
		h.Pipes[i] = copyOf(h.Pipes[i])
	}
	return h
}

func sameHouses(a impl.House, b impl.House) bool {
	return a.Id == b.Id && a.Now == b.Now && a.Epoch == b.Epoch && slices.Equal(a.Doors, b.Doors) && slices.EqualFunc(a.Pipes, b.Pipes, samePipes) &&
		slices.Equal(a.Rib, b.Rib) && slices.Equal(a.Guests, b.Guests) && slices.Equal(a.Went, b.Went) && slices.Equal(a.Frozen, b.Frozen)
}

func wantHouse(t *testing.T, what string, got impl.HouseOut, want impl.HouseOut) {
	t.Helper()
	if !sameHouses(got.House, want.House) || got.Code != want.Code {
		t.Errorf("%s: got %+v, want %+v", what, got, want)
	}
}

func houseError(code int64) impl.HouseOut {
	return impl.HouseOut{Code: code}
}

// ownRouteByRule returns what announces a guest at a house.
func ownRouteByRule(g impl.Guest, id int64) impl.Route {
	return impl.Route{Kind: impl.RtMac, Vni: g.Vni, Mac: g.Mac, Ip: g.Ip, Origin: id, Seq: g.Seq, Sticky: g.Sticky}
}

// foreignRoutes returns the received routes of other houses.
func foreignRoutes(h impl.House) []impl.Route {
	_, routes := without(h.Rib, func(x impl.Held) bool { return x.Route.Origin != h.Id })
	return routes
}

// bestHeldByRule returns what the document says of BestHeld, for a valid house.
func bestHeldByRule(h impl.House, vni int64, mac int64) impl.Route {
	return bestByRule(foreignRoutes(h), vni, mac)
}

func frozenByRule(h impl.House, vni int64, mac int64) bool {
	return slices.ContainsFunc(h.Frozen, func(f impl.Frozen) bool { return f.Vni == vni && f.Mac == mac })
}

// decidingByRule returns the route by which the place of a guest is decided, and the place, for a valid house and a guest that is not frozen.
func decidingByRule(h impl.House, vni int64, mac int64) (impl.Route, impl.Place) {
	best := bestHeldByRule(h, vni, mac)
	for _, g := range h.Guests {
		own := ownRouteByRule(g, h.Id)
		if g.Vni == vni && g.Mac == mac && (best == impl.Route{} || !preferred(best, own)) {
			return own, impl.Place{House: h.Id, Door: g.Door}
		}
	}
	return best, impl.Place{House: best.Origin}
}

// placeByRule returns what the document says of PlaceOf, for a valid house.
func placeByRule(h impl.House, vni int64, mac int64) impl.Place {
	for _, f := range h.Frozen {
		if f.Vni == vni && f.Mac == mac {
			return impl.Place{House: f.House, Door: f.Door}
		}
	}
	_, place := decidingByRule(h, vni, mac)
	return place
}

// ownByRule returns what the document says of OwnRoutes, for a valid house.
func ownByRule(h impl.House) []impl.Route {
	rooms := slices.Sorted(slices.Values(h.Doors))
	var out []impl.Route
	for i, vni := range rooms {
		if vni != 0 && (i == 0 || rooms[i-1] != vni) {
			out = append(out, roomAt(vni, h.Id))
		}
	}
	for _, g := range h.Guests {
		if !frozenByRule(h, g.Vni, g.Mac) {
			out = append(out, ownRouteByRule(g, h.Id))
		}
	}
	return out
}

// namesIn returns the Vni and Mac of all that a house has of guests.
func namesIn(h impl.House) [][2]int64 {
	var out [][2]int64
	for _, g := range h.Guests {
		out = append(out, [2]int64{g.Vni, g.Mac})
	}
	for _, x := range h.Rib {
		out = append(out, [2]int64{x.Route.Vni, x.Route.Mac})
	}
	for _, f := range h.Frozen {
		out = append(out, [2]int64{f.Vni, f.Mac})
	}
	return out
}

// whoByRule returns what the document says of WhoHas, for a valid house.
func whoByRule(h impl.House, vni int64, ip int64) int64 {
	owner := int64(-1)
	if vni < 1 || vni > 16777215 || ip < 1 || ip > 4294967295 {
		return owner
	}
	for _, name := range namesIn(h) {
		r, _ := decidingByRule(h, name[0], name[1])
		if name[0] == vni && r.Ip == ip && !frozenByRule(h, vni, name[1]) && (owner < 0 || name[1] < owner) {
			owner = name[1]
		}
	}
	return owner
}

// houseProbes are the names of guests of a house, and of others.
func houseProbes(h impl.House) [][2]int64 {
	out := namesIn(h)
	for _, name := range namesIn(h) {
		out = append(out, [2]int64{name[0] + 1, name[1]}, [2]int64{name[0], name[1] + 1}, [2]int64{name[0], name[1] + 1<<40})
	}
	for _, vni := range []int64{-1, 0, 1, 5, 7, impl.MaxVni, impl.MaxVni + 1} {
		for _, mac := range []int64{-1, 0, 160, lastSingleMac, impl.MaxMac, impl.MaxMac + 1} {
			out = append(out, [2]int64{vni, mac})
		}
	}
	return out
}

// addressProbes are the addresses of guests of a house, and others.
func addressProbes(h impl.House) []int64 {
	out := append([]int64{0, 1, 999, impl.MaxIp}, ips.out...)
	for _, g := range h.Guests {
		out = append(out, g.Ip)
	}
	for _, x := range h.Rib {
		out = append(out, x.Route.Ip)
	}
	return out
}

// wantRightHouse checks a house with all functions that tell a valid house from others.
func wantRightHouse(t *testing.T, what string, h impl.House) {
	t.Helper()
	same(t, "HouseRight of "+what, impl.HouseRight(h), true)
	wantList(t, "OwnRoutes of "+what, impl.OwnRoutes(h), ownByRule(h))
	for _, name := range houseProbes(h) {
		vni, mac := name[0], name[1]
		what := fmt.Sprint(what, ", room ", vni, ", guest ", mac)
		same(t, "BestHeld: "+what, impl.BestHeld(h, vni, mac), bestHeldByRule(h, vni, mac))
		same(t, "PlaceOf: "+what, impl.PlaceOf(h, vni, mac), placeByRule(h, vni, mac))
	}
	for _, vni := range []int64{-1, 0, 1, 5, 6, 7, impl.MaxVni, impl.MaxVni + 1} {
		for _, ip := range addressProbes(h) {
			same(t, fmt.Sprint("WhoHas: ", what, ", room ", vni, ", address ", ip), impl.WhoHas(h, vni, ip), whoByRule(h, vni, ip))
		}
	}
}

// wantWrongHouse checks that all functions reject a house.
func wantWrongHouse(t *testing.T, what string, h impl.House) {
	t.Helper()
	same(t, "HouseRight of "+what, impl.HouseRight(h), false)
	wantList(t, "OwnRoutes of "+what, impl.OwnRoutes(h), nil)
	for _, name := range append(namesIn(h), namesIn(someHouse())...) {
		vni, mac := name[0], name[1]
		what := fmt.Sprint(what, ", room ", vni, ", guest ", mac)
		same(t, "BestHeld: "+what, impl.BestHeld(h, vni, mac), impl.Route{})
		same(t, "PlaceOf: "+what, impl.PlaceOf(h, vni, mac), impl.Place{})
	}
	for _, vni := range []int64{0, 5, 6} {
		for _, ip := range append(addressProbes(h), addressProbes(someHouse())...) {
			same(t, fmt.Sprint("WhoHas: ", what, ", room ", vni, ", address ", ip), impl.WhoHas(h, vni, ip), -1)
		}
	}
}

// houseWith returns some house with a change.
func houseWith(change func(h *impl.House)) impl.House {
	h := someHouse()
	change(&h)
	return h
}

func TestHouseLimits(t *testing.T) {
	same(t, "MaxTellers", impl.MaxTellers, 2)
	same(t, "MaxFrozen", impl.MaxFrozen, 8)
}

func TestHouseIds(t *testing.T) {
	for id := int64(1); id <= 4; id++ {
		wantRightHouse(t, fmt.Sprint("Id ", id), houseAt(id))
	}
	for _, id := range origins.out {
		wantWrongHouse(t, fmt.Sprint("Id ", id), houseWith(func(h *impl.House) { h.Id = id }))
		wantWrongHouse(t, fmt.Sprint("Id ", id, ", nobody frozen"), houseWith(func(h *impl.House) { h.Id, h.Frozen = id, nil }))
		wantWrongHouse(t, fmt.Sprint("Id ", id, ", frozen there"), houseWith(func(h *impl.House) { h.Id, h.Frozen[1].House = id, id }))
		empty := emptyHouse()
		empty.Id = id
		wantWrongHouse(t, fmt.Sprint("Id ", id, ", nothing else"), empty)
	}
}

// emptyHouse is a house that has nothing of which it can do without.
func emptyHouse() impl.House {
	return impl.House{Id: 1, Epoch: 1, Doors: make([]int64, 4), Pipes: []impl.Pipe{{Epoch: 1}}}
}

func TestHouseEmpty(t *testing.T) {
	wantRightHouse(t, "an empty house", emptyHouse())
	wantRightHouse(t, "some house", someHouse())
	wantWrongHouse(t, "no house", impl.House{})
	for what, change := range map[string]func(h *impl.House){
		"Rib":    func(h *impl.House) { h.Rib = nil },
		"Guests": func(h *impl.House) { h.Guests = nil },
		"Went":   func(h *impl.House) { h.Went = nil },
		"Frozen": func(h *impl.House) { h.Frozen = nil },
		"all": func(h *impl.House) {
			h.Rib, h.Guests, h.Went, h.Frozen = []impl.Held{}, []impl.Guest{}, []impl.Went{}, []impl.Frozen{}
		},
	} {
		wantRightHouse(t, "no "+what, houseWith(change))
	}
	for what, change := range map[string]func(h *impl.House){
		"Id":    func(h *impl.House) { h.Id = 0 },
		"Epoch": func(h *impl.House) { h.Epoch = 0 },
		"Doors": func(h *impl.House) { h.Doors = nil },
		"Pipes": func(h *impl.House) { h.Pipes = nil },
	} {
		wantWrongHouse(t, "no "+what, houseWith(change))
		h := emptyHouse()
		change(&h)
		wantWrongHouse(t, "nothing, and no "+what, h)
	}
}

func TestHouseNow(t *testing.T) {
	for _, now := range times.in {
		h := emptyHouse()
		h.Now = now
		wantRightHouse(t, fmt.Sprint("an empty house at ", now), h)
	}
	for _, now := range append(times.out, 300+1<<32) {
		h := emptyHouse()
		h.Now = now
		wantWrongHouse(t, fmt.Sprint("an empty house at ", now), h)
		wantWrongHouse(t, fmt.Sprint("some house at ", now), houseWith(func(h *impl.House) { h.Now = now }))
	}
}

func TestHouseSeenAndAt(t *testing.T) {
	for _, now := range times.in {
		for i := range guestsOfHouse() {
			h := houseWith(func(h *impl.House) { h.Now, h.Went = now, nil })
			for j := range h.Guests {
				h.Guests[j].Seen = now
			}
			wantRightHouse(t, fmt.Sprint("all seen at ", now), h)
			for _, later := range []int64{now + 1, now + 2, now + 1<<32} {
				h.Guests[i].Seen = later
				wantWrongHouse(t, fmt.Sprint("guest ", i, " seen at ", later, " and now it is ", now), h)
			}
		}
		for _, n := range []int{1, 2, impl.MaxMoves} {
			h := houseWith(func(h *impl.House) { h.Now, h.Guests, h.Went = now, nil, slices.Repeat(movesAt(now), n) })
			wantRightHouse(t, fmt.Sprint("all moved at ", now), h)
			for _, later := range []int64{now + 1, now + 2, now + 1<<32} {
				h.Went[n-1].At = later
				wantWrongHouse(t, fmt.Sprint("the last of ", n, " moved at ", later, " and now it is ", now), h)
			}
		}
	}
	wantRightHouse(t, "seen and moved long ago", houseWith(func(h *impl.House) { h.Now = impl.MaxTime }))
	wantWrongHouse(t, "seen and moved later than now", houseWith(func(h *impl.House) { h.Now = 299 }))
	wantWrongHouse(t, "only seen later than now", houseWith(func(h *impl.House) { h.Now, h.Went = 299, nil }))
	wantWrongHouse(t, "only moved later than now", houseWith(func(h *impl.House) { h.Now, h.Guests = 299, nil }))
}

func TestHouseEpochs(t *testing.T) {
	for _, epoch := range epochs.in {
		h := someHouse()
		h.Epoch, h.Pipes[0].Epoch, h.Pipes[1].Epoch = epoch, epoch, 1
		wantRightHouse(t, fmt.Sprint("Epoch ", epoch), h)
		h.Pipes[1].Epoch = epoch
		wantRightHouse(t, fmt.Sprint("all of Epoch ", epoch), h)
		for i := range h.Pipes {
			h := copyOfHouse(h)
			h.Pipes[i].Epoch = epoch + 1
			wantWrongHouse(t, fmt.Sprint("Epoch ", epoch, ", that of pipe ", i, " one greater"), h)
		}
	}
	for _, epoch := range append(epochs.out, 7+1<<32) {
		wantWrongHouse(t, fmt.Sprint("Epoch ", epoch), houseWith(func(h *impl.House) { h.Epoch = epoch }))
		h := emptyHouse()
		h.Epoch = epoch
		wantWrongHouse(t, fmt.Sprint("an empty house of Epoch ", epoch), h)
	}
	wantRightHouse(t, "older pipes", houseWith(func(h *impl.House) { h.Epoch = impl.MaxTime }))
	wantWrongHouse(t, "one newer pipe", houseWith(func(h *impl.House) { h.Epoch = 6 }))
}

func TestHouseDoors(t *testing.T) {
	for n := range 12 {
		h := emptyHouse()
		h.Doors = slices.Repeat([]int64{5}, n)
		closed := emptyHouse()
		closed.Doors = make([]int64, n)
		if n == 4 {
			wantRightHouse(t, "four doors", h)
			wantRightHouse(t, "four closed doors", closed)
		} else {
			wantWrongHouse(t, fmt.Sprint("as many doors as ", n), h)
			wantWrongHouse(t, fmt.Sprint("as many closed doors as ", n), closed)
		}
	}
	for _, n := range []int{256 + 4, impl.MaxList, impl.MaxList + 1} {
		wantWrongHouse(t, fmt.Sprint("as many doors as ", n), houseWith(func(h *impl.House) { h.Doors = append(h.Doors, make([]int64, n-4)...) }))
	}
	wantWrongHouse(t, "a door less", houseWith(func(h *impl.House) { h.Doors = h.Doors[:3] }))
	wantWrongHouse(t, "a door more", houseWith(func(h *impl.House) { h.Doors = append(h.Doors, 7) }))
	for at := range 4 {
		for _, vni := range append([]int64{0}, vnis.in...) {
			h := emptyHouse()
			h.Doors[at] = vni
			wantRightHouse(t, fmt.Sprint("door ", at, " of room ", vni), h)
		}
		for _, vni := range vnis.out {
			if vni == 0 {
				continue
			}
			h := emptyHouse()
			h.Doors[at] = vni
			wantWrongHouse(t, fmt.Sprint("door ", at, " of room ", vni), h)
			// The last door is the only one that nobody needs.
			wantWrongHouse(t, fmt.Sprint("some house with door ", at, " of room ", vni), houseWith(func(h *impl.House) { h.Doors[at] = vni }))
		}
	}
}

// wrongPipes are pipes that are not valid, whatever the house is.
func wrongPipes() []impl.Pipe {
	base, negative, message, long := somePipe(), somePipe(), somePipe(), somePipe()
	base.Base = impl.MaxTime
	negative.In = -1
	message.Peer = 0
	long.Out = messages(impl.MaxOut + 1)
	return []impl.Pipe{{}, {Epoch: -1}, base, negative, message, long, {Epoch: 1, In: 1}}
}

func TestHousePipes(t *testing.T) {
	for n := range 8 {
		for _, p := range []impl.Pipe{somePipe(), {Epoch: 7}} {
			h := houseWith(func(h *impl.House) { h.Pipes, h.Rib = slices.Repeat([]impl.Pipe{p}, n), nil })
			if n == 1 || n == 2 {
				wantRightHouse(t, fmt.Sprint("as many pipes as ", n), h)
			} else {
				wantWrongHouse(t, fmt.Sprint("as many pipes as ", n), h)
			}
		}
	}
	for _, n := range []int{256 + 1, 256 + 2, impl.MaxList + 1} {
		wantWrongHouse(t, fmt.Sprint("as many pipes as ", n), houseWith(func(h *impl.House) { h.Pipes = slices.Repeat([]impl.Pipe{somePipe()}, n) }))
	}
	for _, p := range wrongPipes() {
		for i := range 2 {
			wantWrongHouse(t, fmt.Sprintf("pipe %d as %+v", i, p), houseWith(func(h *impl.House) { h.Pipes[i] = p }))
		}
		wantWrongHouse(t, fmt.Sprintf("only the pipe %+v", p), houseWith(func(h *impl.House) { h.Pipes, h.Rib = []impl.Pipe{p}, nil }))
	}
	full := somePipe()
	full.Out = messages(impl.MaxOut)
	wantRightHouse(t, "full pipes", houseWith(func(h *impl.House) { h.Pipes = []impl.Pipe{full, full} }))
}

func TestHouseRib(t *testing.T) {
	for _, r := range []impl.Route{route(5, 161, 9, 1, 9), roomAt(5, 1)} {
		for pipes := int64(1); pipes <= 2; pipes++ {
			for _, peer := range append(peers.in, peers.out...) {
				h := houseWith(func(h *impl.House) { h.Pipes, h.Rib = h.Pipes[:pipes], []impl.Held{held(peer, r)} })
				what := fmt.Sprint("pipes ", pipes, ", an entry of peer ", peer)
				if peer >= 1 && peer <= pipes {
					wantRightHouse(t, what, h)
				} else {
					wantWrongHouse(t, what, h)
				}
			}
		}
	}
	wantWrongHouse(t, "entries of two peers, and one pipe", houseWith(func(h *impl.House) { h.Pipes = h.Pipes[:1] }))
	wantWrongHouse(t, "one entry of a third peer", houseWith(func(h *impl.House) { h.Rib = append(h.Rib, held(3, route(5, 161, 9, 1, 9))) }))
	wantRightHouse(t, "a full table", houseWith(func(h *impl.House) { h.Rib = manyHeld()[30:90] }))
	wantWrongHouse(t, "a table too full", houseWith(func(h *impl.House) { h.Rib = manyHeld()[30:91] }))
	wantWrongHouse(t, "entries in the other order", houseWith(func(h *impl.House) { slices.Reverse(h.Rib) }))
	wantWrongHouse(t, "an entry twice", houseWith(func(h *impl.House) { h.Rib[1] = h.Rib[0] }))
	for i := range heldByHouse(2) {
		wantWrongHouse(t, fmt.Sprint("a wrong route at ", i), houseWith(func(h *impl.House) { h.Rib[i].Route.Ip = -1 }))
		wantWrongHouse(t, fmt.Sprint("no route at ", i), houseWith(func(h *impl.House) { h.Rib[i].Route = impl.Route{} }))
		wantWrongHouse(t, fmt.Sprint("no peer at ", i), houseWith(func(h *impl.House) { h.Rib[i].Peer = 0 }))
	}
	for _, origin := range origins.in {
		if origin <= 4 {
			wantRightHouse(t, fmt.Sprint("routes of house ", origin), houseWith(func(h *impl.House) {
				h.Rib = []impl.Held{held(1, route(5, 161, 9, origin, 9)), held(1, roomAt(5, origin))}
			}))
		}
	}
}

func TestHouseGuests(t *testing.T) {
	crowded := func(n int) func(h *impl.House) {
		return func(h *impl.House) {
			h.Guests = nil
			for mac := range int64(n) {
				h.Guests = append(h.Guests, impl.Guest{Vni: 5, Mac: 161 + mac, Door: 1 + mac%2*2, Seen: 300 - mac})
			}
		}
	}
	for n := range 9 {
		wantRightHouse(t, fmt.Sprint("as many guests as ", n), houseWith(crowded(n)))
	}
	for _, n := range []int{9, 10, 256 + 8} {
		wantWrongHouse(t, fmt.Sprint("as many guests as ", n), houseWith(crowded(n)))
	}
	wantWrongHouse(t, "guests in the other order", houseWith(func(h *impl.House) { slices.Reverse(h.Guests) }))
	for i, g := range guestsOfHouse() {
		for what, change := range map[string]func(g *impl.Guest){
			"a group":       func(g *impl.Guest) { g.Mac += 1 << 40 },
			"a wrong Ip":    func(g *impl.Guest) { g.Ip = impl.MaxIp + 1 },
			"a wrong Seq":   func(g *impl.Guest) { g.Seq = -1 },
			"Seen too soon": func(g *impl.Guest) { g.Seen = -1 },
			"no guest":      func(g *impl.Guest) { *g = impl.Guest{} },
		} {
			wantWrongHouse(t, fmt.Sprint(what, " at ", i), houseWith(func(h *impl.House) { change(&h.Guests[i]) }))
			wantWrongHouse(t, fmt.Sprint("only ", what), houseWith(func(h *impl.House) {
				h.Guests = []impl.Guest{g}
				change(&h.Guests[0])
			}))
		}
		if i > 0 {
			wantWrongHouse(t, fmt.Sprint("twice guest ", i), houseWith(func(h *impl.House) { h.Guests[i-1] = h.Guests[i] }))
		}
	}
}

func TestHouseGuestsAtDoors(t *testing.T) {
	doors := []int64{5, 6, 5, 0}
	for _, door := range append(doorNums.out, 1, 2, 3, 4, 1+1<<32) {
		for vni := int64(5); vni <= 7; vni++ {
			h := emptyHouse()
			h.Doors = doors
			h.Guests = []impl.Guest{{Vni: vni, Mac: 161, Ip: 11, Door: door}}
			what := fmt.Sprint("a guest of room ", vni, " at door ", door)
			if door >= 1 && door <= 3 && doors[door-1] == vni {
				wantRightHouse(t, what, h)
			} else {
				wantWrongHouse(t, what, h)
			}
		}
	}
	for i := range guestsOfHouse() {
		wantWrongHouse(t, fmt.Sprint("guest ", i, " at the closed door"), houseWith(func(h *impl.House) { h.Guests[i].Door = 4 }))
		wantWrongHouse(t, fmt.Sprint("guest ", i, " at a door of the other room"), houseWith(func(h *impl.House) {
			h.Guests[i].Door = map[int64]int64{5: 2, 6: 1}[h.Guests[i].Vni]
		}))
	}
	for at := range 3 {
		for _, vni := range []int64{0, 7} {
			wantWrongHouse(t, fmt.Sprint("door ", at, " is of room ", vni), houseWith(func(h *impl.House) { h.Doors[at] = vni }))
		}
	}
	wantWrongHouse(t, "the rooms of two doors exchanged", houseWith(func(h *impl.House) { h.Doors[0], h.Doors[1] = 6, 5 }))
	wantRightHouse(t, "the last door opened", houseWith(func(h *impl.House) { h.Doors[3] = 7 }))
}

func TestHouseWent(t *testing.T) {
	for n := range impl.MaxMoves + 1 {
		wantRightHouse(t, fmt.Sprint("as many moves as ", n), houseWith(func(h *impl.House) { h.Now, h.Went = 400, walk(n) }))
	}
	for _, n := range []int{impl.MaxMoves + 1, impl.MaxMoves + 2, impl.MaxList + 1} {
		wantWrongHouse(t, fmt.Sprint("as many moves as ", n), houseWith(func(h *impl.House) { h.Now, h.Went = 4000, walk(n) }))
	}
	wantWrongHouse(t, "moves in the other order", houseWith(func(h *impl.House) { slices.Reverse(h.Went) }))
	for i := range 3 {
		wantWrongHouse(t, fmt.Sprint("no room at ", i), houseWith(func(h *impl.House) { h.Went[i].Vni = 0 }))
		wantWrongHouse(t, fmt.Sprint("no guest at ", i), houseWith(func(h *impl.House) { h.Went[i].Mac = -1 }))
		wantWrongHouse(t, fmt.Sprint("no time at ", i), houseWith(func(h *impl.House) { h.Went[i].At = -1 }))
		wantRightHouse(t, fmt.Sprint("a group at ", i), houseWith(func(h *impl.House) { h.Went[i].Mac = impl.MaxMac }))
		wantRightHouse(t, fmt.Sprint("another room at ", i), houseWith(func(h *impl.House) { h.Went[i].Vni = impl.MaxVni }))
	}
}

// iced returns n frozen guests, every second one at a door of the house with Id 2.
func iced(n int) []impl.Frozen {
	var out []impl.Frozen
	for i := range int64(n) {
		f := impl.Frozen{Vni: 5, Mac: 161 + i, House: i % 2 * 2}
		f.Door = f.House / 2 * (1 + i%4/2*2)
		out = append(out, f)
	}
	return out
}

func TestHouseFrozenSizesAndOrder(t *testing.T) {
	for n := range 9 {
		wantRightHouse(t, fmt.Sprint("as many frozen as ", n), houseWith(func(h *impl.House) { h.Frozen = iced(n) }))
	}
	for _, n := range []int{9, 10, 16, 256 + 8, impl.MaxList + 1} {
		wantWrongHouse(t, fmt.Sprint("as many frozen as ", n), houseWith(func(h *impl.House) { h.Frozen = iced(n) }))
	}
	for n := 2; n <= 8; n++ {
		for at := range n - 1 {
			what := fmt.Sprint("frozen guest ", at, " of ", n)
			wantWrongHouse(t, what+" behind the next one", houseWith(func(h *impl.House) {
				h.Frozen = iced(n)
				h.Frozen[at], h.Frozen[at+1] = h.Frozen[at+1], h.Frozen[at]
			}))
			wantWrongHouse(t, what+" twice", houseWith(func(h *impl.House) {
				h.Frozen = iced(n)
				h.Frozen[at+1] = h.Frozen[at]
			}))
			wantWrongHouse(t, what+" twice, at two places", houseWith(func(h *impl.House) {
				h.Frozen = iced(n)
				h.Frozen[at+1].Mac = h.Frozen[at].Mac
			}))
		}
	}
	pair := func(a [2]int64, b [2]int64) func(h *impl.House) {
		return func(h *impl.House) {
			h.Frozen = []impl.Frozen{{Vni: a[0], Mac: a[1], House: 4}, {Vni: b[0], Mac: b[1], House: 3}}
		}
	}
	for _, p := range [][2][2]int64{
		{{5, 161}, {5, 162}},
		{{5, 161}, {6, 161}},
		{{5, 162}, {6, 161}},
		{{1, lastSingleMac}, {impl.MaxVni, 0}},
		{{5, 161}, {5, 1 << 32}},
	} {
		wantRightHouse(t, fmt.Sprint("frozen in order: ", p), houseWith(pair(p[0], p[1])))
		wantWrongHouse(t, fmt.Sprint("frozen, the other way round: ", p), houseWith(pair(p[1], p[0])))
	}
}

func TestHouseFrozenFields(t *testing.T) {
	one := func(vni int64, mac int64, house int64, door int64) impl.House {
		h := houseWith(func(h *impl.House) {
			h.Guests, h.Doors = nil, []int64{5, 6, 5, 5}
			h.Frozen = []impl.Frozen{{Vni: vni, Mac: mac, House: house, Door: door}}
		})
		return h
	}
	for _, vni := range vnis.in {
		wantRightHouse(t, fmt.Sprint("frozen in room ", vni), one(vni, 161, 3, 0))
	}
	for _, vni := range vnis.out {
		wantWrongHouse(t, fmt.Sprint("frozen in room ", vni), one(vni, 161, 3, 0))
		wantWrongHouse(t, fmt.Sprint("frozen nowhere in room ", vni), one(vni, 161, 0, 0))
		wantWrongHouse(t, fmt.Sprint("frozen here in room ", vni), one(vni, 161, 2, 1))
	}
	for _, mac := range singles.in {
		wantRightHouse(t, fmt.Sprint("frozen guest ", mac), one(5, mac, 3, 0))
		wantRightHouse(t, fmt.Sprint("frozen guest here ", mac), one(5, mac, 2, 1))
	}
	for _, mac := range singles.out {
		wantWrongHouse(t, fmt.Sprint("frozen guest ", mac), one(5, mac, 3, 0))
		wantWrongHouse(t, fmt.Sprint("frozen guest here ", mac), one(5, mac, 2, 1))
	}
	for _, house := range []int64{0, 1, 3, 4} {
		wantRightHouse(t, fmt.Sprint("frozen at house ", house), one(5, 161, house, 0))
		for _, door := range []int64{1, 2, 3, 4, 5, -1, math.MinInt64, math.MaxInt64} {
			wantWrongHouse(t, fmt.Sprint("frozen at house ", house, ", door ", door), one(5, 161, house, door))
		}
	}
	for _, house := range []int64{-1, 5, 6, -2, 2 + 1<<32, math.MinInt64, math.MaxInt64} {
		for door := range int64(5) {
			wantWrongHouse(t, fmt.Sprint("frozen at house ", house, ", door ", door), one(5, 161, house, door))
		}
	}
	for _, door := range []int64{1, 3, 4} {
		wantRightHouse(t, fmt.Sprint("frozen here at door ", door), one(5, 161, 2, door))
		wantWrongHouse(t, fmt.Sprint("frozen here in the other room at door ", door), one(6, 161, 2, door))
	}
	wantRightHouse(t, "frozen here in the other room", one(6, 161, 2, 2))
	for _, door := range []int64{0, 2, 5, -1, -3, 1 + 1<<32, math.MinInt64, math.MaxInt64} {
		wantWrongHouse(t, fmt.Sprint("frozen here at door ", door), one(5, 161, 2, door))
	}
	wantWrongHouse(t, "frozen here at a closed door", houseWith(func(h *impl.House) { h.Frozen[1].Door = 4 }))
	wantWrongHouse(t, "frozen here without a door", houseWith(func(h *impl.House) { h.Frozen[1].Door = 0 }))
	wantWrongHouse(t, "no frozen guest", houseWith(func(h *impl.House) { h.Frozen[0] = impl.Frozen{} }))
}

func TestHouseWithAWrongFrozenInEachPlace(t *testing.T) {
	for n := 1; n <= 8; n++ {
		for at := range n {
			for what, change := range map[string]func(f *impl.Frozen){
				"a great Vni":   func(f *impl.Frozen) { f.Vni = impl.MaxVni + 1 },
				"a group":       func(f *impl.Frozen) { f.Mac += 1 << 40 },
				"a wrong House": func(f *impl.Frozen) { f.House = 5 },
				"a wrong Door":  func(f *impl.Frozen) { f.Door = 2 },
				"no guest":      func(f *impl.Frozen) { *f = impl.Frozen{} },
			} {
				wantWrongHouse(t, fmt.Sprint(what, " at ", at, " of ", n), houseWith(func(h *impl.House) {
					h.Frozen = iced(n)
					change(&h.Frozen[at])
				}))
			}
		}
	}
}

// houseNewByRule returns what the document says of HouseNew.
func houseNewByRule(id int64, epoch int64, doors []int64, tellers int64) impl.HouseOut {
	if len(doors) > 400 {
		return houseError(impl.ErrSize)
	}
	wrongDoor := func(vni int64) bool { return vni < 0 || vni > 16777215 }
	if id < 1 || id > 4 || epoch < 1 || epoch > 1000000 || len(doors) != 4 || slices.ContainsFunc(doors, wrongDoor) || tellers < 1 || tellers > 2 {
		return houseError(impl.ErrForm)
	}
	pipes := slices.Repeat([]impl.Pipe{{Epoch: epoch}}, int(tellers))
	return impl.HouseOut{House: impl.House{Id: id, Epoch: epoch, Doors: slices.Clone(doors), Pipes: pipes}}
}

// someDoors are lists of doors, of which about half belong to a valid house.
func someDoors() [][]int64 {
	out := [][]int64{nil, {}, {5}, {5, 6, 5}, {5, 6, 5, 0}, {5, 6, 5, 0, 0}, {0, 0, 0, 0}, {9, 8, 7, 6}, slices.Repeat([]int64{5}, 8), make([]int64, impl.MaxList), make([]int64, impl.MaxList+1), slices.Repeat([]int64{-1}, impl.MaxList+1)}
	for at := range 4 {
		for _, vni := range append(vnis.in, vnis.out...) {
			doors := []int64{5, 0, 6, 5}
			doors[at] = vni
			out = append(out, doors)
		}
	}
	return out
}

func TestPromise11NewHousesAreValid(t *testing.T) {
	tellers := []int64{1, 2, 0, 3, 4, -1, -2, 1 + 1<<8, 1 + 1<<32, 2 + 1<<32, 1 << 40, math.MinInt64, math.MaxInt64}
	made := 0
	for _, id := range append([]int64{1, 2, 3, 4, 2 + 1<<32}, origins.out...) {
		for _, epoch := range append([]int64{7, 1 + 1<<32}, append(epochs.in, epochs.out...)...) {
			for _, doors := range someDoors() {
				for _, n := range tellers {
					got, want := impl.HouseNew(id, epoch, doors, n), houseNewByRule(id, epoch, doors, n)
					what := fmt.Sprint("HouseNew of ", id, " ", epoch, " ", len(doors), " doors, tellers ", n)
					wantHouse(t, what, got, want)
					same(t, what+": valid", impl.HouseRight(got.House), want.Code == impl.OK)
					if got.Code == impl.OK {
						made++
					}
				}
			}
		}
	}
	if made < 1000 {
		t.Errorf("only %d houses, too few to tell", made)
	}
	for id := int64(1); id <= 4; id++ {
		wantRightHouse(t, "a new house", impl.HouseNew(id, 7, []int64{9, 5, 0, 9}, 1+id%2).House)
	}
}

func TestHouseNewErrorsInOrder(t *testing.T) {
	long := slices.Repeat([]int64{5}, impl.MaxList+1)
	for _, id := range []int64{0, 1, 5} {
		for _, epoch := range []int64{0, 1, impl.MaxTime + 1} {
			for _, tellers := range []int64{0, 1, 3} {
				wantHouse(t, "long", impl.HouseNew(id, epoch, long, tellers), houseError(impl.ErrSize))
				wantHouse(t, "MaxList", impl.HouseNew(id, epoch, long[1:], tellers), houseError(impl.ErrForm))
				wantHouse(t, "a door more", impl.HouseNew(id, epoch, long[:5], tellers), houseError(impl.ErrForm))
			}
		}
	}
}

// randomHouse returns a valid house in which much is known of a few guests.
func randomHouse(random *rand.Rand) impl.House {
	h := impl.House{Id: 1 + random.Int63n(4), Now: 300, Epoch: 7, Doors: make([]int64, 4)}
	for i := range h.Doors {
		h.Doors[i] = []int64{0, 5, 5, 6}[random.Intn(4)]
	}
	for range 1 + random.Intn(2) {
		h.Pipes = append(h.Pipes, impl.Pipe{Epoch: 1 + random.Int63n(7), Peer: random.Int63n(2)})
	}
	for range random.Intn(40) {
		r := randomRoute(random)
		if r.Kind == impl.RtRoom {
			r = roomAt(r.Vni, r.Origin)
		} else {
			r.Mac, r.Ip = 160+random.Int63n(5), random.Int63n(9)
		}
		if impl.RouteRight(r) {
			h.Rib = impl.RibPut(h.Rib, 1+random.Int63n(int64(len(h.Pipes))), r).Rib
		}
	}
	for range random.Intn(7) {
		door := 1 + random.Int63n(4)
		g := impl.Guest{Vni: h.Doors[door-1], Mac: 160 + random.Int63n(5), Ip: random.Int63n(9), Door: door, Seq: random.Int63n(5), Seen: random.Int63n(301), Sticky: random.Intn(20) == 0}
		if g.Vni != 0 {
			h.Guests = impl.GuestPut(h.Guests, g).Guests
		}
	}
	for mac := int64(160); mac < 165; mac++ {
		f := impl.Frozen{Vni: 5, Mac: mac, House: random.Int63n(5)}
		if f.House == h.Id {
			f.Door = 1 + int64(slices.Index(h.Doors, 5))
		}
		if random.Intn(5) == 0 && (f.House != h.Id || f.Door > 0) {
			h.Frozen = append(h.Frozen, f)
		}
	}
	return h
}

// houseRightByRule returns what the document says of HouseRight, where the parts are valid or not as their own functions say.
func houseRightByRule(h impl.House) bool {
	right := h.Id >= 1 && h.Id <= 4 && h.Now >= 0 && h.Now <= 1000000 && h.Epoch >= 1 && h.Epoch <= 1000000
	right = right && len(h.Doors) == 4 && len(h.Pipes) >= 1 && len(h.Pipes) <= 2 && len(h.Frozen) <= 8
	right = right && impl.RibRight(h.Rib) && impl.GuestsRight(h.Guests) && impl.WentRight(h.Went)
	if !right {
		return false
	}
	for _, vni := range h.Doors {
		right = right && vni >= 0 && vni <= 16777215
	}
	for _, p := range h.Pipes {
		right = right && impl.PipeRight(p) && p.Epoch <= h.Epoch
	}
	for _, x := range h.Rib {
		right = right && x.Peer <= int64(len(h.Pipes))
	}
	for _, g := range h.Guests {
		right = right && g.Seen <= h.Now && h.Doors[g.Door-1] == g.Vni
	}
	for _, w := range h.Went {
		right = right && w.At <= h.Now
	}
	for i, f := range h.Frozen {
		// Such a guest could be in a list of its own at any door, so that is a test of its Vni and Mac.
		right = right && impl.GuestsRight([]impl.Guest{{Vni: f.Vni, Mac: f.Mac, Door: 1}}) && f.House >= 0 && f.House <= 4 && f.Door >= 0 && f.Door <= 4
		right = right && (f.House == h.Id) == (f.Door > 0) && (f.Door <= 0 || h.Doors[f.Door-1] == f.Vni)
		if i > 0 {
			last := h.Frozen[i-1]
			right = right && (last.Vni < f.Vni || last.Vni == f.Vni && last.Mac < f.Mac)
		}
	}
	return right
}

// disturb changes one number of a house by a little.
func disturb(random *rand.Rand, h *impl.House) {
	var nums []*int64
	nums = append(nums, &h.Id, &h.Now, &h.Epoch)
	for i := range h.Doors {
		nums = append(nums, &h.Doors[i])
	}
	for i := range h.Pipes {
		nums = append(nums, &h.Pipes[i].Epoch, &h.Pipes[i].Peer, &h.Pipes[i].In)
	}
	for i := range h.Rib {
		nums = append(nums, &h.Rib[i].Peer)
	}
	for i := range h.Guests {
		g := &h.Guests[i]
		nums = append(nums, &g.Vni, &g.Mac, &g.Door, &g.Seen)
	}
	for i := range h.Frozen {
		f := &h.Frozen[i]
		nums = append(nums, &f.Vni, &f.Mac, &f.House, &f.Door)
	}
	*nums[random.Intn(len(nums))] += random.Int63n(3) - 1
}

func TestHouseRightOfDisturbedHouses(t *testing.T) {
	right, wrong := 0, 0
	random := rand.New(rand.NewSource(91))
	for range 4000 {
		h := randomHouse(random)
		if !impl.HouseRight(h) || !houseRightByRule(h) {
			t.Fatalf("not valid: %+v", h)
		}
		for range 10 {
			d := copyOfHouse(h)
			disturb(random, &d)
			want := houseRightByRule(d)
			if got := impl.HouseRight(d); got != want {
				t.Fatalf("%+v: got %t, want %t", d, got, want)
			}
			if want {
				right++
			} else {
				wrong++
			}
		}
	}
	if right < 1000 || wrong < 1000 {
		t.Errorf("only %d valid houses and %d others, too few to tell", right, wrong)
	}
}

func TestHousesOfAnyContents(t *testing.T) {
	random := rand.New(rand.NewSource(92))
	for i := range 500 {
		wantRightHouse(t, fmt.Sprint("house ", i), randomHouse(random))
	}
}

// wantNoneBetter checks that no route is better than the one by which it is decided where a guest is, and returns the house.
func wantNoneBetter(t *testing.T, h impl.House, vni int64, mac int64) int64 {
	t.Helper()
	place := impl.PlaceOf(h, vni, mac)
	routes := foreignRoutes(h)
	decisive := impl.BestHeld(h, vni, mac)
	g := impl.GuestAt(h.Guests, vni, mac)
	if g != (impl.Guest{}) {
		routes = append(routes, ownRouteByRule(g, h.Id))
	}
	if place.House == h.Id {
		decisive = impl.RouteOf(g, h.Id)
		same(t, "the door of the guest", place.Door, g.Door)
	} else {
		same(t, "no door of another house", place.Door, 0)
	}
	same(t, "the house of the decisive route", decisive.Origin, place.House)
	known := 0
	for _, r := range routes {
		if r.Kind != impl.RtMac || r.Vni != vni || r.Mac != mac {
			continue
		}
		known++
		if preferred(r, decisive) || impl.Better(r, decisive) {
			t.Errorf("%+v: guest %d is placed by %+v, although there is %+v", h, mac, decisive, r)
		}
	}
	same(t, "placed if there is a route", place.House != 0, known > 0)
	return place.House
}

func TestPromise12NoRouteIsBetter(t *testing.T) {
	here, gone, elsewhere, unknown := 0, 0, 0, 0
	random := rand.New(rand.NewSource(93))
	for range 4000 {
		h := randomHouse(random)
		for vni := int64(5); vni <= 6; vni++ {
			for mac := int64(160); mac < 166; mac++ {
				if frozenByRule(h, vni, mac) {
					continue
				}
				house := wantNoneBetter(t, h, vni, mac)
				isGuest := impl.GuestAt(h.Guests, vni, mac) != impl.Guest{}
				switch {
				case house == h.Id:
					here++
				case house == 0:
					unknown++
				case isGuest:
					gone++
				default:
					elsewhere++
				}
			}
		}
	}
	for what, n := range map[string]int{"here": here, "here, and better elsewhere": gone, "elsewhere": elsewhere, "unknown": unknown} {
		if n < 500 {
			t.Errorf("only %d guests are %s, too few to tell", n, what)
		}
	}
}

// hearing is a house with these received routes of its first teller and these guests, and nobody frozen.
func hearing(routes []impl.Route, guests ...impl.Guest) impl.House {
	return houseWith(func(h *impl.House) {
		h.Rib, h.Guests, h.Frozen = nil, guests, nil
		for _, r := range routes {
			h.Rib = impl.RibPut(h.Rib, 1, r).Rib
		}
	})
}

func TestBestHeld(t *testing.T) {
	same(t, "no routes", impl.BestHeld(hearing(nil), 5, 161), impl.Route{})
	own := []impl.Route{route(5, 161, 21, 2, 9), stuck(route(5, 162, 22, 2, 1))}
	same(t, "only routes of this house", impl.BestHeld(hearing(own), 5, 161), impl.Route{})
	same(t, "only a Sticky route of this house", impl.BestHeld(hearing(own), 5, 162), impl.Route{})
	other := route(5, 161, 31, 3, 1)
	same(t, "a worse route of another house", impl.BestHeld(hearing(append(own, other)), 5, 161), other)
	same(t, "with a guest here that is better", impl.BestHeld(hearing([]impl.Route{other}, someGuestHere()), 5, 161), other)
	better := route(5, 161, 41, 4, 2)
	same(t, "two of other houses", impl.BestHeld(hearing([]impl.Route{other, better}), 5, 161), better)
	equal := route(5, 161, 51, 1, 2)
	same(t, "equally often moved", impl.BestHeld(hearing([]impl.Route{other, better, equal}), 5, 161), equal)
	sticky := stuck(route(5, 161, 61, 4, 0))
	same(t, "a Sticky one", impl.BestHeld(hearing([]impl.Route{equal, other, sticky}), 5, 161), sticky)
	same(t, "of another room", impl.BestHeld(hearing([]impl.Route{other}), 6, 161), impl.Route{})
	same(t, "of another guest", impl.BestHeld(hearing([]impl.Route{other}), 5, 162), impl.Route{})
	same(t, "rooms are no guests", impl.BestHeld(hearing([]impl.Route{roomAt(5, 3)}), 5, 0), impl.Route{})
	h := someHouse()
	same(t, "the first of two tellers", impl.BestHeld(h, 5, 164), route(5, 164, 34, 4, 5))
	same(t, "a Stale route", impl.BestHeld(h, 5, 166), route(5, 166, 26, 3, 1))
	same(t, "a guest that is frozen here", impl.BestHeld(h, 5, 168), route(5, 168, 28, 4, 9))
	for _, wrong := range wrongHouses() {
		same(t, "an invalid house", impl.BestHeld(wrong, 5, 164), impl.Route{})
	}
}

// wrongHouses are houses that are not valid, each for one reason, though they know the guests of some house.
func wrongHouses() []impl.House {
	return []impl.House{
		houseWith(func(h *impl.House) { h.Id, h.Frozen = 5, nil }),
		houseWith(func(h *impl.House) { h.Now = impl.MaxTime + 1 }),
		houseWith(func(h *impl.House) { h.Now = 299 }),
		houseWith(func(h *impl.House) { h.Epoch = 6 }),
		houseWith(func(h *impl.House) { h.Epoch = impl.MaxTime + 1 }),
		houseWith(func(h *impl.House) { h.Doors = append(h.Doors, 0) }),
		houseWith(func(h *impl.House) { h.Doors[3] = -1 }),
		houseWith(func(h *impl.House) { h.Pipes = append(h.Pipes, impl.Pipe{Epoch: 1}) }),
		houseWith(func(h *impl.House) { h.Pipes = h.Pipes[:1] }),
		houseWith(func(h *impl.House) { h.Rib[0].Route.Seq = -1 }),
		houseWith(func(h *impl.House) { h.Guests[0].Ip = -1 }),
		houseWith(func(h *impl.House) { h.Guests[0].Door = 2 }),
		houseWith(func(h *impl.House) { h.Went[0].Vni = 0 }),
		houseWith(func(h *impl.House) { h.Frozen[1].Door = 4 }),
		houseWith(func(h *impl.House) { h.Frozen[2].Door = 1 }),
	}
}

func TestWrongHouses(t *testing.T) {
	for i, h := range wrongHouses() {
		wantWrongHouse(t, fmt.Sprint("wrong house ", i), h)
	}
}

// someGuestHere is a guest of room 5 at door 3, with Seq 4.
func someGuestHere() impl.Guest {
	return impl.Guest{Vni: 5, Mac: 161, Ip: 11, Door: 3, Seq: 4, Seen: 9}
}

func TestPlaceOfAGuestHere(t *testing.T) {
	here := impl.Place{House: 2, Door: 3}
	g := someGuestHere()
	for what, routes := range map[string][]impl.Route{
		"no route":                               nil,
		"a route of the house itself":            {route(5, 161, 9, 2, 9)},
		"a Sticky route of the house itself":     {stuck(route(5, 161, 9, 2, 9))},
		"a route with a smaller Seq":             {route(5, 161, 9, 1, 3)},
		"the same Seq and a greater Origin":      {route(5, 161, 9, 3, 4)},
		"all that is worse":                      {route(5, 161, 9, 1, 3), route(5, 161, 9, 2, 9), route(5, 161, 9, 3, 4), route(5, 161, 9, 4, 4)},
		"better routes of others":                {route(5, 162, 9, 1, 9), route(6, 161, 9, 1, 9)},
		"a house with the room":                  {roomAt(5, 1)},
		"a route with a better Ip, if it counts": {route(5, 161, impl.MaxIp, 3, 4)},
	} {
		same(t, what, impl.PlaceOf(hearing(routes, g), 5, 161), here)
		same(t, what+", and the guest is Sticky", impl.PlaceOf(hearing(routes, pinned(g)), 5, 161), here)
	}
	for what, r := range map[string]impl.Route{
		"a greater Seq":                      route(5, 161, 9, 3, 5),
		"the same Seq and a smaller Origin":  route(5, 161, 9, 1, 4),
		"a greater Seq and a smaller Origin": route(5, 161, 9, 1, 9),
		"Sticky, and a smaller Seq":          stuck(route(5, 161, 9, 4, 0)),
	} {
		there := impl.Place{House: r.Origin}
		same(t, what, impl.PlaceOf(hearing([]impl.Route{r}, g), 5, 161), there)
		worse := []impl.Route{route(5, 161, 9, 1, 1), route(5, 161, 9, 3, 1), route(5, 161, 9, 4, 1)}
		same(t, what+", and worse ones", impl.PlaceOf(hearing(append(worse, r), g), 5, 161), there)
		if !r.Sticky {
			same(t, what+", and the guest is Sticky", impl.PlaceOf(hearing([]impl.Route{r}, pinned(g)), 5, 161), here)
		}
	}
	for _, origin := range []int64{1, 3, 4} {
		for seq := int64(3); seq <= 5; seq++ {
			want := here
			if seq > 4 || seq == 4 && origin == 1 {
				want = impl.Place{House: origin}
			}
			r := stuck(route(5, 161, 9, origin, seq))
			same(t, fmt.Sprint("both Sticky, origin ", origin, ", Seq ", seq), impl.PlaceOf(hearing([]impl.Route{r}, pinned(g)), 5, 161), want)
		}
	}
	for door := int64(1); door <= 4; door++ {
		h := houseWith(func(h *impl.House) {
			h.Doors, h.Rib, h.Guests, h.Frozen = []int64{5, 5, 5, 5}, nil, []impl.Guest{g}, nil
		})
		h.Guests[0].Door = door
		same(t, fmt.Sprint("at door ", door), impl.PlaceOf(h, 5, 161), impl.Place{House: 2, Door: door})
	}
}

func TestPlaceOfAGuestElsewhere(t *testing.T) {
	for _, origin := range []int64{1, 3, 4} {
		for _, seq := range []int64{0, 1, impl.MaxTime} {
			r := route(5, 161, 9, origin, seq)
			want := impl.Place{House: origin}
			same(t, fmt.Sprintf("%+v", r), impl.PlaceOf(hearing([]impl.Route{r}), 5, 161), want)
			same(t, fmt.Sprintf("Sticky %+v", r), impl.PlaceOf(hearing([]impl.Route{stuck(r)}), 5, 161), want)
			elsewhere := someGuestHere()
			elsewhere.Mac = 160
			same(t, fmt.Sprintf("%+v and another guest", r), impl.PlaceOf(hearing([]impl.Route{r}, elsewhere), 5, 161), want)
		}
	}
	two := hearing([]impl.Route{route(5, 161, 9, 4, 7), route(5, 161, 9, 3, 8)})
	same(t, "the better one of two", impl.PlaceOf(two, 5, 161), impl.Place{House: 3})
}

func TestPlaceOfAnUnknownGuest(t *testing.T) {
	for _, h := range []impl.House{hearing(nil), hearing([]impl.Route{route(5, 161, 9, 2, 9), roomAt(5, 1)}), hearing([]impl.Route{route(5, 161, 9, 3, 9)}, someGuestHere())} {
		for _, mac := range append([]int64{160, 162, 0, 161 + 1<<32, -161}, singles.out...) {
			same(t, fmt.Sprint("guest ", mac), impl.PlaceOf(h, 5, mac), impl.Place{})
		}
		for _, vni := range append([]int64{4, 6, 161, 5 + 1<<24, 5 + 1<<32, -5}, vnis.out...) {
			same(t, fmt.Sprint("room ", vni), impl.PlaceOf(h, vni, 161), impl.Place{})
		}
		same(t, "no room and no guest", impl.PlaceOf(h, 0, 0), impl.Place{})
	}
	same(t, "only announced by this house", impl.PlaceOf(hearing([]impl.Route{route(5, 161, 9, 2, 9)}), 5, 161), impl.Place{})
	for _, wrong := range wrongHouses() {
		for _, name := range namesIn(wrong) {
			same(t, "an invalid house", impl.PlaceOf(wrong, name[0], name[1]), impl.Place{})
		}
	}
}

func TestPlaceOfAFrozenGuest(t *testing.T) {
	freeze := func(h impl.House, house int64, door int64) impl.House {
		h.Frozen = []impl.Frozen{{Vni: 5, Mac: 161, House: house, Door: door}}
		return h
	}
	houses := map[string]impl.House{
		"nothing known":     hearing(nil),
		"a guest here":      hearing(nil, someGuestHere()),
		"a guest elsewhere": hearing([]impl.Route{stuck(route(5, 161, 9, 1, 9))}),
		"a better route":    hearing([]impl.Route{stuck(route(5, 161, 9, 1, 9))}, someGuestHere()),
		"a worse route":     hearing([]impl.Route{route(5, 161, 9, 1, 0)}, someGuestHere()),
	}
	for what, h := range houses {
		for _, house := range []int64{0, 1, 3, 4} {
			same(t, fmt.Sprint(what, ", frozen at ", house), impl.PlaceOf(freeze(h, house, 0), 5, 161), impl.Place{House: house})
		}
		for _, door := range []int64{1, 3} {
			same(t, fmt.Sprint(what, ", frozen at door ", door), impl.PlaceOf(freeze(h, 2, door), 5, 161), impl.Place{House: 2, Door: door})
		}
		// Those with the same MAC address or room are not frozen with it.
		frozen := freeze(h, 4, 0)
		frozen.Frozen[0].Vni = 6
		same(t, what+", frozen in another room", impl.PlaceOf(frozen, 5, 161), impl.PlaceOf(h, 5, 161))
		frozen = freeze(h, 4, 0)
		frozen.Frozen[0].Mac = 162
		same(t, what+", another guest is frozen", impl.PlaceOf(frozen, 5, 161), impl.PlaceOf(h, 5, 161))
	}
	h := houseWith(func(h *impl.House) { h.Frozen = iced(8) })
	for _, f := range iced(8) {
		same(t, fmt.Sprintf("one of many: %+v", f), impl.PlaceOf(h, f.Vni, f.Mac), impl.Place{House: f.House, Door: f.Door})
	}
}

func TestOwnRoutesOfRooms(t *testing.T) {
	for _, c := range []struct {
		doors []int64
		rooms []int64
	}{
		{[]int64{0, 0, 0, 0}, nil},
		{[]int64{5, 0, 0, 0}, []int64{5}},
		{[]int64{0, 0, 0, 5}, []int64{5}},
		{[]int64{5, 5, 0, 0}, []int64{5}},
		{[]int64{5, 0, 0, 5}, []int64{5}},
		{[]int64{5, 5, 5, 5}, []int64{5}},
		{[]int64{6, 5, 6, 5}, []int64{5, 6}},
		{[]int64{5, 6, 5, 0}, []int64{5, 6}},
		{[]int64{9, 8, 7, 6}, []int64{6, 7, 8, 9}},
		{[]int64{9, 0, 10, 8}, []int64{8, 9, 10}},
		{[]int64{impl.MaxVni, 1, impl.MaxVni - 1, 2}, []int64{1, 2, impl.MaxVni - 1, impl.MaxVni}},
	} {
		for id := int64(1); id <= 4; id++ {
			h := emptyHouse()
			h.Id, h.Doors = id, c.doors
			var want []impl.Route
			for _, vni := range c.rooms {
				want = append(want, impl.Route{Kind: impl.RtRoom, Vni: vni, Origin: id})
			}
			wantList(t, fmt.Sprint("doors ", c.doors, " of house ", id), impl.OwnRoutes(h), want)
			h.Rib = sortedRib([]impl.Held{held(1, route(5, 161, 9, id, 9)), held(1, route(5, 161, 9, neighbour(id), 9)), held(1, roomAt(11, neighbour(id)))})
			wantList(t, fmt.Sprint("doors ", c.doors, " of house ", id, ", and received routes"), impl.OwnRoutes(h), want)
		}
	}
}

func TestOwnRoutesOfGuests(t *testing.T) {
	h := someHouse()
	rooms := []impl.Route{roomAt(5, 2), roomAt(6, 2)}
	guests := []impl.Route{route(5, 161, 11, 2, 3), route(5, 162, 12, 2, 3), stuck(route(5, 163, 13, 2, 0)), route(6, 161, 61, 2, 5)}
	wantList(t, "guests, and one of them frozen", impl.OwnRoutes(h), append(slices.Clone(rooms), guests...))
	h.Frozen = nil
	guests = slices.Insert(guests, 3, route(5, 168, 18, 2, 2))
	wantList(t, "nobody frozen", impl.OwnRoutes(h), append(slices.Clone(rooms), guests...))
	for i, g := range h.Guests {
		for _, f := range []impl.Frozen{{Vni: g.Vni, Mac: g.Mac}, {Vni: g.Vni, Mac: g.Mac, House: 3}, {Vni: g.Vni, Mac: g.Mac, House: 2, Door: g.Door}} {
			h.Frozen = []impl.Frozen{f}
			rest := slices.Delete(slices.Clone(guests), i, i+1)
			wantList(t, fmt.Sprintf("only %+v", f), impl.OwnRoutes(h), append(slices.Clone(rooms), rest...))
		}
		// Its name differs from those of all guests in one number.
		h.Frozen = []impl.Frozen{{Vni: g.Vni + 7, Mac: g.Mac}}
		wantList(t, "frozen in another room", impl.OwnRoutes(h), append(slices.Clone(rooms), guests...))
		h.Frozen = []impl.Frozen{{Vni: g.Vni, Mac: g.Mac + 100}}
		wantList(t, "another one frozen", impl.OwnRoutes(h), append(slices.Clone(rooms), guests...))
	}
	h = houseWith(func(h *impl.House) { h.Guests, h.Frozen = nil, iced(8) })
	wantList(t, "frozen guests that are not here", impl.OwnRoutes(h), rooms)
	for _, wrong := range wrongHouses() {
		wantList(t, "an invalid house", impl.OwnRoutes(wrong), nil)
	}
}

func TestWhoHasOfOneOwner(t *testing.T) {
	g := someGuestHere()
	here, there := hearing(nil, g), hearing([]impl.Route{route(5, 161, 11, 3, 2)})
	for what, h := range map[string]impl.House{"here": here, "there": there} {
		same(t, what, impl.WhoHas(h, 5, 11), 161)
		for _, ip := range append([]int64{10, 12, 1, 0, impl.MaxIp, 11 + 1<<32, -11}, ips.out...) {
			same(t, fmt.Sprint(what, ", address ", ip), impl.WhoHas(h, 5, ip), -1)
		}
		for _, vni := range append([]int64{4, 6, 1, 11, 161, 5 + 1<<24, 5 + 1<<32}, vnis.out...) {
			same(t, fmt.Sprint(what, ", room ", vni), impl.WhoHas(h, vni, 11), -1)
		}
		h.Frozen = []impl.Frozen{{Vni: 5, Mac: 161}}
		same(t, what+", frozen", impl.WhoHas(h, 5, 11), -1)
		h.Frozen[0] = impl.Frozen{Vni: 5, Mac: 161, House: 2, Door: 3}
		same(t, what+", frozen here", impl.WhoHas(h, 5, 11), -1)
		h.Frozen[0] = impl.Frozen{Vni: 5, Mac: 162, House: 2, Door: 3}
		same(t, what+", another one frozen", impl.WhoHas(h, 5, 11), 161)
		h.Frozen[0] = impl.Frozen{Vni: 6, Mac: 161}
		same(t, what+", frozen in another room", impl.WhoHas(h, 5, 11), 161)
	}
	same(t, "nobody", impl.WhoHas(hearing(nil), 5, 11), -1)
	same(t, "only announced by this house", impl.WhoHas(hearing([]impl.Route{route(5, 161, 11, 2, 2)}), 5, 11), -1)
	same(t, "a Sticky guest here", impl.WhoHas(hearing(nil, pinned(g)), 5, 11), 161)
	for _, mac := range []int64{0, 1, lastSingleMac} {
		same(t, fmt.Sprint("guest there ", mac), impl.WhoHas(hearing([]impl.Route{route(5, mac, 11, 3, 2)}), 5, 11), mac)
		other := g
		other.Mac = mac
		same(t, fmt.Sprint("guest here ", mac), impl.WhoHas(hearing(nil, other), 5, 11), mac)
	}
	for _, wrong := range wrongHouses() {
		same(t, "an invalid house", impl.WhoHas(wrong, 5, 34), -1)
	}
}

func TestWhoHasOfAddressesAtTheLimits(t *testing.T) {
	for _, ip := range []int64{0, 1, 2, impl.MaxIp - 1, impl.MaxIp} {
		g := someGuestHere()
		g.Ip = ip
		want := int64(161)
		if ip == 0 {
			want = -1
		}
		same(t, fmt.Sprint("here ", ip), impl.WhoHas(hearing(nil, g), 5, ip), want)
		same(t, fmt.Sprint("there ", ip), impl.WhoHas(hearing([]impl.Route{route(5, 161, ip, 3, 2)}), 5, ip), want)
	}
	for _, vni := range []int64{1, impl.MaxVni} {
		same(t, fmt.Sprint("room ", vni), impl.WhoHas(hearing([]impl.Route{route(vni, 161, 11, 3, 2)}), vni, 11), 161)
	}
	// A room has no address.
	same(t, "a room", impl.WhoHas(hearing([]impl.Route{roomAt(5, 3)}), 5, 0), -1)
}

func TestWhoHasOfSeveralOwners(t *testing.T) {
	at := func(mac int64) impl.Guest {
		g := someGuestHere()
		g.Mac = mac
		return g
	}
	h := hearing([]impl.Route{route(5, 160, 11, 4, 2), route(5, 163, 11, 1, 9), route(6, 159, 11, 1, 9), route(5, 158, 10, 1, 9)}, at(161), at(162))
	for _, want := range []int64{160, 161, 162, 163, -1} {
		same(t, "the least one that is not frozen", impl.WhoHas(h, 5, 11), want)
		if want > 0 {
			h.Frozen = append(h.Frozen, impl.Frozen{Vni: 5, Mac: want})
		}
	}
	same(t, "in the other room", impl.WhoHas(h, 6, 11), 159)
	h = hearing([]impl.Route{route(5, 163, 11, 4, 2), route(5, 161, 11, 4, 3), route(5, 162, 11, 1, 9)})
	same(t, "the least one of those elsewhere", impl.WhoHas(h, 5, 11), 161)
	h = hearing([]impl.Route{route(5, 163, 11, 4, 2)}, at(1<<32), at(1<<41))
	same(t, "the least one is elsewhere", impl.WhoHas(h, 5, 11), 163)
	h = hearing([]impl.Route{route(5, 1<<33, 11, 4, 2)}, at(1<<32))
	same(t, "the least one is here", impl.WhoHas(h, 5, 11), 1<<32)
}

func TestWhoHasByThePreferredRoute(t *testing.T) {
	g := someGuestHere()
	better, worse := route(5, 161, 31, 3, 5), route(5, 161, 41, 3, 3)
	h := hearing([]impl.Route{better}, g)
	same(t, "better elsewhere: the address there", impl.WhoHas(h, 5, 31), 161)
	same(t, "better elsewhere: the address here", impl.WhoHas(h, 5, 11), -1)
	h = hearing([]impl.Route{worse}, g)
	same(t, "better here: the address here", impl.WhoHas(h, 5, 11), 161)
	same(t, "better here: the address there", impl.WhoHas(h, 5, 41), -1)
	h = hearing([]impl.Route{worse, route(5, 161, 51, 4, 7)})
	same(t, "two houses: the better one", impl.WhoHas(h, 5, 51), 161)
	same(t, "two houses: the other one", impl.WhoHas(h, 5, 41), -1)
	h = hearing([]impl.Route{worse, route(5, 161, 61, 2, 9)})
	same(t, "and this one: the other house", impl.WhoHas(h, 5, 41), 161)
	same(t, "and this one: what it announced", impl.WhoHas(h, 5, 61), -1)
	unknown := g
	unknown.Ip = 0
	h = hearing([]impl.Route{worse}, unknown)
	same(t, "here, and its address is unknown", impl.WhoHas(h, 5, 41), -1)
	same(t, "here, and its address is unknown: no address", impl.WhoHas(h, 5, 0), -1)
	h = hearing([]impl.Route{route(5, 161, 0, 3, 9)}, g)
	same(t, "elsewhere, and its address is unknown", impl.WhoHas(h, 5, 11), -1)
	// A guest with a greater MAC address is found, although the least one had the address.
	h = hearing([]impl.Route{better, route(5, 170, 11, 3, 1)}, g)
	same(t, "the next owner", impl.WhoHas(h, 5, 11), 170)
	h = someHouse()
	same(t, "the first teller", impl.WhoHas(h, 5, 34), 164)
	same(t, "the second teller", impl.WhoHas(h, 5, 44), -1)
	same(t, "a Sticky one", impl.WhoHas(h, 5, 37), 167)
}

func TestHouseExample(t *testing.T) {
	h := impl.HouseNew(1, 1, []int64{5, 6, 5, 0}, 2).House
	same(t, "before", impl.PlaceOf(h, 5, 161), impl.Place{})
	same(t, "nobody has it", impl.WhoHas(h, 5, 11), -1)
	h.Rib = impl.RibPut(h.Rib, 2, route(5, 161, 11, 3, 4)).Rib
	same(t, "the house", impl.PlaceOf(h, 5, 161), impl.Place{House: 3, Door: 0})
	same(t, "by its Ip", impl.WhoHas(h, 5, 11), 161)
}

// roomyHouse returns the house with unused room behind its lists, and a function that returns a copy of all of that memory.
func roomyHouse(h impl.House) (impl.House, func() impl.House) {
	all := copyOfHouse(h)
	all.Doors, all.Rib, all.Guests = append(all.Doors, 5, 6), append(all.Rib, smallRib()...), append(all.Guests, fewGuests()...)
	all.Went, all.Frozen, all.Pipes = append(all.Went, walk(3)...), append(all.Frozen, iced(3)...), append(all.Pipes, somePipe())
	for i := range all.Pipes {
		all.Pipes[i], _ = roomy(all.Pipes[i])
	}
	within := all
	within.Doors, within.Rib, within.Guests = all.Doors[:len(h.Doors)], all.Rib[:len(h.Rib)], all.Guests[:len(h.Guests)]
	within.Went, within.Frozen, within.Pipes = all.Went[:len(h.Went)], all.Frozen[:len(h.Frozen)], all.Pipes[:len(h.Pipes)]
	return within, func() impl.House {
		full := copyOfHouse(all)
		for i, p := range all.Pipes {
			full.Pipes[i].Out = slices.Clone(p.Out[:cap(p.Out)])
		}
		return full
	}
}

// wipeHouse clears all memory of a house, also that behind its lists.
func wipeHouse(h impl.House) {
	for i := range h.Pipes {
		clear(h.Pipes[i].Out[:cap(h.Pipes[i].Out)])
	}
	clear(h.Doors[:cap(h.Doors)])
	clear(h.Pipes[:cap(h.Pipes)])
	clear(h.Rib[:cap(h.Rib)])
	clear(h.Guests[:cap(h.Guests)])
	clear(h.Went[:cap(h.Went)])
	clear(h.Frozen[:cap(h.Frozen)])
}

func argumentHouses() []impl.House {
	unsorted := houseWith(func(h *impl.House) { h.Doors, h.Guests, h.Frozen = []int64{9, 5, 9, 6}, nil, nil })
	return append(wrongHouses(), someHouse(), emptyHouse(), unsorted, houseWith(func(h *impl.House) { h.Frozen = iced(8) }))
}

func TestHousesLeaveTheirArguments(t *testing.T) {
	for i, given := range argumentHouses() {
		h, all := roomyHouse(given)
		before := all()
		impl.HouseRight(h)
		impl.OwnRoutes(h)
		for _, name := range houseProbes(h) {
			impl.BestHeld(h, name[0], name[1])
			impl.PlaceOf(h, name[0], name[1])
		}
		for _, ip := range addressProbes(h) {
			impl.WhoHas(h, 5, ip)
		}
		if !sameHouses(all(), before) {
			t.Errorf("house %d is changed from %+v to %+v", i, before, all())
		}
	}
	for _, doors := range someDoors() {
		all := append(slices.Clone(doors), 5, 6, 7)
		before := slices.Clone(all)
		impl.HouseNew(1, 1, all[:len(doors)], 2)
		wantList(t, "HouseNew changes its argument", all, before)
	}
}

func TestNewHousesAreNew(t *testing.T) {
	for _, doors := range someDoors() {
		given := append(slices.Clone(doors), 5, 6, 7)[:len(doors)]
		first, second := impl.HouseNew(3, 9, given, 2), impl.HouseNew(3, 9, given, 2)
		want := houseNewByRule(3, 9, doors, 2)
		clear(given[:cap(given)])
		wantHouse(t, "HouseNew after its argument is changed", first, want)
		wipeHouse(first.House)
		wantHouse(t, "HouseNew after another result is changed", second, want)
	}
}

func TestOwnRoutesAreNew(t *testing.T) {
	for _, given := range argumentHouses() {
		h := copyOfHouse(given)
		first, second := impl.OwnRoutes(h), impl.OwnRoutes(h)
		want := slices.Clone(first)
		wipeHouse(h)
		wantList(t, "OwnRoutes after its argument is changed", first, want)
		clear(first[:cap(first)])
		wantList(t, "OwnRoutes after another result is changed", second, want)
	}
}
