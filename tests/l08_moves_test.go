package tests

import (
	"fmt"
	"math/rand"
	"slices"
	"testing"

	"loop.example/g00667/impl"
)

func someMove() impl.Went {
	return impl.Went{Vni: 5, Mac: 161, At: 300}
}

func moveAt(w impl.Went, at int64) impl.Went {
	w.At = at
	return w
}

// movesAt returns moves of one guest at these times.
func movesAt(ats ...int64) []impl.Went {
	var out []impl.Went
	for _, at := range ats {
		out = append(out, moveAt(someMove(), at))
	}
	return out
}

// walk returns n moves of six guests of two rooms, every second of which has the time of the one before it.
func walk(n int) []impl.Went {
	var out []impl.Went
	for i := range int64(n) {
		out = append(out, impl.Went{Vni: 5 + i%2, Mac: 161 + i%3, At: 300 + i/2*2})
	}
	return out
}

// wentField is one number of a move and its range.
type wentField struct {
	name   string
	set    func(w *impl.Went, n int64)
	limits inAndOut
}

func wentFields() []wentField {
	return []wentField{
		{"Vni", func(w *impl.Went, n int64) { w.Vni = n }, vnis},
		{"Mac", func(w *impl.Went, n int64) { w.Mac = n }, macs},
		{"At", func(w *impl.Went, n int64) { w.At = n }, times},
	}
}

// movesWith returns moves with one field set to each number that is picked from its range.
func movesWith(pick func(limits inAndOut) []int64) []impl.Went {
	var out []impl.Went
	for _, f := range wentFields() {
		for _, n := range pick(f.limits) {
			w := someMove()
			f.set(&w, n)
			out = append(out, w)
		}
	}
	return out
}

// movesAtLimits returns valid moves, with each field at its limits; groups may move, too.
func movesAtLimits() []impl.Went {
	least := impl.Went{Vni: 1}
	greatest := impl.Went{Vni: impl.MaxVni, Mac: impl.MaxMac, At: impl.MaxTime}
	group := impl.Went{Vni: 5, Mac: 1 << 40, At: 300}
	return append(movesWith(func(limits inAndOut) []int64 { return limits.in }), least, greatest, group)
}

// wrongMoves returns moves that are not valid, most of them because of one field.
func wrongMoves() []impl.Went {
	return append(movesWith(func(limits inAndOut) []int64 { return limits.out }), impl.Went{}, impl.Went{Mac: 161, At: 300})
}

func wentError(code int64) impl.WentOut {
	return impl.WentOut{Code: code}
}

func wantWent(t *testing.T, what string, got impl.WentOut, want impl.WentOut) {
	t.Helper()
	if !slices.Equal(got.Went, want.Went) || got.Code != want.Code {
		t.Errorf("%s: got %+v, want %+v", what, got, want)
	}
}

// lastMoves returns the moves without the first ones of those that exceed the size of a list.
func lastMoves(l []impl.Went) []impl.Went {
	for len(l) > 30 {
		l = slices.Delete(l, 0, 1)
	}
	return l
}

// wentPutByRule returns what the document says of WentPut, for a valid list and move.
func wentPutByRule(l []impl.Went, w impl.Went) impl.WentOut {
	for _, other := range l {
		if w.At < other.At {
			return wentError(impl.ErrForm)
		}
	}
	return impl.WentOut{Went: lastMoves(append(slices.Clone(l), w))}
}

// wentCountByRule returns what the document says of WentCount, for valid arguments.
func wentCountByRule(l []impl.Went, vni int64, mac int64, now int64) int64 {
	count := int64(0)
	for _, w := range l {
		if w == (impl.Went{Vni: vni, Mac: mac, At: w.At}) && w.At+30 > now {
			count++
		}
	}
	return count
}

// movesWithout returns the other moves, in order.
func movesWithout(l []impl.Went, drop func(w impl.Went) bool) []impl.Went {
	return slices.DeleteFunc(slices.Clone(l), drop)
}

// wentTrimByRule returns what the document says of WentTrim, for valid arguments.
func wentTrimByRule(l []impl.Went, now int64) impl.WentOut {
	return impl.WentOut{Went: movesWithout(l, func(w impl.Went) bool { return w.At+30 <= now })}
}

// wentDropByRule returns what the document says of WentDrop, for a valid list.
func wentDropByRule(l []impl.Went, vni int64, mac int64) impl.WentOut {
	return impl.WentOut{Went: movesWithout(l, func(w impl.Went) bool { return w.Vni == vni && w.Mac == mac })}
}

// moveProbes are moves of guests of the lists and of others, at some of the times of the lists and at others.
func moveProbes() []impl.Went {
	out := []impl.Went{{Vni: 1}, {Vni: 5, Mac: 160, At: 300}, {Vni: 7, Mac: 161, At: 328}, {Vni: impl.MaxVni, Mac: impl.MaxMac, At: impl.MaxTime}}
	for _, at := range []int64{0, 299, 300, 301, 328, 329} {
		out = append(out, moveAt(someMove(), at), impl.Went{Vni: 6, Mac: 162, At: at})
	}
	return out
}

// moveTimes are times around those at which moves of the lists no longer count.
var moveTimes = []int64{0, 1, 29, 30, 31, 299, 300, 301, 329, 330, 331, 332, 357, 358, 359, impl.MaxTime - 1, impl.MaxTime}

// wantRightWent checks a list with all functions that tell a valid list from others.
func wantRightWent(t *testing.T, what string, l []impl.Went) {
	t.Helper()
	same(t, "WentRight of "+what, impl.WentRight(l), true)
	for _, w := range append(moveProbes(), l...) {
		what := fmt.Sprintf("%s, %+v", what, w)
		wantWent(t, "WentPut: "+what, impl.WentPut(l, w), wentPutByRule(l, w))
		wantWent(t, "WentDrop: "+what, impl.WentDrop(l, w.Vni, w.Mac), wentDropByRule(l, w.Vni, w.Mac))
		for _, now := range append([]int64{w.At, min(w.At+29, impl.MaxTime), min(w.At+30, impl.MaxTime)}, moveTimes...) {
			same(t, fmt.Sprint("WentCount: ", what, ", now ", now), impl.WentCount(l, w.Vni, w.Mac, now), wentCountByRule(l, w.Vni, w.Mac, now))
		}
	}
	for _, now := range moveTimes {
		wantWent(t, fmt.Sprint("WentTrim: ", what, ", now ", now), impl.WentTrim(l, now), wentTrimByRule(l, now))
	}
}

// wantWrongWent checks that all functions reject a list, whatever their other arguments are.
func wantWrongWent(t *testing.T, what string, l []impl.Went) {
	t.Helper()
	same(t, "WentRight of "+what, impl.WentRight(l), false)
	code := int64(impl.ErrForm)
	if len(l) > impl.MaxList {
		code = impl.ErrSize
	}
	for _, w := range append(moveProbes(), impl.Went{}, l[0], l[len(l)-1]) {
		what := fmt.Sprintf("%s, %+v", what, w)
		wantWent(t, "WentPut: "+what, impl.WentPut(l, w), wentError(code))
		wantWent(t, "WentDrop: "+what, impl.WentDrop(l, w.Vni, w.Mac), wentError(code))
		for _, now := range []int64{-1, 0, 300, 329, w.At, impl.MaxTime, impl.MaxTime + 1} {
			same(t, fmt.Sprint("WentCount: ", what, ", now ", now), impl.WentCount(l, w.Vni, w.Mac, now), 0)
		}
	}
	for _, now := range append([]int64{-1, impl.MaxTime + 1}, moveTimes...) {
		wantWent(t, fmt.Sprint("WentTrim: ", what, ", now ", now), impl.WentTrim(l, now), wentError(code))
	}
}

func TestMoveLimits(t *testing.T) {
	same(t, "MoveWindow", impl.MoveWindow, 30)
	same(t, "MoveLimit", impl.MoveLimit, 4)
	same(t, "MaxMoves", impl.MaxMoves, 30)
}

func TestMoveFieldsInside(t *testing.T) {
	for _, w := range movesAtLimits() {
		what := fmt.Sprintf("%+v", w)
		l := []impl.Went{w}
		wantRightWent(t, what, l)
		wantWent(t, "WentPut of "+what, impl.WentPut(nil, w), impl.WentOut{Went: l})
		wantWent(t, "WentPut of "+what+" again", impl.WentPut(l, w), impl.WentOut{Went: []impl.Went{w, w}})
		same(t, "WentCount: "+what, impl.WentCount(l, w.Vni, w.Mac, w.At), 1)
		wantWent(t, "WentTrim: "+what, impl.WentTrim(l, w.At), impl.WentOut{Went: l})
		wantWent(t, "WentDrop: "+what, impl.WentDrop(l, w.Vni, w.Mac), impl.WentOut{})
	}
}

func TestMoveFieldsOutside(t *testing.T) {
	for _, w := range wrongMoves() {
		what := fmt.Sprintf("%+v", w)
		wantWrongWent(t, what, []impl.Went{w})
		wantWrongWent(t, what+" first", append([]impl.Went{w}, walk(5)...))
		wantWrongWent(t, what+" last", append(walk(5), w))
		for n := range impl.MaxMoves + 1 {
			wantWent(t, fmt.Sprint("WentPut of ", what, " in a list of ", n), impl.WentPut(walk(n), w), wentError(impl.ErrForm))
			wantWent(t, fmt.Sprint("WentPut of ", what, " in a wrong list of ", n+1), impl.WentPut(append(walk(n), w), w), wentError(impl.ErrForm))
		}
		// Its time is that of the last move, so that only the other fields are at fault, if they are.
		if w.At == 300 {
			wantWent(t, "WentPut of "+what+" at the same time", impl.WentPut(movesAt(300), w), wentError(impl.ErrForm))
		}
	}
}

func TestWentWithAWrongMoveInEachPlace(t *testing.T) {
	for _, n := range []int{1, 2, 3, 7, impl.MaxMoves - 1, impl.MaxMoves} {
		for at := range n {
			for _, f := range wentFields() {
				for _, wrong := range []int64{f.limits.out[0], f.limits.out[1]} {
					l := walk(n)
					f.set(&l[at], wrong)
					wantWrongWent(t, fmt.Sprint(f.name, " ", wrong, " at ", at, " of ", n), l)
				}
			}
			l := walk(n)
			l[at] = impl.Went{}
			wantWrongWent(t, fmt.Sprint("no move at ", at, " of ", n), l)
		}
	}
}

func TestWentSizes(t *testing.T) {
	wantRightWent(t, "nil", nil)
	wantRightWent(t, "an empty list", []impl.Went{})
	for n := range impl.MaxMoves + 1 {
		wantRightWent(t, fmt.Sprint("a list of ", n), walk(n))
		wantRightWent(t, fmt.Sprint("one move, as often as ", n), slices.Repeat(movesAt(300), n))
	}
	for _, n := range []int{impl.MaxMoves + 1, impl.MaxMoves + 2, 60, 100, 256, 286, impl.MaxList - 1, impl.MaxList, impl.MaxList + 1, 420} {
		wantWrongWent(t, fmt.Sprint("a list of ", n), walk(n))
		wantWrongWent(t, fmt.Sprint("one move, as often as ", n), slices.Repeat(movesAt(300), n))
		wantWrongWent(t, fmt.Sprint("nothing but zeros, as many as ", n), make([]impl.Went, n))
	}
}

func TestWentOrderOfTimes(t *testing.T) {
	for _, pair := range [][2]int64{{0, 1}, {0, impl.MaxTime}, {255, 256}, {9, 10}, {300, 301}, {impl.MaxTime - 1, impl.MaxTime}} {
		// The order does not depend on the guests.
		for _, macs := range [][2]int64{{161, 161}, {161, 162}, {162, 161}} {
			for _, vnis := range [][2]int64{{5, 5}, {5, 6}, {6, 5}} {
				a := impl.Went{Vni: vnis[0], Mac: macs[0], At: pair[0]}
				b := impl.Went{Vni: vnis[1], Mac: macs[1], At: pair[1]}
				wantMoveOrder(t, fmt.Sprintf("%+v before %+v", a, b), a, b)
			}
		}
	}
}

// wantMoveOrder checks that two moves are in a list only in this order, and that each of them may occur several times.
func wantMoveOrder(t *testing.T, what string, a impl.Went, b impl.Went) {
	t.Helper()
	both := []impl.Went{a, b}
	wantRightWent(t, what, both)
	wantRightWent(t, what+", first twice", []impl.Went{a, a, b})
	wantRightWent(t, what+", last twice", []impl.Went{a, b, b})
	wantRightWent(t, what+", at the time of the first", []impl.Went{a, moveAt(b, a.At), a})
	wantRightWent(t, what+", at the time of the last", []impl.Went{moveAt(a, b.At), b, moveAt(a, b.At)})
	wantWrongWent(t, what+", the other way round", []impl.Went{b, a})
	wantWrongWent(t, what+", first also last", []impl.Went{a, b, a})
	wantWrongWent(t, what+", last also first", []impl.Went{b, a, b})
	wantWent(t, what+", the last one put last", impl.WentPut([]impl.Went{a}, b), impl.WentOut{Went: both})
	wantWent(t, what+", the first one put last", impl.WentPut([]impl.Went{b}, a), wentError(impl.ErrForm))
	wantWent(t, what+", the first one put behind both", impl.WentPut(both, a), wentError(impl.ErrForm))
}

func TestWentNotInOrder(t *testing.T) {
	for _, n := range []int{2, 3, 4, 7, impl.MaxMoves - 1, impl.MaxMoves} {
		for at := range n - 1 {
			l := walk(n)
			for i := range l {
				l[i].At = 300 + int64(i)
			}
			earlier := slices.Clone(l)
			earlier[at+1].At = l[at].At - 1
			wantWrongWent(t, fmt.Sprint("move ", at+1, " of ", n, " one earlier than the one before it"), earlier)
			level := slices.Clone(l)
			level[at+1].At = l[at].At
			wantRightWent(t, fmt.Sprint("move ", at+1, " of ", n, " at the time of the one before it"), level)
			swapped := slices.Clone(l)
			swapped[at], swapped[n-1] = l[n-1], l[at]
			wantWrongWent(t, fmt.Sprint("move ", at, " of ", n, " in the place of the last one"), swapped)
		}
	}
}

func TestWentPutBehindTheLastMove(t *testing.T) {
	for n := 1; n <= impl.MaxMoves+1; n++ {
		l := walk(n - 1)
		last := int64(0)
		if n > 1 {
			last = l[n-2].At
		}
		for _, at := range []int64{last, last + 1, last + 30, impl.MaxTime} {
			w := moveAt(someMove(), at)
			want := append(walk(n-1), w)
			if n > impl.MaxMoves {
				want = want[1:]
			}
			wantWent(t, fmt.Sprint("move ", n, ", at ", at, " after ", last), impl.WentPut(l, w), impl.WentOut{Went: want})
			same(t, fmt.Sprint("valid after move ", n), impl.WentRight(impl.WentPut(l, w).Went), true)
		}
		for _, at := range []int64{last - 1, last - 2, 0, 299} {
			if at < last {
				wantWent(t, fmt.Sprint("move ", n, ", at ", at, " before ", last), impl.WentPut(l, moveAt(someMove(), at)), wentError(impl.ErrForm))
			}
		}
	}
}

func TestWentPutIntoAFullList(t *testing.T) {
	full := walk(impl.MaxMoves)
	w := impl.Went{Vni: 9, Mac: 9, At: 900}
	wantWent(t, "one move less", impl.WentPut(full[:impl.MaxMoves-1], w), impl.WentOut{Went: append(walk(impl.MaxMoves-1), w)})
	wantWent(t, "a full list", impl.WentPut(full, w), impl.WentOut{Went: append(slices.Clone(full[1:]), w)})
	// The first one goes also if it is as recent as all others.
	level := slices.Repeat(movesAt(300), impl.MaxMoves)
	level[0].Mac = 7
	wantWent(t, "all at one time", impl.WentPut(level, level[0]), impl.WentOut{Went: append(slices.Clone(level[1:]), level[0])})
	// The first move is not the last one, so it does not matter when it was.
	late := slices.Repeat(movesAt(900), impl.MaxMoves)
	late[0].At = 0
	wantWent(t, "behind the first move only", impl.WentPut(late, moveAt(w, 899)), wentError(impl.ErrForm))
	wantWent(t, "a wrong move", impl.WentPut(full, impl.Went{Vni: 0, Mac: 9, At: 900}), wentError(impl.ErrForm))
	l := full
	for i := range int64(2 * impl.MaxMoves) {
		l = impl.WentPut(l, moveAt(w, 900+i)).Went
		same(t, "always full", len(l), impl.MaxMoves)
	}
	for i, got := range l {
		same(t, fmt.Sprint("the last moves, at ", i), got, moveAt(w, 930+int64(i)))
	}
}

func TestWentCountAndTrimAtTheEdge(t *testing.T) {
	for _, at := range []int64{0, 1, 20, 29, 30, 31, 300, impl.MaxTime - 31, impl.MaxTime - 30} {
		l := movesAt(at)
		for _, now := range []int64{0, at, at + 1, at + 28, at + 29} {
			what := fmt.Sprint("at ", at, ", counts at ", now)
			same(t, what, impl.WentCount(l, 5, 161, now), 1)
			wantWent(t, what, impl.WentTrim(l, now), impl.WentOut{Went: l})
		}
		for _, now := range []int64{at + 30, at + 31, at + 60, impl.MaxTime} {
			now = min(now, impl.MaxTime)
			what := fmt.Sprint("at ", at, ", does not count at ", now)
			same(t, what, impl.WentCount(l, 5, 161, now), 0)
			wantWent(t, what, impl.WentTrim(l, now), impl.WentOut{})
		}
	}
	// These still count at the last time of all.
	for _, at := range []int64{impl.MaxTime - 29, impl.MaxTime - 1, impl.MaxTime} {
		same(t, fmt.Sprint("at ", at), impl.WentCount(movesAt(at), 5, 161, impl.MaxTime), 1)
		wantWent(t, fmt.Sprint("at ", at), impl.WentTrim(movesAt(at), impl.MaxTime), impl.WentOut{Went: movesAt(at)})
	}
}

func TestWentCountOfEachGuest(t *testing.T) {
	l := []impl.Went{{Vni: 5, Mac: 161, At: 1}, {Vni: 5, Mac: 162, At: 1}, {Vni: 6, Mac: 161, At: 5}, {Vni: 5, Mac: 161, At: 5}, {Vni: 5, Mac: 161, At: 9}}
	for _, c := range []struct{ vni, mac, now, want int64 }{
		{5, 161, 9, 3}, {5, 161, 30, 3}, {5, 161, 31, 2}, {5, 161, 34, 2}, {5, 161, 35, 1}, {5, 161, 38, 1}, {5, 161, 39, 0},
		{5, 162, 9, 1}, {5, 162, 30, 1}, {5, 162, 31, 0}, {6, 161, 34, 1}, {6, 161, 35, 0}, {6, 162, 9, 0},
		{5, 160, 9, 0}, {5, 163, 9, 0}, {4, 161, 9, 0}, {7, 161, 9, 0}, {161, 5, 9, 0},
		// Moves that are yet to come count as well.
		{5, 161, 0, 3}, {5, 161, 5, 3}, {5, 162, 0, 1},
	} {
		same(t, fmt.Sprintf("%+v", c), impl.WentCount(l, c.vni, c.mac, c.now), c.want)
	}
	full := slices.Repeat(movesAt(300), impl.MaxMoves)
	same(t, "a full list", impl.WentCount(full, 5, 161, 329), impl.MaxMoves)
	same(t, "a full list, later", impl.WentCount(full, 5, 161, 330), 0)
	same(t, "no moves", impl.WentCount(nil, 5, 161, 0), 0)
}

func TestWentCountAndDropOfNoGuest(t *testing.T) {
	for _, l := range [][]impl.Went{nil, {{Vni: 1}}, movesAt(300, 301), walk(7), walk(impl.MaxMoves)} {
		what := fmt.Sprint("a list of ", len(l))
		none := func(vni int64, mac int64) {
			t.Helper()
			what := fmt.Sprint(what, ", room ", vni, ", guest ", mac)
			same(t, what, impl.WentCount(l, vni, mac, 300), 0)
			same(t, what+", now 0", impl.WentCount(l, vni, mac, 0), 0)
			wantWent(t, what, impl.WentDrop(l, vni, mac), impl.WentOut{Went: l})
		}
		for _, w := range l {
			none(w.Mac, w.Vni)
			none(w.Vni+1<<24, w.Mac)
			none(w.Vni+1<<32, w.Mac)
			none(w.Vni, w.Mac+1<<32)
			none(w.Vni, w.Mac+1<<48)
			none(-w.Vni, -w.Mac)
			for _, n := range farNums {
				none(n, w.Mac)
				if n != w.Mac {
					none(w.Vni, n)
				}
			}
		}
		for _, vni := range farNums {
			for _, mac := range farNums {
				none(vni, mac)
			}
		}
		none(7, 161)
		none(5, 160)
	}
}

func TestWentCountAndTrimOfNoTime(t *testing.T) {
	for _, now := range append([]int64{impl.MaxTime + 30, 300 + 1<<32, -300}, times.out...) {
		for n := range impl.MaxMoves + 1 {
			what := fmt.Sprint("a list of ", n, ", now ", now)
			same(t, what, impl.WentCount(walk(n), 5, 161, now), 0)
			wantWent(t, what, impl.WentTrim(walk(n), now), wentError(impl.ErrForm))
		}
		for _, at := range []int64{0, impl.MaxTime} {
			what := fmt.Sprint("at ", at, ", now ", now)
			same(t, what, impl.WentCount(movesAt(at), 5, 161, now), 0)
			wantWent(t, what, impl.WentTrim(movesAt(at), now), wentError(impl.ErrForm))
		}
	}
	for _, now := range times.in {
		same(t, fmt.Sprint("nil, now ", now), impl.WentCount(nil, 5, 161, now), 0)
		wantWent(t, fmt.Sprint("nil, now ", now), impl.WentTrim(nil, now), impl.WentOut{})
	}
}

func TestWentTrimOfEachNumberOfMoves(t *testing.T) {
	for n := range impl.MaxMoves + 1 {
		for old := range n + 1 {
			l := walk(n)
			for i := range l {
				l[i].At = 200
				if i >= old {
					l[i].At = 201
				}
			}
			what := fmt.Sprint(old, " of ", n, " old")
			wantWent(t, what+", all in time", impl.WentTrim(l, 229), impl.WentOut{Went: l})
			wantWent(t, what+", trimmed", impl.WentTrim(l, 230), impl.WentOut{Went: l[old:]})
			wantWent(t, what+", too late", impl.WentTrim(l, 231), impl.WentOut{})
		}
	}
}

func TestWentTrimLeavesLaterMoves(t *testing.T) {
	l := movesAt(0, 30, 31, 60, 1000, impl.MaxTime)
	for now, rest := range map[int64]int{0: 6, 29: 6, 30: 5, 59: 5, 60: 4, 61: 3, 89: 3, 90: 2, 1029: 2, 1030: 1, impl.MaxTime: 1} {
		wantWent(t, fmt.Sprint("now ", now), impl.WentTrim(l, now), impl.WentOut{Went: l[6-rest:]})
	}
}

func TestWentDropOfEachSubset(t *testing.T) {
	for mask := range 1 << 8 {
		l := walk(8)
		var rest []impl.Went
		for i := range l {
			l[i].Vni, l[i].Mac = 5+int64(i%2), 162+int64(i/2%2)
			if mask>>i&1 == 1 {
				l[i].Vni, l[i].Mac = 5, 161
			} else {
				rest = append(rest, l[i])
			}
		}
		what := fmt.Sprint("moves of the guest as ", mask)
		wantWent(t, what, impl.WentDrop(l, 5, 161), impl.WentOut{Went: rest})
		same(t, what+", count after it", impl.WentCount(impl.WentDrop(l, 5, 161).Went, 5, 161, 300), 0)
	}
}

func TestWentDropOfAllAndOfNone(t *testing.T) {
	for n := range impl.MaxMoves + 1 {
		own := slices.Repeat(movesAt(300), n)
		what := fmt.Sprint(n, " moves")
		wantWent(t, what+" of the guest", impl.WentDrop(own, 5, 161), impl.WentOut{})
		wantWent(t, what+" of another room", impl.WentDrop(own, 6, 161), impl.WentOut{Went: own})
		wantWent(t, what+" of another guest", impl.WentDrop(own, 5, 162), impl.WentOut{Went: own})
	}
	wantWent(t, "old and new moves", impl.WentDrop(movesAt(0, 100, 329, 330, impl.MaxTime), 5, 161), impl.WentOut{})
}

func TestWentErrorsInOrder(t *testing.T) {
	long := walk(impl.MaxList + 1)
	wrong := walk(impl.MaxMoves + 1)
	reversed := walk(impl.MaxMoves)
	slices.Reverse(reversed)
	late := moveAt(someMove(), impl.MaxTime)
	for what, w := range map[string]impl.Went{"a move": late, "a wrong move": {}, "an early move": moveAt(late, 0)} {
		wantWent(t, "WentPut of "+what+": long", impl.WentPut(long, w), wentError(impl.ErrSize))
		wantWent(t, "WentPut of "+what+": MaxMoves and one more", impl.WentPut(wrong, w), wentError(impl.ErrForm))
		wantWent(t, "WentPut of "+what+": reversed", impl.WentPut(reversed, w), wentError(impl.ErrForm))
	}
	// Without its first move, this would be a valid list.
	first := walk(impl.MaxMoves)
	first[0] = impl.Went{}
	wantWent(t, "WentPut: a wrong first move", impl.WentPut(first, late), wentError(impl.ErrForm))
	for _, now := range []int64{-1, 0, 300, impl.MaxTime, impl.MaxTime + 1} {
		wantWent(t, fmt.Sprint("WentTrim: long, now ", now), impl.WentTrim(long, now), wentError(impl.ErrSize))
		wantWent(t, fmt.Sprint("WentTrim: reversed, now ", now), impl.WentTrim(reversed, now), wentError(impl.ErrForm))
		same(t, fmt.Sprint("WentCount: long, now ", now), impl.WentCount(long, 5, 161, now), 0)
		same(t, fmt.Sprint("WentCount: reversed, now ", now), impl.WentCount(reversed, 5, 161, now), 0)
	}
	for _, vni := range []int64{0, 5, 7} {
		wantWent(t, fmt.Sprint("WentDrop: long, room ", vni), impl.WentDrop(long, vni, 161), wentError(impl.ErrSize))
		wantWent(t, fmt.Sprint("WentDrop: reversed, room ", vni), impl.WentDrop(reversed, vni, 161), wentError(impl.ErrForm))
	}
}

func TestMovesExample(t *testing.T) {
	l := movesAt(1, 20)
	same(t, "at time 30", impl.WentCount(l, 5, 161, 30), 2)
	same(t, "at time 31", impl.WentCount(l, 5, 161, 31), 1)
	wantWent(t, "trimmed at time 30", impl.WentTrim(l, 30), impl.WentOut{Went: l})
	wantWent(t, "trimmed at time 31", impl.WentTrim(l, 31), impl.WentOut{Went: l[1:]})
}

// logbook is when each guest moved, by Vni and Mac.
type logbook map[[2]int64][]int64

// since returns how often a guest moved after a time.
func (b logbook) since(vni int64, mac int64, past int64) int64 {
	count := int64(0)
	for _, at := range b[[2]int64{vni, mac}] {
		if at > past {
			count++
		}
	}
	return count
}

// TestPromise10CountedExactly lets at most one guest move at each time, so that at most MaxMoves moves are within the window.
func TestPromise10CountedExactly(t *testing.T) {
	frequent, trimmed, dropped := 0, 0, 0
	for seed := range int64(10) {
		random := rand.New(rand.NewSource(seed))
		book := logbook{}
		var l []impl.Went
		for now := int64(0); now < 3000; now += 1 + random.Int63n(1+seed%3) {
			vni, mac := 5+random.Int63n(2), 161+random.Int63n(2)
			switch random.Intn(40) {
			case 0:
				before := len(l)
				l = impl.WentDrop(l, vni, mac).Went
				delete(book, [2]int64{vni, mac})
				dropped += before - len(l)
			case 1, 2:
				before := len(l)
				l = impl.WentTrim(l, now).Went
				trimmed += before - len(l)
			default:
				l = impl.WentPut(l, impl.Went{Vni: vni, Mac: mac, At: now}).Went
				book[[2]int64{vni, mac}] = append(book[[2]int64{vni, mac}], now)
			}
			for _, w := range []impl.Went{{Vni: 5, Mac: 161}, {Vni: 5, Mac: 162}, {Vni: 6, Mac: 161}, {Vni: 6, Mac: 162}} {
				want := book.since(w.Vni, w.Mac, now-30)
				same(t, fmt.Sprintf("seed %d, now %d, %+v", seed, now, w), impl.WentCount(l, w.Vni, w.Mac, now), want)
				if want >= impl.MoveLimit {
					frequent++
				}
			}
		}
	}
	for what, n := range map[string]int{"guests that moved often": frequent, "moves that were trimmed": trimmed, "moves that were dropped": dropped} {
		if n < 300 {
			t.Errorf("%s: only %d, too few to tell", what, n)
		}
	}
}

// TestPromise10TrimmedMovesDoNotCount applies the same moves to a list that is trimmed again and again and to one that never is.
func TestPromise10TrimmedMovesDoNotCount(t *testing.T) {
	full, shorter := 0, 0
	for seed := range int64(10) {
		random := rand.New(rand.NewSource(seed))
		var kept, tidy []impl.Went
		for now := int64(0); now < 2000; now += random.Int63n(4) {
			w := impl.Went{Vni: 5 + random.Int63n(2), Mac: 161 + random.Int63n(2), At: now}
			tidy = impl.WentTrim(tidy, now).Went
			if random.Intn(60) == 0 {
				kept, tidy = impl.WentDrop(kept, w.Vni, w.Mac).Went, impl.WentDrop(tidy, w.Vni, w.Mac).Went
			}
			for range random.Intn(5) {
				kept, tidy = impl.WentPut(kept, w).Went, impl.WentPut(tidy, w).Went
			}
			what := fmt.Sprintf("seed %d, %+v", seed, w)
			wantWent(t, what+": what counts", impl.WentTrim(kept, now), impl.WentOut{Went: tidy})
			for later := now; later < now+33; later += 8 {
				same(t, what, impl.WentCount(tidy, w.Vni, w.Mac, later), impl.WentCount(kept, w.Vni, w.Mac, later))
			}
			if len(tidy) == impl.MaxMoves {
				full++
			}
			if len(tidy) < len(kept) {
				shorter++
			}
		}
	}
	if full < 300 || shorter < 300 {
		t.Errorf("only %d full lists and %d that were trimmed, too few to tell", full, shorter)
	}
}

func TestPromise10AllOperations(t *testing.T) {
	overflowed, refused := 0, 0
	for seed := range int64(10) {
		random := rand.New(rand.NewSource(seed))
		var l []impl.Went
		for now := int64(100); now < 8000; now += random.Int63n(5) {
			w := impl.Went{Vni: 5 + random.Int63n(2), Mac: 161 + random.Int63n(3), At: now - random.Int63n(2)}
			what := fmt.Sprintf("seed %d, now %d, %+v", seed, now, w)
			var got, want impl.WentOut
			switch random.Intn(30) {
			case 0:
				got, want = impl.WentDrop(l, w.Vni, w.Mac), wentDropByRule(l, w.Vni, w.Mac)
			case 1:
				got, want = impl.WentTrim(l, now), wentTrimByRule(l, now)
			default:
				got, want = impl.WentPut(l, w), wentPutByRule(l, w)
				if len(l) == impl.MaxMoves {
					overflowed++
				}
			}
			wantWent(t, what, got, want)
			same(t, what+": count", impl.WentCount(l, w.Vni, w.Mac, now), wentCountByRule(l, w.Vni, w.Mac, now))
			if got.Code == impl.OK {
				l = got.Went
				same(t, what+": valid", impl.WentRight(l), true)
			} else {
				refused++
			}
		}
	}
	if overflowed < 300 || refused < 300 {
		t.Errorf("only %d moves in full lists and %d that were refused, too few to tell", overflowed, refused)
	}
}

// wentOperation is a function that takes a list of moves and returns one, with its other arguments.
type wentOperation func(l []impl.Went) impl.WentOut

// wentCalls are all functions that take a list of moves and return one, in each of their cases.
func wentCalls() map[string]wentOperation {
	calls := map[string]wentOperation{}
	for _, w := range append(moveProbes(), impl.Went{}, moveAt(someMove(), impl.MaxTime)) {
		calls[fmt.Sprintf("WentPut of %+v", w)] = func(l []impl.Went) impl.WentOut { return impl.WentPut(l, w) }
		calls[fmt.Sprint("WentDrop of ", w.Vni, " ", w.Mac)] = func(l []impl.Went) impl.WentOut { return impl.WentDrop(l, w.Vni, w.Mac) }
	}
	for _, now := range append([]int64{-1, impl.MaxTime + 1}, moveTimes...) {
		calls[fmt.Sprint("WentTrim at ", now)] = func(l []impl.Went) impl.WentOut { return impl.WentTrim(l, now) }
	}
	return calls
}

// roomyWent returns the list with unused room behind it, and all of that memory.
func roomyWent(l []impl.Went) ([]impl.Went, []impl.Went) {
	all := append(slices.Clone(l), walk(5)...)
	return all[:len(l)], all
}

func argumentWent() [][]impl.Went {
	wrong := walk(5)
	slices.Reverse(wrong)
	return [][]impl.Went{{}, walk(1), walk(5), walk(impl.MaxMoves - 1), walk(impl.MaxMoves), wrong, walk(impl.MaxMoves + 1), walk(impl.MaxList + 1)}
}

func TestWentLeaveTheirArguments(t *testing.T) {
	for _, given := range argumentWent() {
		for what, call := range wentCalls() {
			l, all := roomyWent(given)
			before := slices.Clone(all)
			call(l)
			impl.WentRight(l)
			impl.WentCount(l, 5, 161, 320)
			wantList(t, what+" changes its argument", all, before)
		}
	}
}

func TestWentAreNew(t *testing.T) {
	for _, given := range argumentWent() {
		for what, call := range wentCalls() {
			l, all := roomyWent(given)
			first, second := call(l), call(l)
			want := impl.WentOut{Went: slices.Clone(first.Went), Code: first.Code}
			clear(all)
			wantWent(t, what+" after its argument is changed", first, want)
			clear(first.Went[:cap(first.Went)])
			wantWent(t, what+" after another result is changed", second, want)
		}
	}
}
