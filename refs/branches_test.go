package refs_test

import (
	"fmt"
	"math/rand"
	"slices"
	"strings"
	"testing"

	"shipwright/api"
	"shipwright/refs"
)

// id is the Id that begins with that byte and else has noughts; of 0 it is none.
func id(n byte) api.Id { return api.Id{n} }

// named is branches of these names, in the order in which they are given; the first one leads to 1, the next one to 2, and so on.
func named(names ...string) api.Refs {
	var r api.Refs
	for i, name := range names {
		r.List = append(r.List, api.Ref{Name: name, Id: id(byte(i + 1))})
	}
	return r
}

// many is n branches.
func many(n int) api.Refs {
	var names []string
	for i := range n {
		names = append(names, fmt.Sprintf("b%02d", i))
	}
	return named(names...)
}

// P9.1: Check; P9.1, P9.2: what may not be is ErrRefs to Get and Apply, too.
func TestCheck(t *testing.T) {
	long := strings.Repeat("n", 24)
	for _, c := range []struct {
		what string
		r    api.Refs
		want api.Errno
	}{
		{"none", api.Refs{}, api.OK},
		{"an empty list", api.Refs{List: []api.Ref{}}, api.OK},
		{"one", many(1), api.OK},
		{"one less than MaxBranches", many(7), api.OK},
		{"MaxBranches", many(8), api.OK},
		{"one more than MaxBranches", many(9), api.ErrRefs},
		{"many more", many(99), api.ErrRefs},
		{"a name of no bytes", named(""), api.ErrRefs},
		{"a name of no bytes, ahead of others", named("", "a"), api.ErrRefs},
		{"a name of no bytes, behind others", named("a", ""), api.ErrRefs},
		{"a name of one byte", named("a"), api.OK},
		{"a name of MaxName bytes", named(long), api.OK},
		{"a name of one byte more", named(long + "n"), api.ErrRefs},
		{"a name of one byte more behind others", named("a", "b", long+"n"), api.ErrRefs},
		{"a name of one byte more ahead of others", named("a"+long, "b", "c"), api.ErrRefs},
		{"a slash", named("a/b"), api.ErrRefs},
		{"a point", named("."), api.ErrRefs},
		{"two points", named(".."), api.ErrRefs},
		{"three points", named("..."), api.OK},
		{"a space", named("a b"), api.ErrRefs},
		{"a letter that is none here", named("é"), api.ErrRefs},
		{"bytes that are no text", named("a\xff"), api.ErrRefs},
		{"a nought", named("a\x00"), api.ErrRefs},
		{"all kinds of signs", named("-", ".a", "0", "A.z_0-9", "_", "a"), api.OK},
		{"a wrong name in the middle", named("a", "b c", "c"), api.ErrRefs},
		{"names that fall", named("b", "a"), api.ErrRefs},
		{"names that fall at the end", named("a", "c", "b"), api.ErrRefs},
		{"names that fall at the beginning", named("b", "a", "c"), api.ErrRefs},
		{"a name twice", named("a", "a"), api.ErrRefs},
		{"a name twice at the end", named("a", "b", "b"), api.ErrRefs},
		{"a name twice, not side by side", named("a", "b", "a"), api.ErrRefs},
		{"rising byte by byte", named("B", "a", "a-", "a.go", "a0", "aa"), api.OK},
		{"not rising byte by byte", named("a", "B"), api.ErrRefs},
		{"two that lead to one commit", api.Refs{List: []api.Ref{{Name: "a", Id: id(1)}, {Name: "b", Id: id(1)}}}, api.OK},
		{"one that leads to noughts", api.Refs{List: []api.Ref{{Name: "a"}}}, api.OK},
	} {
		if got := refs.Check(c.r); got != c.want || mayRefs(c.r) != (got == api.OK) {
			t.Errorf("%s: %d, want %d", c.what, got, c.want)
		}
		for _, name := range []string{"", "a", "b", "zz", "a/b", "b00"} {
			checkGet(t, c.what, c.r, name)
			checkApply(t, c.what, c.r, api.Move{Name: name, To: id(77)})
			checkApply(t, c.what, c.r, api.Move{Name: name, From: id(1)})
			checkApply(t, c.what, c.r, api.Move{Name: name, From: id(1), To: id(77)})
			checkApply(t, c.what, c.r, api.Move{Name: name})
		}
	}
}

// checkGet holds what Get answers against what it has to.
func checkGet(t *testing.T, what string, r api.Refs, name string) {
	t.Helper()
	got, err := refs.Get(r, name)
	if want, wantErr := wantGet(r, name); got != want || err != wantErr {
		t.Errorf("%s: Get(%v, %q): %v, error %d, want %v, %d", what, r, name, got, err, want, wantErr)
	}
}

// checkApply holds what Apply answers against what it has to, and tells it.
func checkApply(t *testing.T, what string, r api.Refs, m api.Move) (api.Refs, api.Errno) {
	t.Helper()
	before := api.Refs{List: slices.Clone(r.List)}
	got, err := refs.Apply(r, m)
	if want, wantErr := wantApply(r, m); !slices.Equal(got.List, want.List) || err != wantErr {
		t.Errorf("%s: Apply(%v, %v): %v, error %d, want %v, %d", what, r, m, got, err, want, wantErr)
	}
	if !slices.Equal(r.List, before.List) {
		t.Errorf("%s: Apply(%v, %v) has changed them: %v", what, before, m, r)
	}
	if err == api.OK && refs.Check(got) != api.OK {
		t.Errorf("%s: Apply(%v, %v): %v may not be", what, r, m, got)
	}
	return got, err
}

// P9.1: every byte at every place of a name.
func TestNameBytes(t *testing.T) {
	for _, name := range []string{"a", "ab", "abc", ".."} {
		for i := range name {
			for b := range 256 {
				r := named(name[:i] + string([]byte{byte(b)}) + name[i+1:])
				if got := refs.Check(r); mayRefs(r) != (got == api.OK) || got != api.OK && got != api.ErrRefs {
					t.Errorf("%q: %d", r.List[0].Name, got)
				}
				checkApply(t, "a byte", named("b", "n"), api.Move{Name: r.List[0].Name, To: id(9)})
			}
		}
	}
}

// P9.1: Get.
func TestGet(t *testing.T) {
	for _, c := range []struct {
		r    api.Refs
		name string
		id   api.Id
		err  api.Errno
	}{
		{api.Refs{}, "main", id(0), api.ErrNone},
		{api.Refs{}, "", id(0), api.ErrNone},
		{named("main"), "main", id(1), api.OK},
		{named("main"), "mai", id(0), api.ErrNone},
		{named("main"), "main0", id(0), api.ErrNone},
		{named("main"), "", id(0), api.ErrNone},
		{named("main"), "a/b", id(0), api.ErrNone},
		{named("main"), "Main", id(0), api.ErrNone},
		{named("b", "d", "f"), "b", id(1), api.OK},
		{named("b", "d", "f"), "d", id(2), api.OK},
		{named("b", "d", "f"), "f", id(3), api.OK},
		{named("b", "d", "f"), "a", id(0), api.ErrNone},
		{named("b", "d", "f"), "c", id(0), api.ErrNone},
		{named("b", "d", "f"), "e", id(0), api.ErrNone},
		{named("b", "d", "f"), "g", id(0), api.ErrNone},
		{named("b", "a"), "b", id(0), api.ErrRefs},
		{named("b", "b"), "b", id(0), api.ErrRefs},
		{named("b", "a"), "c", id(0), api.ErrRefs},
		{named("a/b"), "a/b", id(0), api.ErrRefs},
		{named(""), "", id(0), api.ErrRefs},
		{many(9), "b00", id(0), api.ErrRefs},
	} {
		if got, err := refs.Get(c.r, c.name); got != c.id || err != c.err {
			t.Errorf("Get(%v, %q): %v, error %d, want %v, %d", c.r, c.name, got, err, c.id, c.err)
		}
		checkGet(t, "Get", c.r, c.name)
	}
	for n := range 9 {
		for i, b := range many(n).List {
			if got, err := refs.Get(many(n), b.Name); got != id(byte(i+1)) || err != api.OK {
				t.Errorf("%d of %d: %v, error %d", i, n, got, err)
			}
		}
	}
}

// P9.1: Same.
func TestSame(t *testing.T) {
	other := named("a", "b", "c")
	other.List[1].Id[31] = 1
	last := named("a", "b", "c")
	last.List[2].Id = id(1)
	for _, c := range []struct {
		what string
		a, b api.Refs
		want bool
	}{
		{"none", api.Refs{}, api.Refs{}, true},
		{"none and an empty list", api.Refs{}, api.Refs{List: []api.Ref{}}, true},
		{"none and one", api.Refs{}, named("a"), false},
		{"the same", named("a", "b", "c"), named("a", "b", "c"), true},
		{"all that there may be", many(8), many(8), true},
		{"another name", named("a", "b", "c"), named("a", "bb", "c"), false},
		{"another first name", named("a", "b", "c"), named("A", "b", "c"), false},
		{"another last name", named("a", "b", "c"), named("a", "b", "d"), false},
		{"another Id", named("a", "b", "c"), other, false},
		{"another last Id", named("a", "b", "c"), last, false},
		{"one more", named("a", "b", "c"), named("a", "b", "c", "d"), false},
		{"one less", named("a", "b", "c"), named("a", "b"), false},
		{"one less at the beginning", named("a", "b", "c"), named("b", "c"), false},
		{"another order", named("a", "b"), api.Refs{List: []api.Ref{{Name: "b", Id: id(2)}, {Name: "a", Id: id(1)}}}, false},
		{"the same that may not be", named("b", "a", "a/b"), named("b", "a", "a/b"), true},
	} {
		if refs.Same(c.a, c.b) != c.want || refs.Same(c.b, c.a) != c.want {
			t.Errorf("%s: %v", c.what, !c.want)
		}
	}
}

// P9.2: each way in which From, To and the branch can stand to one another, on the first, a middle and the last branch, among few and as many as there may be.
func TestApplyWays(t *testing.T) {
	counts := map[api.Errno]int{}
	for _, size := range []int{1, 2, 3, 7, 8} {
		full := many(size)
		for at := range size {
			name := full.List[at].Name
			for leads := range byte(3) { // 0: there is no such branch
				r := api.Refs{List: slices.Clone(full.List)}
				r.List[at].Id = id(100 + leads)
				if leads == 0 {
					r.List = slices.Delete(r.List, at, at+1)
				}
				for from := range byte(3) {
					for to := range byte(4) {
						m := api.Move{Name: name}
						if from > 0 {
							m.From = id(100 + from)
						}
						if to > 0 {
							m.To = id(100 + to)
						}
						var want api.Errno
						switch {
						case from == 0 && to == 0:
							want = api.ErrRefs
						case leads == 0 && from > 0:
							want = api.ErrNone
						case leads > 0 && from == 0:
							want = api.ErrThere
						case leads != from:
							want = api.ErrMoved
						}
						got, err := checkApply(t, "a way", r, m)
						if err != want {
							t.Errorf("Apply(%v, %v): error %d, want %d", r, m, err, want)
						}
						counts[err]++
						if err != api.OK {
							continue
						}
						if now, err := refs.Get(got, name); to > 0 && (now != m.To || err != api.OK) || to == 0 && err != api.ErrNone {
							t.Errorf("Apply(%v, %v): %v", r, m, got)
						}
						for i, b := range full.List {
							if now, err := refs.Get(got, b.Name); i != at && (now != b.Id || err != api.OK) {
								t.Errorf("Apply(%v, %v): %s is %v, error %d", r, m, b.Name, now, err)
							}
						}
					}
				}
			}
		}
	}
	for _, err := range []api.Errno{api.OK, api.ErrRefs, api.ErrNone, api.ErrThere, api.ErrMoved} {
		if counts[err] < 50 {
			t.Errorf("error %d came %d times", err, counts[err])
		}
	}
}

// P9.2: as many as there may be, and which error is told where two could be.
func TestApplyFull(t *testing.T) {
	full, long := many(8), strings.Repeat("n", 24)
	for _, c := range []struct {
		what string
		r    api.Refs
		m    api.Move
		want api.Errno
	}{
		{"one more, first", full, api.Move{Name: "a", To: id(9)}, api.ErrFull},
		{"one more, in the middle", full, api.Move{Name: "b03a", To: id(9)}, api.ErrFull},
		{"one more, last", full, api.Move{Name: "c", To: id(9)}, api.ErrFull},
		{"the last one that may be", many(7), api.Move{Name: "c", To: id(9)}, api.OK},
		{"the last one that may be, first", many(7), api.Move{Name: "a", To: id(9)}, api.OK},
		{"one that moves", full, api.Move{Name: "b07", From: id(8), To: id(9)}, api.OK},
		{"one that stays", full, api.Move{Name: "b07", From: id(8), To: id(8)}, api.OK},
		{"one that goes", full, api.Move{Name: "b00", From: id(1)}, api.OK},
		{"none such, full", full, api.Move{Name: "c", From: id(1), To: id(9)}, api.ErrNone},
		{"none such that is to go, full", full, api.Move{Name: "c", From: id(1)}, api.ErrNone},
		{"one there, full", full, api.Move{Name: "b03", To: id(9)}, api.ErrThere},
		{"elsewhere, full", full, api.Move{Name: "b03", From: id(9), To: id(4)}, api.ErrMoved},
		{"elsewhere, and it is to go", full, api.Move{Name: "b03", From: id(9)}, api.ErrMoved},
		{"more than there may be", many(9), api.Move{Name: "b03", From: id(4)}, api.ErrRefs},
		{"more than there may be, none such", many(9), api.Move{Name: "c", From: id(4)}, api.ErrRefs},
		{"names that fall", named("b", "a"), api.Move{Name: "a", To: id(9)}, api.ErrRefs},
		{"names that fall, none such", named("b", "a"), api.Move{Name: "c", From: id(9)}, api.ErrRefs},
		{"a name that may not be, from one", full, api.Move{Name: "a/b", From: id(1)}, api.ErrRefs},
		{"a name that may not be, full", full, api.Move{Name: "a/b", To: id(1)}, api.ErrRefs},
		{"no name", full, api.Move{To: id(1)}, api.ErrRefs},
		{"no name, among few", named("a"), api.Move{To: id(1)}, api.ErrRefs},
		{"a name of MaxName bytes", named("a"), api.Move{Name: long, To: id(1)}, api.OK},
		{"a name of one byte more", named("a"), api.Move{Name: long + "n", To: id(1)}, api.ErrRefs},
		{"a name of one byte", named("b"), api.Move{Name: "a", To: id(1)}, api.OK},
		{"from none to none, one there", full, api.Move{Name: "b03"}, api.ErrRefs},
		{"from none to none, none there", full, api.Move{Name: "c"}, api.ErrRefs},
		{"an Id that ends otherwise", named("a"), api.Move{Name: "a", From: api.Id{0: 1, 31: 1}, To: id(2)}, api.ErrMoved},
		{"an Id that ends with all that it has", api.Refs{}, api.Move{Name: "a", To: api.Id{31: 1}}, api.OK},
		{"from an Id that ends with all that it has", api.Refs{}, api.Move{Name: "a", From: api.Id{31: 1}}, api.ErrNone},
		{"a branch that leads to noughts", api.Refs{List: []api.Ref{{Name: "a"}}}, api.Move{Name: "a", To: id(1)}, api.ErrThere},
		{"from elsewhere, a branch that leads to noughts", api.Refs{List: []api.Ref{{Name: "a"}}}, api.Move{Name: "a", From: id(1)}, api.ErrMoved},
	} {
		if got, err := checkApply(t, c.what, c.r, c.m); err != c.want || err != api.OK && got.List != nil {
			t.Errorf("%s: %v, error %d, want %d", c.what, got, err, c.want)
		}
	}
}

// P9.1, P9.2, P9.6: moves by chance, one behind the other; what is refused changes nothing.
func TestMoves(t *testing.T) {
	counts := map[api.Errno]int{}
	for seed := range int64(20) {
		rnd := rand.New(rand.NewSource(seed))
		var r api.Refs
		for range 500 {
			m := api.Move{Name: anyOf(rnd, "a", "b", "c", "d", "e", "f", "g", "h", "i", "j", "a-", "B"), From: id(byte(rnd.Intn(3))), To: id(byte(rnd.Intn(3)))}
			if rnd.Intn(3) > 0 {
				m.From, _ = refs.Get(r, m.Name)
			}
			if rnd.Intn(9) == 0 {
				m.Name = anyOf(rnd, "", ".", "a/b", "a b")
			}
			next, err := checkApply(t, "by chance", r, m)
			counts[err]++
			if err == api.OK {
				r = next
			}
			if refs.Check(r) != api.OK {
				t.Fatalf("%v may not be", r)
			}
			checkGet(t, "by chance", r, m.Name)
		}
	}
	for _, err := range []api.Errno{api.OK, api.ErrRefs, api.ErrNone, api.ErrThere, api.ErrMoved, api.ErrFull} {
		if counts[err] < 100 {
			t.Errorf("error %d came %d times", err, counts[err])
		}
	}
}

// R3: branches that are handed in are not changed, nor the room behind them; what is told is new memory.
func TestApplyShares(t *testing.T) {
	for _, m := range []api.Move{
		{Name: "a", To: id(9)}, {Name: "b", From: id(1), To: id(9)}, {Name: "b", From: id(1)},
		{Name: "c", To: id(9)}, {Name: "d", From: id(2), To: id(2)}, {Name: "f", From: id(3)}, {Name: "g", To: id(9)},
	} {
		room := named("b", "d", "f", "room", "more").List
		before := slices.Clone(room)
		r := api.Refs{List: room[:3]}
		got, err := refs.Apply(r, m)
		if err != api.OK || !slices.Equal(room, before) {
			t.Errorf("%v: error %d, and they are %v", m, err, room)
		}
		kept := slices.Clone(got.List)
		clear(room)
		if !slices.Equal(got.List, kept) {
			t.Errorf("%v: what was told has changed with what was handed in", m)
		}
		room = slices.Clone(before)
		got, _ = refs.Apply(api.Refs{List: room[:3]}, m)
		clear(got.List)
		clear(got.List[:cap(got.List)])
		if !slices.Equal(room, before) {
			t.Errorf("%v: what was handed in has changed with what was told", m)
		}
	}
}
