package arena_test

import (
	"math"
	"math/rand"
	"slices"
	"testing"

	"solspace/api"
	"solspace/arena"
)

// The heads of the chapter: another one does not build.
var (
	_ func(int) (*arena.Arena, error)             = arena.New
	_ func(*arena.Arena) int                      = (*arena.Arena).Len
	_ func(*arena.Arena, int) bool                = (*arena.Arena).Has
	_ func(*arena.Arena, int) (arena.Node, bool)  = (*arena.Arena).Get
	_ func(*arena.Arena, int) int                 = (*arena.Arena).Top
	_ func(*arena.Arena, arena.Node) (int, error) = (*arena.Arena).Make
	_ func(*arena.Arena, ...int) []int            = (*arena.Arena).Reach
	_ func(*arena.Arena, ...int) int              = (*arena.Arena).Sweep
	_                                             = arena.Node{Var: 1, Low: 2, High: 3}
	_ [arena.False]struct{}                       = [0]struct{}{}
	_ [arena.True]struct{}                        = [1]struct{}{}
)

func made(t *testing.T, room int) *arena.Arena {
	t.Helper()
	a, err := arena.New(room)
	if err != nil {
		t.Fatalf("New(%d): %v", room, err)
	}
	return a
}

// lay makes a node, which must come to lie under a handle.
func lay(t *testing.T, a *arena.Arena, v, low, high, want int) {
	t.Helper()
	n := arena.Node{Var: v, Low: low, High: high}
	if h, err := a.Make(n); h != want || err != nil {
		t.Fatalf("Make(%v): %d, %v; want %d", n, h, err, want)
	}
	if got, ok := a.Get(want); got != n || !ok || a.Top(want) != v || !a.Has(want) {
		t.Fatalf("Get(%d): %v, %v, Top %d, Has %v; want %v", want, got, ok, a.Top(want), a.Has(want), n)
	}
}

// refused makes a node, which must not be made, and change nothing.
func refused(t *testing.T, a *arena.Arena, v, low, high int, want api.Errno) {
	t.Helper()
	n, before := arena.Node{Var: v, Low: low, High: high}, a.Len()
	if h, err := a.Make(n); h != 0 || err != want {
		t.Errorf("Make(%v): %d, %v; want 0, %v", n, h, err, want)
	}
	if a.Len() != before {
		t.Errorf("Make(%v) is refused, and there are %d nodes instead of %d", n, a.Len(), before)
	}
}

// absent looks at a handle that has no node.
func absent(t *testing.T, a *arena.Arena, h int) {
	t.Helper()
	end := h == arena.False || h == arena.True
	if n, ok := a.Get(h); n != (arena.Node{}) || ok || a.Top(h) != api.MaxVars || a.Has(h) != end {
		t.Errorf("handle %d: Get %v, %v, Top %d, Has %v", h, n, ok, a.Top(h), a.Has(h))
	}
	if l := a.Reach(h); len(l) != 0 {
		t.Errorf("Reach(%d): %v, though it has no node", h, l)
	}
}

func reaches(t *testing.T, a *arena.Arena, from, want []int) {
	t.Helper()
	asked := slices.Clone(from)
	if got := a.Reach(from...); !slices.Equal(got, want) {
		t.Errorf("Reach(%v): %v; want %v", asked, got, want)
	}
	if !slices.Equal(from, asked) {
		t.Errorf("Reach(%v) wrote %v into what it was given", asked, from)
	}
}

func sweeps(t *testing.T, a *arena.Arena, keep []int, want int) {
	t.Helper()
	asked, before := slices.Clone(keep), a.Len()
	if got := a.Sweep(keep...); got != want || a.Len() != before-want {
		t.Errorf("Sweep(%v): %d, and %d nodes of %d are left; want %d", asked, got, a.Len(), before, want)
	}
	if !slices.Equal(keep, asked) {
		t.Errorf("Sweep(%v) wrote %v into what it was given", asked, keep)
	}
}

// strange: handles that no arena of a few nodes has.
var strange = []int{-1, -2, math.MinInt, math.MinInt + 1, math.MinInt + 2, math.MaxInt, math.MaxInt - 1, 1 << 32, 1<<32 + 2, api.MaxNodes + 1, api.MaxNodes + 2}

// fill lays nodes, from the greatest variable on, until there is no room for one more.
func fill(t *testing.T, a *arena.Arena, room int) {
	t.Helper()
	for v := api.MaxVars - 1; v >= 0; v-- {
		end := a.Len() + 2
		for i := range end * end {
			if a.Len() == room {
				return
			}
			lay(t, a, v, i/end, i%end, a.Len()+2)
		}
	}
	t.Fatalf("room for %d nodes is not filled by %d", room, a.Len())
}

// Promise 2.1: New.
func TestRooms(t *testing.T) {
	for _, room := range []int{-1, math.MinInt, api.MaxNodes + 1, math.MaxInt} {
		if a, err := arena.New(room); a != nil || err != error(api.ErrRange) {
			t.Errorf("New(%d): %v, %v; want ErrRange", room, a, err)
		}
	}
	for _, room := range []int{0, 1, 2, 5, api.MaxNodes - 1, api.MaxNodes} {
		a := made(t, room)
		if a.Len() != 0 {
			t.Errorf("New(%d) has %d nodes", room, a.Len())
		}
		fill(t, a, room)
		if a.Len() != room {
			t.Errorf("room %d: %d nodes", room, a.Len())
		}
		refused(t, a, 0, arena.True, arena.False, api.ErrFull)
		for i := range room {
			n, _ := a.Get(i + 2)
			lay(t, a, n.Var, n.Low, n.High, i+2)
		}
		absent(t, a, room+2)
		sweeps(t, a, nil, room)
		fill(t, a, room)
	}
}

// Promise 2.1: Has, Get, Top of what is not there.
func TestHandlesThatAreNotThere(t *testing.T) {
	empty, few := made(t, 0), made(t, 3)
	lay(t, few, 5, 0, 1, 2)
	lay(t, few, 4, 2, 1, 3)
	for _, h := range append([]int{arena.False, arena.True, 4, 5}, strange...) {
		absent(t, empty, h)
		absent(t, few, h)
	}
	absent(t, empty, 2)
	for _, h := range strange {
		refused(t, few, 0, h, 1, api.ErrMissing)
		refused(t, few, 0, 1, h, api.ErrMissing)
	}
	few.Sweep(2)
	absent(t, few, 3)
	if !few.Has(2) || few.Top(2) != 5 {
		t.Error("what is kept is no more there")
	}
}

// Promise 2.2: each error, and of several the one told first.
func TestRefused(t *testing.T) {
	a := made(t, 2)
	lay(t, a, 23, 0, 1, 2)
	lay(t, a, 7, 2, 1, 3)
	// There is no room any more: so each of these might be ErrFull, too.
	for _, v := range []int{-1, math.MinInt, api.MaxVars, api.MaxVars + 1, math.MaxInt} {
		refused(t, a, v, 0, 1, api.ErrRange)
		refused(t, a, v, 4, 1, api.ErrRange)
		refused(t, a, v, 2, -1, api.ErrRange)
		refused(t, a, v, 3, 2, api.ErrRange)
	}
	refused(t, a, 3, 4, 0, api.ErrMissing)
	refused(t, a, 3, 0, 4, api.ErrMissing)
	refused(t, a, 9, 3, 4, api.ErrMissing)
	refused(t, a, 9, 4, 3, api.ErrMissing)
	refused(t, a, 9, 3, 0, api.ErrOrder)
	refused(t, a, 9, 0, 3, api.ErrOrder)
	refused(t, a, 7, 3, 2, api.ErrOrder)
	refused(t, a, 7, 2, 3, api.ErrOrder)
	refused(t, a, 23, 2, 2, api.ErrOrder)
	refused(t, a, 6, 3, 2, api.ErrFull)
	refused(t, a, 0, 0, 1, api.ErrFull)
	lay(t, a, 7, 2, 1, 3)
}

// Promise 2.2: made again, and unlike where anything is.
func TestEachNodeOnce(t *testing.T) {
	a := made(t, 20)
	l := []arena.Node{{23, 0, 1}, {23, 1, 0}, {22, 0, 1}, {22, 2, 0}, {22, 2, 2}, {0, 0, 0}, {0, 1, 1}, {0, 6, 5}, {0, 5, 6}}
	for range 3 {
		for i, n := range l {
			lay(t, a, n.Var, n.Low, n.High, i+2)
		}
		if a.Len() != len(l) {
			t.Errorf("%d nodes; want %d", a.Len(), len(l))
		}
	}
}

// Promises 2.2, 2.3: the least handle that is free, one by one, then beyond the last one.
func TestHandlesBehindASweep(t *testing.T) {
	a := made(t, 10)
	for i := range 8 {
		lay(t, a, 20-i, 0, 1, i+2)
	}
	sweeps(t, a, []int{9, 3, 6, 7}, 4)
	for _, h := range []int{2, 4, 5, 8} {
		absent(t, a, h)
	}
	lay(t, a, 16, 0, 1, 6)
	lay(t, a, 1, 9, 3, 2)
	lay(t, a, 2, 9, 3, 4)
	lay(t, a, 0, 2, 4, 5)
	sweeps(t, a, []int{4, 6, 7}, 2)
	lay(t, a, 20, 0, 1, 2)
	lay(t, a, 18, 0, 1, 5)
	lay(t, a, 17, 0, 1, 8)
	lay(t, a, 14, 0, 1, 10)
	lay(t, a, 12, 0, 1, 11)
	refused(t, a, 11, 0, 1, api.ErrFull)
	sweeps(t, a, []int{11}, 9)
	lay(t, a, 12, 0, 1, 11)
	lay(t, a, 13, 0, 1, 2)
}

// Promise 2.3: a node may lead to handles above its own.
func TestReach(t *testing.T) {
	a := made(t, 12)
	for i := range 4 {
		lay(t, a, 20+i, 0, 1, i+2)
	}
	sweeps(t, a, []int{5}, 3)
	lay(t, a, 20, 5, 1, 2)
	lay(t, a, 10, 1, 5, 3)
	lay(t, a, 9, 3, 2, 4)
	lay(t, a, 8, 0, 1, 6)
	reaches(t, a, nil, nil)
	reaches(t, a, []int{arena.False, arena.True}, nil)
	reaches(t, a, strange, nil)
	reaches(t, a, []int{5}, []int{5})
	reaches(t, a, []int{2}, []int{2, 5})
	reaches(t, a, []int{3}, []int{3, 5})
	reaches(t, a, []int{4}, []int{2, 3, 4, 5})
	reaches(t, a, []int{6, 2, 6, 5, 0, -1, 99}, []int{2, 5, 6})
	reaches(t, a, []int{6, 4, 3}, []int{2, 3, 4, 5, 6})
	if a.Len() != 5 {
		t.Errorf("Reach changed how many nodes there are: %d", a.Len())
	}
	got := a.Reach(4)
	clear(got)
	reaches(t, a, []int{4}, []int{2, 3, 4, 5})
}

// Promise 2.3: what is kept, and what is not.
func TestSweep(t *testing.T) {
	a := made(t, 12)
	sweeps(t, a, nil, 0)
	lay(t, a, 20, 0, 1, 2)
	lay(t, a, 10, 2, 0, 3)
	lay(t, a, 10, 0, 2, 4)
	lay(t, a, 5, 3, 4, 5)
	lay(t, a, 5, 4, 3, 6)
	sweeps(t, a, []int{5, 6}, 0)
	sweeps(t, a, []int{5, 5, 3, -7, 1000, 1}, 1)
	lay(t, a, 5, 3, 4, 5)
	sweeps(t, a, []int{4}, 2)
	if n, ok := a.Get(4); !ok || n != (arena.Node{Var: 10, Low: 0, High: 2}) {
		t.Errorf("kept under 4: %v, %v", n, ok)
	}
	refused(t, a, 5, 3, 4, api.ErrMissing)
	lay(t, a, 10, 0, 2, 4)
	sweeps(t, a, []int{0, 1, 3, 5}, 2)
	sweeps(t, a, []int{4}, 0)
	lay(t, a, 10, 0, 1, 2)
}

// model is an arena, as plainly as can be.
type model struct {
	room  int
	nodes map[int]arena.Node
}

func (m *model) has(h int) bool {
	_, ok := m.nodes[h]
	return ok || h == 0 || h == 1
}

func (m *model) top(h int) int {
	if n, ok := m.nodes[h]; ok {
		return n.Var
	}
	return api.MaxVars
}

func (m *model) lay(n arena.Node) (int, error) {
	if n.Var < 0 || n.Var >= api.MaxVars {
		return 0, api.ErrRange
	}
	if !m.has(n.Low) || !m.has(n.High) {
		return 0, api.ErrMissing
	}
	if m.top(n.Low) <= n.Var || m.top(n.High) <= n.Var {
		return 0, api.ErrOrder
	}
	for h, o := range m.nodes {
		if o == n {
			return h, nil
		}
	}
	if len(m.nodes) >= m.room {
		return 0, api.ErrFull
	}
	h := 2
	for m.has(h) {
		h++
	}
	m.nodes[h] = n
	return h, nil
}

func (m *model) reach(from []int) []int {
	var out []int
	for todo := slices.Clone(from); len(todo) > 0; {
		h := todo[0]
		todo = todo[1:]
		if n, ok := m.nodes[h]; ok && !slices.Contains(out, h) {
			out = append(out, h)
			todo = append(todo, n.Low, n.High)
		}
	}
	slices.Sort(out)
	return out
}

func (m *model) sweep(keep []int) int {
	l, n := m.reach(keep), 0
	for h := range m.nodes {
		if !slices.Contains(l, h) {
			delete(m.nodes, h)
			n++
		}
	}
	return n
}

// Promises 2.1 to 2.3: many calls, one behind the other.
func TestAsTheModel(t *testing.T) {
	d := rand.New(rand.NewSource(2))
	for range 300 {
		room := d.Intn(25)
		a, m := made(t, room), &model{room, map[int]arena.Node{}}
		for range 120 {
			x, y := d.Intn(room+4)-d.Intn(2), d.Intn(room+4)
			switch d.Intn(12) {
			case 0:
				sweeps(t, a, []int{x, y, room - x}, m.sweep([]int{x, y, room - x}))
			case 1:
				reaches(t, a, []int{x, y}, m.reach([]int{x, y}))
			case 2:
				if n, ok := a.Get(x); n != m.nodes[x] || ok != (m.top(x) < api.MaxVars) || a.Top(x) != m.top(x) || a.Has(x) != m.has(x) {
					t.Fatalf("handle %d: %v, %v", x, n, ok)
				}
			default:
				n := arena.Node{Var: d.Intn(27) - 1, Low: x, High: y}
				h, err := a.Make(n)
				if w, e := m.lay(n); h != w || err != e {
					t.Fatalf("Make(%v): %d, %v; want %d, %v", n, h, err, w, e)
				}
			}
			if a.Len() != len(m.nodes) {
				t.Fatalf("%d nodes; want %d", a.Len(), len(m.nodes))
			}
		}
	}
}
