package reason_test

import (
	"math"
	"math/bits"
	"math/rand"
	"slices"
	"testing"

	"solspace/api"
	"solspace/reason"
)

// hitting are the least sets of so many things that have something of each of some sets, by trying all.
func hitting(things int, sets []uint) []uint {
	hits := func(x uint) bool {
		return !slices.ContainsFunc(sets, func(set uint) bool { return set&x == 0 })
	}
	var out []uint
	for x := range uint(1) << things {
		if bare(x, hits) {
			out = append(out, x)
		}
	}
	return out
}

// hit holds Reiter against trying all sets.
func hit(t *testing.T, things int, sets []uint) {
	t.Helper()
	got, err := reason.Reiter(things, sets)
	if want := hitting(things, sets); err != nil || !slices.Equal(got, want) {
		t.Fatalf("%d things, %b: %b, %v; want %b", things, sets, got, err, want)
	}
}

// Promise 11.2: all lists of up to four sets of up to three things, in any order, and twice.
func TestReiterSmall(t *testing.T) {
	for things := range 4 {
		hit(t, things, nil)
		for a := range uint(1) << things {
			hit(t, things, []uint{a})
			for b := range uint(1) << things {
				hit(t, things, []uint{a, b})
				for c := range uint(1) << things {
					hit(t, things, []uint{a, b, c})
					for d := range uint(1) << things {
						hit(t, things, []uint{a, b, c, d})
					}
				}
			}
		}
	}
	for family := range 256 {
		var sets []uint
		for x := range uint(8) {
			if family>>x&1 == 1 {
				sets = append(sets, x)
			}
		}
		hit(t, 3, sets)
		hit(t, 5, sets)
	}
}

// some are sets of so many things, of that many or fewer each, that are drawn.
func some(d *rand.Rand, things, many int) []uint {
	var out []uint
	few := d.Intn(3)
	for range many {
		x := uint(d.Uint64())
		if few == 0 {
			x &= uint(d.Uint64())
		} else if few == 1 {
			x |= uint(d.Uint64())
		}
		out = append(out, x&(1<<things-1))
	}
	return out
}

// Promise 11.2: sets that are drawn, against trying all; with at most 7 things there is room for whatever it is.
func TestReiterDrawn(t *testing.T) {
	d := rand.New(rand.NewSource(1))
	for range 3000 {
		things := d.Intn(8)
		hit(t, things, some(d, things, d.Intn(30)))
	}
	for range 300 {
		hit(t, 7, some(d, 7, 1+d.Intn(200)))
		hit(t, 9, some(d, 9, 1+d.Intn(40)))
	}
	// All sets of so many things out of 7, and those that lack one of these.
	for n := range 8 {
		var sets []uint
		for x := range uint(1) << 7 {
			if bits.OnesCount(x) == n {
				sets = append(sets, x)
			}
		}
		hit(t, 7, sets)
		for range 20 {
			d.Shuffle(len(sets), func(i, j int) { sets[i], sets[j] = sets[j], sets[i] })
			hit(t, 7, sets[:len(sets)-d.Intn(len(sets))])
		}
	}
}

// Promise 11.2: no set, the empty set, sets that stand twice, sets that have others as parts.
func TestReiterEdges(t *testing.T) {
	for _, things := range []int{0, 1, 3, 7, api.MaxVars} {
		is[uint](t, 0)(reason.Reiter(things, nil))
		is[uint](t, 0)(reason.Reiter(things, []uint{}))
		is[uint](t)(reason.Reiter(things, []uint{0}))
		is[uint](t)(reason.Reiter(things, []uint{0, 0}))
	}
	is[uint](t)(reason.Reiter(3, []uint{5, 0, 2}))
	is[uint](t, 3, 6)(reason.Reiter(3, []uint{5, 2}))
	is[uint](t, 3, 6)(reason.Reiter(3, []uint{2, 5, 5, 2, 2}))
	is[uint](t, 3, 6)(reason.Reiter(3, []uint{7, 3, 2, 5, 7}))
	is[uint](t, 1)(reason.Reiter(1, []uint{1}))
	is[uint](t, 1, 2, 4)(reason.Reiter(3, []uint{7}))
	is[uint](t, 7)(reason.Reiter(3, []uint{1, 2, 4}))
	// The last thing that there may be, and all of them.
	is(t, uint(1<<23))(reason.Reiter(24, []uint{1 << 23}))
	is(t, uint(1), 1<<23)(reason.Reiter(24, []uint{1<<23 | 1}))
	var ones []uint
	for v := range 24 {
		ones = append(ones, 1<<v)
	}
	is(t, ones...)(reason.Reiter(24, []uint{1<<24 - 1}))
	is[uint](t, 1<<24-1)(reason.Reiter(24, ones))
}

// Promise 11.2: the order of what is told is that of numbers, whatever the order of sets is.
func TestReiterOrder(t *testing.T) {
	is[uint](t, 0b0111, 0b1001)(reason.Reiter(4, []uint{0b0001, 0b1010, 0b1100}))
	is[uint](t, 0b0111, 0b1001)(reason.Reiter(4, []uint{0b1100, 0b0001, 0b1010}))
	d := rand.New(rand.NewSource(2))
	for range 200 {
		sets := some(d, 8, 1+d.Intn(20))
		first, err := reason.Reiter(8, sets)
		if err != nil || !slices.IsSorted(first) {
			t.Fatalf("%b: %b, %v", sets, first, err)
		}
		d.Shuffle(len(sets), func(i, j int) { sets[i], sets[j] = sets[j], sets[i] })
		is(t, first...)(reason.Reiter(8, append(sets, sets[0])))
	}
}

// Promise 11.2: Reiter says what New says of things, ahead of all else.
func TestReiterThings(t *testing.T) {
	for _, things := range []int{-1, api.MaxVars + 1, -24, 63, 64, 65, math.MinInt, math.MaxInt} {
		for _, sets := range [][]uint{nil, {0}, {1}, {5, 2, 6}, {math.MaxUint}, make([]uint, 201)} {
			fails[uint](t, api.ErrRange)(reason.Reiter(things, sets))
		}
	}
}

// Promise 11.2: a set with a thing that there is not, wherever it stands.
func TestReiterRange(t *testing.T) {
	for _, things := range []int{0, 1, 3, 7, 23, 24} {
		for _, bad := range []uint{1 << things, 1<<things | 1, 1 << 24, 1 << 63, math.MaxUint} {
			fails[uint](t, api.ErrRange)(reason.Reiter(things, []uint{bad}))
			fails[uint](t, api.ErrRange)(reason.Reiter(things, []uint{0, bad}))
			fails[uint](t, api.ErrRange)(reason.Reiter(things, []uint{bad, 0}))
			fails[uint](t, api.ErrRange)(reason.Reiter(things, append(make([]uint, 199), bad)))
			fails[uint](t, api.ErrLimit)(reason.Reiter(things, append(make([]uint, 200), bad)))
			fails[uint](t, api.ErrLimit)(reason.Reiter(things, append([]uint{bad}, make([]uint, 200)...)))
		}
	}
}

// Promise 11.2: just 200 sets, and more, though they are the same ones.
func TestReiterLimit(t *testing.T) {
	sets := slices.Repeat([]uint{5, 2}, 100)
	is[uint](t, 3, 6)(reason.Reiter(3, sets))
	fails[uint](t, api.ErrLimit)(reason.Reiter(3, append(sets, 5)))
	fails[uint](t, api.ErrLimit)(reason.Reiter(0, make([]uint, 201)))
	fails[uint](t, api.ErrLimit)(reason.Reiter(24, make([]uint, 10_000)))
	// 200 that are not the same.
	sets = nil
	for x := uint(1); len(sets) < 200; x++ {
		sets = append(sets, x)
	}
	is[uint](t, 255)(reason.Reiter(8, sets))
	fails[uint](t, api.ErrLimit)(reason.Reiter(8, append(sets, 201)))
}

// fiveOf are sets of the four things from one on that are hit, least, by just five sets.
func fiveOf(first int) []uint { return []uint{0b0011 << first, 0b1101 << first, 0b1110 << first} }

// Promise 11.2: just 5000 sets are told, and one more is too many.
func TestReiterMost(t *testing.T) {
	var sets []uint
	for i := range 4 {
		sets = append(sets, fiveOf(4*i)...)
	}
	sets = append(sets, 0b11<<16, 0b11<<18, 0b11<<20)
	got, err := reason.Reiter(24, sets)
	if err != nil || len(got) != 5*5*5*5*2*2*2 || !slices.IsSorted(got) || len(slices.Compact(slices.Clone(got))) != 5000 {
		t.Fatalf("%d sets, %v", len(got), err)
	}
	for _, x := range got {
		if !bare(x, func(x uint) bool { return !slices.ContainsFunc(sets, func(set uint) bool { return set&x == 0 }) }) {
			t.Fatalf("%b", x)
		}
	}
	// A thing that is in each set hits them all alone.
	for i := range sets {
		sets[i] |= 1 << 22
	}
	fails[uint](t, api.ErrLimit)(reason.Reiter(24, sets))
	sets[0] &^= 1 << 22
	// Now it hits all but one set, so it needs one of that set's things: the others don't change.
	if got, err := reason.Reiter(24, sets[:len(sets)-1]); err != nil || len(got) != 2502 {
		t.Errorf("%d sets, %v", len(got), err)
	}
	var threes []uint
	for i := range 8 {
		threes = append(threes, 0b111<<(3*i))
	}
	fails[uint](t, api.ErrLimit)(reason.Reiter(24, threes))
	if got, err := reason.Reiter(24, threes[1:]); err != nil || len(got) != 2187 {
		t.Errorf("%d sets, %v", len(got), err)
	}
}

// Promise 11.2: there may be no room for what hits sets of many things; but a thing that there is not is told of the last set, too.
func TestReiterFull(t *testing.T) {
	d := rand.New(rand.NewSource(3))
	for i := range 40 {
		var sets []uint
		for n := range uint(199) {
			// As many nodes as so many sets can have, more or less: all beginnings, then nearly all things, then all ends.
			x := uint(d.Uint64()) | uint(d.Uint64()) | uint(d.Uint64())
			if i == 0 {
				x = n | 0xff<<8 | bits.Reverse(n)>>40&0xff0000
			}
			sets = append(sets, x&(1<<24-1))
		}
		fails[uint](t, api.ErrRange)(reason.Reiter(24, append(sets, 1<<24)))
		got, err := reason.Reiter(24, sets)
		if err != nil && (err != error(api.ErrFull) && err != error(api.ErrLimit) || got != nil) {
			t.Fatalf("%v, %v", got, err)
		}
	}
}

// Promise 11.2: Smallest, by hand: of none, of one, of like ones the first as it is told.
func TestSmallest(t *testing.T) {
	for _, x := range []struct {
		want uint
		sets []uint
	}{
		{0, nil},
		{0, []uint{}},
		{0, []uint{0}},
		{7, []uint{7}},
		{math.MaxUint, []uint{math.MaxUint}},
		{4, []uint{4, 1, 2}},
		{2, []uint{2, 4, 1}},
		{1, []uint{1, 2, 4}},
		{8, []uint{3, 8, 5, 1}},
		{6, []uint{7, 6, 5, 3}},
		{0, []uint{1, 0, 2}},
		{0, []uint{7, 3, 0}},
		{1 << 63, []uint{3, 1 << 63, 1}},
		{3, []uint{math.MaxUint, 3, 7, 3 << 62}},
		{math.MaxUint - 1, []uint{math.MaxUint, math.MaxUint - 1, math.MaxUint - 2}},
	} {
		if got := reason.Smallest(x.sets); got != x.want {
			t.Errorf("%b: %b, want %b", x.sets, got, x.want)
		}
	}
}

// Promise 11.2: Smallest of sets that are drawn.
func TestSmallestDrawn(t *testing.T) {
	d := rand.New(rand.NewSource(4))
	for range 2000 {
		sets := some(d, 1+d.Intn(60), 1+d.Intn(12))
		got := reason.Smallest(sets)
		at := slices.Index(sets, got)
		for i, x := range sets {
			if n, few := bits.OnesCount(x), bits.OnesCount(got); n < few || n == few && i < at || at < 0 {
				t.Fatalf("%b: %b", sets, got)
			}
		}
	}
}
