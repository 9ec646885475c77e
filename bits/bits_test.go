package bits_test

import (
	"bytes"
	"math"
	"math/rand"
	"slices"
	"strconv"
	"testing"

	"fardel/api"
	"fardel/bits"
)

const most = 32

// number is one of so many bits.
type number struct {
	n    uint64
	bits int
}

// full is the greatest number of so many bits.
func full(bits int) uint64 { return 1<<bits - 1 }

// text is so many bytes, the same ones in every run.
func text(seed int64, long int) []byte {
	b := make([]byte, long)
	rand.New(rand.NewSource(seed)).Read(b)
	return b
}

// anyNumbers are so many, the same ones in every run, of all widths, those of full ones and of 0 among them.
func anyNumbers(seed int64, count int) []number {
	random := rand.New(rand.NewSource(seed))
	var all []number
	for range count {
		x := number{bits: random.Intn(most + 1)}
		switch random.Intn(4) {
		case 0:
			x.n = full(x.bits)
		case 1:
		default:
			x.n = random.Uint64() & full(x.bits)
		}
		all = append(all, x)
	}
	return all
}

// laid are numbers' bits, one a member, in their order, as P12.1 words it.
func laid(all []number) []byte {
	var one []byte
	for _, x := range all {
		for i := range x.bits {
			one = append(one, byte(x.n/(1<<i)%2))
		}
	}
	return one
}

// whole are the bytes that bits are, one a member, as P12.1 words it.
func whole(one []byte) []byte {
	var b []byte
	for eight := range slices.Chunk(one, 8) {
		x := 0
		for i, bit := range eight {
			x += int(bit) << i
		}
		b = append(b, byte(x))
	}
	return b
}

// apart are bytes' bits, one a member, the lowest first.
func apart(b []byte) []byte {
	var one []byte
	for _, x := range b {
		for range 8 {
			one = append(one, x%2)
			x /= 2
		}
	}
	return one
}

// value is the number that bits are, one a member, the first one the lowest.
func value(one []byte) uint64 {
	n := uint64(0)
	for i, bit := range one {
		n += uint64(bit) << i
	}
	return n
}

// put holds Put to OK.
func put(t *testing.T, w *bits.Writer, all ...number) {
	t.Helper()
	for _, x := range all {
		if e := w.Put(x.n, x.bits); e != api.OK {
			t.Fatalf("Put(%d, %d): %v", x.n, x.bits, e)
		}
	}
}

// holds holds a Writer to bits, one a member.
func holds(t *testing.T, what string, w *bits.Writer, one []byte) {
	t.Helper()
	if got, want := w.Bytes(), whole(one); w.Count() != len(one) || !bytes.Equal(got, want) {
		t.Fatalf("%s: %d bits, not %d; %x, not %x", what, w.Count(), len(one), got, want)
	}
}

// takes holds Take to the first ones of bits, one a member, and Left to what is behind them, which it gives back.
func takes(t *testing.T, r *bits.Reader, one []byte, bits int) []byte {
	t.Helper()
	n, e := r.Take(bits)
	if n != value(one[:bits]) || e != api.OK || r.Left() != len(one)-bits {
		t.Fatalf("Take(%d) of %d: %d, %v, not %d; then %d", bits, len(one), n, e, value(one[:bits]), r.Left())
	}
	return one[bits:]
}

// refuses holds Take to an error, and Left to what it was.
func refuses(t *testing.T, r *bits.Reader, bits int, want api.Errno) {
	t.Helper()
	left := r.Left()
	if n, e := r.Take(bits); n != 0 || e != want || r.Left() != left {
		t.Fatalf("Take(%d) of %d: %d, %v; then %d", bits, left, n, e, r.Left())
	}
}

// wrongs are how many bits may not be.
func wrongs() []int {
	return []int{-1, -2, -8, -31, -32, -33, -64, math.MinInt32, math.MinInt, 33, 34, 40, 63, 64, 65, 255, 256, 257, 288, math.MaxInt32, math.MaxInt}
}

// P12.1 to P12.3: the chapter's examples.
func TestExamples(t *testing.T) {
	w := &bits.Writer{}
	put(t, w, number{5, 3}, number{1, 1}, number{3, 6})
	if b := w.Bytes(); !bytes.Equal(b, []byte{61, 0}) || w.Count() != 10 {
		t.Errorf("%v, %d bits", b, w.Count())
	}
	r := bits.New(w.Bytes())
	five, e := r.Take(3)
	one, f := r.Take(1)
	if five != 5 || e != api.OK || one != 1 || f != api.OK || r.Whole() || r.Left() != 8 {
		t.Errorf("%d, %v; %d, %v; %d left", five, e, one, f, r.Left())
	}
	if e := w.Put(4, 2); e != api.ErrArg {
		t.Errorf("Put(4, 2): %v", e)
	}
}

// P12.1: a bit alone is in its place, behind any number of bits 0.
func TestPlaces(t *testing.T) {
	for ahead := range 100 {
		for bits := 1; bits <= most; bits++ {
			for at := range bits {
				b := written(t, ahead, number{1 << at, bits})
				want := make([]byte, (ahead+bits+7)/8)
				want[(ahead+at)/8] = 1 << ((ahead + at) % 8)
				if !bytes.Equal(b, want) {
					t.Fatalf("Put(1 << %d, %d) behind %d: %x", at, bits, ahead, b)
				}
			}
		}
	}
}

// written are the bytes of a number behind so many bits 0.
func written(t *testing.T, ahead int, x number) []byte {
	t.Helper()
	w := &bits.Writer{}
	for range ahead {
		put(t, w, number{0, 1})
	}
	put(t, w, x)
	if w.Count() != ahead+x.bits {
		t.Fatalf("%d bits behind %d: %d", x.bits, ahead, w.Count())
	}
	return w.Bytes()
}

// P12.1: numbers of each width, at their ends, behind bits of each number through two bytes, and with more behind them.
func TestWidths(t *testing.T) {
	for ahead := range 17 {
		for bitCount := range most + 1 {
			for _, n := range []uint64{0, full(bitCount), full(bitCount) / 2, full(bitCount) / 3, full(bitCount) / 5} {
				for _, first := range []uint64{0, full(ahead)} {
					all := []number{{first, ahead}, {n, bitCount}, {0, 1}, {1, 1}, {n, bitCount}}
					w := &bits.Writer{}
					put(t, w, all...)
					holds(t, "widths", w, laid(all))
				}
			}
		}
	}
}

// P12.1: many numbers, and after each of them all that were written.
func TestMany(t *testing.T) {
	for i := range int64(40) {
		all := anyNumbers(i, 150)
		w := &bits.Writer{}
		for j, x := range all {
			put(t, w, x)
			holds(t, "many", w, laid(all[:j+1]))
		}
	}
}

// P12.1: every number of bits through some thousands, written one by one, and in greater steps.
func TestCounts(t *testing.T) {
	one := apart(text(1, 1300))
	w := &bits.Writer{}
	for i, bit := range one {
		holds(t, "one by one", w, one[:i])
		put(t, w, number{uint64(bit), 1})
	}
	holds(t, "one by one", w, one)
	for step := 2; step <= most; step++ {
		w := &bits.Writer{}
		at := 0
		for part := range slices.Chunk(one, step) {
			put(t, w, number{value(part), len(part)})
			at += len(part)
			if w.Count() != at {
				t.Fatalf("%d bits, not %d", w.Count(), at)
			}
		}
		holds(t, "in steps", w, one)
	}
}

// P12.1: a great many bits, and some behind them.
func TestGreat(t *testing.T) {
	b := text(2, 1<<21+3)
	w := &bits.Writer{}
	for _, x := range b {
		put(t, w, number{uint64(x), 8})
	}
	if w.Count() != 8*len(b) || !bytes.Equal(w.Bytes(), b) {
		t.Errorf("%d bits, or others", w.Count())
	}
	put(t, w, number{5, 3})
	if w.Count() != 8*len(b)+3 || !bytes.Equal(w.Bytes(), append(slices.Clone(b), 5)) {
		t.Errorf("%d bits, or others", w.Count())
	}
}

// P12.1: no bit: a Writer that Go makes, whatever is put of 0 bits, and what is refused.
func TestNoBits(t *testing.T) {
	var made bits.Writer
	for _, w := range []*bits.Writer{{}, new(bits.Writer), &made} {
		holds(t, "none", w, nil)
		put(t, w, number{0, 0}, number{0, 0})
		holds(t, "none", w, nil)
		for _, n := range []uint64{1, 2, 1 << 32, math.MaxUint64} {
			if e := w.Put(n, 0); e != api.ErrArg {
				t.Errorf("Put(%d, 0): %v", n, e)
			}
		}
		holds(t, "none", w, nil)
		put(t, w, number{0, 3})
		holds(t, "three bits 0", w, []byte{0, 0, 0})
		put(t, w, number{0, 0})
		holds(t, "three bits 0", w, []byte{0, 0, 0})
	}
}

// P12.1, R3: a number that is not below 2^bits, by one bit anywhere above, or bits that may not be, are told ErrArg, and nothing is written.
func TestPutWrong(t *testing.T) {
	for ahead := range 10 {
		w := &bits.Writer{}
		first := number{full(ahead) / 3, ahead}
		put(t, w, first)
		var tries []number
		for bits := range most + 1 {
			for above := bits; above < 64; above++ {
				tries = append(tries, number{1 << above, bits}, number{1<<above | full(bits), bits}, number{math.MaxUint64 >> (63 - above), bits})
			}
		}
		for _, bits := range wrongs() {
			tries = append(tries, number{0, bits}, number{1, bits}, number{full(32), bits}, number{math.MaxUint64, bits})
		}
		for _, x := range tries {
			if e := w.Put(x.n, x.bits); e != api.ErrArg {
				t.Fatalf("Put(%d, %d): %v", x.n, x.bits, e)
			}
			holds(t, "refused", w, laid([]number{first}))
		}
		put(t, w, number{5, 3})
		holds(t, "behind what was refused", w, laid([]number{first, {5, 3}}))
	}
}

// P12.1, R4: Bytes are in memory of their own, spare room too: neither the Writer nor other bytes tell their changes, nor do they tell what is put behind.
func TestBytesOwn(t *testing.T) {
	for count := range 5000 {
		if count > 100 && count%256 > 2 && count%256 < 254 {
			continue
		}
		one := apart(text(int64(count), count/8+1))[:count]
		w := &bits.Writer{}
		for _, bit := range one {
			put(t, w, number{uint64(bit), 1})
		}
		first, second := w.Bytes(), w.Bytes()
		for i := range first[:cap(first)] {
			first[:cap(first)][i] ^= 0xff
		}
		_ = append(first, 1, 2, 3)
		put(t, w, number{full(32), 32}, number{0, 32})
		if !bytes.Equal(second, whole(one)) {
			t.Fatalf("%d bits: other bytes are changed", count)
		}
		holds(t, "more behind", w, slices.Concat(one, apart([]byte{255, 255, 255, 255, 0, 0, 0, 0})))
		w.Bytes()[0] ^= 0xff
		holds(t, "changed bytes", w, slices.Concat(one, apart([]byte{255, 255, 255, 255, 0, 0, 0, 0})))
	}
}

// P12.1, R5: what one Writer is told no other one tells; a copy of one goes on by itself, wherever it is made.
func TestWritersApart(t *testing.T) {
	for count := range 5000 {
		if count > 100 && count%256 > 2 && count%256 < 254 {
			continue
		}
		one := apart(text(int64(-count), count/8+1))[:count]
		w, other := &bits.Writer{}, &bits.Writer{}
		for _, bit := range one {
			put(t, w, number{uint64(bit), 1})
			put(t, other, number{uint64(1 - bit), 1})
		}
		kept := *w
		put(t, w, number{full(32), 32}, number{full(32), 32})
		further := *w
		*w = kept
		put(t, w, number{0x55555555, 32}, number{0x33333333, 32})
		holds(t, "went on", w, slices.Concat(one, apart([]byte{0x55, 0x55, 0x55, 0x55, 0x33, 0x33, 0x33, 0x33})))
		holds(t, "a copy", &kept, one)
		holds(t, "a further copy", &further, slices.Concat(one, apart(bytes.Repeat([]byte{0xff}, 8))))
		put(t, &kept, number{0, 32}, number{0, 32})
		holds(t, "a copy that went on", &kept, slices.Concat(one, make([]byte, 64)))
		holds(t, "went on", w, slices.Concat(one, apart([]byte{0x55, 0x55, 0x55, 0x55, 0x33, 0x33, 0x33, 0x33})))
		for i := range one {
			one[i] = 1 - one[i]
		}
		holds(t, "another one", other, one)
	}
}

// P12.2: each width from each place of some bytes, one bit alone among them too.
func TestTakeWidths(t *testing.T) {
	lists := [][]byte{make([]byte, 12), bytes.Repeat([]byte{0xff}, 12), text(3, 12), text(4, 12)}
	for bit := range 8 * 12 {
		b := make([]byte, 12)
		b[bit/8] = 1 << (bit % 8)
		lists = append(lists, b)
	}
	for _, b := range lists {
		for ahead := range 8*12 + 1 {
			for bitCount := 0; bitCount <= min(most, 8*12-ahead); bitCount++ {
				r := bits.New(b)
				rest := apart(b)
				for len(rest) > 8*12-ahead {
					rest = takes(t, r, rest, min(most, len(rest)-(8*12-ahead)))
				}
				takes(t, r, rest, bitCount)
			}
		}
	}
}

// P12.2: many bytes, taken in steps of any widths, till there is none.
func TestTakeMany(t *testing.T) {
	random := rand.New(rand.NewSource(5))
	for i := range 300 {
		b := text(int64(i), i)
		r, rest := bits.New(b), apart(b)
		if r.Left() != 8*i {
			t.Fatalf("%d bytes: %d left", i, r.Left())
		}
		for len(rest) > 0 {
			rest = takes(t, r, rest, min(random.Intn(most+1), len(rest)))
		}
		refuses(t, r, 1, api.ErrBits)
	}
}

// P12.2, R3: bits that may not be are told ErrArg, more than are left ErrBits, the first of both first, and none is taken.
func TestTakeWrong(t *testing.T) {
	for long := range 7 {
		b := bytes.Repeat([]byte{0xff}, long)
		r, rest := bits.New(b), apart(b)
		for {
			for _, bits := range wrongs() {
				refuses(t, r, bits, api.ErrArg)
			}
			for bits := len(rest) + 1; bits <= most; bits++ {
				refuses(t, r, bits, api.ErrBits)
			}
			takes(t, r, rest, 0)
			if len(rest) == 0 {
				break
			}
			rest = takes(t, r, rest, 1)
		}
	}
}

// P12.2: bits that are left are taken as if none were refused ahead of them.
func TestTakeBehindWrong(t *testing.T) {
	for left := range most {
		b := text(int64(left), 8)
		r, rest := bits.New(b), apart(b)
		for len(rest) > left {
			rest = takes(t, r, rest, min(most, len(rest)-left))
		}
		refuses(t, r, left+1, api.ErrBits)
		refuses(t, r, most, api.ErrBits)
		refuses(t, r, most+1, api.ErrArg)
		takes(t, r, rest, left)
		refuses(t, r, 1, api.ErrBits)
	}
}

// P12.2: a reader of no byte, nil or not, and one that Go makes, have no bit, and are whole.
func TestReadNothing(t *testing.T) {
	var made bits.Reader
	for _, r := range []*bits.Reader{bits.New(nil), bits.New([]byte{}), bits.New(text(6, 9)[:0]), {}, &made} {
		if r == nil {
			t.Fatal("no reader")
		}
		for range 2 {
			takes(t, r, nil, 0)
			refuses(t, r, 1, api.ErrBits)
			refuses(t, r, 32, api.ErrBits)
			refuses(t, r, 33, api.ErrArg)
			refuses(t, r, -1, api.ErrArg)
			if r.Left() != 0 || !r.Whole() || r.Left() != 0 {
				t.Errorf("%d left, or not whole", r.Left())
			}
		}
	}
}

// R4: New's bytes are neither changed nor kept, and of their spare room nothing is read.
func TestNewKeepsNothing(t *testing.T) {
	for long := range 40 {
		all := text(7, 100)
		was := slices.Clone(all)
		r, rest := bits.New(all[:long]), apart(was[:long])
		later, restLater := bits.New(all[:long]), apart(was[:long])
		for len(rest) > 0 {
			rest = takes(t, r, rest, min(5, len(rest)))
		}
		refuses(t, r, 1, api.ErrBits)
		if !bytes.Equal(all, was) {
			t.Fatalf("%d bytes: changed", long)
		}
		for i := range all {
			all[i] ^= 0xff
		}
		for len(restLater) > 0 {
			restLater = takes(t, later, restLater, min(7, len(restLater)))
		}
	}
}

// R5: readers of the same bytes go on each by itself, and so does a copy of one.
func TestReadersApart(t *testing.T) {
	b := text(8, 20)
	one, other := bits.New(b), bits.New(b)
	rest, restOther := apart(b), apart(b)
	for len(rest) >= 13 {
		rest = takes(t, one, rest, 13)
		restOther = takes(t, other, restOther, 6)
	}
	copied := *one
	takes(t, one, rest, len(rest))
	takes(t, &copied, rest, len(rest))
	takes(t, other, restOther, 32)
}

// P12.3: each byte, and each number of its bits taken: Whole takes those that are left, and tells whether all were 0; of a byte of which none was taken it takes none.
func TestWhole(t *testing.T) {
	for x := range 256 {
		for taken := range 9 {
			for _, ahead := range [][]byte{nil, {0xff}, text(9, 3)} {
				for _, behind := range [][]byte{nil, {0}, {0xff, 0}} {
					wholeAt(t, ahead, byte(x), behind, taken)
				}
			}
		}
	}
}

// wholeAt holds Whole to P12.3's words, where so many bits of a byte between others were taken.
func wholeAt(t *testing.T, ahead []byte, x byte, behind []byte, taken int) {
	t.Helper()
	r := bits.New(slices.Concat(ahead, []byte{x}, behind))
	for range ahead {
		r.Take(8)
	}
	r.Take(taken)
	want, left := int(x)>>taken == 0, 8*len(behind)
	if taken == 0 {
		want, left = true, left+8
	}
	for range 2 {
		if got := r.Whole(); got != want || r.Left() != left {
			t.Fatalf("%d of %d taken behind %d: %v, then %d, not %d", taken, x, len(ahead), got, r.Left(), left)
		}
		// It is at a whole byte now.
		want = true
	}
	all := append([]byte{x}, behind...)
	rest := apart(all[len(all)-left/8:])
	for len(rest) > 0 {
		rest = takes(t, r, rest, 4)
	}
}

// P12.3: Whole among what is taken, and behind what is refused.
func TestWholeAmong(t *testing.T) {
	random := rand.New(rand.NewSource(10))
	for i := range 300 {
		b := text(int64(i), 60)
		for j := range b {
			if random.Intn(2) == 0 {
				b[j] >>= random.Intn(8)
			}
		}
		r, rest := bits.New(b), apart(b)
		for len(rest) > 0 {
			rest = takes(t, r, rest, min(random.Intn(14), len(rest)))
			refuses(t, r, 33, api.ErrArg)
			if len(rest) < most {
				refuses(t, r, most, api.ErrBits)
			}
			left := rest[:len(rest)%8]
			if got := r.Whole(); got != (value(left) == 0) || r.Left() != len(rest)-len(left) {
				t.Fatalf("%d left: %v, then %d", len(rest), got, r.Left())
			}
			rest = rest[len(left):]
		}
		if !r.Whole() {
			t.Error("not whole at the end")
		}
	}
}

// P12.4: what was put is taken, and behind it are bits 0 up to a whole byte.
func TestPutIsTaken(t *testing.T) {
	for i := range int64(300) {
		all := anyNumbers(i, int(i))
		w := &bits.Writer{}
		put(t, w, all...)
		r := bits.New(w.Bytes())
		for j, x := range all {
			if n, e := r.Take(x.bits); n != x.n || e != api.OK {
				t.Fatalf("%d of %d: %d, %v, not %d of %d bits", j, i, n, e, x.n, x.bits)
			}
		}
		if r.Left() != (8-w.Count()%8)%8 || !r.Whole() || r.Left() != 0 {
			t.Fatalf("%d: %d left of %d, or not 0", i, r.Left(), w.Count())
		}
	}
}

// P12.4: bytes that are taken by any widths, and put again, are the same.
func TestTakenIsPut(t *testing.T) {
	random := rand.New(rand.NewSource(11))
	for i := range 300 {
		b := text(int64(i), i)
		r, w := bits.New(b), &bits.Writer{}
		for r.Left() > 0 {
			x := number{bits: min(random.Intn(most+1), r.Left())}
			x.n, _ = r.Take(x.bits)
			put(t, w, x)
		}
		holds(t, "put again", w, apart(b))
	}
}

// R1: of a nil Writer, or a nil Reader, Put and Take are told ErrArg, ahead of all else; any other call is told zero values.
func TestNil(t *testing.T) {
	var w *bits.Writer
	var r *bits.Reader
	for _, count := range append(wrongs(), 0, 1, 32) {
		if e := w.Put(0, count); e != api.ErrArg {
			t.Errorf("Put(0, %d): %v", count, e)
		}
		if n, e := r.Take(count); n != 0 || e != api.ErrArg {
			t.Errorf("Take(%d): %d, %v", count, n, e)
		}
	}
	if w.Count() != 0 || len(w.Bytes()) != 0 || r.Left() != 0 || r.Whole() {
		t.Errorf("%d, %x, %d", w.Count(), w.Bytes(), r.Left())
	}
}

// P12.2: so many bytes that their bits are more than a number of 32 bits tells.
func TestVeryGreat(t *testing.T) {
	if strconv.IntSize < 64 || testing.Short() {
		t.Skip("too many bits")
	}
	long := 1<<28 + 1
	r := bits.New(make([]byte, long))
	if n, e := r.Take(32); n != 0 || e != api.OK || r.Left() != 8*long-32 || !r.Whole() {
		t.Errorf("%d, %v, %d left", n, e, r.Left())
	}
}

func BenchmarkPut(b *testing.B) {
	w := &bits.Writer{}
	b.SetBytes(4)
	for b.Loop() {
		w.Put(0x12345678, 32)
	}
}

func BenchmarkTake(b *testing.B) {
	bytes := text(1, 1<<20)
	r := bits.New(bytes)
	b.SetBytes(4)
	for b.Loop() {
		if r.Left() < 32 {
			r = bits.New(bytes)
		}
		r.Take(32)
	}
}
