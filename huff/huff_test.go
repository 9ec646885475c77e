package huff_test

import (
	"cmp"
	"math"
	"math/rand"
	"slices"
	"strings"
	"testing"

	"fardel/api"
	"fardel/bits"
	"fardel/huff"
)

const (
	symbols = 1000
	longest = 15
	room    = 1 << longest
)

// roomOf is the room of lengths.
func roomOf(lengths []int) int {
	sum := 0
	for _, n := range lengths {
		if n != 0 {
			sum += 1 << (longest - n)
		}
	}
	return sum
}

// cost is the sum of all counts times their lengths.
func cost(counts []uint32, lengths []int) uint64 {
	sum := uint64(0)
	for i, n := range lengths {
		sum += uint64(counts[i]) * uint64(n)
	}
	return sum
}

// used are those counts that are not 0.
func used(counts []uint32) []uint32 {
	return slices.DeleteFunc(slices.Clone(counts), func(n uint32) bool { return n == 0 })
}

// tried is the least cost of counts, none 0, by all lengths up to most that fill so much room.
func tried(counts []uint32, most, left int) uint64 {
	if len(counts) == 0 {
		if left == 0 {
			return 0
		}
		return math.MaxUint64
	}
	least := uint64(math.MaxUint64)
	for n := 1; n <= most; n++ {
		if one := 1 << (longest - n); one <= left {
			if rest := tried(counts[1:], most, left-one); rest != math.MaxUint64 {
				least = min(least, rest+uint64(n)*uint64(counts[0]))
			}
		}
	}
	return least
}

// least is the least cost of counts, none 0, two or more: a tree is laid from its root on, step by step, the greatest counts first. costs[n][open] is that of the steps to come where n counts have a place and open ones are free.
func least(counts []uint32, most int) uint64 {
	all := slices.Clone(counts)
	slices.SortFunc(all, func(a, b uint32) int { return cmp.Compare(b, a) })
	behind := make([]uint64, len(all)+1)
	for i := len(all) - 1; i >= 0; i-- {
		behind[i] = behind[i+1] + uint64(all[i])
	}
	table := func() [][]uint64 {
		t := make([][]uint64, len(all)+1)
		for n := range t {
			t[n] = make([]uint64, len(all)-n+1)
			for open := range t[n] {
				t[n][open] = math.MaxUint64
			}
		}
		t[len(all)][0] = 0
		return t
	}
	costs, below := table(), table()
	for step := most; step >= 0; step-- {
		costs, below = below, costs
		for n := len(all) - 1; n >= 0; n-- {
			for open := 1; open <= len(all)-n; open++ {
				at := costs[n+1][open-1]
				if step < most && 2*open <= len(all)-n && below[n][2*open] != math.MaxUint64 {
					at = min(at, behind[n]+below[n][2*open])
				}
				costs[n][open] = at
			}
		}
	}
	return costs[0][1]
}

// leastLengths holds Lengths to P13.1's words, with the least cost reckoned otherwise; it is the lengths.
func leastLengths(t *testing.T, counts []uint32, most int, want func([]uint32, int) uint64) []int {
	t.Helper()
	was := slices.Clone(counts)
	lengths, e := huff.Lengths(counts, most)
	if e != api.OK || len(lengths) != len(counts) {
		t.Fatalf("Lengths(%v, %d): %v, %v", counts, most, lengths, e)
	}
	if !slices.Equal(counts, was) {
		t.Fatalf("Lengths(%v, %d) changes them", was, most)
	}
	for i, n := range lengths {
		if counts[i] == 0 && n != 0 || counts[i] != 0 && (n < 1 || n > most) {
			t.Fatalf("Lengths(%v, %d): %v: %d of %d", counts, most, lengths, n, counts[i])
		}
	}
	switch some := used(counts); len(some) {
	case 0:
	case 1:
		if roomOf(lengths) != room/2 {
			t.Fatalf("Lengths(%v, %d): %v", counts, most, lengths)
		}
	default:
		if sum := want(some, most); roomOf(lengths) != room || cost(counts, lengths) != sum {
			t.Fatalf("Lengths(%v, %d): %v: a room of %d; %d, not %d", counts, most, lengths, roomOf(lengths), cost(counts, lengths), sum)
		}
	}
	return lengths
}

// byTrying is the least cost by all lengths.
func byTrying(counts []uint32, most int) uint64 { return tried(counts, most, room) }

// bitsFor is how many bits tell so many apart.
func bitsFor(many int) int {
	n := 1
	for 1<<n < many {
		n++
	}
	return n
}

// manyCounts are lists of so many counts, none 0, of all shapes, the same ones in every run.
func manyCounts(seed int64, many int) [][]uint32 {
	random := rand.New(rand.NewSource(seed))
	list := func(one func(i int) uint32) []uint32 {
		l := make([]uint32, many)
		for i := range l {
			l[i] = one(i)
		}
		return l
	}
	a, b := uint32(1), uint32(1)
	lists := [][]uint32{
		list(func(int) uint32 { return 1 }),
		list(func(int) uint32 { return math.MaxUint32 }),
		list(func(i int) uint32 { return uint32(i) + 1 }),
		list(func(i int) uint32 { return 1 << (i % 32) }),
		list(func(i int) uint32 { return math.MaxUint32 - uint32(i) }),
		list(func(i int) uint32 { return 1 + uint32(i%2)*(math.MaxUint32-1) }),
		list(func(i int) uint32 { // one by far the greatest, which sums of a few are held against
			if i == many/2 {
				return math.MaxUint32
			}
			return 1000
		}),
		list(func(i int) uint32 { // each the sum of the two ahead, and 1 again behind the greatest
			if i%46 == 0 {
				a, b = 1, 1
			}
			x := a
			a, b = b, a+b
			return x
		}),
		list(func(i int) uint32 { return 1<<(i%32) + uint32((random.Intn(3)-1)*(i%32+1)/2) }), // sums that are another one, but for a little
		list(func(int) uint32 { return 1 + random.Uint32()%4 }),
		list(func(int) uint32 { return max(1, random.Uint32()) }),
		list(func(int) uint32 { return max(1, random.Uint32()>>random.Intn(32)) }),
		list(func(int) uint32 { return uint32(1 + 1000*math.Exp(random.NormFloat64()*3)) }),
	}
	for _, l := range lists[2:] {
		turned := slices.Clone(l)
		random.Shuffle(len(turned), func(i, j int) { turned[i], turned[j] = turned[j], turned[i] })
		lists = append(lists, turned)
	}
	return lists
}

// among are counts with so many of 0 among them, anywhere.
func among(seed int64, counts []uint32, zeros int) []uint32 {
	random := rand.New(rand.NewSource(seed))
	all := slices.Clone(counts)
	for range zeros {
		all = slices.Insert(all, random.Intn(len(all)+1), 0)
	}
	return all
}

// anyLengths are those of a code of so many words, two or more, up to the deepest, with so many of 0 among them, the same ones in every run.
func anyLengths(seed int64, many, deepest, zeros int) []int {
	random := rand.New(rand.NewSource(seed))
	lengths := []int{0}
	for len(lengths) < many {
		i := random.Intn(len(lengths))
		if seed%2 == 0 && random.Intn(4) > 0 { // most of them deep
			i = len(lengths) - 1 - random.Intn(1+len(lengths)/8)
		}
		if lengths[i] < deepest {
			lengths[i]++
			lengths = append(lengths, lengths[i])
		}
	}
	lengths = append(lengths, make([]int, zeros)...)
	random.Shuffle(len(lengths), func(i, j int) { lengths[i], lengths[j] = lengths[j], lengths[i] })
	return lengths
}

// codes are many codes' lengths.
func codes() [][]int {
	steep := []int{15}
	for n := 1; n <= longest; n++ {
		steep = append(steep, n)
	}
	turned := slices.Clone(steep)
	slices.Reverse(turned)
	flat := slices.Repeat([]int{9}, 512)
	kind1, kind1Far := append(slices.Repeat([]int{8}, 247), slices.Repeat([]int{9}, 18)...), slices.Repeat([]int{4}, 16)
	all := [][]int{{1}, {0, 1}, {1, 0}, {0, 0, 1, 0}, append(make([]int, 999), 1), {1, 1}, {0, 1, 0, 1}, {2, 1, 3, 3}, steep, turned, flat, kind1, kind1Far}
	for i := range int64(60) {
		all = append(all, anyLengths(i, 2+int(i), longest, int(i)%7), anyLengths(i, 2+int(i), bitsFor(2+int(i)), int(i)%3))
	}
	for i := range int64(4) {
		all = append(all, anyLengths(i, 300, longest, 30), anyLengths(i, symbols, longest, 0), anyLengths(i, symbols/2, 10, symbols/2))
	}
	return all
}

// wrongLengths are no code's.
func wrongLengths() [][]int {
	all := [][]int{nil, {}, {0}, make([]int, symbols), {1, 1, 1}, {1, 2}, {1, 1, 15}, {15}, {2, 2, 2}, {2, 2, 2, 2, 2}, {2, 1}, {1, 2, 3}, {1, 2, 3, 3, 3}}
	for n := 2; n <= longest; n++ {
		all = append(all, []int{n}, []int{0, n, 0}, slices.Repeat([]int{n}, min(symbols, 1<<n-1)), []int{n, n})
		if n < 10 {
			all = append(all, slices.Repeat([]int{n}, 1<<n+1))
		}
	}
	for _, n := range []int{-1, -2, -15, -16, -31, -32, -33, -63, -64, -65, math.MinInt32, math.MinInt, 16, 17, 30, 31, 32, 33, 63, 64, 65, 256, 257, 1 << 16, math.MaxInt32, math.MaxInt} {
		all = append(all, []int{n}, []int{n, n}, []int{n, 1}, []int{1, n}, []int{1, 1, n}, []int{n, 1, 1}, []int{2, 1, 3, n, 3}, []int{1, n, 0})
	}
	for _, l := range [][]int{{1}, {1, 1}, anyLengths(1, 500, longest, 0), anyLengths(2, symbols, longest, 0)} {
		all = append(all, slices.Concat(l, make([]int, symbols+1-len(l))), slices.Concat(make([]int, symbols+1-len(l)), l), slices.Concat(l, make([]int, 5000)))
	}
	all = append(all, anyLengths(3, symbols+1, longest, 0), anyLengths(4, 1<<12, longest, 0), make([]int, symbols+1))
	for i := range int64(30) { // one of a code's lengths is one more, or one less, or none
		l := anyLengths(i, 3+int(i), 14, 0)
		for at := range l {
			for _, n := range []int{l[at] + 1, l[at] - 1, 0} {
				other := slices.Clone(l)
				other[at] = n
				all = append(all, other)
			}
		}
	}
	return all
}

// wordsOf are the words of lengths, bits as a text, as P13.2 words them; of a length 0 it is empty.
func wordsOf(lengths []int) []string {
	words := make([]string, len(lengths))
	word := ""
	for n := 1; n <= longest; n++ {
		for symbol, length := range lengths {
			if length != n {
				continue
			}
			if word != "" {
				word = oneMore(word)
			}
			word += strings.Repeat("0", n-len(word))
			words[symbol] = word
		}
	}
	return words
}

// oneMore is a number one greater, bits as a text, the highest first; its bits are not all 1.
func oneMore(word string) string {
	at := strings.LastIndexByte(word, '0')
	return word[:at] + "1" + strings.Repeat("0", len(word)-at-1)
}

// number is a word as one.
func number(word string) uint32 {
	n := uint32(0)
	for _, bit := range word {
		n = 2*n + uint32(bit-'0')
	}
	return n
}

// code is New's; it must be one.
func code(t *testing.T, lengths []int) *huff.Code {
	t.Helper()
	c, e := huff.New(lengths)
	if c == nil || e != api.OK {
		t.Fatalf("New(%v): %v, %v", lengths, c, e)
	}
	return c
}

// written are a Writer's bits, as a text.
func written(w *bits.Writer) string {
	return taken(bits.New(w.Bytes()), w.Count())
}

// taken are so many bits of a reader, as a text.
func taken(r *bits.Reader, many int) string {
	var b strings.Builder
	for range many {
		bit, _ := r.Take(1)
		b.WriteByte('0' + byte(bit))
	}
	return b.String()
}

// reader is one of bits that are told as a text, and of nothing else: the reader of whole bytes is brought up to them.
func reader(text string) *bits.Reader {
	w := &bits.Writer{}
	skip := (8 - len(text)%8) % 8
	w.Put(0, skip)
	for _, bit := range text {
		w.Put(uint64(bit-'0'), 1)
	}
	r := bits.New(w.Bytes())
	r.Take(skip)
	return r
}

// put holds Put to OK.
func put(t *testing.T, c *huff.Code, w *bits.Writer, symbol int) {
	t.Helper()
	if e := c.Put(w, symbol); e != api.OK {
		t.Fatalf("Put(%d): %v", symbol, e)
	}
}

// takes holds Take to a symbol, and the reader to bits behind its word.
func takes(t *testing.T, c *huff.Code, r *bits.Reader, symbol int, behind string) {
	t.Helper()
	if s, e := c.Take(r); s != symbol || e != api.OK || r.Left() != len(behind) {
		t.Fatalf("Take: %d, %v, not %d; then %d left, not %d", s, e, symbol, r.Left(), len(behind))
	}
	again := *r
	if got := taken(&again, again.Left()); got != behind {
		t.Fatalf("Take of %d: then %s, not %s", symbol, got, behind)
	}
}

// refuses holds Take of bits to an error, more than once, and the reader to what it was.
func refuses(t *testing.T, c *huff.Code, text string, want api.Errno) {
	t.Helper()
	r := reader(text)
	for range 3 {
		if s, e := c.Take(r); s != 0 || e != want || r.Left() != len(text) {
			t.Fatalf("Take of %q: %d, %v, not %v; then %d left", text, s, e, want, r.Left())
		}
	}
	if got := taken(r, len(text)); got != text {
		t.Fatalf("Take of %q: %v, then %q", text, want, got)
	}
}

// P13.1 to P13.3: the chapter's examples.
func TestExamples(t *testing.T) {
	if l, e := huff.Lengths([]uint32{5, 1, 1, 0, 2}, 15); !slices.Equal(l, []int{1, 3, 3, 0, 2}) || e != api.OK {
		t.Errorf("%v, %v", l, e)
	}
	if l, e := huff.Lengths([]uint32{5, 1, 1, 1}, 2); !slices.Equal(l, []int{2, 2, 2, 2}) || e != api.OK {
		t.Errorf("%v, %v", l, e)
	}
	if w, e := huff.Words([]int{2, 1, 3, 3}); !slices.Equal(w, []uint32{2, 0, 6, 7}) || e != api.OK {
		t.Errorf("%v, %v", w, e)
	}
	if w, e := huff.Words([]int{1, 1, 1}); len(w) != 0 || e != api.ErrCode {
		t.Errorf("%v, %v", w, e)
	}
}

// P13.1: all short lists of small counts, held to all lengths that may be.
func TestLengthsShort(t *testing.T) {
	values := []uint32{0, 1, 2, 3, 7}
	for many := range 6 {
		for which := range int(math.Pow(float64(len(values)), float64(many))) {
			counts := make([]uint32, many)
			for i := range counts {
				counts[i] = values[which%len(values)]
				which /= len(values)
			}
			for most := 1; most <= 5; most++ {
				if some := len(used(counts)); some > 1<<most {
					lengthsRefused(t, counts, most)
				} else {
					leastLengths(t, counts, most, byTrying)
				}
			}
		}
	}
}

// P13.1: the two ways to reckon the least, that the tests use, agree.
func TestLeast(t *testing.T) {
	for many := 2; many <= 7; many++ {
		for _, counts := range manyCounts(int64(many), many) {
			for most := bitsFor(many); most <= 7; most++ {
				if a, b := least(counts, most), byTrying(counts, most); a != b {
					t.Fatalf("%v, %d: %d and %d", counts, most, a, b)
				}
			}
		}
	}
}

// P13.1: lists of all shapes and each most length that they may have, with counts of 0 among them, too.
func TestLengthsMany(t *testing.T) {
	for many := 2; many <= 70; many++ {
		for i, counts := range manyCounts(int64(many), many) {
			for most := bitsFor(many); most <= longest; most++ {
				leastLengths(t, counts, most, least)
				leastLengths(t, among(int64(i), counts, many/2+most), most, least)
			}
		}
	}
}

// P13.1: great lists, up to 1000 counts, and of as many symbols as blocks have.
func TestLengthsGreat(t *testing.T) {
	for _, many := range []int{127, 128, 129, 256, 257, api.MaxSymbols, 511, 512, 513, symbols - 1, symbols} {
		for i, counts := range manyCounts(int64(many), many) {
			for _, most := range []int{bitsFor(many), bitsFor(many) + 1, longest} {
				if many > 300 && (i+most)%3 != 0 {
					continue
				}
				leastLengths(t, counts, most, least)
				leastLengths(t, among(int64(i), counts, symbols-many), most, least)
			}
		}
	}
}

// P13.1: as many counts as there are words, all are of the most length; one more are refused.
func TestLengthsFull(t *testing.T) {
	for most := 1; most <= 9; most++ {
		for _, counts := range manyCounts(int64(most), 1<<most) {
			lengths := leastLengths(t, counts, most, func(some []uint32, most int) uint64 { return cost(some, slices.Repeat([]int{most}, len(some))) })
			for _, n := range lengths {
				if n != most {
					t.Fatalf("Lengths(%v, %d): %v", counts, most, lengths)
				}
			}
			more := append(slices.Clone(counts), 1)
			lengthsRefused(t, more, most)
			lengthsRefused(t, among(1, more, 90), most)
			leastLengths(t, more, most+1, least)
			leastLengths(t, among(2, counts, symbols-len(counts)), most, least)
		}
	}
}

// P13.1: a count alone has the length 1, wherever it is, whatever it is, and whatever the most is; of none but 0 all are 0.
func TestLengthsFew(t *testing.T) {
	for most := 1; most <= longest; most++ {
		for _, many := range []int{0, 1, 2, 3, 10, symbols - 1, symbols} {
			if l, e := huff.Lengths(make([]uint32, many), most); e != api.OK || !slices.Equal(l, make([]int, many)) {
				t.Fatalf("Lengths(%d of 0, %d): %v, %v", many, most, l, e)
			}
			for at := range min(many, 12) {
				for _, n := range []uint32{1, 2, 1 << 16, 1 << 31, math.MaxUint32} {
					counts, want := make([]uint32, many), make([]int, many)
					counts[many-1-at], want[many-1-at] = n, 1
					if l, e := huff.Lengths(counts, most); e != api.OK || !slices.Equal(l, want) {
						t.Fatalf("Lengths(%v, %d): %v, %v", counts, most, l, e)
					}
				}
			}
		}
		if l, e := huff.Lengths(nil, most); e != api.OK || len(l) != 0 {
			t.Fatalf("Lengths(none, %d): %v, %v", most, l, e)
		}
	}
}

// lengthsRefused holds Lengths to ErrArg.
func lengthsRefused(t *testing.T, counts []uint32, most int) {
	t.Helper()
	if l, e := huff.Lengths(counts, most); len(l) != 0 || e != api.ErrArg {
		t.Fatalf("Lengths(%d counts, %d): %v, %v", len(counts), most, l, e)
	}
}

// P13.1: a most that is not 1 to 15, or more than 1000 counts, are told ErrArg.
func TestLengthsWrong(t *testing.T) {
	for _, counts := range [][]uint32{nil, {}, {0}, {1}, {1, 1}, {5, 1, 1, 0, 2}, make([]uint32, symbols), slices.Repeat([]uint32{1}, symbols)} {
		for _, most := range []int{0, -1, -2, -15, -16, -31, -32, -33, -64, math.MinInt32, math.MinInt, 16, 17, 31, 32, 33, 63, 64, 65, 256 + 1, 1<<16 + 3, math.MaxInt32, math.MaxInt} {
			lengthsRefused(t, counts, most)
		}
	}
	for _, many := range []int{symbols + 1, symbols + 2, symbols + 24, 2 * symbols, 1 << 15, 1<<16 + 1} {
		for most := -1; most <= longest+2; most++ {
			lengthsRefused(t, make([]uint32, many), most)
			lengthsRefused(t, append(make([]uint32, many-2), 1, 2), most)
			lengthsRefused(t, slices.Repeat([]uint32{1}, many), most)
		}
	}
}

// R4, R5: Lengths changes and keeps nothing, and answers the same each time, whatever the spare room holds.
func TestLengthsOwn(t *testing.T) {
	for many := range 80 {
		all := manyCounts(7, 100)[10]
		was := slices.Clone(all)
		first, _ := huff.Lengths(all[:many], longest)
		kept := slices.Clone(first)
		second, _ := huff.Lengths(all[:many:many], longest)
		if !slices.Equal(all, was) || !slices.Equal(second, kept) {
			t.Fatalf("%d counts: changed, or other lengths", many)
		}
		for i := range first[:cap(first)] {
			first[:cap(first)][i] = -7
		}
		third, _ := huff.Lengths(slices.Clone(was[:many]), longest)
		if !slices.Equal(second, kept) || !slices.Equal(third, kept) {
			t.Fatalf("%d counts: other lengths", many)
		}
	}
}

// wordsHold holds Words to P13.2's words.
func wordsHold(t *testing.T, lengths []int) {
	t.Helper()
	was := slices.Clone(lengths)
	words, e := huff.Words(lengths)
	if e != api.OK || len(words) != len(lengths) {
		t.Fatalf("Words(%v): %v, %v", lengths, words, e)
	}
	for i, word := range wordsOf(lengths) {
		if words[i] != number(word) {
			t.Fatalf("Words(%v): %v: %d of %d, not %s", lengths, words, words[i], i, word)
		}
	}
	if !slices.Equal(lengths, was) {
		t.Fatalf("Words(%v) changes them", was)
	}
}

// codeRefused holds Words and New to ErrCode.
func codeRefused(t *testing.T, lengths []int) {
	t.Helper()
	was := slices.Clone(lengths)
	if words, e := huff.Words(lengths); len(words) != 0 || e != api.ErrCode {
		t.Fatalf("Words(%v): %v, %v", lengths, words, e)
	}
	if c, e := huff.New(lengths); c != nil || e != api.ErrCode {
		t.Fatalf("New(%v): %v, %v", lengths, c, e)
	}
	if !slices.Equal(lengths, was) {
		t.Fatalf("%v: changed", was)
	}
}

// P13.2: words of many codes, up to 1000 symbols, and all lengths.
func TestWords(t *testing.T) {
	for _, lengths := range codes() {
		wordsHold(t, lengths)
	}
}

// P13.2, P13.3: all short lists of small lengths, and all that fill the room a little short of it, or just, or beyond.
func TestWordsShort(t *testing.T) {
	for many := range 7 {
		for which := range int(math.Pow(5, float64(many))) {
			lengths, alone := make([]int, many), 0
			for i := range lengths {
				lengths[i] = which % 5
				which /= 5
				if lengths[i] > 0 {
					alone++
				}
			}
			if r := roomOf(lengths); r == room || alone == 1 && r == room/2 {
				wordsHold(t, lengths)
				code(t, lengths)
			} else {
				codeRefused(t, lengths)
			}
		}
	}
}

// P13.2, P13.3: lengths that are no code's: too many, one that may not be, at any place, none, and too little room or too much, a single word's too.
func TestWordsWrong(t *testing.T) {
	for _, lengths := range wrongLengths() {
		codeRefused(t, lengths)
	}
	good := anyLengths(5, 40, longest, 5)
	for at := range good {
		for _, n := range []int{-1, 16, math.MinInt, math.MaxInt} {
			with := slices.Insert(slices.Clone(good), at, n)
			codeRefused(t, with)
			with[at] = 0
			wordsHold(t, with)
		}
	}
}

// P13.2: a word alone is 0, of the length 1, wherever it is.
func TestWordAlone(t *testing.T) {
	for _, many := range []int{1, 2, 3, 9, symbols - 1, symbols} {
		for at := range many {
			lengths := make([]int, many)
			lengths[at] = 1
			words, e := huff.Words(lengths)
			if e != api.OK || !slices.Equal(words, make([]uint32, many)) {
				t.Fatalf("Words of one alone: %v, %v", words, e)
			}
		}
	}
}

// R4, R5: Words changes and keeps nothing, and answers the same each time.
func TestWordsOwn(t *testing.T) {
	all := append(anyLengths(6, 50, longest, 9), 1, 1, 1, 1, -1, 16)
	was := slices.Clone(all)
	first, _ := huff.Words(all[:59])
	kept := slices.Clone(first)
	second, _ := huff.Words(all[:59:59])
	for i := range first[:cap(first)] {
		first[:cap(first)][i] = 7
	}
	third, e := huff.Words(slices.Clone(was[:59]))
	if e != api.OK || !slices.Equal(all, was) || !slices.Equal(second, kept) || !slices.Equal(third, kept) {
		t.Errorf("changed, or other words")
	}
}

// P13.3: New keeps nothing of lengths: a code is the same whatever becomes of them, and of words that are asked.
func TestNewKeepsNothing(t *testing.T) {
	for _, lengths := range codes() {
		own := slices.Clone(lengths)
		c := code(t, own)
		if !slices.Equal(own, lengths) {
			t.Fatalf("New(%v) changes them", lengths)
		}
		words, _ := huff.Words(own)
		for i := range own {
			own[i], words[i] = longest-own[i], 7
		}
		w, want := &bits.Writer{}, wordsOf(lengths)
		var all strings.Builder
		for symbol, word := range want {
			if word != "" {
				put(t, c, w, symbol)
				all.WriteString(word)
			}
		}
		if got := written(w); got != all.String() {
			t.Fatalf("%v: other words", lengths)
		}
		r := bits.New(w.Bytes())
		for symbol, word := range want {
			if word != "" {
				if s, e := c.Take(r); s != symbol || e != api.OK {
					t.Fatalf("%v: %d, %v, not %d", lengths, s, e, symbol)
				}
			}
		}
	}
}

// P13.3: a word's bits are put, the highest first, behind what was written, and nothing else.
func TestPut(t *testing.T) {
	for _, lengths := range codes() {
		c := code(t, lengths)
		for symbol, word := range wordsOf(lengths) {
			if word == "" || len(lengths) > 300 && symbol%7 != 0 {
				continue
			}
			for ahead := range 9 {
				w := &bits.Writer{}
				w.Put(1<<ahead-1, ahead)
				put(t, c, w, symbol)
				if got, want := written(w), strings.Repeat("1", ahead)+word; got != want {
					t.Fatalf("%v: Put(%d): %s, not %s", lengths, symbol, got, want)
				}
				put(t, c, w, symbol)
				w.Put(1, 1)
				if got, want := written(w), strings.Repeat("1", ahead)+word+word+"1"; got != want {
					t.Fatalf("%v: Put(%d): %s, not %s", lengths, symbol, got, want)
				}
			}
		}
	}
}

// P13.3, R3: a symbol that is none, or that has no word, is told ErrArg, and nothing is put.
func TestPutWrong(t *testing.T) {
	for _, lengths := range codes() {
		c := code(t, lengths)
		wrong := []int{-1, -2, -len(lengths), math.MinInt32, math.MinInt, len(lengths), len(lengths) + 1, 2 * len(lengths), 1 << 16, math.MaxInt32, math.MaxInt}
		for symbol, n := range lengths {
			if n == 0 {
				wrong = append(wrong, symbol)
			}
		}
		for ahead := range 3 {
			w := &bits.Writer{}
			w.Put(1<<ahead-1, ahead)
			for _, symbol := range wrong {
				if e := c.Put(w, symbol); e != api.ErrArg || w.Count() != ahead || written(w) != strings.Repeat("1", ahead) {
					t.Fatalf("%v: Put(%d): %v, then %s", lengths, symbol, e, written(w))
				}
			}
			at := slices.IndexFunc(lengths, func(n int) bool { return n > 0 })
			put(t, c, w, at)
			if got, want := written(w), strings.Repeat("1", ahead)+wordsOf(lengths)[at]; got != want {
				t.Fatalf("%v: Put(%d) behind what was refused: %s", lengths, at, got)
			}
		}
	}
}

// P13.3: each word is taken, from each place of a byte on, whatever is behind it, and no bit more.
func TestTake(t *testing.T) {
	for _, lengths := range codes() {
		c := code(t, lengths)
		for symbol, word := range wordsOf(lengths) {
			if word == "" || len(lengths) > 300 && symbol%11 != 0 {
				continue
			}
			for more := range 9 {
				for _, behind := range []string{strings.Repeat("0", more), strings.Repeat("1", more), strings.Repeat("10", more)} {
					takes(t, c, reader(word+behind), symbol, behind)
				}
			}
		}
	}
}

// P13.3: any bits are words, one behind the other, and at the end the beginning of one.
func TestTakeAny(t *testing.T) {
	random := rand.New(rand.NewSource(1))
	for _, lengths := range codes() {
		if roomOf(lengths) != room {
			continue
		}
		c := code(t, lengths)
		symbolOf := map[string]int{}
		for symbol, word := range wordsOf(lengths) {
			symbolOf[word] = symbol
		}
		delete(symbolOf, "")
		b := make([]byte, 100)
		random.Read(b)
		r := bits.New(b)
		begun := ""
		for _, bit := range taken(bits.New(b), 8*len(b)) {
			begun += string(bit)
			if symbol, is := symbolOf[begun]; is {
				left := r.Left() - len(begun)
				if s, e := c.Take(r); s != symbol || e != api.OK || r.Left() != left {
					t.Fatalf("%v: %s: %d, %v, not %d; %d left, not %d", lengths, begun, s, e, symbol, r.Left(), left)
				}
				begun = ""
			}
		}
		if s, e := c.Take(r); s != 0 || e != api.ErrBits || taken(r, r.Left()) != begun {
			t.Fatalf("%v: %d, %v behind the last word, not %s", lengths, s, e, begun)
		}
	}
}

// P13.3, R3: a word of which bits are missing is told ErrBits, and none is taken.
func TestTakeCut(t *testing.T) {
	for _, lengths := range codes() {
		c := code(t, lengths)
		refuses(t, c, "", api.ErrBits)
		for symbol, word := range wordsOf(lengths) {
			if len(lengths) > 300 && symbol%7 != 0 {
				continue
			}
			for cut := range len(word) {
				refuses(t, c, word[:cut], api.ErrBits)
			}
		}
	}
}

// P13.3, R3: of a code of one word the bit 1 is told ErrCode, whatever is behind it, and is not taken.
func TestTakeAlone(t *testing.T) {
	for _, lengths := range [][]int{{1}, {0, 1}, {1, 0}, {0, 0, 0, 1, 0}, append(make([]int, 999), 1)} {
		c := code(t, lengths)
		symbol := slices.Index(lengths, 1)
		for many := range 40 {
			for _, bit := range []string{"0", "1", "01", "10"} {
				behind := strings.Repeat(bit, many)
				refuses(t, c, "1"+behind, api.ErrCode)
				takes(t, c, reader("0"+behind), symbol, behind)
				takes(t, c, reader("01"+behind), symbol, "1"+behind)
			}
		}
		r := reader("00010")
		for left := 4; left >= 2; left-- {
			if s, e := c.Take(r); s != symbol || e != api.OK || r.Left() != left {
				t.Fatalf("%d, %v; %d left", s, e, r.Left())
			}
		}
		for range 3 {
			if s, e := c.Take(r); s != 0 || e != api.ErrCode || r.Left() != 2 {
				t.Fatalf("%d, %v; %d left", s, e, r.Left())
			}
		}
		r.Take(1)
		takes(t, c, r, symbol, "")
	}
}

// P13.3: a code that Go makes has no symbol: none is put, and what is taken is told ErrBits, or, of more than 15 bits, ErrCode.
func TestGoMade(t *testing.T) {
	var made huff.Code
	for _, c := range []*huff.Code{{}, new(huff.Code), &made} {
		w := &bits.Writer{}
		for _, symbol := range []int{-1, 0, 1, 256, math.MinInt, math.MaxInt} {
			if e := c.Put(w, symbol); e != api.ErrArg || w.Count() != 0 {
				t.Errorf("Put(%d): %v", symbol, e)
			}
		}
		for many := range 40 {
			want := api.ErrBits
			if many > longest {
				want = api.ErrCode
			}
			refuses(t, c, strings.Repeat("0", many), want)
			refuses(t, c, strings.Repeat("1", many), want)
		}
	}
}

// R1: of a nil Code, Writer or Reader, Put and Take are told ErrArg, ahead of all else, and change nothing.
func TestNil(t *testing.T) {
	var none *huff.Code
	some := code(t, []int{2, 1, 3, 3})
	alone := code(t, []int{1})
	for _, symbol := range []int{-1, 0, 1, 3, 4, math.MaxInt} {
		for _, c := range []*huff.Code{none, some, alone, {}} {
			if e := c.Put(nil, symbol); e != api.ErrArg {
				t.Errorf("Put(nil, %d): %v", symbol, e)
			}
		}
		w := &bits.Writer{}
		if e := none.Put(w, symbol); e != api.ErrArg || w.Count() != 0 {
			t.Errorf("Put(%d): %v", symbol, e)
		}
	}
	for _, c := range []*huff.Code{none, some, alone, {}} {
		if s, e := c.Take(nil); s != 0 || e != api.ErrArg {
			t.Errorf("Take(nil): %d, %v", s, e)
		}
	}
	for _, text := range []string{"", "0", "1", strings.Repeat("1", 40)} {
		refuses(t, none, text, api.ErrArg)
	}
	refuses(t, &huff.Code{}, "", api.ErrBits)
	if s, e := some.Take(&bits.Reader{}); s != 0 || e != api.ErrBits {
		t.Errorf("%d, %v", s, e)
	}
}

// P13.4: no word begins another one.
func TestNoneBegins(t *testing.T) {
	for _, lengths := range codes() {
		words, e := huff.Words(lengths)
		if e != api.OK {
			t.Fatalf("%v: %v", lengths, e)
		}
		for i, a := range lengths {
			for j, b := range lengths {
				if i != j && a > 0 && a <= b && words[j]>>(b-a) == words[i] {
					t.Fatalf("%v: the word of %d begins that of %d", lengths, i, j)
				}
			}
		}
	}
}

// P13.4: what is put is taken, by a code that is copied, and by another one of the same lengths, too.
func TestPutIsTaken(t *testing.T) {
	random := rand.New(rand.NewSource(2))
	for _, lengths := range codes() {
		c, other := code(t, lengths), code(t, lengths)
		copied := *c
		var some, text []int
		for symbol, n := range lengths {
			if n > 0 {
				some = append(some, symbol)
			}
		}
		w, many := &bits.Writer{}, 0
		for range 300 {
			text = append(text, some[random.Intn(len(some))])
		}
		text = append(text, some...)
		for _, symbol := range text {
			put(t, c, w, symbol)
			many += lengths[symbol]
			if w.Count() != many {
				t.Fatalf("%v: %d bits, not %d", lengths, w.Count(), many)
			}
		}
		for _, by := range []*huff.Code{c, other, &copied} {
			r := bits.New(w.Bytes())
			for i, symbol := range text {
				if s, e := by.Take(r); s != symbol || e != api.OK {
					t.Fatalf("%v: %d at %d: %d, %v", lengths, symbol, i, s, e)
				}
			}
			if r.Left() != (8-many%8)%8 {
				t.Fatalf("%v: %d left", lengths, r.Left())
			}
		}
	}
}

// P13.4: two codes and plain bits in turns, each by itself.
func TestTurns(t *testing.T) {
	random := rand.New(rand.NewSource(3))
	one, two := anyLengths(2, 200, longest, 0), anyLengths(3, 16, 8, 0)
	c, d := code(t, one), code(t, two)
	w := &bits.Writer{}
	var text [][3]int
	for range 500 {
		x := [3]int{random.Intn(len(one)), random.Intn(32), random.Intn(len(two))}
		text = append(text, x)
		put(t, c, w, x[0])
		w.Put(uint64(x[1]), 5)
		put(t, d, w, x[2])
	}
	r := bits.New(w.Bytes())
	for i, x := range text {
		a, e := c.Take(r)
		n, f := r.Take(5)
		b, g := d.Take(r)
		if a != x[0] || int(n) != x[1] || b != x[2] || e != api.OK || f != api.OK || g != api.OK {
			t.Fatalf("%d: %d %d %d, not %v", i, a, n, b, x)
		}
	}
}

// P13.1, P13.4: the lengths of counts are a code's, and a text that has those counts is put in the fewest bits, and taken.
func TestCounted(t *testing.T) {
	random := rand.New(rand.NewSource(4))
	for many := 1; many <= symbols; many += 1 + many/4 {
		text := make([]int, 3*many)
		counts := make([]uint32, many)
		for i := range text {
			text[i] = min(random.Intn(many), random.Intn(many))
			counts[text[i]]++
		}
		lengths, e := huff.Lengths(counts, longest)
		if e != api.OK {
			t.Fatalf("Lengths(%v): %v", counts, e)
		}
		c, w := code(t, lengths), &bits.Writer{}
		for _, symbol := range text {
			put(t, c, w, symbol)
		}
		if uint64(w.Count()) != cost(counts, lengths) {
			t.Fatalf("%v: %d bits, not %d", counts, w.Count(), cost(counts, lengths))
		}
		r := bits.New(w.Bytes())
		for i, symbol := range text {
			if s, e := c.Take(r); s != symbol || e != api.OK {
				t.Fatalf("%v: %d at %d: %d, %v", counts, symbol, i, s, e)
			}
		}
	}
}

func BenchmarkLengths(b *testing.B) {
	counts := manyCounts(1, api.MaxSymbols)[11]
	for b.Loop() {
		huff.Lengths(counts, longest)
	}
}

func BenchmarkPut(b *testing.B) {
	c, _ := huff.New(anyLengths(1, 256, longest, 0))
	w := &bits.Writer{}
	for i := 0; b.Loop(); i++ {
		c.Put(w, i%256)
	}
}

func BenchmarkTake(b *testing.B) {
	c, _ := huff.New(anyLengths(1, 256, longest, 0))
	text := make([]byte, 1<<20)
	rand.New(rand.NewSource(1)).Read(text)
	r := bits.New(text)
	for b.Loop() {
		if r.Left() < longest {
			r = bits.New(text)
		}
		c.Take(r)
	}
}
