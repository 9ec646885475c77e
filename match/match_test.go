package match_test

import (
	"bytes"
	"math"
	"math/rand"
	"slices"
	"strings"
	"testing"

	"fardel/api"
	"fardel/match"
)

const (
	shortest = 4
	longest  = 258
	furthest = 65535
)

// one is a byte's token.
func one(b byte) api.Token { return api.Token{Byte: b} }

// back is a token of so many bytes from so far back.
func back(length, far int) api.Token { return api.Token{Length: length, Far: far} }

// plain are the tokens of bytes, one by one.
func plain(s string) []api.Token {
	var l []api.Token
	for i := range len(s) {
		l = append(l, one(s[i]))
	}
	return l
}

// tokens joins lists of them.
func tokens(l ...[]api.Token) []api.Token { return slices.Concat(l...) }

// tokenAt is the token of a place, as P14.1 words it: each way back is gone through.
func tokenAt(b []byte, i int) api.Token {
	best := one(b[i])
	for far := 1; far <= furthest && far <= i; far++ {
		n := 0
		for n < longest && i+n < len(b) && b[i-far+n] == b[i+n] {
			n++
		}
		if n >= shortest && n > best.Length {
			best = back(n, far)
		}
	}
	return best
}

// long is how many bytes a token stands for.
func long(t api.Token) int { return max(1, t.Length) }

// found holds Find to P14.1's words, at the places that are asked, and to the length of the whole; it is the tokens.
func found(t *testing.T, b []byte, asked func(i int) bool) []api.Token {
	t.Helper()
	was := bytes.Clone(b)
	l := match.Find(b)
	if !bytes.Equal(b, was) {
		t.Fatalf("Find of %d bytes changes them", len(b))
	}
	i := 0
	for _, x := range l {
		if i >= len(b) || asked(i) && x != tokenAt(b, i) {
			t.Fatalf("Find of %s: %v at %d", short(b), x, i)
		}
		i += long(x)
	}
	if i != len(b) {
		t.Fatalf("Find of %s: tokens of %d bytes, not %d", short(b), i, len(b))
	}
	return l
}

// short is a text, or its beginning.
func short(b []byte) string {
	if len(b) > 300 {
		return string(b[:300]) + " and so on"
	}
	return string(b)
}

// everywhere asks at all places.
func everywhere(int) bool { return true }

// expandedAs is Expand's answer, by P14.3's words: all bytes in one list, of which those ahead are cut.
func expandedAs(ahead []byte, l []api.Token, most int) ([]byte, api.Errno) {
	if most < 0 {
		return nil, api.ErrArg
	}
	all := string(ahead)
	for _, t := range l {
		if match.Check(t) != api.OK || t.Far > len(all) {
			return nil, api.ErrToken
		}
		if t.Length == 0 {
			all += string([]byte{t.Byte})
		}
		for range t.Length {
			all += all[len(all)-t.Far:][:1]
		}
		if len(all)-len(ahead) > most {
			return nil, api.ErrLimit
		}
	}
	return []byte(all[len(ahead):]), api.OK
}

// expands holds Expand to an answer.
func expands(t *testing.T, ahead []byte, l []api.Token, most int, want []byte, wrong api.Errno) {
	t.Helper()
	aheadWas, listWas := bytes.Clone(ahead), slices.Clone(l)
	b, e := match.Expand(ahead, l, most)
	if e != wrong || !bytes.Equal(b, want) {
		t.Fatalf("Expand(%d bytes, %d tokens, %d): %q, %v, not %q, %v", len(ahead), len(l), most, short(b), e, short(want), wrong)
	}
	if !bytes.Equal(ahead, aheadWas) || !slices.Equal(l, listWas) {
		t.Fatalf("Expand(%d bytes, %d tokens, %d) changes them", len(ahead), len(l), most)
	}
}

// returns holds what was found to P14.4: each token may be, and they expand to the bytes, no more than they are.
func returns(t *testing.T, b []byte, l []api.Token) {
	t.Helper()
	for i, x := range l {
		if e := match.Check(x); e != api.OK {
			t.Fatalf("Find of %s: %v at %d: %v", short(b), x, i, e)
		}
	}
	expands(t, nil, l, len(b), b, api.OK)
	if len(b) > 0 {
		expands(t, nil, l, len(b)-1, nil, api.ErrLimit)
	}
}

// shape makes bytes, up to so many, of a kind, the same ones in every run.
type shape struct {
	name string
	make func(random *rand.Rand, many int) []byte
}

// pieces are bytes of parts, one behind the other.
func pieces(many int, part func(i int) []byte) []byte {
	var b []byte
	for i := 0; len(b) < many; i++ {
		b = append(b, part(i)...)
	}
	return b[:many]
}

// shapes are all kinds of bytes that hold matches of all lengths, near and far.
func shapes() []shape {
	of := func(letters int) func(*rand.Rand, int) []byte {
		return func(random *rand.Rand, many int) []byte {
			return pieces(many, func(int) []byte { return []byte{byte(random.Intn(letters))} })
		}
	}
	seldom := func(often int) func(*rand.Rand, int) []byte {
		return func(random *rand.Rand, many int) []byte {
			return pieces(many, func(int) []byte {
				if random.Intn(often) == 0 {
					return []byte("b")
				}
				return []byte("a")
			})
		}
	}
	return []shape{
		{"of one letter", of(1)}, {"of two letters", of(2)}, {"of three letters", of(3)}, {"of nine letters", of(9)}, {"of all", of(256)},
		{"one in 10", seldom(10)}, {"one in 100", seldom(100)}, {"one in 300", seldom(300)},
		{"runs", func(random *rand.Rand, many int) []byte {
			return pieces(many, func(int) []byte {
				return append(bytes.Repeat([]byte{'a'}, 1+random.Intn(300)), byte(random.Intn(256)))
			})
		}},
		{"the same run", func(random *rand.Rand, many int) []byte {
			return pieces(many, func(int) []byte { return append(bytes.Repeat([]byte{'a'}, 200), byte(random.Intn(256))) })
		}},
		{"runs of two", func(random *rand.Rand, many int) []byte {
			return pieces(many, func(i int) []byte { return bytes.Repeat([]byte{byte(i % 2)}, 1+random.Intn(9)) })
		}},
		{"words", func(random *rand.Rand, many int) []byte {
			words := strings.Fields("a an and andes anders dan dander wander wandering under understand stand standing outstanding")
			return pieces(many, func(int) []byte { return []byte(words[random.Intn(len(words))] + " ") })
		}},
		{"numbers", func(_ *rand.Rand, many int) []byte {
			return pieces(many, func(i int) []byte { return []byte{byte(i >> 8), byte(i), 0, 0} })
		}},
		{"periods", func(random *rand.Rand, many int) []byte {
			return pieces(many, func(int) []byte {
				return bytes.Repeat([]byte("abcdefghijklm")[random.Intn(6):][:1+random.Intn(7)], 1+random.Intn(60))
			})
		}},
		{"pieces of what was", func(random *rand.Rand, many int) []byte {
			b := []byte("some bytes")
			for len(b) < many {
				at := random.Intn(len(b))
				b = append(b, b[at:min(len(b), at+1+random.Intn(300))]...)
				b = append(b, byte(random.Intn(4)))
			}
			return b[:many]
		}},
	}
}

// P14.1, P14.3: the chapter's examples.
func TestExamples(t *testing.T) {
	if l := match.Find([]byte("abcdabcdabcdx")); !slices.Equal(l, tokens(plain("abcd"), []api.Token{back(8, 4), one('x')})) {
		t.Errorf("%v", l)
	}
	expands(t, nil, []api.Token{one('a'), back(5, 1)}, 9, []byte("aaaaaa"), api.OK)
	expands(t, nil, []api.Token{back(4, 1)}, 9, nil, api.ErrToken)
}

// P14.1, P14.4: all short texts of two letters, and of three.
func TestFindShort(t *testing.T) {
	for letters, most := range map[int]int{2: 13, 3: 8} {
		for many := 0; many <= most; many++ {
			for which := range int(math.Pow(float64(letters), float64(many))) {
				b := make([]byte, many)
				for i := range b {
					b[i] = 'a' + byte(which%letters)
					which /= letters
				}
				returns(t, b, found(t, b, everywhere))
			}
		}
	}
}

// P14.1, P14.4: texts of all shapes and of many lengths, at each of their places.
func TestFindMany(t *testing.T) {
	for seed, s := range shapes() {
		random := rand.New(rand.NewSource(int64(seed)))
		for _, many := range []int{1, 3, 4, 5, 7, 8, 9, 20, 60, 150, 257, 258, 259, 260, 261, 262, 263, 400, 700, 1500, 4000} {
			b := s.make(random, many)
			returns(t, b, found(t, b, everywhere))
		}
	}
}

// P14.1, P14.4: texts of all shapes that are longer than a match goes back, at some of their places.
func TestFindGreat(t *testing.T) {
	for seed, s := range shapes() {
		random := rand.New(rand.NewSource(int64(seed)))
		b := s.make(random, 200000)
		returns(t, b, found(t, b, func(i int) bool { return i%599 == 0 || i > furthest-9 && i < furthest+9 || i > len(b)-20 }))
	}
}

// P14.1: of none there are none; fewer than four bytes alike are told one by one, at the end, too.
func TestFindFew(t *testing.T) {
	if l := match.Find(nil); len(l) != 0 {
		t.Errorf("%v", l)
	}
	for _, s := range []string{"", "a", "aa", "aaa", "aaaa", "abab", "abcabc", "abcdabc", "abcdabcxabcd"[:11]} {
		if l := match.Find([]byte(s)); !slices.Equal(l, plain(s)) {
			t.Errorf("%q: %v", s, l)
		}
	}
	for s, want := range map[string][]api.Token{
		"aaaaa":                        tokens(plain("a"), []api.Token{back(4, 1)}),
		"abcdabcd":                     tokens(plain("abcd"), []api.Token{back(4, 4)}),
		"abcdxabcdxyz":                 tokens(plain("abcdx"), []api.Token{back(5, 5)}, plain("yz")),
		"abcd1abcd2abcdabcd":           tokens(plain("abcd1"), []api.Token{back(4, 5)}, plain("2"), []api.Token{back(4, 5), back(4, 4)}),
		"\x00\x00\x00\x00\x00":         tokens(plain("\x00"), []api.Token{back(4, 1)}),
		"\xff\xfe\xff\xfe\xff\xfe\xff": tokens(plain("\xff\xfe"), []api.Token{back(5, 2)}),
	} {
		if l := match.Find([]byte(s)); !slices.Equal(l, want) {
			t.Errorf("%q: %v", s, l)
		}
	}
}

// P14.1: a match has 258 bytes at most, whatever there is behind it; what is left behind it is one if it has four.
func TestFindLongest(t *testing.T) {
	for many := 1; many <= 4*longest; many++ {
		want := plain("a")
		left := many - 1
		for left >= shortest {
			want = append(want, back(min(left, longest), 1))
			left -= min(left, longest)
		}
		want = append(want, plain(strings.Repeat("a", left))...)
		b := bytes.Repeat([]byte{'a'}, many)
		if l := match.Find(b); !slices.Equal(l, want) {
			t.Fatalf("%d: %v", many, l)
		}
	}
	random := rand.New(rand.NewSource(1))
	for _, many := range []int{255, 256, 257, 258, 259, 260, 261, 262, 300, 515, 516, 517, 520} {
		piece := make([]byte, many)
		random.Read(piece)
		for _, behind := range []string{"", "x", "and more"} {
			b := slices.Concat(piece, []byte(behind), piece, []byte(behind))
			l := found(t, b, everywhere)
			if first := l[many+len(behind)]; first != back(min(longest, many+len(behind)), many+len(behind)) {
				t.Fatalf("%d: %v", many, first)
			}
		}
	}
}

// P14.1: of several of one length that which is least far, be it by the first four bytes, by later ones, or at the most length.
func TestFindNearest(t *testing.T) {
	random := rand.New(rand.NewSource(2))
	for _, many := range []int{4, 5, 6, 7, 8, 9, 30, 100, 257, 258, 300} {
		piece := make([]byte, many)
		random.Read(piece)
		for times := 2; times <= 5; times++ {
			var b []byte
			for i := range times {
				b = append(b, piece...)
				b = append(b, byte(i), byte(100+i), byte(i))
			}
			begin := len(b)
			b = append(b, piece...)
			l := match.Find(b)
			i := 0
			for _, x := range l {
				if i == begin && x != back(min(many, longest), many+3) {
					t.Fatalf("%d, %d times: %v", many, times, x)
				}
				i += long(x)
			}
			found(t, b, everywhere)
		}
	}
}

// P14.1: the longest is found behind nearer ones that are shorter, by one byte each, and by several.
func TestFindLonger(t *testing.T) {
	random := rand.New(rand.NewSource(3))
	piece := make([]byte, 290)
	random.Read(piece)
	for _, step := range []int{1, 2, 3, 5, 17, 60} {
		for _, falling := range []bool{true, false} {
			var lengths []int
			for n := 3; n <= len(piece); n += step {
				lengths = append(lengths, n)
			}
			if falling { // the longest first: the furthest
				slices.Reverse(lengths)
			}
			var b []byte
			for i, n := range lengths {
				b = append(b, piece[:n]...)
				b = append(b, ^piece[min(n, len(piece)-1)], byte(i), byte(i>>8))
			}
			b = append(b, piece...)
			returns(t, b, found(t, b, everywhere))
		}
	}
}

// P14.1: a match is at most 65535 bytes back: one there is found, to its last byte; one that is one further is none.
func TestFindFar(t *testing.T) {
	for _, many := range []int{4, 5, 9, 100, 257, 258, 300} {
		piece := []byte(strings.Repeat("0123456789abcdefghijklmnopqrstuvwxyz", 9))[:many]
		for i := range piece {
			piece[i] += byte(i / 36 * 36) // no four bytes of it are there twice
		}
		for far := furthest - 3; far <= furthest+3; far++ {
			for _, ahead := range []int{0, 1, 2, 1000} {
				fill := append(bytes.Repeat([]byte{0}, far-many-1), 255) // a byte that is nowhere else, so that a token begins behind it
				b := slices.Concat(bytes.Repeat([]byte{254}, ahead), piece, fill, piece)
				l := match.Find(b)
				if want := back(min(many, longest), far); slices.Contains(l, want) != (far <= furthest) {
					t.Fatalf("%d from %d back: %v and so on", many, far, l[len(l)-1])
				}
				if last := one(piece[many-1]); far > furthest && l[len(l)-1] != last {
					t.Fatalf("%d from %d back: %v", many, far, l[len(l)-1])
				}
				found(t, b, func(i int) bool { return i >= ahead+far-2 || i < ahead+many+2 })
			}
		}
	}
}

// P14.1: the furthest place that may be is looked at for each of its lengths, beside nearer ones that are shorter.
func TestFindFarLonger(t *testing.T) {
	piece := []byte("abcdefghijklmnopqrstuvwxyz")
	for far := furthest - 1; far <= furthest+1; far++ {
		for near := 3; near < len(piece); near++ {
			for _, times := range []int{1, 2, 40} {
				b := make([]byte, far, far+len(piece))
				copy(b, piece)
				for i := range times {
					copy(b[far-(near+5)*(i+1):], piece[:near])
				}
				b[far-1] = 255 // nowhere else, so that a token begins behind it
				b = append(b, piece...)
				l := found(t, b, func(i int) bool { return i >= far-1 })
				if got := slices.Contains(l, back(len(piece), far)); got != (far <= furthest) {
					t.Fatalf("%d back, %d near ones of %d: %v", far, times, near, got)
				}
			}
		}
	}
}

// R4, R5: Find changes and keeps nothing, spare room too, and answers the same each time, in memory of its own.
func TestFindOwn(t *testing.T) {
	for seed, s := range shapes() {
		all := s.make(rand.New(rand.NewSource(int64(seed))), 3000)
		was := bytes.Clone(all)
		first := match.Find(all[:2500])
		kept := slices.Clone(first)
		second := match.Find(all[:2500:2500])
		for i := range first[:cap(first)] {
			first[:cap(first)][i] = back(9, 9)
		}
		third := match.Find(append(make([]byte, 0, 9000), was[:2500]...))
		if !bytes.Equal(all, was) || !slices.Equal(second, kept) || !slices.Equal(third, kept) {
			t.Errorf("%s: changed, or other tokens", s.name)
		}
	}
}

// P14.1, P14.4: great texts, in which many places begin as each other, are gone through in a while; two and three letters at random are left out, as they take seconds.
func TestFindHard(t *testing.T) {
	for seed, s := range shapes() {
		if s.name == "of two letters" || s.name == "of three letters" {
			continue
		}
		random := rand.New(rand.NewSource(int64(seed)))
		b := s.make(random, 1<<20)
		returns(t, b, found(t, b, func(i int) bool { return i%65537 == 0 }))
	}
}

// P14.2: each byte beside lengths and ways back of all kinds: a byte alone, or a length and a way back that may be.
func TestCheck(t *testing.T) {
	numbers := []int{math.MinInt, math.MinInt32, -65536, -65535, -259, -258, -257, -256, -5, -4, -3, -2, -1, 0, 1, 2, 3, 4, 5, 6, 7, 8, 100, 255, 256, 257, 258, 259, 260, 261, 262, 511, 512, 514, 65534, 65535, 65536, 65537, 65539, 65540, 65794, 131071, 1 << 20, math.MaxInt32, math.MaxInt}
	allowed := func(x api.Token) bool {
		if x.Length == 0 || x.Far == 0 {
			return x.Length == x.Far
		}
		return x.Byte == 0 && 4 <= x.Length && x.Length <= 258 && 1 <= x.Far && x.Far <= 65535
	}
	for b := range 256 {
		for _, length := range numbers {
			for _, far := range numbers {
				checked(t, api.Token{Byte: byte(b), Length: length, Far: far}, allowed)
			}
		}
	}
	for length := -300; length <= 600; length++ {
		for _, far := range []int{-1, 0, 1, 65535, 65536} {
			checked(t, back(length, far), allowed)
		}
	}
	for far := -300; far <= 140000; far++ {
		for _, length := range []int{-4, 0, 3, 4, 258, 259} {
			checked(t, back(length, far), allowed)
		}
	}
}

// checked holds Check to whether a token is allowed.
func checked(t *testing.T, x api.Token, allowed func(api.Token) bool) {
	t.Helper()
	want := api.ErrToken
	if allowed(x) {
		want = api.OK
	}
	if e := match.Check(x); e != want {
		t.Fatalf("Check(%v): %v", x, e)
	}
}

// wrongTokens are refused, whatever is ahead.
func wrongTokens() []api.Token {
	l := []api.Token{back(3, 1), back(1, 1), back(259, 1), back(4, 0), back(0, 1), back(0, 4), back(4, 65536), back(258, 65536), back(-1, 1), back(-4, 4), back(4, -1), back(-4, -4), {Byte: 1, Length: 4, Far: 1}, {Byte: 255, Length: 258, Far: 65535}, {Byte: 1, Far: 1}, {Byte: 'a', Length: 1}}
	for _, n := range []int{math.MinInt, math.MinInt32, math.MaxInt32, math.MaxInt} {
		l = append(l, back(n, 1), back(4, n), back(n, n), back(n, 0), back(0, n))
	}
	return l
}

// P14.3: a most below 0 is told ErrArg, ahead of all else.
func TestExpandMost(t *testing.T) {
	for _, most := range []int{-1, -2, -258, math.MinInt32, math.MinInt} {
		expands(t, nil, nil, most, nil, api.ErrArg)
		expands(t, []byte("ab"), plain("ab"), most, nil, api.ErrArg)
		for _, x := range wrongTokens() {
			expands(t, []byte("ab"), []api.Token{x}, most, nil, api.ErrArg)
		}
		expands(t, nil, []api.Token{back(4, 1)}, most, nil, api.ErrArg)
	}
	for _, most := range []int{0, 1, math.MaxInt32, math.MaxInt} {
		expands(t, nil, nil, most, nil, api.OK)
		expands(t, []byte("ab"), []api.Token{}, most, nil, api.OK)
		expands(t, make([]byte, 70000), nil, most, nil, api.OK)
	}
}

// P14.3: each length from each way back of few, behind bytes ahead, behind tokens, and behind both.
func TestExpandEach(t *testing.T) {
	text := "abcdefghij"
	for cut := range len(text) + 1 {
		for far := 1; far <= len(text)+2; far++ {
			for length := shortest; length <= longest; length++ {
				if length > 30 && length < longest-1 && length%50 != 0 {
					continue
				}
				l := append(plain(text[cut:]), back(length, far))
				if far > len(text) {
					expands(t, []byte(text[:cut]), l, 999, nil, api.ErrToken)
					continue
				}
				all := []byte(text)
				for i := range length {
					all = append(all, text[len(text)-far+i%far])
				}
				expands(t, []byte(text[:cut]), l, 999, all[cut:], api.OK)
				expands(t, []byte(text[:cut]), l, len(all)-cut, all[cut:], api.OK)
				expands(t, []byte(text[:cut]), l, len(all)-cut-1, nil, api.ErrLimit)
			}
		}
	}
}

// P14.3: each byte is its own token's.
func TestExpandBytes(t *testing.T) {
	var l []api.Token
	var want []byte
	for b := range 256 {
		l, want = append(l, one(byte(b))), append(want, byte(b))
	}
	expands(t, nil, l, 256, want, api.OK)
	expands(t, want, l, 256, want, api.OK)
	expands(t, want, l, 255, nil, api.ErrLimit)
}

// anyTokens are tokens of all kinds, some that may not be among them, the same ones in every run.
func anyTokens(random *rand.Rand, many int) []api.Token {
	var l []api.Token
	wrong := wrongTokens()
	for range many {
		switch n := random.Intn(40); {
		case n < 20:
			l = append(l, one(byte(random.Intn(256))))
		case n < 38:
			l = append(l, back(shortest+random.Intn(longest-shortest+1)>>random.Intn(8), 1+random.Intn(3*many)>>random.Intn(8)))
		case n < 39:
			l = append(l, back(shortest, 1+random.Intn(70000)))
		case random.Intn(2) == 0:
			l = append(l, wrong[random.Intn(len(wrong))])
		}
	}
	return l
}

// P14.3: tokens of all kinds behind bytes of all lengths, by many a most, held to the words.
func TestExpandMany(t *testing.T) {
	random := rand.New(rand.NewSource(4))
	errors := map[api.Errno]int{}
	for round := range 6000 {
		ahead := make([]byte, random.Intn(1+round%200))
		random.Read(ahead)
		l := anyTokens(random, random.Intn(40))
		most := random.Intn(1+round%2000) - 3
		want, wrong := expandedAs(ahead, l, most)
		errors[wrong]++
		expands(t, ahead, l, most, want, wrong)
	}
	for _, e := range []api.Errno{api.OK, api.ErrArg, api.ErrToken, api.ErrLimit} {
		if errors[e] < 10 {
			t.Errorf("%v was asked %d times", e, errors[e])
		}
	}
}

// P14.3: token by token: the first that is refused, or too much, is told, whatever is behind it.
func TestExpandOrder(t *testing.T) {
	for _, x := range append(wrongTokens(), back(4, 65535), back(258, 9)) {
		ahead := []byte("x")
		expands(t, ahead, []api.Token{x}, 0, nil, api.ErrToken)
		expands(t, ahead, []api.Token{x}, 9, nil, api.ErrToken)
		expands(t, ahead, []api.Token{one('a'), x}, 1, nil, api.ErrToken)
		expands(t, ahead, []api.Token{one('a'), x}, 0, nil, api.ErrLimit)
		expands(t, ahead, []api.Token{back(4, 1), x}, 4, nil, api.ErrToken)
		expands(t, ahead, []api.Token{back(4, 1), x}, 3, nil, api.ErrLimit)
		expands(t, ahead, []api.Token{one('a'), one('b'), x}, 1, nil, api.ErrLimit)
		expands(t, ahead, []api.Token{x, one('a'), one('b')}, 1, nil, api.ErrToken)
		expands(t, nil, append(plain("ab"), x, one('c')), math.MaxInt, nil, api.ErrToken)
	}
	expands(t, nil, []api.Token{one('a'), back(258, 1)}, 258, nil, api.ErrLimit)
	expands(t, nil, []api.Token{one('a'), back(258, 1)}, 259, bytes.Repeat([]byte{'a'}, 259), api.OK)
}

// P14.3: how many bytes there are, those ahead, too, is how far back a token goes at most; 65535 is the most of all.
func TestExpandFar(t *testing.T) {
	random := rand.New(rand.NewSource(5))
	great := make([]byte, 3*furthest)
	random.Read(great)
	for _, many := range []int{0, 1, 4, 255, 256, 257, 1000, furthest - 5, furthest - 2, furthest - 1, furthest, furthest + 1, furthest + 300, 2*furthest + 7, len(great)} {
		ahead := great[:many]
		for _, more := range []string{"", "a", "abcd", "abcdefghi"} {
			all := slices.Concat(ahead, []byte(more))
			for _, far := range []int{1, 2, 5, 256, many - 1, many, many + 1, many + 3, len(all) - 1, len(all), len(all) + 1, furthest - 1, furthest, furthest + 1, len(great)} {
				for _, length := range []int{4, 5, 258} {
					l := append(plain(more), back(length, far))
					if far < 1 || far > furthest || far > len(all) {
						expands(t, ahead, l, 999, nil, api.ErrToken)
						continue
					}
					want := []byte(more)
					for i := range length {
						want = append(want, all[len(all)-far+i%far])
					}
					expands(t, ahead, l, 999, want, api.OK)
				}
			}
		}
	}
}

// P14.3: tokens from far back, one behind the other, go on behind what was expanded, and not behind the bytes ahead alone.
func TestExpandFarOn(t *testing.T) {
	for _, many := range []int{0, 1, 100, furthest, furthest + 1, 100000} {
		ahead := make([]byte, many)
		rand.New(rand.NewSource(6)).Read(ahead)
		all := bytes.Clone(ahead)
		var l []api.Token
		for i := range 2000 {
			x := one(byte(i))
			if far := min(len(all), furthest); far > 0 && i%3 > 0 {
				x = back(shortest+i%255, 1+far-1-i%min(far, 7))
			}
			l = append(l, x)
			if x.Length == 0 {
				all = append(all, x.Byte)
			}
			for range x.Length {
				all = append(all, all[len(all)-x.Far])
			}
		}
		expands(t, ahead, l, len(all)-many, all[many:], api.OK)
		expands(t, ahead, l, len(all)-many-1, nil, api.ErrLimit)
	}
}

// R4, R5: Expand changes and keeps nothing, spare room too, and what it answers is memory of its own.
func TestExpandOwn(t *testing.T) {
	for _, many := range []int{0, 3, 500, furthest, furthest + 1, 70000} {
		room := make([]byte, many+1000)
		rand.New(rand.NewSource(7)).Read(room)
		was := bytes.Clone(room)
		l := append(plain("some bytes"), back(10, 10), back(258, 5), one('x'))
		listWas := slices.Clone(l)
		first, e := match.Expand(room[:many], l, 999)
		kept := bytes.Clone(first)
		if e != api.OK || len(first) != 279 || !bytes.Equal(room, was) || !slices.Equal(l, listWas) {
			t.Fatalf("%d ahead: %v, %d bytes; or changed", many, e, len(first))
		}
		second, _ := match.Expand(room[:many:many], l, 279)
		for i := range first[:cap(first)] {
			first[:cap(first)][i]++
		}
		if !bytes.Equal(room, was) || !bytes.Equal(second, kept) {
			t.Fatalf("%d ahead: what was answered is shared", many)
		}
		clear(room)
		clear(l)
		if !bytes.Equal(second, kept) {
			t.Fatalf("%d ahead: what was handed in is kept", many)
		}
		for _, b := range [][]byte{room[:many], nil} {
			for _, x := range [][]api.Token{nil, {}, {back(4, 70000)}, plain("too many"), {one('a'), back(3, 3)}} {
				match.Expand(b, x, 5)
			}
		}
		if slices.ContainsFunc(room, func(b byte) bool { return b != 0 }) {
			t.Fatalf("%d ahead: changed", many)
		}
	}
}

// P14.4: what is found expands part by part, too, each behind what was expanded so far.
func TestFoundInParts(t *testing.T) {
	for seed, s := range shapes() {
		random := rand.New(rand.NewSource(int64(seed)))
		b := s.make(random, 150000)
		var all []byte
		for l := match.Find(b); len(l) > 0; {
			cut := min(len(l), 1+random.Intn(len(b)/8))
			part, e := match.Expand(all, l[:cut], len(b)-len(all))
			if e != api.OK {
				t.Fatalf("%s: %v", s.name, e)
			}
			all, l = append(all, part...), l[cut:]
		}
		if !bytes.Equal(all, b) {
			t.Fatalf("%s: other bytes", s.name)
		}
	}
}

func BenchmarkFind(b *testing.B) {
	for seed, s := range shapes() {
		text := s.make(rand.New(rand.NewSource(int64(seed))), 1<<18)
		b.Run(s.name, func(b *testing.B) {
			b.SetBytes(int64(len(text)))
			for b.Loop() {
				match.Find(text)
			}
		})
	}
}

func BenchmarkExpand(b *testing.B) {
	text := shapes()[11].make(rand.New(rand.NewSource(1)), 1<<18)
	l := match.Find(text)
	b.SetBytes(int64(len(text)))
	for b.Loop() {
		match.Expand(nil, l, len(text))
	}
}
