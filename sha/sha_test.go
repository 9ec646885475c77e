package sha_test

import (
	"bytes"
	"crypto/sha512"
	"encoding/hex"
	"math/rand"
	"slices"
	"strings"
	"testing"

	"fardel/sha"
)

// text is so many bytes, no two blocks of which are the same; the same ones in every run.
func text(seed int64, long int) []byte {
	b := make([]byte, long)
	rand.New(rand.NewSource(seed)).Read(b)
	return b
}

// cuts are places in a text about which a block or its end may go wrong: a byte 128 and the length fit just up to 111 modulo 128.
func cuts(long int) []int {
	var list []int
	for block := 0; block <= long; block += 128 {
		for _, d := range []int{0, 1, 2, 7, 8, 9, 110, 111, 112, 113, 119, 120, 126, 127} {
			if block+d <= long {
				list = append(list, block+d)
			}
		}
	}
	return list
}

// P3.1: digests that FIPS 180-4 and its examples tell.
func TestKnown(t *testing.T) {
	for _, c := range []struct{ text, digest string }{
		{"", "cf83e1357eefb8bdf1542850d66d8007d620e4050b5715dc83f4a921d36ce9ce47d0d13c5d85f2b0ff8318d2877eec2f63b931bd47417a81a538327af927da3e"},
		{"abc", "ddaf35a193617abacc417349ae20413112e6fa4e89a97ea20a9eeee64b55d39a2192992a274fc1a836ba3c23a3feebbd454d4423643ce80e2a9ac94fa54ca49f"},
		{"abcdefghbcdefghicdefghijdefghijkefghijklfghijklmghijklmnhijklmnoijklmnopjklmnopqklmnopqrlmnopqrsmnopqrstnopqrstu", "8e959b75dae313da8cf4f72814fc143f8f7779c6eb9f7fa17299aeadb6889018501d289e4900f7e4331b99dec4b5433ac7d329eeb6dd26545e96e55b874be909"},
		{strings.Repeat("a", 1000000), "e718483d0ce769644e2e42c7bc15b4638e1f98b13b2044285632a803afa973ebde0ff244877ea60a4cb0432ce577c31beb009c5c2c49aa2e4eadb217ad8cc09b"},
	} {
		got := sha.Sum([]byte(c.text))
		if hex.EncodeToString(got[:]) != c.digest {
			t.Errorf("%.20q, %d bytes: %x", c.text, len(c.text), got)
		}
	}
}

// P3.1: the digest of texts of every length through some blocks, and of bytes at their ends.
func TestLengths(t *testing.T) {
	all := text(1, 700)
	for long := range len(all) + 1 {
		for _, b := range [][]byte{all[:long], make([]byte, long), bytes.Repeat([]byte{255}, long), bytes.Repeat([]byte{128}, long)} {
			if got, want := sha.Sum(b), sha512.Sum512(b); got != want {
				t.Fatalf("%d bytes: %x, not %x", long, got, want)
			}
		}
	}
}

// P3.1: every bit of a block has its place.
func TestBits(t *testing.T) {
	for bit := range 8 * 256 {
		b := make([]byte, 256)
		b[bit/8] = 1 << (bit % 8)
		if got, want := sha.Sum(b), sha512.Sum512(b); got != want {
			t.Fatalf("bit %d: %x, not %x", bit, got, want)
		}
	}
}

// P3.1: texts of many blocks.
func TestLong(t *testing.T) {
	source := rand.New(rand.NewSource(2))
	for i := range int64(200) {
		b := text(i, source.Intn(20000))
		if got, want := sha.Sum(b), sha512.Sum512(b); got != want {
			t.Fatalf("%d bytes: %x, not %x", len(b), got, want)
		}
	}
}

// P3.1: the length is told in bits, of which there are more than 32 bits hold.
func TestLongLength(t *testing.T) {
	part := text(3, 1<<20)
	s, other := sha.New(), sha512.New()
	for range 1 << 9 {
		s = s.Write(part)
		other.Write(part)
	}
	for _, more := range []int{0, 1, 112} {
		other.Write(part[:more])
		s = s.Write(part[:more])
		if got, want := s.Sum(), [64]byte(other.Sum(nil)); got != want {
			t.Fatalf("2^29 bytes, and up to %d: %x, not %x", more, got, want)
		}
	}
}

// P3.2: Sum is of all parts in their order, empty ones and none among them.
func TestParts(t *testing.T) {
	none := sha512.Sum512(nil)
	for _, parts := range [][][]byte{nil, {}, {nil}, {{}}, {nil, {}, nil}} {
		if got := sha.Sum(parts...); got != none {
			t.Errorf("%d empty parts: %x", len(parts), got)
		}
	}
	a, b, c := text(4, 100), text(5, 200), text(6, 3)
	want := sha512.Sum512(slices.Concat(a, b, c))
	if got := sha.Sum(nil, a, nil, b, []byte{}, c, nil); got != want {
		t.Errorf("%x, not %x", got, want)
	}
	if sha.Sum(b, a, c) == want {
		t.Error("parts in another order have the same digest")
	}
}

// P3.2: New, and a State that Go makes, are of no byte, and go on alike.
func TestNew(t *testing.T) {
	var made sha.State
	b := text(7, 300)
	for _, long := range cuts(len(b)) {
		want := sha512.Sum512(b[:long])
		if got := sha.New().Write(b[:long]).Sum(); got != want {
			t.Errorf("New, %d bytes: %x, not %x", long, got, want)
		}
		if got := made.Write(b[:long]).Sum(); got != want {
			t.Errorf("State{}, %d bytes: %x, not %x", long, got, want)
		}
	}
	if sha.New().Sum() != sha512.Sum512(nil) || made.Sum() != sha512.Sum512(nil) {
		t.Error("no byte")
	}
}

// P3.2: a state stays as it was, whatever is made of it.
func TestStays(t *testing.T) {
	b, left, right := text(8, 300), text(9, 300), text(10, 300)
	for _, long := range cuts(len(b)) {
		s := sha.New().Write(b[:long])
		before := s.Sum()
		for _, more := range cuts(len(left)) {
			one, two := s.Write(left[:more]), s.Write(right[:more])
			if one.Sum() != sha512.Sum512(slices.Concat(b[:long], left[:more])) {
				t.Fatalf("%d and %d bytes: the first way is wrong behind the second one", long, more)
			}
			if two.Sum() != sha512.Sum512(slices.Concat(b[:long], right[:more])) {
				t.Fatalf("%d and %d bytes: the second way is wrong", long, more)
			}
		}
		if before != sha512.Sum512(b[:long]) || s.Sum() != before {
			t.Fatalf("%d bytes: the state has changed", long)
		}
	}
}

// P3.2: a digest on the way ends nothing: more may be written behind it.
func TestSumOnTheWay(t *testing.T) {
	b := text(11, 600)
	s := sha.New()
	for i := range b {
		if got := s.Sum(); got != sha512.Sum512(b[:i]) {
			t.Fatalf("%d bytes: %x", i, got)
		}
		s = s.Write(b[i : i+1])
	}
	if got := s.Sum(); got != sha512.Sum512(b) {
		t.Fatalf("all bytes: %x", got)
	}
}

// R4: what is handed in is neither changed, nor its spare room, nor kept.
func TestArguments(t *testing.T) {
	whole := text(12, 700)
	for _, long := range cuts(300) {
		room := slices.Clone(whole)
		parts := [][]byte{room[:long], room[long : long+50]}
		want := sha512.Sum512(whole[:long+50])
		if got := sha.Sum(parts...); got != want {
			t.Fatalf("%d bytes: %x, not %x", long, got, want)
		}
		s := sha.New().Write(parts[0]).Write(parts[1])
		if !bytes.Equal(room, whole) || len(parts[0]) != long || len(parts[1]) != 50 {
			t.Fatalf("%d bytes: an argument has changed", long)
		}
		clear(room)
		if got := s.Sum(); got != want {
			t.Fatalf("%d bytes: an argument was kept", long)
		}
	}
}

// P3.3: a text in two parts, cut anywhere.
func TestTwoParts(t *testing.T) {
	b := text(13, 520)
	for _, long := range []int{1, 111, 112, 127, 128, 129, 239, 240, 255, 256, 257, 520} {
		want := sha.Sum(b[:long])
		for i := range long + 1 {
			if sha.Sum(b[:i], b[i:long]) != want || sha.New().Write(b[:i]).Write(b[i:long]).Sum() != want {
				t.Fatalf("%d bytes, cut at %d", long, i)
			}
		}
	}
}

// P3.3: a text in many parts: of one length each, and of any.
func TestManyParts(t *testing.T) {
	b := text(14, 2000)
	want := sha.Sum(b)
	source := rand.New(rand.NewSource(15))
	check := func(what string, next func() int) {
		t.Helper()
		s, parts := sha.New(), [][]byte{}
		for rest := b; len(rest) > 0; {
			n := min(next(), len(rest))
			s, parts = s.Write(rest[:n]), append(parts, rest[:n])
			rest = rest[n:]
		}
		if s.Sum() != want || sha.Sum(parts...) != want {
			t.Fatalf("%s: %d parts", what, len(parts))
		}
	}
	for n := 1; n <= 400; n++ {
		check("of one length", func() int { return n })
	}
	for _, most := range []int{2, 20, 130, 260, 1000} {
		for range 50 {
			check("of any length", func() int { return source.Intn(most) })
		}
	}
}

// P3.1, P3.2: the chapter's examples.
func TestExamples(t *testing.T) {
	got := sha.Sum([]byte("abc"))
	if !bytes.HasPrefix(got[:], []byte{0xDD, 0xAF, 0x35, 0xA1}) {
		t.Errorf("Sum(abc): %x", got)
	}
	if sha.New().Write([]byte("a")).Write([]byte("bc")).Sum() != got {
		t.Error("in two parts")
	}
}
