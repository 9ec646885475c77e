package mac_test

import (
	"bytes"
	"crypto/hmac"
	"crypto/sha512"
	"encoding/hex"
	"math/rand"
	"slices"
	"testing"

	"fardel/mac"
	"fardel/sha"
)

// text is so many bytes, the same ones in every run.
func text(seed int64, long int) []byte {
	b := make([]byte, long)
	rand.New(rand.NewSource(seed)).Read(b)
	return b
}

// known is a text's code as the library tells it.
func known(key, text []byte) [64]byte {
	h := hmac.New(sha512.New, key)
	h.Write(text)
	return [64]byte(h.Sum(nil))
}

// P4.1: the codes that RFC 4231 tells, its fifth cut to its first 16 bytes.
func TestKnown(t *testing.T) {
	counted := make([]byte, 25)
	for i := range counted {
		counted[i] = byte(i + 1)
	}
	for i, c := range []struct {
		key, text []byte
		code      string
	}{
		{bytes.Repeat([]byte{0x0b}, 20), []byte("Hi There"), "87aa7cdea5ef619d4ff0b4241a1d6cb02379f4e2ce4ec2787ad0b30545e17cdedaa833b7d6b8a702038b274eaea3f4e4be9d914eeb61f1702e696c203a126854"},
		{[]byte("Jefe"), []byte("what do ya want for nothing?"), "164b7a7bfcf819e2e395fbe73b56e0a387bd64222e831fd610270cd7ea2505549758bf75c05a994a6d034f65f8f0e6fdcaeab1a34d4a6b4b636e070a38bce737"},
		{bytes.Repeat([]byte{0xaa}, 20), bytes.Repeat([]byte{0xdd}, 50), "fa73b0089d56a284efb0f0756c890be9b1b5dbdd8ee81a3655f83e33b2279d39bf3e848279a722c806b485a47e67c807b946a337bee8942674278859e13292fb"},
		{counted, bytes.Repeat([]byte{0xcd}, 50), "b0ba465637458c6990e5a8c5f61d4af7e576d97ff94b872de76f8050361ee3dba91ca5c11aa25eb4d679275cc5788063a5f19741120c4f2de2adebeb10a298dd"},
		{bytes.Repeat([]byte{0x0c}, 20), []byte("Test With Truncation"), "415fad6271580a531d4179bc891d87a6"},
		{bytes.Repeat([]byte{0xaa}, 131), []byte("Test Using Larger Than Block-Size Key - Hash Key First"), "80b24263c7c1a3ebb71493c1dd7be8b49b46d1f41b4aeec1121b013783f8f3526b56d037e05f2598bd0fd2215d6a1e5295e64f73f63f0aec8b915a985d786598"},
		{bytes.Repeat([]byte{0xaa}, 131), []byte("This is a test using a larger than block-size key and a larger than block-size data. The key needs to be hashed before being used by the HMAC algorithm."), "e37b6a775dc87dbaa4dfa9f96e5e3ffddebd71f8867289865df5a32d20cdc944b6022cac3c4982b10d5eeb55c3e4de15134676fb6de0446065c97440fa8c6a58"},
	} {
		got := mac.Sum(c.key, c.text)
		if hex.EncodeToString(got[:len(c.code)/2]) != c.code {
			t.Errorf("%d: %x", i+1, got)
		}
	}
}

// P4.1, P4.2: the chapter's examples.
func TestExamples(t *testing.T) {
	got := mac.Sum([]byte("Jefe"), []byte("what do ya want "), []byte("for nothing?"))
	if !bytes.Equal(got[:4], []byte{0x16, 0x4b, 0x7a, 0x7b}) {
		t.Errorf("%x", got)
	}
	if !mac.Same([]byte("ab"), []byte("ab")) || mac.Same([]byte("ab"), []byte("abc")) {
		t.Error("same")
	}
}

// P4.1: keys of every length about a block and a digest, and some far longer, with texts of none and many bytes.
func TestKeys(t *testing.T) {
	all := text(1, 5000)
	texts := [][]byte{nil, {0}, text(2, 64), text(3, 127), text(4, 128), text(5, 129), text(6, 1000)}
	longs := []int{511, 512, 1000, 5000}
	for long := range 300 {
		longs = append(longs, long)
	}
	for _, long := range longs {
		for _, key := range [][]byte{all[:long], make([]byte, long), bytes.Repeat([]byte{255}, long), bytes.Repeat([]byte{0x36}, long), bytes.Repeat([]byte{0x5c}, long)} {
			for _, b := range texts {
				if got, want := mac.Sum(key, b), known(key, b); got != want {
					t.Fatalf("a key of %d bytes, %d: %x, not %x", long, len(b), got, want)
				}
			}
		}
	}
}

// P4.1: texts of every length through some blocks.
func TestTexts(t *testing.T) {
	key, all := text(7, 32), text(8, 600)
	for long := range len(all) + 1 {
		if got, want := mac.Sum(key, all[:long]), known(key, all[:long]); got != want {
			t.Fatalf("%d bytes: %x, not %x", long, got, want)
		}
	}
}

// P4.1: without a part, or with parts of no byte, or nil, the code is that of no byte; without a key it is that of a key of no byte.
func TestNothing(t *testing.T) {
	want := known([]byte("k"), nil)
	for i, got := range [][64]byte{mac.Sum([]byte("k")), mac.Sum([]byte("k"), nil), mac.Sum([]byte("k"), []byte{}, nil, []byte{}), mac.Sum([]byte("k"), [][]byte{}...)} {
		if got != want {
			t.Errorf("no text, %d: %x", i, got)
		}
	}
	want = known(nil, []byte("t"))
	for i, key := range [][]byte{nil, {}, {0}, make([]byte, 128)} {
		if got := mac.Sum(key, []byte("t")); got != want {
			t.Errorf("no key, %d: %x", i, got)
		}
	}
	if mac.Sum(nil) != known(nil, nil) {
		t.Error("nothing at all")
	}
}

// P4.3: a text cut at any two places, and told byte by byte.
func TestParts(t *testing.T) {
	key, all := text(9, 40), text(10, 270)
	want := mac.Sum(key, all)
	for i := range len(all) + 1 {
		for j := i; j <= len(all); j++ {
			if got := mac.Sum(key, all[:i], all[i:j], nil, all[j:]); got != want {
				t.Fatalf("cut at %d and %d: %x", i, j, got)
			}
		}
	}
	var parts [][]byte
	for i := range all {
		parts = append(parts, all[i:i+1])
	}
	if mac.Sum(key, parts...) != want {
		t.Error("byte by byte")
	}
	slices.Reverse(parts)
	if mac.Sum(key, parts...) == want {
		t.Error("from behind")
	}
}

// P4.3: a key and one with bytes 0 behind it, up to a block and no further.
func TestZerosBehind(t *testing.T) {
	b := []byte("text")
	for long := range 129 {
		key := text(11, long)
		want := mac.Sum(key, b)
		for more := long; more <= 128; more++ {
			if got := mac.Sum(append(slices.Clone(key), make([]byte, more-long)...), b); got != want {
				t.Fatalf("%d bytes, and up to %d: %x", long, more, got)
			}
		}
		if mac.Sum(append(slices.Clone(key), make([]byte, 129-long)...), b) == want {
			t.Errorf("%d bytes, and up to 129: the same", long)
		}
	}
}

// P4.1: a key of more than 128 bytes stands for its digest, one of 128 for itself.
func TestLongKeys(t *testing.T) {
	b := []byte("text")
	for _, long := range []int{127, 128, 129, 200, 256} {
		key := text(12, long)
		digest := sha.Sum(key)
		if same := mac.Sum(key, b) == mac.Sum(digest[:], b); same != (long > 128) {
			t.Errorf("%d bytes: %v", long, same)
		}
	}
}

// P4.1: another key, or another text, at any one bit, has another code.
func TestOneBit(t *testing.T) {
	key, b := text(13, 64), text(14, 64)
	want := mac.Sum(key, b)
	for i := range 64 * 8 {
		turned := slices.Clone(key)
		turned[i/8] ^= 1 << (i % 8)
		if mac.Sum(turned, b) == want {
			t.Errorf("the key's bit %d", i)
		}
		turned = slices.Clone(b)
		turned[i/8] ^= 1 << (i % 8)
		if mac.Sum(key, turned) == want {
			t.Errorf("the text's bit %d", i)
		}
	}
}

// P4.2: lists of no byte and of many, the same but for one bit anywhere, and but for one byte more or fewer.
func TestSame(t *testing.T) {
	for _, long := range []int{0, 1, 2, 16, 32, 63, 64, 65, 200} {
		a := text(15, long)
		if !mac.Same(a, a) || !mac.Same(a, slices.Clone(a)) {
			t.Errorf("%d bytes: not the same", long)
		}
		for i := range long * 8 {
			b := slices.Clone(a)
			b[i/8] ^= 1 << (i % 8)
			if mac.Same(a, b) || mac.Same(b, a) {
				t.Errorf("%d bytes, the bit %d: the same", long, i)
			}
		}
		for _, b := range [][]byte{append(slices.Clone(a), 0), append([]byte{0}, a...), append(slices.Clone(a), a...), append(slices.Clone(a), make([]byte, 256)...)} {
			if len(b) != len(a) && (mac.Same(a, b) || mac.Same(b, a)) {
				t.Errorf("%d bytes and %d: the same", len(a), len(b))
			}
		}
	}
}

// P4.2: two bytes whose differences would make up for one another, and a list that is nil.
func TestSameEdges(t *testing.T) {
	for i, c := range []struct {
		a, b []byte
		same bool
	}{
		{nil, nil, true}, {nil, []byte{}, true}, {[]byte{}, nil, true},
		{nil, []byte{0}, false}, {[]byte{0}, nil, false},
		{[]byte{1, 1}, []byte{0, 0}, false}, {[]byte{1, 2}, []byte{2, 1}, false},
		{[]byte{255, 1}, []byte{0, 0}, false}, {[]byte{128, 128}, []byte{0, 0}, false},
		{[]byte{0, 0, 0}, []byte{0, 0, 0}, true}, {[]byte{255}, []byte{0}, false},
	} {
		if mac.Same(c.a, c.b) != c.same {
			t.Errorf("%d: not %v", i, c.same)
		}
	}
}

// R4: key, parts and codes stay as they were, spare room too.
func TestArgumentsStay(t *testing.T) {
	for _, long := range []int{0, 3, 64, 128, 129, 300} {
		room := text(16, long+200)
		first, second := text(17, 350), text(18, 350)
		list := [][]byte{first[:150], second[:150], []byte("spare"), []byte("spare")}
		was := [][]byte{slices.Clone(room), slices.Clone(first), slices.Clone(second)}
		mac.Sum(room[:long], list[:2]...)
		mac.Same(room[:long], first[:long])
		if !bytes.Equal(room, was[0]) || !bytes.Equal(first, was[1]) || !bytes.Equal(second, was[2]) {
			t.Errorf("a key of %d bytes: changed", long)
		}
		if &list[0][0] != &first[0] || &list[1][0] != &second[0] || len(list[0]) != 150 || len(list[1]) != 150 || string(list[2]) != "spare" || string(list[3]) != "spare" {
			t.Errorf("a key of %d bytes: the list of parts is changed", long)
		}
	}
}

// R4, R5: nothing of one call is kept for the next one: what is changed behind a call changes no answer, and the same is answered again.
func TestNothingKept(t *testing.T) {
	key, b := text(19, 100), text(20, 100)
	code := mac.Sum(key, b)
	again := code
	clear(key)
	clear(b)
	if code != again || mac.Sum(key, b) != known(make([]byte, 100), make([]byte, 100)) || mac.Sum(text(19, 100), text(20, 100)) != code {
		t.Error("kept")
	}
}
