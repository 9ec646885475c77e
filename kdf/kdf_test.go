package kdf_test

import (
	"bytes"
	"crypto/hkdf"
	"crypto/sha512"
	"encoding/hex"
	"math"
	"math/rand"
	"slices"
	"testing"

	"fardel/api"
	"fardel/kdf"
	"fardel/mac"
)

const longest = 16320

// text is so many bytes, the same ones in every run.
func text(seed int64, long int) []byte {
	b := make([]byte, long)
	rand.New(rand.NewSource(seed)).Read(b)
	return b
}

// counted are so many bytes, each one more than the one ahead of it.
func counted(from byte, long int) []byte {
	b := make([]byte, long)
	for i := range b {
		b[i] = from + byte(i)
	}
	return b
}

// expand is what Expand answers where it must be OK, and just as many bytes.
func expand(t *testing.T, key, use []byte, n int) []byte {
	t.Helper()
	b, e := kdf.Expand(key, use, n)
	if e != api.OK || len(b) != n {
		t.Fatalf("%d bytes: %d, %v", n, len(b), e)
	}
	return b
}

// known are bytes of a key as the library tells them.
func known(t *testing.T, key, use []byte, n int) []byte {
	t.Helper()
	b, err := hkdf.Expand(sha512.New, key, string(use), n)
	if err != nil {
		t.Fatal(err)
	}
	return b
}

// blocks are the first blocks as P5.2 words them.
func blocks(key, use []byte, many int) []byte {
	var all []byte
	one := mac.Sum(key, use, []byte{1})
	for i := range many {
		all = append(all, one[:]...)
		one = mac.Sum(key, one[:], use, []byte{byte(i + 2)})
	}
	return all
}

// P5.1, P5.2: the inputs of RFC 5869's first four cases; as it tells no answers for SHA-512, these are another program's.
func TestKnown(t *testing.T) {
	for i, c := range []struct {
		secret, salt, use []byte
		key, all          string
	}{
		{bytes.Repeat([]byte{0x0b}, 22), counted(0, 13), counted(0xf0, 10),
			"665799823737ded04a88e47e54a5890bb2c3d247c7a4254a8e61350723590a26c36238127d8661b88cf80ef802d57e2f7cebcf1e00e083848be19929c61b4237",
			"832390086cda71fb47625bb5ceb168e4c8e26a1a16ed34d9fc7fe92c1481579338da362cb8d9f925d7cb"},
		{counted(0, 80), counted(0x60, 80), counted(0xb0, 80),
			"35672542907d4e142c00e84499e74e1de08be86535f924e022804ad775dde27ec86cd1e5b7d178c74489bdbeb30712beb82d4f97416c5a94ea81ebdf3e629e4a",
			"ce6c97192805b346e6161e821ed165673b84f400a2b514b2fe23d84cd189ddf1b695b48cbd1c8388441137b3ce28f16aa64ba33ba466b24df6cfcb021ecff235f6a2056ce3af1de44d572097a8505d9e7a93"},
		{bytes.Repeat([]byte{0x0b}, 22), nil, nil,
			"fd200c4987ac491313bd4a2a13287121247239e11c9ef82802044b66ef357e5b194498d0682611382348572a7b1611de54764094286320578a863f36562b0df6",
			"f5fa02b18298a72a8c23898a8703472c6eb179dc204c03425c970e3b164bf90fff22d04836d0e2343bac"},
		{bytes.Repeat([]byte{0x0b}, 11), counted(0, 13), counted(0xf0, 10),
			"67409c9cac28b52ee9fad91c2fda999f7ca22e3434f0ae772863836568ad6a7f10cf113bfddd560129a594a8f52385c2d661d785d29ce93a11400c920683181d",
			"7413e8997e020610fbf6823f2ce14bff01875db1ca55f68cfcf3954dc8aff53559bd5e3028b080f7c068"},
	} {
		key := kdf.Extract(c.salt, c.secret)
		if hex.EncodeToString(key[:]) != c.key {
			t.Errorf("%d: the key %x", i+1, key)
		}
		if got := expand(t, key[:], c.use, len(c.all)/2); hex.EncodeToString(got) != c.all {
			t.Errorf("%d: %x", i+1, got)
		}
	}
}

// P5.2, P5.3: the chapter's examples.
func TestExamples(t *testing.T) {
	if b, e := kdf.Expand([]byte("any"), []byte("any"), 16321); len(b) != 0 || e != api.ErrLong {
		t.Errorf("16321: %d, %v", len(b), e)
	}
	if b, e := kdf.Expand([]byte("any"), []byte("any"), 0); len(b) != 0 || e != api.OK {
		t.Errorf("0: %d, %v", len(b), e)
	}
	if !bytes.HasPrefix(expand(t, []byte("key"), []byte("use"), 100), expand(t, []byte("key"), []byte("use"), 10)) {
		t.Error("10 and 100")
	}
}

// P5.1: salts and secrets of lengths about a code and a block: the code of the secret by the salt, not the other way round.
func TestExtract(t *testing.T) {
	longs := []int{0, 1, 16, 32, 63, 64, 65, 127, 128, 129, 300}
	for _, i := range longs {
		for _, j := range longs {
			salt, secret := text(1, i), text(2, j)
			want, err := hkdf.Extract(sha512.New, secret, salt)
			if err != nil {
				t.Fatal(err)
			}
			got := kdf.Extract(salt, secret)
			if !bytes.Equal(got[:], want) || got != mac.Sum(salt, secret) {
				t.Errorf("a salt of %d bytes, a secret of %d: %x, not %x", i, j, got, want)
			}
		}
	}
	if kdf.Extract([]byte("a"), []byte("b")) == kdf.Extract([]byte("b"), []byte("a")) {
		t.Error("salt and secret change places")
	}
}

// P5.1: no salt is one of 64 bytes 0; no secret is one of no byte.
func TestExtractNothing(t *testing.T) {
	for _, secret := range [][]byte{nil, {}, []byte("s"), text(3, 200)} {
		want := mac.Sum(make([]byte, 64), secret)
		for i, salt := range [][]byte{nil, {}, make([]byte, 64)} {
			if got := kdf.Extract(salt, secret); got != want {
				t.Errorf("a secret of %d bytes, %d: %x, not %x", len(secret), i, got, want)
			}
		}
	}
	if kdf.Extract(make([]byte, 64), nil) == kdf.Extract([]byte{1}, nil) {
		t.Error("any salt is none")
	}
}

// P5.2: every length through some blocks, and about the ends of all blocks.
func TestLengths(t *testing.T) {
	key, use := text(4, 64), text(5, 20)
	all := blocks(key, use, 255)
	longs := []int{}
	for long := range 400 {
		longs = append(longs, long)
	}
	for end := 448; end <= longest; end += 64 {
		longs = append(longs, end-1, end, end+1)
	}
	for _, long := range longs {
		if long > longest {
			continue
		}
		got := expand(t, key, use, long)
		if !bytes.Equal(got, all[:long]) || !bytes.Equal(got, known(t, key, use, long)) {
			t.Fatalf("%d bytes: not the first ones", long)
		}
	}
}

// P5.2: the most bytes that may be asked, down to the block that the byte 255 counts, as another program tells their digest.
func TestMost(t *testing.T) {
	key := kdf.Extract([]byte("salt"), []byte("secret"))
	digest := sha512.Sum512(expand(t, key[:], []byte("use"), longest))
	if hex.EncodeToString(digest[:]) != "4f384916fb0eec66fdfa0037902ed81ec303887b9c50add33e9dd29aa069793ce5797c6e952bc72d301753e35c5d1b50125ecf8e4e2e7ee9485b7eb9ce4ea69a" {
		t.Errorf("%x", digest)
	}
}

// P5.2: keys and uses of no byte, and of lengths about a code and a block.
func TestKeysAndUses(t *testing.T) {
	longs := []int{0, 1, 31, 32, 63, 64, 65, 127, 128, 129, 500}
	for _, i := range longs {
		for _, j := range longs {
			key, use := text(6, i), text(7, j)
			if got := expand(t, key, use, 200); !bytes.Equal(got, known(t, key, use, 200)) {
				t.Errorf("a key of %d bytes, a use of %d: %x", i, j, got)
			}
		}
	}
	want := blocks(nil, nil, 3)
	for i, none := range [][]byte{nil, {}} {
		if !bytes.Equal(expand(t, none, none, 192), want) {
			t.Errorf("no key and no use, %d", i)
		}
	}
}

// P5.2: another key, or another use, at any one bit, or by one byte, has other bytes, in each block.
func TestOneBit(t *testing.T) {
	key, use := text(8, 64), text(9, 16)
	was := expand(t, key, use, 192)
	other := func(what string, key, use []byte) {
		got := expand(t, key, use, 192)
		for i := 0; i < 192; i += 64 {
			if bytes.Equal(got[i:i+64], was[i:i+64]) {
				t.Errorf("%s: the same block at %d", what, i)
			}
		}
	}
	for i := range len(key) * 8 {
		turned := slices.Clone(key)
		turned[i/8] ^= 1 << (i % 8)
		other("the key", turned, use)
	}
	for i := range len(use) * 8 {
		turned := slices.Clone(use)
		turned[i/8] ^= 1 << (i % 8)
		other("the use", key, turned)
	}
	other("one byte fewer", key, use[:15])
	other("one byte more", key, append(slices.Clone(use), 0))
	other("one byte of the use in the key", append(slices.Clone(key), use[0]), use[1:])
}

// P5.2: ErrArg below 0, ErrLong above the most, no bytes beside either; just so many are allowed.
func TestErrors(t *testing.T) {
	for _, c := range []struct {
		n    int
		want api.Errno
	}{
		{-1, api.ErrArg}, {-2, api.ErrArg}, {-64, api.ErrArg}, {-16320, api.ErrArg}, {-16321, api.ErrArg},
		{math.MinInt32, api.ErrArg}, {math.MinInt, api.ErrArg}, {math.MinInt + 1, api.ErrArg},
		{0, api.OK}, {1, api.OK}, {16319, api.OK}, {16320, api.OK},
		{16321, api.ErrLong}, {16383, api.ErrLong}, {16384, api.ErrLong}, {16385, api.ErrLong},
		{1 << 20, api.ErrLong}, {math.MaxInt32, api.ErrLong}, {math.MaxInt, api.ErrLong},
	} {
		for i, key := range [][]byte{nil, []byte("key"), text(10, 200)} {
			b, e := kdf.Expand(key, key, c.n)
			if e != c.want {
				t.Errorf("%d, %d: %v, not %v", c.n, i, e, c.want)
			}
			if e != api.OK && len(b) != 0 || e == api.OK && len(b) != c.n {
				t.Errorf("%d, %d: %d bytes beside %v", c.n, i, len(b), e)
			}
		}
	}
}

// P5.3: fewer bytes are the beginning of more, however many fewer.
func TestBeginning(t *testing.T) {
	for seed := range int64(4) {
		key, use := text(20+seed, int(seed)*40), text(30+seed, int(seed)*50)
		all := expand(t, key, use, longest)
		for long := 0; long <= longest; long += 1 + long/9 {
			if got := expand(t, key, use, long); !bytes.Equal(got, all[:long]) {
				t.Fatalf("%d: %d bytes are no beginning", seed, long)
			}
		}
		for long := range 200 {
			if !bytes.HasPrefix(expand(t, key, use, long+1), expand(t, key, use, long)) {
				t.Fatalf("%d: %d bytes, and one more", seed, long)
			}
		}
	}
}

// R4: what is handed in stays as it was, spare room too, even where one list is a piece of the other's room.
func TestArgumentsStay(t *testing.T) {
	for _, long := range []int{0, 1, 64, 128, 129} {
		room, more := text(40, 600), text(41, 600)
		was, wasMore := slices.Clone(room), slices.Clone(more)
		kdf.Extract(room[:long], more[:long])
		for _, n := range []int{-1, 0, 1, 64, 200, 16321} {
			kdf.Expand(room[:long], more[:long], n)
		}
		if !bytes.Equal(room, was) || !bytes.Equal(more, wasMore) {
			t.Errorf("%d bytes: changed", long)
		}
		got := expand(t, room[:long], room[long/2:long], 200)
		if !bytes.Equal(room, was) || !bytes.Equal(got, known(t, was[:long], was[long/2:long], 200)) {
			t.Errorf("%d bytes, and a piece of them: changed, or other bytes", long)
		}
	}
}

// R4: what is answered is new memory, spare room too: writing through it changes neither arguments nor other answers.
func TestNewMemory(t *testing.T) {
	key, use := text(42, 300), text(43, 300)
	wasKey, wasUse := slices.Clone(key), slices.Clone(use)
	for _, n := range []int{1, 63, 64, 65, 128, 300, longest} {
		first, second := expand(t, key[:64], use[:64], n), expand(t, key[:64], use[:64], n)
		want := slices.Clone(second)
		clear(first[:cap(first)])
		if !bytes.Equal(second, want) || !bytes.Equal(expand(t, key[:64], use[:64], n), want) {
			t.Errorf("%d bytes: shared with another answer", n)
		}
		if !bytes.Equal(key, wasKey) || !bytes.Equal(use, wasUse) {
			t.Errorf("%d bytes: shared with an argument", n)
		}
	}
}

// R3, R4, R5: nothing of one call is kept for the next one, an error's neither, and a capacity tells nothing.
func TestNothingKept(t *testing.T) {
	key, use := text(44, 64), text(45, 64)
	was := expand(t, key, use, 200)
	again := slices.Clone(was)
	clear(key)
	clear(use)
	if !bytes.Equal(was, again) {
		t.Error("the answer changes with the arguments")
	}
	if !bytes.Equal(expand(t, key, use, 200), blocks(make([]byte, 64), make([]byte, 64), 4)[:200]) {
		t.Error("the arguments are kept")
	}
	kdf.Expand(key, use, -1)
	kdf.Expand(key, use, longest+1)
	if !bytes.Equal(expand(t, text(44, 64), text(45, 64), 200), again) {
		t.Error("not the same again")
	}
	wideKey, wideUse := append(text(44, 64), text(46, 900)...)[:64], append(text(45, 64), text(47, 900)...)[:64]
	if !bytes.Equal(expand(t, wideKey, wideUse, 200), again) {
		t.Error("spare room changes the answer")
	}
}
