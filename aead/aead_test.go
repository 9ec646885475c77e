package aead_test

import (
	"bytes"
	"encoding/binary"
	"encoding/hex"
	"math/rand"
	"slices"
	"testing"

	"fardel/aead"
	"fardel/api"
	"fardel/chacha"
	"fardel/poly"
)

const (
	size    = 16
	ladies  = "Ladies and Gentlemen of the class of '99: If I could offer you only one tip for the future, sunscreen would be it."
	drafts  = "Internet-Drafts are draft documents valid for a maximum of six months and may be updated, replaced, or obsoleted by other documents at any time. It is inappropriate to use Internet-Drafts as reference material or to cite them other than as /\xe2\x80\x9cwork in progress./\xe2\x80\x9d"
	offered = "d31a8d34648e60db7b86afbc53ef7ec2a4aded51296e08fea9e2b5a736ee62d63dbea45e8ca9671282fafb69da92728b1a71de0a9e060b2905d6a5b67ecd3b3692ddbd7f2d778b8c9803aee328091b58fab324e4fad675945585808b4831d7bc3ff4def08e4b7a9de576d26586cec64b61161ae10b594f09e26a7e902ecbd0600691"
	drafted = "64a0861575861af460f062c79be643bd5e805cfd345cf389f108670ac76c8cb24c6cfc18755d43eea09ee94e382d26b0bdb7b73c321b0100d4f03b7f355894cf332f830e710b97ce98c8a84abd0b948114ad176e008d33bd60f982b1ff37c8559797a06ef4f0ef61c186324e2b3506383606907b6a7c02b0f9f6157b53c867e4b9166c767b804d46a59b5216cde7a4e99040c5a40433225ee282a1b0a06c523eaf4534d7f83fa1155b0047718cbc546a0d072b04b3564eea1b422273f548271a0bb2316053fa76991955ebd63159434ecebb4e466dae5a1073a6727627097a1049e617d91d361094fa68f0ff77987130305beaba2eda04df997b714d6c6f2c29a6ad5cb4022b02709beead9d67890cbb22392336fea1851f38"
)

// text is so many bytes, the same ones in every run.
func text(seed int64, long int) []byte {
	b := make([]byte, long)
	rand.New(rand.NewSource(seed)).Read(b)
	return b
}

// keyOf and nonceOf are the same ones in every run.
func keyOf(seed int64) [32]byte { return [32]byte(text(seed+1<<40, 32)) }

func nonceOf(seed int64) [12]byte { return [12]byte(text(seed+1<<41, 12)) }

// counted are so many bytes, each one more than the one ahead of it.
func counted(from byte, long int) []byte {
	b := make([]byte, long)
	for i := range b {
		b[i] = from + byte(i)
	}
	return b
}

// full is so many bytes with all bits 1.
func full(long int) []byte { return bytes.Repeat([]byte{0xff}, long) }

// turned are bytes with one bit turned.
func turned(b []byte, bit int) []byte {
	b = slices.Clone(b)
	b[bit/8] ^= 1 << (bit % 8)
	return b
}

// unsigned are the bytes that signs tell, two each.
func unsigned(t *testing.T, signs string) []byte {
	t.Helper()
	b, err := hex.DecodeString(signs)
	if err != nil {
		t.Fatal(err)
	}
	return b
}

// filled are bytes, and bytes 0 up to 16.
func filled(b []byte) []byte {
	for len(b)%size != 0 {
		b = append(b, 0)
	}
	return b
}

// tagged are bytes that were turned already, and their tag, as P11.1 words it.
func tagged(key [32]byte, nonce [12]byte, b, beside []byte) []byte {
	all := filled(slices.Clone(beside))
	all = filled(append(all, b...))
	all = binary.LittleEndian.AppendUint64(all, uint64(len(beside)))
	all = binary.LittleEndian.AppendUint64(all, uint64(len(b)))
	block := chacha.Block(key, 0, nonce)
	tag := poly.Tag([32]byte(block[:32]), all)
	return slices.Concat(b, tag[:])
}

// changed are bytes, turned from the count 1 on.
func changed(t *testing.T, key [32]byte, nonce [12]byte, b []byte) []byte {
	t.Helper()
	made, e := chacha.Stream(key, 1, nonce, b)
	if e != api.OK {
		t.Fatalf("%d bytes: %v", len(b), e)
	}
	return made
}

// worded is what Seal answers by P11.2.
func worded(t *testing.T, key [32]byte, nonce [12]byte, b, beside []byte) []byte {
	t.Helper()
	return tagged(key, nonce, changed(t, key, nonce, b), beside)
}

// seal is what Seal answers where it must be OK.
func seal(t *testing.T, key [32]byte, nonce [12]byte, b, beside []byte) []byte {
	t.Helper()
	sealed, e := aead.Seal(key, nonce, b, beside)
	if e != api.OK {
		t.Fatalf("%d bytes beside %d: %v", len(b), len(beside), e)
	}
	return sealed
}

// opens holds Open to a text.
func opens(t *testing.T, key [32]byte, nonce [12]byte, sealed, beside, want []byte) {
	t.Helper()
	b, e := aead.Open(key, nonce, sealed, beside)
	if !bytes.Equal(b, want) || e != api.OK {
		t.Errorf("%d bytes beside %d: %d, %v", len(sealed), len(beside), len(b), e)
	}
}

// refused holds Open to ErrTag, and nothing beside it.
func refused(t *testing.T, what string, key [32]byte, nonce [12]byte, sealed, beside []byte) {
	t.Helper()
	b, e := aead.Open(key, nonce, sealed, beside)
	if len(b) != 0 || e != api.ErrTag {
		t.Errorf("%s, %d bytes beside %d: %d, %v", what, len(sealed), len(beside), len(b), e)
	}
}

// P11.1, P11.2: what RFC 8439 seals in its section 2.8.2, and opens in A.5.
func TestKnown(t *testing.T) {
	for i, c := range []struct {
		key, nonce, beside, text, sealed string
	}{
		{"808182838485868788898a8b8c8d8e8f909192939495969798999a9b9c9d9e9f", "070000004041424344454647", "50515253c0c1c2c3c4c5c6c7", ladies, offered},
		{"1c9240a5eb55d38af333888604f6b5f0473917c1402b80099dca5cbc207075c0", "000000000102030405060708", "f33388860000000000004e91", drafts, drafted},
	} {
		key, nonce := [32]byte(unsigned(t, c.key)), [12]byte(unsigned(t, c.nonce))
		beside, sealed := unsigned(t, c.beside), unsigned(t, c.sealed)
		if got := seal(t, key, nonce, []byte(c.text), beside); !bytes.Equal(got, sealed) {
			t.Errorf("%d: %x", i, got)
		}
		opens(t, key, nonce, sealed, beside, []byte(c.text))
	}
}

// P11.1, P11.2: what two other programs seal; of the longer ones the tag.
func TestOtherProgram(t *testing.T) {
	key, nonce := [32]byte(counted(1, 32)), [12]byte(counted(200, 12))
	ones, once := [32]byte(full(32)), [12]byte(full(12))
	for i, c := range []struct {
		key    [32]byte
		nonce  [12]byte
		text   []byte
		beside []byte
		last   string
	}{
		{[32]byte{}, [12]byte{}, nil, nil, "4eb972c9a8fb3a1b382bb4d36f5ffad1"},
		{ones, once, nil, nil, "0b5528ab3ff425fbf1fce9fcfb979029"},
		{ones, once, full(16), full(16), "22d8bfc313e141bd692c82cec7785b29d8ae4f8a6eb98f32471e5fcb147b5e40"},
		{key, nonce, nil, counted(99, 1), "e32ed98e84d496330339d73290fa70d7"},
		{key, nonce, counted(7, 1), nil, "e812a70cfc741dd935930bcbaea604b0de"},
		{key, nonce, counted(7, 15), counted(99, 17), "e81368da4ae2aa95c8f05af28c1e719f7ffa9e55cd1de3420f31179a869ba4"},
		{key, nonce, counted(7, 16), counted(99, 16), "e81368da4ae2aa95c8f05af28c1e71821e67bfd32016775b559651bbc6ef17bc"},
		{key, nonce, counted(7, 17), counted(99, 15), "e81368da4ae2aa95c8f05af28c1e7182e0ec80d6b3f2e8137cb836235a9bf8223e"},
		{key, nonce, counted(7, 64), counted(99, 5), "e81368da4ae2aa95c8f05af28c1e7182e0da240b070e9c26e935ad8c5a5c467ac7dc573de199198f3399d2922ebf2a66ab4c2865f802a9fc20c1037d22598ab727b1eb55e9f8214956adfc79205d4d40"},
		{key, nonce, counted(7, 65), counted(99, 300), "e81368da4ae2aa95c8f05af28c1e7182e0da240b070e9c26e935ad8c5a5c467ac7dc573de199198f3399d2922ebf2a66ab4c2865f802a9fc20c1037d22598ab79a1093867cfa3a6571234362a933a5d19a"},
		{key, nonce, counted(7, 300), counted(99, 65), "a93ca1099152b61c410c400051ad3f6b"},
		{key, nonce, counted(7, 1000), counted(99, 70000), "ce21f663b846e2a6be07132da719d73b"},
		{key, nonce, counted(7, 70000), counted(99, 1000), "addefcc94c7331e90f9c06ae7f81e999"},
	} {
		sealed := seal(t, c.key, c.nonce, c.text, c.beside)
		if !bytes.HasSuffix(sealed, unsigned(t, c.last)) || len(sealed) != len(c.text)+size {
			t.Errorf("%d: %x", i, sealed[max(0, len(sealed)-100):])
		}
		opens(t, c.key, c.nonce, sealed, c.beside, c.text)
	}
}

// P11.1, P11.2: the chapter's examples.
func TestExamples(t *testing.T) {
	key, nonce := [32]byte(counted(0x80, 32)), [12]byte(append([]byte{7, 0, 0, 0}, counted(0x40, 8)...))
	beside := append(counted(0x50, 4), counted(0xc0, 8)...)
	sealed := seal(t, key, nonce, []byte(ladies), beside)
	if !bytes.HasSuffix(sealed, []byte{0x06, 0x91}) {
		t.Errorf("%x", sealed)
	}
	opens(t, key, nonce, sealed, beside, []byte(ladies))
	refused(t, "none", key, nonce, nil, beside)
}

// P11.1, P11.2: texts of every length through two blocks of theirs, beside every length through two of a tag's.
func TestLengths(t *testing.T) {
	key, nonce := keyOf(1), nonceOf(1)
	b, beside := text(2, 131), text(3, 35)
	for i := range len(b) {
		for j := range len(beside) {
			want := worded(t, key, nonce, b[:i], beside[:j])
			if got := seal(t, key, nonce, b[:i], beside[:j]); !bytes.Equal(got, want) {
				t.Fatalf("%d bytes beside %d: %x, not %x", i, j, got, want)
			}
			opens(t, key, nonce, want, beside[:j], b[:i])
		}
	}
}

// P11.1: lengths that fill each byte up to the fourth: more bytes of eight the document's bound leaves at 0.
func TestLongs(t *testing.T) {
	key, nonce := keyOf(4), nonceOf(4)
	all := text(5, 1<<24+1)
	for _, long := range []int{255, 256, 257, 65535, 65536, 65537, 1<<24 - 1, 1 << 24, 1<<24 + 1} {
		for _, c := range [][2]int{{long, 3}, {3, long}} {
			b, beside := all[:c[0]], all[len(all)-c[1]:]
			sealed := seal(t, key, nonce, b, beside)
			if !bytes.Equal(sealed, worded(t, key, nonce, b, beside)) {
				t.Errorf("%d bytes beside %d: another tag, or text", c[0], c[1])
			}
			opens(t, key, nonce, sealed, beside, b)
		}
	}
}

// P11.1, P11.2: many keys, nonces, texts and what stands beside.
func TestMany(t *testing.T) {
	for i := range int64(2000) {
		key, nonce, b, beside := keyOf(i), nonceOf(i), text(i, int(i%203)), text(-i, int(i%71))
		want := worded(t, key, nonce, b, beside)
		if got := seal(t, key, nonce, b, beside); !bytes.Equal(got, want) {
			t.Fatalf("%d: %x, not %x", i, got, want)
		}
		opens(t, key, nonce, want, beside, b)
	}
}

// P11.2: Open asks nothing but the tag: any bytes that have theirs are turned.
func TestTagged(t *testing.T) {
	for i := range int64(200) {
		key, nonce, b, beside := keyOf(i), nonceOf(i), text(i, int(i)), text(-i, int(i%33))
		opens(t, key, nonce, tagged(key, nonce, b, beside), beside, changed(t, key, nonce, b))
	}
	for _, b := range [][]byte{make([]byte, 100), full(100)} {
		key, nonce := keyOf(6), nonceOf(6)
		opens(t, key, nonce, tagged(key, nonce, b, b), b, changed(t, key, nonce, b))
	}
}

// P11.2: no text, and nothing beside, nil or not, is one as any other: its tag alone is sealed, and opened as nothing.
func TestNothing(t *testing.T) {
	key, nonce := keyOf(7), nonceOf(7)
	for _, none := range [][]byte{nil, {}, make([]byte, 0, 40)} {
		for _, beside := range [][]byte{nil, {}, text(8, 16), text(8, 20)} {
			sealed := seal(t, key, nonce, none, beside)
			if len(sealed) != size || !bytes.Equal(sealed, worded(t, key, nonce, nil, beside)) {
				t.Errorf("nothing beside %d: %x", len(beside), sealed)
			}
			opens(t, key, nonce, sealed, beside, nil)
		}
		sealed := seal(t, key, nonce, []byte("some"), none)
		if !bytes.Equal(sealed, worded(t, key, nonce, []byte("some"), nil)) {
			t.Errorf("beside nothing: %x", sealed)
		}
		opens(t, key, nonce, sealed, none, []byte("some"))
	}
}

// P11.2: fewer than 16 bytes are refused, a tag's own ones too; just 16 are opened if they are the tag of nothing.
func TestShort(t *testing.T) {
	key, nonce, beside := keyOf(9), nonceOf(9), text(10, 20)
	alone := seal(t, key, nonce, nil, beside)
	long := seal(t, key, nonce, text(11, 40), beside)
	for n := range size {
		refused(t, "a tag's first bytes", key, nonce, alone[:n], beside)
		refused(t, "a tag's last bytes", key, nonce, alone[size-n:], beside)
		refused(t, "a text's first bytes", key, nonce, long[:n], beside)
		refused(t, "bytes 0", key, nonce, make([]byte, n), nil)
		// The tag stands whole behind them, in room that is not theirs.
		refused(t, "a tag in the spare room", key, nonce, alone[:n:size], beside)
	}
	refused(t, "nil", key, nonce, nil, nil)
	opens(t, key, nonce, alone, beside, nil)
	for n := range len(long) {
		refused(t, "cut at the end", key, nonce, long[:n], beside)
		refused(t, "cut at the beginning", key, nonce, long[len(long)-n:], beside)
	}
}

// P11.2: any one bit that is turned, of the text, the tag, the key, the nonce, or what stands beside, is refused.
func TestOneBit(t *testing.T) {
	for _, long := range []int{0, 1, 16, 64, 100} {
		key, nonce, b, beside := keyOf(12), nonceOf(12), text(13, long), text(14, 21)
		sealed := seal(t, key, nonce, b, beside)
		for i := range len(sealed) * 8 {
			refused(t, "sealed", key, nonce, turned(sealed, i), beside)
		}
		for i := range len(beside) * 8 {
			refused(t, "beside", key, nonce, sealed, turned(beside, i))
		}
		for i := range len(key) * 8 {
			refused(t, "key", [32]byte(turned(key[:], i)), nonce, sealed, beside)
		}
		for i := range len(nonce) * 8 {
			refused(t, "nonce", key, [12]byte(turned(nonce[:], i)), sealed, beside)
		}
		opens(t, key, nonce, sealed, beside, b)
	}
}

// P11.2: other tags are refused: two bits turned alike, bytes in another order, and those of other things.
func TestOtherTags(t *testing.T) {
	key, nonce, b, beside := keyOf(15), nonceOf(15), text(16, 50), text(17, 30)
	sealed := seal(t, key, nonce, b, beside)
	ahead, tag := sealed[:50], sealed[50:]
	for i := range size {
		for j := range i {
			refused(t, "two bits", key, nonce, turned(turned(sealed, 8*(50+i)), 8*(50+j)), beside)
		}
		if i > 0 {
			refused(t, "another beginning", key, nonce, slices.Concat(ahead, tag[i:], tag[:i]), beside)
		}
	}
	back := slices.Clone(tag)
	slices.Reverse(back)
	plain, none := tagged(key, nonce, b, beside), seal(t, key, nonce, nil, nil)
	for i, other := range [][]byte{make([]byte, size), full(size), back, plain[50:], none} {
		refused(t, "another tag "+string(rune('0'+i)), key, nonce, slices.Concat(ahead, other), beside)
	}
	refused(t, "the tag ahead", key, nonce, slices.Concat(tag, ahead), beside)
	refused(t, "the tag twice", key, nonce, slices.Concat(sealed, tag), beside)
	refused(t, "a byte more", key, nonce, append(slices.Clone(sealed), 0), beside)
}

// P11.1: both lengths are tagged: the same bytes, cut elsewhere, or bytes 0 more or fewer, are refused.
func TestCutElsewhere(t *testing.T) {
	key, nonce := keyOf(18), nonceOf(18)
	for _, c := range [][2]int{{16, 16}, {32, 16}, {20, 16}, {16, 32}, {7, 48}, {0, 16}, {0, 32}, {16, 0}} {
		b, beside := text(19, c[0]), text(20, c[1])
		sealed := seal(t, key, nonce, b, beside)
		all, tag := slices.Concat(beside, sealed[:c[0]]), sealed[c[0]:]
		for at := range len(all) + 1 {
			if at != c[1] {
				refused(t, "cut elsewhere", key, nonce, slices.Concat(all[at:], tag), all[:at])
			}
		}
		opens(t, key, nonce, sealed, beside, b)
	}
	zeros := make([]byte, 33)
	for i := range zeros {
		b := tagged(key, nonce, zeros[:i], zeros[:16])
		beside := tagged(key, nonce, zeros[:16], zeros[:i])
		for j := range zeros {
			if j != i {
				refused(t, "bytes 0", key, nonce, slices.Concat(zeros[:j], b[i:]), zeros[:16])
				refused(t, "bytes 0 beside", key, nonce, beside, zeros[:j])
			}
		}
	}
}

// P11.1: a text and what stands beside it do not change places, nor does a tag know an untold one.
func TestPlaces(t *testing.T) {
	key, nonce, b, beside := keyOf(21), nonceOf(21), text(22, 32), text(23, 32)
	sealed := tagged(key, nonce, b, beside)
	refused(t, "changed places", key, nonce, slices.Concat(beside, sealed[32:]), b)
	refused(t, "untold", key, nonce, sealed, nil)
	refused(t, "told twice", key, nonce, sealed, slices.Concat(beside, beside))
	refused(t, "told the other way round", key, nonce, sealed, slices.Concat(beside[16:], beside[:16]))
}

// P11.3: what is sealed is opened, and is 16 bytes longer, beside anything.
func TestOpened(t *testing.T) {
	for long := range 700 {
		key, nonce := keyOf(int64(long)), nonceOf(int64(long))
		b, beside := text(int64(long), long), text(int64(-long), long%97)
		sealed := seal(t, key, nonce, b, beside)
		if len(sealed) != long+size {
			t.Errorf("%d bytes: %d", long, len(sealed))
		}
		opens(t, key, nonce, sealed, beside, b)
		// A sealed text is a text.
		opens(t, key, nonce, seal(t, key, nonce, sealed, sealed), sealed, sealed)
	}
}

// R4: what is handed in stays as it was, spare room too, opened or refused, and where one list is a piece of the other's room.
func TestArgumentsStay(t *testing.T) {
	key, nonce := keyOf(24), nonceOf(24)
	for long := range 70 {
		room, more := text(25, 300), text(26, 300)
		sealed := append(seal(t, key, nonce, room[:long], more[:long]), text(27, 200)...)
		wasRoom, wasMore, wasSealed := slices.Clone(room), slices.Clone(more), slices.Clone(sealed)
		end := long + size
		seal(t, key, nonce, room[:long], more[:long])
		opens(t, key, nonce, sealed[:end], more[:long], room[:long])
		refused(t, "a byte more", key, nonce, sealed[:end+1], more[:long])
		refused(t, "a byte more beside", key, nonce, sealed[:end], more[:long+1])
		refused(t, "short", key, nonce, sealed[:long%size], more[:long])
		got := seal(t, key, nonce, room[:long], room[long/2:long])
		if !bytes.Equal(got, worded(t, key, nonce, wasRoom[:long], wasRoom[long/2:long])) {
			t.Errorf("%d bytes beside a piece of them: %x", long, got)
		}
		if !bytes.Equal(room, wasRoom) || !bytes.Equal(more, wasMore) || !bytes.Equal(sealed, wasSealed) {
			t.Fatalf("%d bytes: changed", long)
		}
	}
}

// R4: what is answered is new memory, spare room too: neither an argument nor another answer tells its changes, nor it theirs.
func TestNewMemory(t *testing.T) {
	key, nonce := keyOf(28), nonceOf(28)
	for _, long := range []int{0, 1, 15, 16, 17, 64, 100, 4096} {
		room, beside := text(29, long+500), text(30, 40)
		was, wasBeside := slices.Clone(room), slices.Clone(beside)
		want := worded(t, key, nonce, was[:long], beside)
		one, other := seal(t, key, nonce, room[:long], beside), seal(t, key, nonce, room[:long], beside)
		sealed := append(slices.Clone(want), text(31, 500)...)
		wasSealed := slices.Clone(sealed)
		open := func() []byte {
			b, _ := aead.Open(key, nonce, sealed[:len(want)], beside)
			return b
		}
		first, second := open(), open()
		clear(one[:cap(one)])
		clear(first[:cap(first)])
		if !bytes.Equal(room, was) || !bytes.Equal(beside, wasBeside) || !bytes.Equal(sealed, wasSealed) {
			t.Errorf("%d bytes: an argument is changed", long)
		}
		clear(room)
		clear(sealed)
		clear(beside)
		if !bytes.Equal(other, want) || !bytes.Equal(second, was[:long]) {
			t.Errorf("%d bytes: another answer is changed", long)
		}
	}
}

// R3, R5: nothing of one call is kept for the next one, a refused one's neither, and a capacity tells nothing.
func TestNothingKept(t *testing.T) {
	key, nonce, b, beside := keyOf(32), nonceOf(32), text(33, 77), text(34, 19)
	sealed := seal(t, key, nonce, b, beside)
	for range 3 {
		seal(t, keyOf(35), nonceOf(35), text(35, 5), nil)
		refused(t, "another one's", keyOf(35), nonceOf(35), sealed, beside)
		refused(t, "short", key, nonce, sealed[:15], beside)
		wide, wideBeside := append(text(33, 77), text(36, 500)...)[:77], append(text(34, 19), text(37, 500)...)[:19]
		if !bytes.Equal(seal(t, key, nonce, wide, wideBeside), sealed) {
			t.Error("not the same again")
		}
		opens(t, key, nonce, sealed, beside, b)
	}
}

func BenchmarkSeal(b *testing.B) {
	key, words := [32]byte{1}, text(1, 1<<16)
	b.SetBytes(int64(len(words)))
	for b.Loop() {
		aead.Seal(key, [12]byte{}, words, nil)
	}
}
