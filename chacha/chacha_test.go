package chacha_test

import (
	"bytes"
	"encoding/binary"
	"encoding/hex"
	"math/rand"
	"slices"
	"testing"

	"fardel/api"
	"fardel/chacha"
)

const (
	size    = 64
	highest = 1<<32 - 1 // the last count
)

// text is so many bytes, the same ones in every run.
func text(seed int64, long int) []byte {
	b := make([]byte, long)
	rand.New(rand.NewSource(seed)).Read(b)
	return b
}

// unsigned are the bytes that signs tell, two each.
func unsigned(t *testing.T, signs string) []byte {
	t.Helper()
	b, err := hex.DecodeString(signs)
	if err != nil {
		t.Fatal(err)
	}
	return b
}

// counted is the key of the bytes 0 to 31.
func counted() (key [32]byte) {
	for i := range key {
		key[i] = byte(i)
	}
	return key
}

// keyOf and nonceOf are the same ones in every run.
func keyOf(seed int64) [32]byte { return [32]byte(text(seed, 32)) }

func nonceOf(seed int64) [12]byte { return [12]byte(text(seed+1<<40, 12)) }

// full are a key and a nonce with all bits 1.
func full() (key [32]byte, nonce [12]byte) {
	return [32]byte(bytes.Repeat([]byte{0xff}, 32)), [12]byte(bytes.Repeat([]byte{0xff}, 12))
}

// left is a word turned to the left.
func left(x uint32, n uint) uint32 { return x<<n | x>>(32-n) }

// quarter is one of four words, as P9.1 words it.
func quarter(a, b, c, d *uint32) {
	*a += *b
	*d = left(*d^*a, 16)
	*c += *d
	*b = left(*b^*c, 12)
	*a += *b
	*d = left(*d^*a, 8)
	*c += *d
	*b = left(*b^*c, 7)
}

// worded is Block as P9.1 words it, its words in four rows of four: quarters go down the columns, then down the diagonals.
func worded(key [32]byte, count uint32, nonce [12]byte) [size]byte {
	b := slices.Concat([]byte("expand 32-byte k"), key[:], binary.LittleEndian.AppendUint32(nil, count), nonce[:])
	var first, rows [4][4]uint32
	for i := range 16 {
		first[i/4][i%4] = binary.LittleEndian.Uint32(b[4*i:])
	}
	rows = first
	for round := range 20 {
		aside := round % 2
		for i := range 4 {
			quarter(&rows[0][i], &rows[1][(i+aside)%4], &rows[2][(i+2*aside)%4], &rows[3][(i+3*aside)%4])
		}
	}
	b = nil
	for i := range 16 {
		b = binary.LittleEndian.AppendUint32(b, rows[i/4][i%4]+first[i/4][i%4])
	}
	return [size]byte(b)
}

// changed is what Stream answers by P9.2, of blocks as worded tells them.
func changed(key [32]byte, count uint32, nonce [12]byte, b []byte) []byte {
	b = slices.Clone(b)
	for from := 0; from < len(b); from += size {
		block := worded(key, count, nonce)
		for i := from; i < min(from+size, len(b)); i++ {
			b[i] ^= block[i-from]
		}
		count++
	}
	return b
}

// stream is what Stream answers where it must be OK, and just as many bytes.
func stream(t *testing.T, key [32]byte, count uint32, nonce [12]byte, b []byte) []byte {
	t.Helper()
	made, e := chacha.Stream(key, count, nonce, b)
	if e != api.OK || len(made) != len(b) {
		t.Fatalf("%d bytes from %d on: %d, %v", len(b), count, len(made), e)
	}
	return made
}

// P9.1: the blocks that RFC 8439 tells (its section 2.3.2, and A.1), and three at the count's and all ends, by another program.
func TestKnownBlocks(t *testing.T) {
	allKey, allNonce := full()
	for i, c := range []struct {
		key   [32]byte
		count uint32
		nonce [12]byte
		block string
	}{
		{counted(), 1, [12]byte{3: 9, 7: 0x4a}, "10f1e7e4d13b5915500fdd1fa32071c4c7d1f4c733c068030422aa9ac3d46c4ed2826446079faa0914c2d705d98b02a2b5129cd1de164eb9cbd083e8a2503c4e"},
		{[32]byte{}, 0, [12]byte{}, "76b8e0ada0f13d90405d6ae55386bd28bdd219b8a08ded1aa836efcc8b770dc7da41597c5157488d7724e03fb8d84a376a43b8f41518a11cc387b669b2ee6586"},
		{[32]byte{}, 1, [12]byte{}, "9f07e7be5551387a98ba977c732d080dcb0f29a048e3656912c6533e32ee7aed29b721769ce64e43d57133b074d839d531ed1f28510afb45ace10a1f4b794d6f"},
		{[32]byte{31: 1}, 1, [12]byte{}, "3aeb5224ecf849929b9d828db1ced4dd832025e8018b8160b82284f3c949aa5a8eca00bbb4a73bdad192b5c42f73f2fd4e273644c8b36125a64addeb006c13a0"},
		{[32]byte{1: 0xff}, 2, [12]byte{}, "72d54dfbf12ec44b362692df94137f328fea8da73990265ec1bbbea1ae9af0ca13b25aa26cb4a648cb9b9d1be65b2c0924a66c54d545ec1b7374f4872e99f096"},
		{[32]byte{}, 0, [12]byte{11: 2}, "c2c64d378cd536374ae204b9ef933fcd1a8b2288b3dfa49672ab765b54ee27c78a970e0e955c14f3a88e741b97c286f75f8fc299e8148362fa198a39531bed6d"},
		{[32]byte{}, 1 << 31, [12]byte{}, "7a73bf222d4c436578ea504cf5cc10c51e0c4c80acdc5febcfeb046e5f3616a3d7ec4e3c0cc9c6f4c81a286439c8376d0416488b50f5d2f2812668bdb4f696e1"},
		{[32]byte{}, highest, [12]byte{}, "ace4cd09e294d1912d4ad205d06f95d9c2f2bfcf453e8753f128765b62215f4d92c74f2f626c6a640c0b1284d839ec81f1696281dafc3e684593937023b58b1d"},
		{allKey, highest, allNonce, "d72b21cfa4b6b0c41d61f62b8a11159c6a4f63bc56c2035796c7ad37811121bbec56d54a530f3a933dd28a50feb23bfaf64f405be985f3718bdf4683e96be749"},
	} {
		if got := chacha.Block(c.key, c.count, c.nonce); hex.EncodeToString(got[:]) != c.block {
			t.Errorf("%d: %x", i, got)
		}
	}
}

// P9.2: the streams that RFC 8439 tells: in its section 2.4.2, and the second and third of A.2.
func TestKnownStreams(t *testing.T) {
	for i, c := range []struct {
		key   [32]byte
		count uint32
		nonce [12]byte
		text  string
		made  string
	}{
		{counted(), 1, [12]byte{7: 0x4a}, "Ladies and Gentlemen of the class of '99: If I could offer you only one tip for the future, sunscreen would be it.",
			"6e2e359a2568f98041ba0728dd0d6981e97e7aec1d4360c20a27afccfd9fae0bf91b65c5524733ab8f593dabcd62b3571639d624e65152ab8f530c359f0861d807ca0dbf500d6a6156a38e088a22b65e52bc514d16ccf806818ce91ab77937365af90bbf74a35be6b40b8eedf2785e42874d"},
		{[32]byte{31: 1}, 1, [12]byte{11: 2}, "Any submission to the IETF intended by the Contributor for publication as all or part of an IETF Internet-Draft or RFC and any statement made within the context of an IETF activity is considered an \"IETF Contribution\". Such statements include oral statements in IETF sessions, as well as written and electronic communications made at any time or place, which are addressed to",
			"a3fbf07df3fa2fde4f376ca23e82737041605d9f4f4f57bd8cff2c1d4b7955ec2a97948bd3722915c8f3d337f7d370050e9e96d647b7c39f56e031ca5eb6250d4042e02785ececfa4b4bb5e8ead0440e20b6e8db09d881a7c6132f420e52795042bdfa7773d8a9051447b3291ce1411c680465552aa6c405b7764d5e87bea85ad00f8449ed8f72d0d662ab052691ca66424bc86d2df80ea41f43abf937d3259dc4b2d0dfb48a6c9139ddd7f76966e928e635553ba76c5c879d7b35d49eb2e62b0871cdac638939e25e8a1e0ef9d5280fa8ca328b351c3c765989cbcf3daa8b6ccc3aaf9f3979c92b3720fc88dc95ed84a1be059c6499b9fda236e7e818b04b0bc39c1e876b193bfe5569753f88128cc08aaa9b63d1a16f80ef2554d7189c411f5869ca52c5b83fa36ff216b9c1d30062bebcfd2dc5bce0911934fda79a86f6e698ced759c3ff9b6477338f3da4f9cd8514ea9982ccafb341b2384dd902f3d1ab7ac61dd29c6f21ba5b862f3730e37cfdc4fd806c22f221"},
		{[32]byte(unsigned(t, "1c9240a5eb55d38af333888604f6b5f0473917c1402b80099dca5cbc207075c0")), 42, [12]byte{11: 2}, "'Twas brillig, and the slithy toves\nDid gyre and gimble in the wabe:\nAll mimsy were the borogoves,\nAnd the mome raths outgrabe.",
			"62e6347f95ed87a45ffae7426f27a1df5fb69110044c0d73118effa95b01e5cf166d3df2d721caf9b21e5fb14c616871fd84c54f9d65b283196c7fe4f60553ebf39c6402c42234e32a356b3e764312a61a5532055716ead6962568f87d3f3f7704c6a8d1bcd1bf4d50d6154b6da731b187b58dfd728afa36757a797ac188d1"},
	} {
		if got := stream(t, c.key, c.count, c.nonce, []byte(c.text)); hex.EncodeToString(got) != c.made {
			t.Errorf("%d: %x", i, got)
		}
	}
}

// P9.1, P9.2: the chapter's examples.
func TestExamples(t *testing.T) {
	b := chacha.Block(counted(), 1, [12]byte{3: 9, 7: 0x4a})
	if !bytes.Equal(b[:4], []byte{0x10, 0xf1, 0xe7, 0xe4}) {
		t.Errorf("%x", b)
	}
	if b, e := chacha.Stream(counted(), highest, [12]byte{}, make([]byte, 65)); len(b) != 0 || e != api.ErrCount {
		t.Errorf("65: %d, %v", len(b), e)
	}
}

// P9.1: many keys, counts and nonces.
func TestBlocks(t *testing.T) {
	for i := range int64(2000) {
		key, nonce := keyOf(i), nonceOf(i)
		count := binary.LittleEndian.Uint32(text(i+2<<40, 4))
		if got, want := chacha.Block(key, count, nonce), worded(key, count, nonce); got != want {
			t.Fatalf("%x, %d, %x: %x, not %x", key, count, nonce, got, want)
		}
	}
}

// P9.1: each bit of the key, the count and the nonce alone, and all but it.
func TestEachBit(t *testing.T) {
	found := map[[size]byte]int{}
	for bit := range 8 * 48 {
		for _, rest := range []byte{0, 0xff} {
			b := bytes.Repeat([]byte{rest}, 48)
			b[bit/8] ^= 1 << (bit % 8)
			key, count, nonce := [32]byte(b[:32]), binary.LittleEndian.Uint32(b[32:]), [12]byte(b[36:])
			got := chacha.Block(key, count, nonce)
			if want := worded(key, count, nonce); got != want {
				t.Errorf("the bit %d: %x, not %x", bit, got, want)
			}
			found[got]++
		}
	}
	if len(found) != 2*8*48 {
		t.Errorf("%d blocks", len(found))
	}
}

// P9.2: lists of every length through some blocks, of bytes 0 and of others, from counts on at both ends of a word and in its middle.
func TestLengths(t *testing.T) {
	key, nonce := keyOf(3), nonceOf(3)
	all := text(4, 5*size)
	for _, count := range []uint32{0, 1, 255, 65534, 1<<31 - 2, 1<<31 - 1, highest - 4} {
		for long := range len(all) + 1 {
			for _, b := range [][]byte{all[:long], make([]byte, long)} {
				if got, want := stream(t, key, count, nonce, b), changed(key, count, nonce, b); !bytes.Equal(got, want) {
					t.Fatalf("%d bytes from %d on: %x, not %x", long, count, got, want)
				}
			}
		}
	}
}

// P9.2: bytes 0 turn into the blocks themselves, of a count, of one more, and so on.
func TestBlocksOfStream(t *testing.T) {
	key, nonce := keyOf(5), nonceOf(5)
	for _, from := range []uint32{0, 7, 250, 1<<16 - 3, 1<<31 - 3, highest - 9} {
		made := stream(t, key, from, nonce, make([]byte, 10*size))
		for i := range uint32(10) {
			if want := chacha.Block(key, from+i, nonce); !bytes.Equal(made[size*i:size*(i+1)], want[:]) {
				t.Errorf("the block %d from %d on", i, from)
			}
		}
	}
}

// P9.2: a count and blocks are 2^32 together at most: a begun block counts whole, and no byte needs none.
func TestCounts(t *testing.T) {
	key, nonce := keyOf(6), nonceOf(6)
	for _, c := range []struct {
		count uint32
		long  int
		want  api.Errno
	}{
		{highest, 0, api.OK}, {highest, 1, api.OK}, {highest, 63, api.OK}, {highest, 64, api.OK},
		{highest, 65, api.ErrCount}, {highest, 127, api.ErrCount}, {highest, 128, api.ErrCount}, {highest, 129, api.ErrCount},
		{highest - 1, 65, api.OK}, {highest - 1, 128, api.OK}, {highest - 1, 129, api.ErrCount},
		{highest - 3, 256, api.OK}, {highest - 3, 257, api.ErrCount}, {highest - 3, 1000, api.ErrCount},
		{highest - 16383, 1 << 20, api.OK}, {highest - 16383, 1<<20 + 1, api.ErrCount}, {highest - 16382, 1 << 20, api.ErrCount},
		{0, 0, api.OK}, {0, 1, api.OK}, {0, 1 << 20, api.OK}, {1 << 31, 1 << 20, api.OK}, {1<<31 - 1, 1 << 20, api.OK},
	} {
		b := text(7, c.long)
		made, e := chacha.Stream(key, c.count, nonce, b)
		if e != c.want {
			t.Errorf("%d bytes from %d on: %v", c.long, c.count, e)
		}
		if e != api.OK && len(made) != 0 {
			t.Errorf("%d bytes from %d on: %d beside an error", c.long, c.count, len(made))
		}
		if e == api.OK && !bytes.Equal(made, changed(key, c.count, nonce, b)) {
			t.Errorf("%d bytes from %d on: other bytes", c.long, c.count)
		}
	}
}

// P9.2: no byte, nil or not, is no byte, whatever the count.
func TestNothing(t *testing.T) {
	for _, count := range []uint32{0, 1, 1 << 31, highest} {
		for _, b := range [][]byte{nil, {}, make([]byte, 0, 100)} {
			stream(t, keyOf(8), count, nonceOf(8), b)
		}
	}
}

// P9.2: bytes that are told in parts, cut where blocks end, from the counts there on, are turned as in one.
func TestCutAtBlocks(t *testing.T) {
	key, nonce := keyOf(9), nonceOf(9)
	b := text(10, 9*size+17)
	want := stream(t, key, 100, nonce, b)
	for blocks := range 10 {
		at := blocks * size
		got := slices.Concat(stream(t, key, 100, nonce, b[:at]), stream(t, key, 100+uint32(blocks), nonce, b[at:]))
		if !bytes.Equal(got, want) {
			t.Errorf("cut behind %d blocks", blocks)
		}
	}
}

// P9.3: what is turned twice is as it was; by another key, count or nonce it is not.
func TestTwice(t *testing.T) {
	for i := range int64(200) {
		key, nonce, count := keyOf(i), nonceOf(i), uint32(i)*21474836
		b := text(i, 20+int(i)*3)
		once := stream(t, key, count, nonce, b)
		if bytes.Equal(once, b) {
			t.Errorf("%d: nothing is turned", i)
		}
		if twice := stream(t, key, count, nonce, once); !bytes.Equal(twice, b) {
			t.Errorf("%d: %x, not %x", i, twice, b)
		}
		otherKey, otherNonce := key, nonce
		otherKey[i%32] ^= 1
		otherNonce[i%12] ^= 1
		for j, twice := range [][]byte{stream(t, otherKey, count, nonce, once), stream(t, key, count+1, nonce, once), stream(t, key, count, otherNonce, once)} {
			if bytes.Equal(twice, b) {
				t.Errorf("%d: turned back by another one, %d", i, j)
			}
		}
	}
}

// P9.3: at the last count, too.
func TestTwiceAtTheEnd(t *testing.T) {
	key, nonce := full()
	for long := range 3*size + 1 {
		b := text(11, long)
		if twice := stream(t, key, highest-2, nonce, stream(t, key, highest-2, nonce, b)); !bytes.Equal(twice, b) {
			t.Errorf("%d bytes: %x", long, twice)
		}
	}
}

// R4: what is handed in stays as it was, spare room too, beside an error as well.
func TestArgumentStays(t *testing.T) {
	key, nonce := keyOf(12), nonceOf(12)
	all := text(13, 300)
	was := slices.Clone(all)
	for _, count := range []uint32{0, highest - 1, highest} {
		for _, long := range []int{0, 1, 64, 65, 128, 129, 200} {
			chacha.Stream(key, count, nonce, all[:long])
			if !bytes.Equal(all, was) {
				t.Fatalf("%d bytes from %d on: changed", long, count)
			}
		}
	}
}

// P9.2, R4: what is answered is memory of its own, spare room too: neither tells the other's changes, nor do two answers.
func TestOwnMemory(t *testing.T) {
	key, nonce := keyOf(14), nonceOf(14)
	for _, long := range []int{0, 1, 31, 64, 65, 200, 4096} {
		all := text(15, long+5000)
		was := slices.Clone(all)
		b := all[:long]
		want := changed(key, 5, nonce, b)
		one, other := stream(t, key, 5, nonce, b), stream(t, key, 5, nonce, b)
		clear(one[:cap(one)])
		if !bytes.Equal(all, was) {
			t.Errorf("%d bytes: the argument is changed", long)
		}
		if !bytes.Equal(other, want) {
			t.Errorf("%d bytes: another answer is changed", long)
		}
		clear(all)
		if !bytes.Equal(other, want) {
			t.Errorf("%d bytes: the answer is changed by the argument", long)
		}
	}
}

// R5: nothing of one call is kept for the next one.
func TestNothingKept(t *testing.T) {
	key, nonce, b := keyOf(16), nonceOf(16), text(17, 100)
	block, made := chacha.Block(key, 9, nonce), stream(t, key, 9, nonce, b)
	chacha.Block(keyOf(18), highest, nonceOf(18))
	chacha.Stream(keyOf(18), highest, nonceOf(18), text(18, 65))
	stream(t, keyOf(18), 9, nonceOf(18), text(18, 65))
	if chacha.Block(key, 9, nonce) != block || !bytes.Equal(stream(t, key, 9, nonce, b), made) {
		t.Error("another answer")
	}
}

func BenchmarkStream(b *testing.B) {
	key, words := [32]byte{1}, text(1, 1<<16)
	b.SetBytes(int64(len(words)))
	for b.Loop() {
		chacha.Stream(key, 0, [12]byte{}, words)
	}
}
