package seal_test

import (
	"strings"
	"testing"

	"sandglass/api"
	"sandglass/field"
	"sandglass/limbs"
	"sandglass/mult"
	"sandglass/point"
	"sandglass/scalar"
	"sandglass/seal"
	"sandglass/sec1"
)

// wrongNumbers are those that are neither a key nor an r.
func wrongNumbers() []api.Num {
	return []api.Num{{}, scalar.Order(), beyond(1), beyond(2), field.Prime(), greatest, {0, 0, 0, top}}
}

// secondName is a point with p added to its X: a number of 256 bits that is the same modulo p, but no X that may be.
func secondName(t *testing.T) api.Point {
	t.Helper()
	for x := range 100 {
		p, err := sec1.Decode("\x02" + strings.Repeat("\x00", 31) + string([]byte{byte(x)}))
		if err != api.OK {
			continue
		}
		name, over := limbs.Add(p.X, field.Prime())
		if over {
			t.Fatalf("%x has no second name", p.X)
		}
		return api.Point{X: name, Y: p.Y}
	}
	t.Fatal("no small x has a point")
	return api.Point{}
}

// nones are points that count as None.
func nones(t *testing.T) []api.Point {
	t.Helper()
	base := point.Base()
	return []api.Point{
		{None: true},
		{},
		{X: base.X, Y: base.Y, None: true},
		{X: api.Num{1}, None: true},
		{Y: api.Num{1}, None: true},
		{X: base.X, Y: base.X},
		{X: base.Y, Y: base.X},
		{X: base.X, Y: api.Num{base.Y[0] ^ 1, base.Y[1], base.Y[2], base.Y[3]}},
		{X: base.X},
		{Y: base.Y},
		{X: greatest, Y: greatest},
		secondName(t),
	}
}

// checkSeal holds that Seal refuses, and answers nothing beside its error.
func checkSeal(t *testing.T, p api.Point, r api.Num, s string, want api.Errno) {
	t.Helper()
	if file, err := seal.Seal(p, r, s); file != "" || err != want {
		t.Errorf("Seal to %v, by %x, of %d bytes: %d bytes, %d; want nothing, and %d", p, r, len(s), len(file), err, want)
	}
}

// checkRefused holds that Head refuses a file, and Open so too, and that both answer nothing beside their error.
func checkRefused(t *testing.T, file string, want api.Errno) {
	t.Helper()
	checkHead(t, file, told{err: want})
	checkOpen(t, api.Num{5}, file, "", want)
}

// 12.2: ErrArg of Seal, unless r is 1 to q - 1, whatever else is wrong.
func TestSealErrArg(t *testing.T) {
	p := mult.Base(api.Num{5})
	for _, r := range wrongNumbers() {
		checkSeal(t, p, r, "", api.ErrArg)
		checkSeal(t, p, r, "a text", api.ErrArg)
		checkSeal(t, p, r, turn(2049), api.ErrArg)
		for _, none := range nones(t) {
			checkSeal(t, none, r, "a text", api.ErrArg)
			checkSeal(t, none, r, turn(2049), api.ErrArg)
		}
	}
}

// 12.2: ErrSize of Seal of more than 2048 bytes, also to a point that counts as None.
func TestSealErrSize(t *testing.T) {
	for _, n := range []int{2049, 2050, 2304, 4096, 1 << 16, 1 << 20} {
		for _, r := range []api.Num{{1}, {3}, last(1)} {
			checkSeal(t, mult.Base(api.Num{5}), r, turn(n), api.ErrSize)
			for _, none := range nones(t) {
				checkSeal(t, none, r, turn(n), api.ErrSize)
			}
		}
	}
}

// 12.2: ErrPoint of Seal to a point that counts as None.
func TestSealErrPoint(t *testing.T) {
	for _, none := range nones(t) {
		for _, n := range []int{0, 1, 256, 2048} {
			checkSeal(t, none, api.Num{1}, turn(n), api.ErrPoint)
			checkSeal(t, none, api.Num{3}, turn(n), api.ErrPoint)
		}
		checkSeal(t, none, last(1), "a text", api.ErrPoint)
	}
}

// 12.2: ErrSize of Head of less than 41 bytes, right ones and others; 41 are a head, whose chunks are missing.
func TestHeadShort(t *testing.T) {
	file := sealed(t, api.Num{5}, api.Num{3}, "abc")
	for n := range 41 {
		checkRefused(t, file[:n], api.ErrSize)
		for _, s := range texts(n) {
			checkRefused(t, s, api.ErrSize)
		}
	}
	checkRefused(t, file[:41], api.ErrSize)
	checkRefused(t, plainHead(t, point.Base(), 0), api.ErrSize)
	for _, s := range texts(41) {
		checkRefused(t, s, api.ErrSyntax)
	}
}

// 12.2: ErrSyntax of Head, unless a file begins with SGL1, also where the point or the size is wrong.
func TestHeadMark(t *testing.T) {
	file := sealed(t, api.Num{5}, api.Num{3}, "abc")
	for i := range 4 {
		for v := range 256 {
			if byte(v) != file[i] {
				wrong := file[:i] + string([]byte{byte(v)}) + file[i+1:]
				checkRefused(t, wrong, api.ErrSyntax)
				checkRefused(t, wrong[:41], api.ErrSyntax)
				checkRefused(t, wrong+"x", api.ErrSyntax)
				checkRefused(t, wrong[:5]+strings.Repeat("\xff", 32)+wrong[37:], api.ErrSyntax)
			}
		}
	}
	for _, mark := range []string{"sgl1", "1LGS", "SGL2", "GSL1", "SGL\x00", "\x00\x00\x00\x00"} {
		checkRefused(t, mark+file[4:], api.ErrSyntax)
	}
	checkRefused(t, " "+file, api.ErrSyntax)
	checkRefused(t, file[1:], api.ErrSyntax)
}

// 12.2: ErrSyntax of Head of a length beyond 2048, also where the point is wrong, and whatever the size is.
func TestHeadLength(t *testing.T) {
	file := sealed(t, api.Num{5}, api.Num{3}, turn(2048))
	lengths := []string{four(2049), four(2050), four(2304), four(4096), four(1 << 16), four(1<<16 + 1), four(1<<24 + 2048), "\x7f\xff\xff\xff", "\x80\x00\x00\x00", "\x80\x00\x08\x00", "\xff\xff\xff\xff"}
	for _, length := range lengths {
		wrong := file[:37] + length + file[41:]
		checkRefused(t, wrong, api.ErrSyntax)
		checkRefused(t, wrong[:41], api.ErrSyntax)
		checkRefused(t, wrong[:57], api.ErrSyntax)
		checkRefused(t, wrong+turn(17), api.ErrSyntax)
		checkRefused(t, wrong[:4]+"\x02"+strings.Repeat("\xff", 32)+wrong[37:], api.ErrSyntax)
	}
	// 2049 bytes would be a chunk more, of one byte.
	checkRefused(t, file[:37]+four(2049)+file[41:]+turn(17), api.ErrSyntax)
	checkHead(t, file, told{mult.Base(api.Num{3}), 2048, api.OK})
}

// 12.2: chapter 6's errors of the point, also where the size is wrong.
func TestHeadPoint(t *testing.T) {
	file := sealed(t, api.Num{5}, api.Num{3}, "abc")
	for v := range 256 {
		if v != 2 && v != 3 {
			wrong := file[:4] + string([]byte{byte(v)}) + file[5:]
			checkRefused(t, wrong, api.ErrSyntax)
			checkRefused(t, wrong[:41], api.ErrSyntax)
			checkRefused(t, wrong+"x", api.ErrSyntax)
			checkRefused(t, wrong[:5]+strings.Repeat("\xff", 32)+wrong[37:], api.ErrSyntax)
		}
	}
	found := 0
	for x := range 100 {
		for _, first := range []string{"\x02", "\x03"} {
			text := first + strings.Repeat("\x00", 31) + string([]byte{byte(x)})
			if _, err := sec1.Decode(text); err != api.ErrPoint {
				continue
			}
			found++
			wrong := file[:4] + text + file[37:]
			checkRefused(t, wrong, api.ErrPoint)
			checkRefused(t, wrong[:len(wrong)-1], api.ErrPoint)
			checkRefused(t, wrong+"x", api.ErrPoint)
			checkRefused(t, wrong[:41], api.ErrPoint)
		}
	}
	if found == 0 {
		t.Error("every x had a point")
	}
	// Numbers that are not less than p, of which one is the X of a point modulo p.
	checkRefused(t, file[:5]+strings.Repeat("\xff", 32)+file[37:], api.ErrPoint)
	checkRefused(t, file[:5]+limbs.Bytes(field.Prime())+file[37:], api.ErrPoint)
	checkRefused(t, file[:5]+limbs.Bytes(secondName(t).X)+file[37:], api.ErrPoint)
}

// 12.2: ErrSize of Head, unless a file has just Long bytes.
func TestHeadSize(t *testing.T) {
	for _, n := range sizes() {
		file := sealed(t, api.Num{5}, api.Num{3}, turn(n))
		for cut := 1; cut <= len(file)-41; cut += 1 + cut/20 {
			checkRefused(t, file[:len(file)-cut], api.ErrSize)
		}
		for more := 1; more < 600; more += 1 + more/5 {
			checkRefused(t, file+turn(more), api.ErrSize)
		}
		checkRefused(t, file+file, api.ErrSize)
	}
}

// 12.2: ErrSize of Head, where the length is another one that may be, and the chunks are those of the right one.
func TestHeadOtherLength(t *testing.T) {
	file := sealed(t, api.Num{5}, api.Num{3}, turn(300))
	for n := range 2049 {
		if n != 300 {
			checkRefused(t, file[:37]+four(n)+file[41:], api.ErrSize)
		}
	}
}

// 12.2, R1: Head of any bytes, cut or with any bit of the head another one, is as the document reads them; Open refuses them.
func TestHeadOfAnything(t *testing.T) {
	file := sealed(t, api.Num{5}, api.Num{3}, turn(257))
	for i := range 8 * 41 {
		wrong := flipped(file, i)
		for _, s := range []string{wrong, wrong[:41], wrong[:300], wrong + "x"} {
			checkHead(t, s, plainTold(s))
		}
	}
	for i := range 3000 {
		noise := mixed(i%700, uint64(i))
		for _, s := range []string{noise, "SGL1" + noise, "SGL1\x02" + noise, file[:i%41] + noise, file[:37] + four(i) + noise} {
			checkHead(t, s, plainTold(s))
		}
	}
}

// 12.2: ErrArg of Open, unless k is 1 to q - 1, whatever the file is.
func TestOpenErrArg(t *testing.T) {
	file := sealed(t, api.Num{5}, api.Num{3}, "abc")
	for _, k := range wrongNumbers() {
		for _, s := range []string{file, "", file[:40], "X" + file[1:], file[:4] + "\x04" + file[5:], file + "x", flipped(file, 8*45)} {
			checkOpen(t, k, s, "", api.ErrArg)
		}
	}
	// q + 5 is no other name of 5.
	checkOpen(t, beyond(5), file, "", api.ErrArg)
}

// 12.2: ErrSum of Open, and nothing beside it, where any one bit of a chunk or of a tag is another one.
func TestOpenEveryBit(t *testing.T) {
	for _, n := range []int{0, 1, 20, 257, 513} {
		file := sealed(t, api.Num{2}, api.Num{3}, turn(n))
		for i := 8 * 41; i < 8*len(file); i++ {
			checkOpen(t, api.Num{2}, flipped(file, i), "", api.ErrSum)
		}
	}
}

// 12.2: ErrSum of Open, where a bit of the longest file is another one, in each of its chunks and tags.
func TestOpenLongestFile(t *testing.T) {
	file := sealed(t, api.Num{2}, api.Num{3}, turn(2048))
	for i := 8 * 41; i < 8*len(file); i += 61 {
		checkOpen(t, api.Num{2}, flipped(file, i), "", api.ErrSum)
	}
	checkOpen(t, api.Num{2}, flipped(file, 8*len(file)-1), "", api.ErrSum)
}

// 12.2: ErrSum of Open, where any one bit of R is another one and there is such a point; else Head's error.
func TestOpenOtherR(t *testing.T) {
	file := sealed(t, api.Num{2}, api.Num{3}, turn(300))
	taken := 0
	for i := 8 * 4; i < 8*37; i++ {
		wrong := flipped(file, i)
		want := plainTold(wrong).err
		if want == api.OK {
			taken++
			want = api.ErrSum
		}
		checkOpen(t, api.Num{2}, wrong, "", want)
	}
	if taken < 50 {
		t.Errorf("Head took %d other points", taken)
	}
	for r := uint64(1); r < 50; r++ {
		if r != 3 {
			checkOpen(t, api.Num{2}, file[:4]+encoded(t, mult.Base(api.Num{r}))+file[37:], "", api.ErrSum)
		}
	}
}

// 12.2: ErrSum of Open, where two chunks change places, or one stands in another one's.
func TestOpenMovedChunks(t *testing.T) {
	for _, text := range []string{turn(2048), string(make([]byte, 2048)), mixed(2048, 7)} {
		file := sealed(t, api.Num{2}, api.Num{3}, text)
		chunk := func(i int) string { return file[41+272*i : 41+272*(i+1)] }
		for i := range 8 {
			for k := range i {
				between := file[41+272*(k+1) : 41+272*i]
				ahead, behind := file[:41+272*k], file[41+272*(i+1):]
				checkOpen(t, api.Num{2}, ahead+chunk(i)+between+chunk(k)+behind, "", api.ErrSum)
				checkOpen(t, api.Num{2}, ahead+chunk(i)+between+chunk(i)+behind, "", api.ErrSum)
				checkOpen(t, api.Num{2}, ahead+chunk(k)+between+chunk(k)+behind, "", api.ErrSum)
			}
		}
	}
}

// 12.2: ErrSum of Open, where chunks stand under another head: those of a longer file by the same r, cut with their length told anew, or of a file by another r.
func TestOpenOtherHead(t *testing.T) {
	long := sealed(t, api.Num{2}, api.Num{3}, turn(2048))
	for i := 1; i < 8; i++ {
		checkOpen(t, api.Num{2}, long[:37]+four(256*i)+long[41:41+272*i], "", api.ErrSum)
	}
	short := sealed(t, api.Num{2}, api.Num{3}, turn(256))
	both := sealed(t, api.Num{2}, api.Num{3}, turn(512))
	checkOpen(t, api.Num{2}, both[:41]+short[41:]+both[41+272:], "", api.ErrSum)
	other := sealed(t, api.Num{2}, api.Num{4}, turn(512))
	checkOpen(t, api.Num{2}, both[:41]+other[41:], "", api.ErrSum)
	checkOpen(t, api.Num{2}, other[:41]+both[41:], "", api.ErrSum)
	checkOpen(t, api.Num{2}, both[:41+272]+other[41+272:], "", api.ErrSum)
}

// 12.2, T5: ErrSum of Open by another key than the one whose multiple of the base the file was sealed to.
func TestOpenOtherKey(t *testing.T) {
	for _, n := range []int{0, 6, 300} {
		file := sealed(t, api.Num{50}, api.Num{3}, turn(n))
		for k := uint64(1); k < 120; k++ {
			if k != 50 {
				checkOpen(t, api.Num{k}, file, "", api.ErrSum)
			}
		}
		for _, k := range []api.Num{last(50), last(1), {50, 1}, {50, 0, 0, 1}, {0, 50}, {0, 0, 0, 50}} {
			checkOpen(t, k, file, "", api.ErrSum)
		}
		checkOpen(t, api.Num{50}, file, turn(n), api.OK)
	}
}

// 12.2: a file whose bytes another one made is opened, where they are as the document says; where its key, nonces or head are others, it is not.
func TestOpenOfOthers(t *testing.T) {
	k, r, s := api.Num{5}, api.Num{3}, turn(600)
	p, from, shared := mult.Base(k), mult.Base(r), mult.Base(api.Num{15})
	head, key := plainHead(t, from, len(s)), plainKey(t, shared, from, p)
	right := plainChunks(t, key, head, s)
	checkOpen(t, k, head+strings.Join(right, ""), s, api.OK)
	for i, chunks := range [][]string{
		plainChunks(t, plainKey(t, from, shared, p), head, s),
		plainChunks(t, plainKey(t, shared, p, from), head, s),
		plainChunks(t, plainKey(t, shared, from, from), head, s),
		plainChunks(t, plainKey(t, shared, from, point.Neg(p)), head, s),
		plainChunks(t, plainKey(t, point.Neg(shared), from, p), head, s),
		plainChunks(t, key, "", s),
		plainChunks(t, key, head[:40], s),
		plainChunks(t, key, plainHead(t, from, 601), s),
		plainChunks(t, key, plainHead(t, p, 600), s),
	} {
		for at := range right {
			wrong := append([]string{}, right...)
			wrong[at] = chunks[at]
			checkOpen(t, k, head+strings.Join(wrong, ""), "", api.ErrSum)
			if chunks[at] == right[at] {
				t.Errorf("case %d: chunk %d is the right one", i, at)
			}
		}
	}
}

// 12.2: Head's errors of Open come ahead of ErrSum.
func TestOpenHeadFirst(t *testing.T) {
	file := flipped(sealed(t, api.Num{5}, api.Num{3}, turn(300)), 8*50)
	checkOpen(t, api.Num{5}, file, "", api.ErrSum)
	checkOpen(t, api.Num{5}, file[:len(file)-1], "", api.ErrSize)
	checkOpen(t, api.Num{5}, file+"x", "", api.ErrSize)
	checkOpen(t, api.Num{5}, "X"+file[1:], "", api.ErrSyntax)
	checkOpen(t, api.Num{6}, file[:4]+"\x05"+file[5:], "", api.ErrSyntax)
	checkOpen(t, api.Num{6}, file[:5]+strings.Repeat("\xff", 32)+file[37:], "", api.ErrPoint)
}
