package disk_test

import (
	"math"
	"math/rand"
	"testing"
	"unsafe"

	"sandglass/api"
	"sandglass/disk"
)

// shared tells whether two texts have a byte of memory in common.
func shared(a, b string) bool {
	if a == "" || b == "" {
		return false
	}
	from, other := uintptr(unsafe.Pointer(unsafe.StringData(a))), uintptr(unsafe.Pointer(unsafe.StringData(b)))
	return from < other+uintptr(len(b)) && other < from+uintptr(len(a))
}

// R4: a text that was handed out shares no memory with what was written, nor with another one.
func TestNewMemory(t *testing.T) {
	for _, n := range []int{2, 64, 100, 65536} {
		s := mixed(n, 1)
		d := made(t, writing(s))
		one, two := d.Text(), d.Text()
		checkDo(t, d, syncing(), api.OK)
		three := d.Text()
		l := []string{s, one, two, three}
		for i := range l {
			for k := range i {
				if shared(l[i], l[k]) {
					t.Errorf("%d bytes: %d and %d share memory", n, k, i)
				}
			}
		}
	}
}

// R4: a text that was handed out stays when the disk is written to, torn, and written to again.
func TestAnswersStay(t *testing.T) {
	s, more := mixed(300, 2), mixed(300, 3)
	d := halfSynced(t, s[:200], 70)
	whole := d.Text()
	checkDo(t, d, writing(s[200:]), api.OK)
	longer := d.Text()
	checkDo(t, d, crashing(2), api.OK)
	torn := d.Text()
	checkDo(t, d, writing(more), api.OK)
	behind := d.Text()
	checkDo(t, d, crashing(0), api.OK)
	want := s[:70] + zeros[:58] + s[128:192]
	if whole != s[:200] || longer != s || torn != want || behind != want+more {
		t.Error("a text that was handed out became another one")
	}
	checkDisk(t, d, want, 192)
}

// R4: what was written is not changed by the disk, and not kept: it may be written over behind the call.
func TestNothingKept(t *testing.T) {
	s := mixed(150, 4)
	for _, ahead := range []string{"", "a", mixed(70, 5)} {
		b := []byte(s)
		d := made(t, writing(ahead), syncing())
		checkDo(t, d, writing(unsafe.String(&b[0], len(b))), api.OK)
		for i := range b {
			b[i] = 'x'
		}
		checkDisk(t, d, ahead+s, len(ahead))
	}
	for _, keep := range []uint64{0, 1, 2, 4, math.MaxUint64} {
		b := []byte(s)
		d := made(t, writing(unsafe.String(&b[0], len(b))))
		checkDo(t, d, crashing(keep), api.OK)
		checkDo(t, d, writing("more"), api.OK)
		if string(b) != s {
			t.Errorf("Keep %d: what was written became %q", keep, b)
		}
	}
}

// R4: of a text with others behind its end these have no say, and stay.
func TestBehindTheEnd(t *testing.T) {
	s := mixed(200, 6)
	b := []byte(s)
	d := made(t, writing(unsafe.String(&b[0], 90)))
	checkDo(t, d, writing("more"), api.OK)
	checkDisk(t, d, s[:90]+"more", 0)
	checkDo(t, d, crashing(2), api.OK)
	checkDisk(t, d, zeros[:64]+s[64:90]+"more", 94)
	if string(b) != s {
		t.Errorf("what was written became %q", b)
	}
}

// 18.1: two disks share nothing, also such that were written the same text.
func TestTwoDisks(t *testing.T) {
	s := mixed(200, 7)
	one, two := disk.New(), disk.New()
	if one == two {
		t.Fatal("the same disk twice")
	}
	checkDo(t, one, writing(s), api.OK)
	checkDisk(t, two, "", 0)
	checkDo(t, two, writing(s), api.OK)
	checkDo(t, one, syncing(), api.OK)
	checkDisk(t, two, s, 0)
	checkDo(t, two, crashing(4), api.OK)
	checkDisk(t, one, s, 200)
	checkDisk(t, two, zeros[:128]+s[128:192], 192)
	// One disk's text is written to another one, and stays there when its own disk goes on.
	three := made(t, writing(one.Text()))
	checkDo(t, one, writing("more"), api.OK)
	checkDo(t, three, crashing(0), api.OK)
	checkDisk(t, three, "", 0)
	checkDisk(t, one, s+"more", 200)
	checkDisk(t, disk.New(), "", 0)
}

// R5: the same acts have the same answers again, and being asked changes nothing.
func TestSameAgain(t *testing.T) {
	for seed := range int64(10) {
		r, again := rand.New(rand.NewSource(seed)), rand.New(rand.NewSource(seed))
		one, two := disk.New(), disk.New()
		for range 40 {
			a := anyAct(r)
			err := one.Do(a)
			checkDo(t, two, anyAct(again), err)
			checkDisk(t, two, one.Text(), one.Synced())
			checkDisk(t, two, one.Text(), one.Synced())
		}
	}
}
