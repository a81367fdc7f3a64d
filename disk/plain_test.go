package disk_test

import (
	"slices"
	"strings"
	"testing"

	"sandglass/api"
	"sandglass/disk"
)

// plainByte is one of a disk, and whether it is synced.
type plainByte struct {
	value  byte
	synced bool
}

// plainDisk goes byte by byte, as the document's words do.
type plainDisk []plainByte

func (p *plainDisk) do(a api.Act) api.Errno {
	switch a.Kind {
	case 1:
		return p.write(a.Text)
	case 2:
		p.sync()
	case 3:
		p.crash(a.Keep)
	default:
		return api.ErrArg
	}
	return api.OK
}

func (p *plainDisk) write(s string) api.Errno {
	if len(*p)+len(s) > 65536 {
		return api.ErrSize
	}
	for _, b := range []byte(s) {
		*p = append(*p, plainByte{value: b})
	}
	return api.OK
}

func (p *plainDisk) sync() {
	for i := range *p {
		(*p)[i].synced = true
	}
}

// torn are the numbers of the sectors that have bytes which are not synced, rising.
func (p *plainDisk) torn() []int {
	var l []int
	for i, b := range *p {
		if !b.synced && !slices.Contains(l[max(0, len(l)-1):], i/64) {
			l = append(l, i/64)
		}
	}
	return l
}

func (p *plainDisk) crash(keep uint64) {
	staying, last := map[int]bool{}, -1
	for k, sector := range p.torn() {
		if k < 64 && keep&(1<<k) != 0 {
			staying[sector], last = true, sector
		}
	}
	var left plainDisk
	for i, b := range *p {
		switch {
		case b.synced || staying[i/64]:
			left = append(left, b)
		case i/64 < last:
			left = append(left, plainByte{})
		}
	}
	*p = left
	p.sync()
}

func (p *plainDisk) text() string {
	b := make([]byte, len(*p))
	for i, x := range *p {
		b[i] = x.value
	}
	return string(b)
}

func (p *plainDisk) countSynced() int {
	n := 0
	for _, b := range *p {
		if b.synced {
			n++
		}
	}
	return n
}

func writing(s string) api.Act     { return api.Act{Kind: api.DiskWrite, Text: s} }
func syncing() api.Act             { return api.Act{Kind: api.DiskSync} }
func crashing(keep uint64) api.Act { return api.Act{Kind: api.DiskCrash, Keep: keep} }

// made is a disk to which acts were done, none of which may be refused.
func made(t *testing.T, acts ...api.Act) *disk.Disk {
	t.Helper()
	d := disk.New()
	for _, a := range acts {
		checkDo(t, d, a, api.OK)
	}
	return d
}

// halfSynced is a disk with s on it, of which the first bytes are synced.
func halfSynced(t *testing.T, s string, synced int) *disk.Disk {
	t.Helper()
	return made(t, writing(s[:synced]), syncing(), writing(s[synced:]))
}

func checkDo(t *testing.T, d *disk.Disk, a api.Act, want api.Errno) {
	t.Helper()
	if err := d.Do(a); err != want {
		t.Errorf("kind %d, %d bytes, Keep %#x: %d; want %d", a.Kind, len(a.Text), a.Keep, err, want)
	}
}

func checkDisk(t *testing.T, d *disk.Disk, text string, synced int) {
	t.Helper()
	if got := d.Text(); got != text {
		at := 0
		for at < len(got) && at < len(text) && got[at] == text[at] {
			at++
		}
		t.Errorf("%d bytes; want %d; from %d on %q; want %q", len(got), len(text), at, short(got[at:]), short(text[at:]))
	}
	if got := d.Synced(); got != synced {
		t.Errorf("%d synced; want %d", got, synced)
	}
}

// checkCrash holds a crash of a disk with s on it, of which the first bytes are synced, against what is to be there then.
func checkCrash(t *testing.T, s string, synced int, keep uint64, want string) {
	t.Helper()
	d := halfSynced(t, s, synced)
	checkDisk(t, d, s, synced)
	checkDo(t, d, crashing(keep), api.OK)
	checkDisk(t, d, want, len(want))
	if t.Failed() {
		t.Fatalf("a crash with %d of %d bytes synced, Keep %#x", synced, len(s), keep)
	}
}

// checkPlainCrash holds it against the plain count.
func checkPlainCrash(t *testing.T, s string, synced int, keep uint64) {
	t.Helper()
	var p plainDisk
	p.write(s[:synced])
	p.sync()
	p.write(s[synced:])
	p.crash(keep)
	checkCrash(t, s, synced, keep, p.text())
}

// mixed is n bytes without a pattern, others for each seed, of which none is 0, so that a byte that became 0 is seen.
func mixed(n int, seed uint64) string {
	b := make([]byte, n)
	for i := range b {
		seed = seed*6364136223846793005 + 1442695040888963407
		b[i] = byte(seed>>40%255) + 1
	}
	return string(b)
}

// short cuts what a failure tells.
func short(s string) string { return s[:min(len(s), 60)] }

// zeros is a long text, so that a part of it costs nothing.
var zeros = strings.Repeat("\x00", 1<<17)

// The plain count is held against what was counted by hand.
func TestPlainCount(t *testing.T) {
	s := mixed(200, 1)
	var p plainDisk
	if p.write(s[:70]); p.countSynced() != 0 || p.text() != s[:70] || !slices.Equal(p.torn(), []int{0, 1}) {
		t.Errorf("%d, %q, %d", p.countSynced(), p.text(), p.torn())
	}
	p.sync()
	if p.write(s[70:]); p.countSynced() != 70 || p.text() != s || !slices.Equal(p.torn(), []int{1, 2, 3}) {
		t.Errorf("%d, %q, %d", p.countSynced(), p.text(), p.torn())
	}
	if p.crash(4); p.countSynced() != 200 || p.text() != s[:70]+zeros[:122]+s[192:] || p.torn() != nil {
		t.Errorf("%d, %q, %d", p.countSynced(), p.text(), p.torn())
	}
	if strings.Contains(mixed(1<<16, 2), "\x00") {
		t.Error("a byte of a mixed text is 0")
	}
}
