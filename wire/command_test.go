package wire_test

import (
	"math"
	"strings"
	"testing"

	"sandglass/api"
	"sandglass/wire"
)

func checkCommand(t *testing.T, c api.Command, want string) {
	t.Helper()
	if got, err := wire.Command(c); got != want || err != api.OK {
		t.Errorf("Command of kind %d, epoch %d, %q, %d bytes: %q, %d; want %q", c.Kind, c.Epoch, c.Name, len(c.Body), short(got), err, short(want))
	}
	if got, err := wire.ReadCommand(want); got != c || err != api.OK {
		t.Errorf("ReadCommand of %q: kind %d, epoch %d, %q, %q, %d", short(want), got.Kind, got.Epoch, got.Name, short(got.Body), err)
	}
}

func checkNoCommand(t *testing.T, c api.Command) {
	t.Helper()
	if got, err := wire.Command(c); got != "" || err != api.ErrArg {
		t.Errorf("Command of kind %d, epoch %d, %q, %d bytes: %q, %d", c.Kind, c.Epoch, c.Name, len(c.Body), short(got), err)
	}
}

func checkUnread(t *testing.T, s string) {
	t.Helper()
	if got, err := wire.ReadCommand(s); got != (api.Command{}) || err != api.ErrSyntax {
		t.Errorf("ReadCommand of %q: kind %d, epoch %d, %q, %q, %d", short(s), got.Kind, got.Epoch, got.Name, short(got.Body), err)
	}
}

// checkAnyCommand holds Command against the plain rules.
func checkAnyCommand(t *testing.T, c api.Command) {
	t.Helper()
	if isCommand(c) {
		checkCommand(t, c, plainCommand(c))
	} else {
		checkNoCommand(t, c)
	}
}

// checkAnyRead holds ReadCommand of any bytes against the plain rules, and that what is read is written just so.
func checkAnyRead(t *testing.T, s string) {
	t.Helper()
	if c, is := plainReadCommand(s); is {
		checkCommand(t, c, s)
	} else {
		checkUnread(t, s)
	}
}

var aKey = strings.Repeat("\x02\x00\xff", 11)

// someCommands are short ones of each kind.
func someCommands() []api.Command {
	return []api.Command{
		{Kind: api.CmdKey, Epoch: 0, Body: aKey},
		{Kind: api.CmdKey, Epoch: 63, Body: strings.Repeat("\x00", 33)},
		{Kind: api.CmdPut, Epoch: 1, Name: "a"},
		{Kind: api.CmdPut, Epoch: 62, Name: "0123456789abcdef", Body: "body"},
		{Kind: api.CmdPut, Epoch: 33, Name: "\x00", Body: "\x00\x00\x00\x00"},
		{Kind: api.CmdPrune},
		{Kind: api.CmdPrune, Epoch: 63},
	}
}

// 16.2: bytes that were written by hand.
func TestCommandBytes(t *testing.T) {
	checkCommand(t, api.Command{Kind: api.CmdPrune}, "\x00\x00\x00\x01\x03\x00\x00\x00\x01\x00\x00\x00\x00\x00\x00\x00\x00\x00")
	checkCommand(t, api.Command{Kind: api.CmdPrune, Epoch: 63}, "\x00\x00\x00\x01\x03\x00\x00\x00\x01\x3f\x00\x00\x00\x00\x00\x00\x00\x00")
	checkCommand(t, api.Command{Kind: api.CmdPut, Epoch: 2, Name: "name", Body: "a body"}, "\x00\x00\x00\x01\x02\x00\x00\x00\x01\x02\x00\x00\x00\x04name\x00\x00\x00\x06a body")
	checkCommand(t, api.Command{Kind: api.CmdPut, Epoch: 9, Name: "n"}, "\x00\x00\x00\x01\x02\x00\x00\x00\x01\x09\x00\x00\x00\x01n\x00\x00\x00\x00")
	checkCommand(t, api.Command{Kind: api.CmdKey, Epoch: 7, Body: aKey}, "\x00\x00\x00\x01\x01\x00\x00\x00\x01\x07\x00\x00\x00\x00\x00\x00\x00\x21"+aKey)
	long := mixed(4096, 3)
	checkCommand(t, api.Command{Kind: api.CmdPut, Epoch: 63, Name: "0123456789abcdef", Body: long}, "\x00\x00\x00\x01\x02\x00\x00\x00\x01\x3f\x00\x00\x00\x100123456789abcdef\x00\x00\x10\x00"+long)
}

// 16.2: each kind with each epoch, name and body at their edges, and others.
func TestCommand(t *testing.T) {
	taken := 0
	for _, kind := range others() {
		for _, epoch := range others() {
			for _, name := range []int{0, 1, 2, 15, 16, 17, 33, 256, 257} {
				for _, body := range []int{0, 1, 32, 33, 34, 289, 4095, 4096, 4097} {
					c := api.Command{Kind: kind, Epoch: epoch, Name: zeros[:name], Body: zeros[:body]}
					checkAnyCommand(t, c)
					if isCommand(c) {
						taken++
					}
				}
			}
		}
	}
	// Of the epochs, 0 to 9 and 60 to 63 may be: of a key one way, of a put 4 names with 8 bodies, of a prune one way.
	if want := 14 * (1 + 4*8 + 1); taken != want {
		t.Errorf("%d were taken; want %d", taken, want)
	}
}

// zeros is a long text, so that a part of it costs nothing.
var zeros = strings.Repeat("\x00", 5000)

// 16.2: all epochs that may be, and the least and the greatest int.
func TestCommandEpochs(t *testing.T) {
	for _, c := range someCommands() {
		for epoch := -300; epoch <= 600; epoch++ {
			c.Epoch = epoch
			checkAnyCommand(t, c)
		}
		for _, epoch := range []int{-1, 64, 256, math.MinInt, math.MaxInt} {
			c.Epoch = epoch
			checkNoCommand(t, c)
		}
	}
}

// 16.2: all kinds of a byte, and others.
func TestCommandKinds(t *testing.T) {
	for _, c := range someCommands() {
		for kind := -300; kind <= 600; kind++ {
			c.Kind = kind
			checkAnyCommand(t, c)
		}
		for _, kind := range []int{0, -1, api.CmdPrune + 1, 255, 256, 257, 258, 259, math.MinInt, math.MaxInt} {
			c.Kind = kind
			checkNoCommand(t, c)
		}
	}
}

// 16.2: a key has no name, and just 33 bytes, whichever.
func TestCommandKey(t *testing.T) {
	for n := range 300 {
		c := api.Command{Kind: api.CmdKey, Epoch: 5, Body: mixed(n, uint64(n))}
		if n == 33 {
			checkCommand(t, c, plainCommand(c))
		} else {
			checkNoCommand(t, c)
		}
	}
	for _, name := range []string{"a", "\x00", "0123456789abcdef", aKey} {
		checkNoCommand(t, api.Command{Kind: api.CmdKey, Epoch: 5, Name: name, Body: aKey})
		checkNoCommand(t, api.Command{Kind: api.CmdKey, Epoch: 5, Name: name})
	}
	for seed := range uint64(50) {
		c := api.Command{Kind: api.CmdKey, Body: mixed(33, seed)}
		checkCommand(t, c, plainCommand(c))
	}
}

// 16.2: a put has a name of 1 to 16 bytes, whichever, and a body of at most 4096.
func TestCommandPut(t *testing.T) {
	for name := range 300 {
		for _, body := range []int{0, 1, 33, 4096, 4097, 4098, 5000} {
			c := api.Command{Kind: api.CmdPut, Epoch: 63, Name: mixed(name, 4), Body: zeros[:body]}
			if name >= 1 && name <= 16 && body <= 4096 {
				checkCommand(t, c, plainCommand(c))
			} else {
				checkNoCommand(t, c)
			}
		}
	}
	for v := range 256 {
		c := api.Command{Kind: api.CmdPut, Name: string([]byte{byte(v)}), Body: strings.Repeat(string([]byte{byte(v)}), 3)}
		checkCommand(t, c, plainCommand(c))
	}
	for body := range 4200 {
		checkAnyCommand(t, api.Command{Kind: api.CmdPut, Name: "a", Body: zeros[:body]})
	}
	checkNoCommand(t, api.Command{Kind: api.CmdPut, Name: "a", Body: strings.Repeat("x", 1<<16)})
	checkNoCommand(t, api.Command{Kind: api.CmdPut, Name: strings.Repeat("x", 1<<16+1), Body: "a"})
}

// 16.2: a prune has neither a name nor a body.
func TestCommandPrune(t *testing.T) {
	for _, text := range []string{"a", "\x00", "0123456789abcdef", aKey, zeros[:4096]} {
		checkNoCommand(t, api.Command{Kind: api.CmdPrune, Name: text})
		checkNoCommand(t, api.Command{Kind: api.CmdPrune, Body: text})
		checkNoCommand(t, api.Command{Kind: api.CmdPrune, Name: text, Body: text})
	}
}

// 16.2: each cut of a command's bytes, and a byte more.
func TestReadCommandCuts(t *testing.T) {
	for _, c := range someCommands() {
		s := plainCommand(c)
		for cut := range len(s) {
			checkUnread(t, s[:cut])
			checkUnread(t, s[len(s)-cut:])
		}
		for v := range 256 {
			checkUnread(t, s+string([]byte{byte(v)}))
			checkUnread(t, string([]byte{byte(v)})+s)
		}
		checkUnread(t, s+s)
		checkUnread(t, plainText(s))
		checkCommand(t, c, s)
	}
}

// 16.2, T7: each byte of a command's turned, missing or there once more.
func TestReadCommandTurned(t *testing.T) {
	for _, c := range someCommands() {
		for _, s := range turned(plainCommand(c)) {
			checkAnyRead(t, s)
		}
	}
}

// 16.2: other numbers of texts than four.
func TestReadCommandCount(t *testing.T) {
	for _, c := range someCommands() {
		l := []string{string([]byte{byte(c.Kind)}), string([]byte{byte(c.Epoch)}), c.Name, c.Body}
		for n := range 4 {
			checkUnread(t, plainTexts(l[:n]...))
			checkUnread(t, plainTexts(l[n+1:]...))
			checkUnread(t, plainTexts(append(append([]string{}, l[:n]...), l[n+1:]...)...))
		}
		for _, more := range []string{"", "\x00", "a", c.Body} {
			checkUnread(t, plainTexts(append(l[:4:4], more)...))
			checkUnread(t, plainTexts(append([]string{more}, l...)...))
			checkUnread(t, plainTexts(append(l[:4:4], more, more)...))
		}
	}
	for n := range 12 {
		checkUnread(t, plainTexts(make([]string, n)...))
	}
}

// 16.2: a kind or an epoch of no byte, or of more than one, though the number would be the same.
func TestReadCommandWidth(t *testing.T) {
	for _, c := range someCommands() {
		kind, epoch := string([]byte{byte(c.Kind)}), string([]byte{byte(c.Epoch)})
		for _, ahead := range []string{"\x00", "\x00\x00\x00", kind, epoch} {
			checkUnread(t, plainTexts(ahead+kind, epoch, c.Name, c.Body))
			checkUnread(t, plainTexts(kind, ahead+epoch, c.Name, c.Body))
			checkUnread(t, plainTexts(kind+ahead, epoch, c.Name, c.Body))
			checkUnread(t, plainTexts(kind, epoch+ahead, c.Name, c.Body))
		}
		checkUnread(t, plainTexts("", epoch, c.Name, c.Body))
		checkUnread(t, plainTexts(kind, "", c.Name, c.Body))
		checkUnread(t, plainTexts("", "", c.Name, c.Body))
	}
}

// 16.2: every kind and epoch of a byte, with names and bodies at their edges.
func TestReadCommandFields(t *testing.T) {
	for kind := range 256 {
		for epoch := range 256 {
			for _, x := range [][2]string{{"", ""}, {"a", ""}, {"", aKey}, {"a", aKey}, {"", "a"}} {
				checkAnyRead(t, plainTexts(string([]byte{byte(kind)}), string([]byte{byte(epoch)}), x[0], x[1]))
			}
		}
	}
	for kind := range 6 {
		for _, name := range []int{0, 1, 16, 17, 256, 257} {
			for _, body := range []int{0, 1, 32, 33, 34, 4095, 4096, 4097} {
				checkAnyRead(t, plainTexts(string([]byte{byte(kind)}), "\x3f", zeros[:name], zeros[:body]))
				checkUnread(t, plainTexts(string([]byte{byte(kind)}), "\x40", zeros[:name], zeros[:body]))
			}
		}
	}
}

// 16.2, R1, T7: whatever bytes.
func TestReadCommandOfAnything(t *testing.T) {
	checkUnread(t, "")
	for _, s := range noise(20000, 5) {
		checkAnyRead(t, s)
		checkAnyRead(t, "\x00\x00\x00\x01\x02\x00\x00\x00\x01"+s)
		checkAnyRead(t, "\x00\x00\x00\x01\x02\x00\x00\x00\x01\x00\x00\x00\x00\x01"+s)
	}
	for i := range 3000 {
		checkAnyRead(t, mixed(i%60, uint64(i)))
	}
	for _, w := range someWords() {
		checkUnread(t, plainWord(w))
	}
}
