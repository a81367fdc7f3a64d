package wire

import (
	"sandglass/api"
)

// keySize is how many bytes the key of an epoch has.
const keySize = 33

// Command answers the bytes of a command: ErrArg, unless it may be.
func Command(c api.Command) (string, api.Errno) { return commandFields().write(c) }

// ReadCommand answers the command whose bytes s is: ErrSyntax, if it is that of none.
func ReadCommand(s string) (api.Command, api.Errno) { return commandFields().read(s) }

func commandFields() fields[api.Command] {
	return fields[api.Command]{
		count: 4,
		texts: func(c api.Command) []string {
			return []string{numberText(c.Kind), numberText(c.Epoch), c.Name, c.Body}
		},
		value: func(l []string) api.Command {
			return api.Command{Kind: textNumber(l[0]), Epoch: textNumber(l[1]), Name: l[2], Body: l[3]}
		},
		may: mayBeCommand,
	}
}

// mayBeCommand tells whether there may be such a command.
func mayBeCommand(c api.Command) bool {
	if c.Epoch < 0 || c.Epoch > api.MaxEpoch {
		return false
	}
	switch c.Kind {
	case api.CmdKey:
		return c.Name == "" && len(c.Body) == keySize
	case api.CmdPut:
		return c.Name != "" && len(c.Name) <= api.MaxName && len(c.Body) <= api.MaxBody
	case api.CmdPrune:
		return c.Name == "" && c.Body == ""
	}
	return false
}
