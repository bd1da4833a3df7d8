package mean

import (
	"retroact/api"
	"retroact/value"
)

func sameSend(a, b api.Send) bool {
	return a.To == b.To && a.Msg == b.Msg && value.Same(a.Args, b.Args)
}

func sameTimer(a, b api.Delay) bool {
	return a.Ticks == b.Ticks && a.To == b.To && a.Msg == b.Msg && value.Same(a.Args, b.Args)
}

func sameSpawn(a, b api.Spawn) bool {
	return a.Actor == b.Actor && value.Same(a.Args, b.Args) && a.Node == b.Node
}

func sameAsk(a, b api.Ask) bool {
	return a.Name == b.Name && value.Same(a.Args, b.Args) && a.Reply == b.Reply
}
