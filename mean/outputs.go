package mean

import (
	"retroact/api"
	"retroact/num"
	"retroact/value"
)

const (
	// maxDelay bounds the delay of a timer.
	maxDelay = 1 << 20
	// ownNode stands for the node of the parent of a new actor.
	ownNode = -1
)

// output executes a statement with an output, whose expressions have some values.
func (i *invocation) output(s *api.Stmt, vs []api.Value) {
	switch s.Op {
	case api.SSend:
		i.reserve()
		i.out.Sends = append(i.out.Sends, api.Send{To: vs[0].S, Msg: s.S, Args: copies(vs[1:])})
	case api.SAfter:
		ticks := between(vs[0], 1, maxDelay)
		i.reserve()
		i.out.Timers = append(i.out.Timers, api.Delay{Ticks: ticks, To: vs[1].S, Msg: s.S, Args: copies(vs[2:])})
	case api.SSpawn:
		i.spawn(s, vs)
	case api.SDo:
		i.reserve()
		i.out.Asks = append(i.out.Asks, api.Ask{Name: s.S, Args: copies(vs), Reply: s.T})
	}
}

// reserve checks that there is room for another output.
func (i *invocation) reserve() {
	if len(i.out.Sends)+len(i.out.Timers)+len(i.out.Spawns)+len(i.out.Asks) >= api.MaxOut {
		raise(api.FSize)
	}
}

func (i *invocation) spawn(s *api.Stmt, vs []api.Value) {
	node := ownNode
	if s.M == 1 {
		node, vs = between(vs[0], 0, api.MaxNodes-1), vs[1:]
	}
	i.reserve()
	path := i.call.Path + "." + num.Text(i.call.Kids+len(i.out.Spawns))
	// The length is all that may keep it from being a path.
	if !value.Path(path) {
		raise(api.FSize)
	}
	i.out.Spawns = append(i.out.Spawns, api.Spawn{Actor: s.S, Args: copies(vs), Node: node})
	if s.N >= 0 {
		i.store(s.N, reference(s.S, path))
	}
}
