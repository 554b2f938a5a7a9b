package engine

import "quota/api"

// stop: what gives a call up, from wherever it is met.
type stop struct{ e api.Errno }

func giveUp(e api.Errno) { panic(stop{e: e}) }

// must: the first error of a layer below, be it a number or a fault around one, ends the call.
func must(err error) {
	if e := api.Code(err); e != api.OK {
		giveUp(e)
	}
}

// asFault lets go on what no call of this package has thrown: that would be a mistake, not an answer.
func asFault(call string, met any) *api.Fault {
	s, ok := met.(stop)
	if !ok {
		panic(met)
	}
	return &api.Fault{Call: call, Err: s.e}
}

// call: one of an open engine. Whatever it was that met a disk that has given up, the engine is ended by it.
func (e *Engine) call(name string, do func()) (err error) {
	defer func() {
		if met := recover(); met != nil {
			f := asFault(name, met)
			e.ended = e.ended || f.Err == api.ErrDown
			err = f
		}
	}()
	if e.ended {
		giveUp(api.ErrDown)
	}
	do()
	return nil
}
