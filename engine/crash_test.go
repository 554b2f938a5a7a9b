package engine_test

import (
	"math/rand/v2"
	"testing"

	"quota/api"
)

// drawPair: a new store, or one with so many counters that the pool can't hold all pages.
func drawPair(t *testing.T, rnd *rand.Rand) *pair {
	t.Helper()
	if rnd.IntN(3) > 0 {
		return paired(t, drawShape(rnd))
	}
	return filled(t, shaped(3+rnd.IntN(2), 60+rnd.IntN(200), 2), 30+rnd.IntN(10), 3)
}

// TestAgainstTheModel: drawn scripts without a crash: P2, and P8, for each step is held to a model that knows no pages.
func TestAgainstTheModel(t *testing.T) {
	t.Parallel()
	for run := range 200 {
		rnd := drawn(run)
		p, sc := drawPair(t, rnd), scale(rnd.IntN(int(scales)))
		for k := range 150 {
			p.step(sc.draw(rnd, p.model))
			if p.look(); k%10 == 0 {
				p.survey()
			}
			if p.model.free() <= p.model.promised() && rnd.IntN(20) == 0 {
				break
			}
		}
	}
}

// drawTraps: of restarts that give up.
func drawTraps(rnd *rand.Rand) []trap {
	var out []trap
	for range rnd.IntN(4) {
		out = append(out, trap{1 + rnd.IntN(25), drawLoss(rnd)})
	}
	return out
}

// TestCrashes: drawn scripts on a disk that gives up again and again, within restarts too: P3, P20.4, P20.5.
func TestCrashes(t *testing.T) {
	t.Parallel()
	crashes := 0
	for run := range 250 {
		rnd := drawn(1000 + run)
		p, sc := drawPair(t, rnd), scale(rnd.IntN(int(scales)))
		for range 1 + rnd.IntN(8) {
			p.arm(1+rnd.IntN(40), drawLoss(rnd))
			within, up := api.Step{}, true
			for range 1 + rnd.IntN(80) {
				within = sc.draw(rnd, p.model)
				if up = p.step(within); !up {
					break
				}
			}
			if up {
				p.crash(drawLoss(rnd))
				within = api.Step{}
			}
			crashes++
			p.back(within, drawTraps(rnd)...)
			if rnd.IntN(3) == 0 {
				p.twice()
			}
		}
	}
	if crashes < 800 {
		t.Errorf("a poor draw: %d crashes", crashes)
	}
}

// losses: nothing is kept; and, by turns, some of the first four pending writes, or one of them torn, or all that are pending.
func losses(turn, count int) []api.Loss {
	all := []api.Loss{{Keep: []uint64{1<<64 - 1}, Torn: -1}}
	for _, keep := range []uint64{1, 2, 6, 9} {
		all = append(all, api.Loss{Keep: []uint64{keep}, Torn: -1})
	}
	for torn := range 4 {
		for _, offset := range []int{5, 511} {
			all = append(all, api.Loss{Keep: []uint64{1<<torn - 1}, Torn: torn, Offset: offset}, api.Loss{Torn: torn, Offset: offset})
		}
	}
	out := []api.Loss{{Torn: -1}}
	for k := range count {
		out = append(out, all[(turn*count+k)%len(all)])
	}
	return out
}

// full: a store of three pages that are in use, of which the pool holds two.
func full(t *testing.T) *pair {
	t.Helper()
	p := filled(t, shaped(3, 150, 2), 33, 2)
	p.step(checkpoint())
	p.crash(api.Loss{})
	p.back(api.Step{})
	return p
}

// busy: a script with every call that writes; a, b and c stand in the first page, x and y in the second one, all sums in the third.
func busy() []api.Step {
	a, b, c, x, y := nth(0), nth(1), nth(2), nth(31), nth(32)
	return []api.Step{
		begin(), add(1, a, 3), add(1, x, -3), begin(), add(2, b, 7), checkpoint(), add(2, y, 1), begin(), add(3, a, -9),
		commit(1), evict(1), add(2, x, 4), create(140, 2, 0, 9, 5), flush(0), add(3, 140, 2), add(3, y, -1), begin(), abort(2), list(),
		create(141, 3, -5, 5, -5), add(4, 141, 10), add(4, a, 1), checkpoint(), sum(1), commit(3), add(4, y, 5), evict(2), commit(4),
		begin(), add(5, 141, 0), add(5, 140, -1), flush(1), abort(5), begin(), add(6, c, 1), add(6, x, 1), checkpoint(), flush(2), add(6, x, -5),
	}
}

// TestEveryCrash: at each changing call of a script; behind the restart the script goes on.
func TestEveryCrash(t *testing.T) {
	t.Parallel()
	base, script := full(t), busy()
	plain := base.again(t)
	plain.all(script)
	calls := plain.disk.Calls()
	if calls < 150 {
		t.Fatalf("a poor script: %d changing calls", calls)
	}
	for n := 1; n <= calls; n++ {
		for k, loss := range losses(n, 4) {
			p := base.again(t)
			p.arm(n, loss)
			within, left := p.all(script)
			if !p.disk.Down() {
				t.Fatal("the disk was to give up")
			}
			p.back(within)
			if k == 1 {
				p.all(script[len(script)-left:])
				p.survey()
			}
		}
	}
}

// TestEveryCrashOfARestart: at each of its changing calls, and then, for some, once more within the next one.
func TestEveryCrashOfARestart(t *testing.T) {
	t.Parallel()
	base, script := full(t), busy()
	for turn, cut := range []int{9, 17, 26, len(script)} {
		last := base.again(t)
		last.all(script[:cut])
		made := func() *pair { return last.crashed(t) }
		plain := made()
		before := plain.disk.Calls()
		plain.back(api.Step{})
		for n := 1; n <= plain.disk.Calls()-before; n++ {
			for _, loss := range losses(n+turn, 3) {
				made().back(api.Step{}, trap{n, loss})
			}
			loss := losses(n+turn, 1)[1]
			made().back(api.Step{}, trap{n, loss}, trap{1 + n*7%20, loss})
		}
	}
}
