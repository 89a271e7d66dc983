package tests

import (
	"fmt"
	"slices"
	"strings"
	"testing"

	"loop.example/g00052/impl"
)

// P21: chapter 10, what is a link.
func TestLimitsOfLinks(t *testing.T) {
	// Of each end ten messages are told, of which five were sent, four taken and three
	// acknowledged; the fifth is on its way.
	link := func(change func(l *impl.Link)) bool {
		var l impl.Link
		for end := range 2 {
			l.Ends[end] = impl.End{Out: manyTexts(10), Sent: 5, Acked: 3, Taken: 4, In: manyTexts(4)}
			l.Ways[0][end] = []impl.Unit{{Ack: 4, Seq: 5, Data: manyTexts(5)[4]}}
		}
		change(&l)
		return impl.LinkOk(l)
	}
	var limits []limit
	for end := range 2 {
		name := fmt.Sprint(" of end ", end)
		limits = append(limits,
			upTo("bytes of a message"+name, 60, func(n int) bool { return link(func(l *impl.Link) { l.Ends[end].Out[9] = strings.Repeat("x", n) }) }),
			limit{"messages" + name, 5, 100, func(n int) bool { return link(func(l *impl.Link) { l.Ends[end].Out = manyTexts(n) }) }},
			limit{"Sent" + name, 5, 10, func(n int) bool { return link(func(l *impl.Link) { l.Ends[end].Sent = n }) }},
			upTo("Sent behind Acked"+name, 8, func(n int) bool {
				return link(func(l *impl.Link) { l.Ends[end].Acked, l.Ends[end].Sent, l.Ends[end].Out = 3, 3+n, manyTexts(20) })
			}),
			limit{"Acked" + name, 0, 4, func(n int) bool { return link(func(l *impl.Link) { l.Ends[end].Acked = n }) }},
			limit{"Taken" + name, 4, 4, func(n int) bool { return link(func(l *impl.Link) { l.Ends[end].Taken = n }) }},
			limit{"those that were taken" + name, 4, 5, func(n int) bool {
				return link(func(l *impl.Link) { l.Ends[end].Taken, l.Ends[end].In = n, manyTexts(n) })
			}},
			limit{"Ack" + name, 0, 4, func(n int) bool { return link(func(l *impl.Link) { l.Ways[1][end] = []impl.Unit{{Ack: n}} }) }},
			limit{"Seq" + name, 0, 5, func(n int) bool {
				data := ""
				if n > 0 {
					data = fmt.Sprint("text ", n)
				}
				return link(func(l *impl.Link) { l.Ways[1][end] = []impl.Unit{{Seq: n, Data: data}} })
			}},
		)
		for way := range 2 {
			limits = append(limits, upTo(fmt.Sprint("units on way ", way, name), 100, func(n int) bool {
				return link(func(l *impl.Link) { l.Ways[way][end] = make([]impl.Unit, n) })
			}))
		}
	}
	limits = append(limits, limit{"Use", 0, 1, func(n int) bool { return link(func(l *impl.Link) { l.Use = n }) }})
	checkLimits(t, limits)
}

// P21: chapter 10, what is done with a link.
func TestLimitsOfLinkOps(t *testing.T) {
	does := func(l impl.Link, op impl.LinkOp) bool {
		_, ok := impl.DoLink(l, op)
		return ok
	}
	var limits []limit
	for end := range 2 {
		name := fmt.Sprint(" of end ", end)
		with := func(messages, sent, acked, units int) impl.Link {
			var l impl.Link
			l.Ends[end] = impl.End{Out: manyTexts(messages), Sent: sent, Acked: acked}
			l.Ends[1-end] = impl.End{Taken: acked, In: manyTexts(acked)}
			l.Ways[0][1-end] = make([]impl.Unit, units)
			return l
		}
		limits = append(limits,
			upTo("bytes that are told"+name, 60, func(n int) bool {
				return does(impl.Link{}, impl.LinkOp{Kind: impl.LinkTell, End: end, Text: strings.Repeat("x", n)})
			}),
			upTo("messages ahead of one that is told"+name, 99, func(n int) bool { return does(with(n, 0, 0, 0), impl.LinkOp{Kind: impl.LinkTell, End: end, Text: "x"}) }),
			limit{"messages ahead of one that is sent" + name, 5, noMost, func(n int) bool { return does(with(n, 4, 4, 0), impl.LinkOp{Kind: impl.LinkSend, End: end}) }},
			upTo("those that are not acknowledged ahead of one that is sent"+name, 7, func(n int) bool { return does(with(20, 4+n, 4, 0), impl.LinkOp{Kind: impl.LinkSend, End: end}) }),
			upTo("units ahead of one that is sent"+name, 99, func(n int) bool { return does(with(20, 4, 4, n), impl.LinkOp{Kind: impl.LinkSend, End: end}) }),
			upTo("units ahead of three that are sent again"+name, 97, func(n int) bool { return does(with(20, 7, 4, n), impl.LinkOp{Kind: impl.LinkAgain, End: end}) }),
			upTo("units ahead of one that acknowledges"+name, 99, func(n int) bool { return does(with(20, 4, 4, n), impl.LinkOp{Kind: impl.LinkAgain, End: end}) }),
			limit{"units ahead of one that is carried" + name, 1, 100, func(n int) bool { return does(with(20, 4, 4, n), impl.LinkOp{Kind: impl.LinkCarry, End: 1 - end}) }},
			limit{"units ahead of one that is lost" + name, 1, 100, func(n int) bool { return does(with(20, 4, 4, n), impl.LinkOp{Kind: impl.LinkLose, End: 1 - end}) }},
		)
	}
	// At each end all may be done.
	var l impl.Link
	for end := range 2 {
		l.Ends[end] = impl.End{Out: manyTexts(5), Sent: 2, Acked: 1, Taken: 1, In: manyTexts(1)}
		l.Ways[0][end] = make([]impl.Unit, 2)
	}
	for kind := impl.LinkTell; kind <= impl.LinkCarry+1; kind++ {
		limits = append(limits, limit{fmt.Sprint("End of Kind ", kind), 0, 1, func(n int) bool { return does(l, impl.LinkOp{Kind: kind, End: n}) }})
		if kind != impl.LinkTell {
			limits = append(limits, upTo(fmt.Sprint("bytes of Kind ", kind), 0, func(n int) bool { return does(l, impl.LinkOp{Kind: kind, Text: strings.Repeat("x", n)}) }))
		}
	}
	limits = append(limits,
		limit{"Kind", 1, 6, func(n int) bool { return does(l, impl.LinkOp{Kind: n}) }},
		limit{"End of LinkOver", 0, 0, func(n int) bool { return does(l, impl.LinkOp{Kind: impl.LinkOver, End: n}) }},
		upTo("ops", 400, func(n int) bool { return impl.RunLink(l, make([]impl.LinkOp, n)).Ends[0].Sent == 2 }),
		upTo("messages that Drain brings", 100, func(n int) bool {
			drained, ok := impl.Drain(impl.Link{Ends: [2]impl.End{{Out: manyTexts(n)}, {Out: manyTexts(n)}}})
			return ok && drained.Ends[0].Taken == n && drained.Ends[1].Acked == n
		}))
	checkLimits(t, limits)
}

// P21: chapter 11.
func TestLimitsOfVoice(t *testing.T) {
	coders := map[string]func(c impl.Coder) bool{
		"Squeeze": func(c impl.Coder) bool {
			_, _, ok := impl.Squeeze(c, []int{1})
			return ok
		},
		"Expand": func(c impl.Coder) bool {
			_, _, ok := impl.Expand(c, []int{1})
			return ok
		},
		"FrameOf": func(c impl.Coder) bool {
			_, _, ok := impl.FrameOf(c, make([]int, 30))
			return ok
		},
	}
	squeezes := func(list []int) bool {
		_, _, ok := impl.Squeeze(impl.Coder{}, list)
		return ok
	}
	expands := func(list []int) bool {
		_, _, ok := impl.Expand(impl.Coder{}, list)
		return ok
	}
	frames := func(list []int) bool {
		_, _, ok := impl.FrameOf(impl.Coder{}, list)
		return ok
	}
	opens := func(last int, step int) bool {
		_, _, ok := impl.OfFrame(last, [16]byte{byte(step)})
		return ok
	}
	limits := []limit{
		upTo("levels", 300, func(n int) bool { return impl.VoiceOk(make([]int, n)) }),
		{"a level", -32767, 32767, func(n int) bool { return impl.VoiceOk([]int{0, n}) }},
		upTo("levels of Squeeze", 300, func(n int) bool { return squeezes(make([]int, n)) }),
		{"a level of Squeeze", -32767, 32767, func(n int) bool { return squeezes([]int{n}) }},
		upTo("numbers of Expand", 300, func(n int) bool { return expands(make([]int, n)) }),
		{"a number of Expand", 0, 15, func(n int) bool { return expands([]int{n}) }},
		{"levels of FrameOf", 30, 30, func(n int) bool { return frames(make([]int, n)) }},
		{"a level of FrameOf", -32767, 32767, func(n int) bool { return frames(append(make([]int, 29), n)) }},
		{"Last of OfFrame", -32767, 32767, func(n int) bool { return opens(n, 0) }},
		upTo("the first byte of OfFrame", 48, func(n int) bool { return opens(0, n) }),
		{"a level of ToLaw", -32767, 32767, func(n int) bool { return impl.ToLaw(n) != 0 }},
		{"a number of FromLaw", 0, 255, func(n int) bool { return impl.FromLaw(n) != 0 }},
		{"a step of StepSize", 0, 48, func(n int) bool { return impl.StepSize(n) != 0 }},
		// What Expand tells is made to the nearer end.
		{"a Last from which one more is whole", -32767, 32766, func(n int) bool {
			list, _, ok := impl.Expand(impl.Coder{Last: n, Step: 2}, []int{0})
			return ok && list[0] == n+1
		}},
		{"a Last from which one less is whole", -32766, 32767, func(n int) bool {
			list, _, ok := impl.Expand(impl.Coder{Last: n, Step: 2}, []int{8})
			return ok && list[0] == n-1
		}},
		{"a Step from which one less is whole", 1, 48, func(n int) bool {
			_, c, ok := impl.Expand(impl.Coder{Step: n}, []int{0})
			return ok && c.Step == n-1
		}},
		{"a Step from which eight more are whole", 0, 40, func(n int) bool {
			_, c, ok := impl.Expand(impl.Coder{Step: n}, []int{7})
			return ok && c.Step == n+8
		}},
	}
	for name, fine := range coders {
		limits = append(limits,
			limit{"Last of " + name, -32767, 32767, func(n int) bool { return fine(impl.Coder{Last: n}) }},
			limit{"Step of " + name, 0, 48, func(n int) bool { return fine(impl.Coder{Step: n}) }})
	}
	checkLimits(t, limits)
}

// P21: chapter 12.
func TestLimitsOfPlayers(t *testing.T) {
	with := func(change func(p *impl.Player)) impl.Player {
		p := impl.Player{Next: 50, Depth: 3, Store: []impl.Packet{{Seq: 55}}}
		change(&p)
		return p
	}
	fine := func(change func(p *impl.Player)) bool { return impl.PlayerOk(with(change)) }
	puts := func(p impl.Player, k impl.Packet) bool {
		_, ok := impl.Put(p, k)
		return ok
	}
	late := func(seq int) int {
		p, _ := impl.Put(with(func(p *impl.Player) {}), impl.Packet{Seq: seq})
		return p.Late
	}
	plays := func(p impl.Player) bool {
		_, _, ok := impl.Play(p)
		return ok
	}
	hears := func(packets, depth, count int) bool {
		_, _, ok := impl.Hear12(storeFrom(5, packets), depth, count)
		return ok
	}
	steady := func(list []impl.Packet) bool {
		_, twice := impl.Steady(list)
		return twice >= 0
	}
	checkLimits(t, []limit{
		{"Next", 0, 1000000, func(n int) bool { return impl.PlayerOk(impl.Player{Next: n, Depth: 1}) }},
		{"Depth", 1, 12, func(n int) bool { return fine(func(p *impl.Player) { p.Depth = n }) }},
		{"Late", 0, 1000000000, func(n int) bool { return fine(func(p *impl.Player) { p.Late = n }) }},
		{"Gaps", 0, 1000000000, func(n int) bool { return fine(func(p *impl.Player) { p.Gaps = n }) }},
		{"Last", -32767, 32767, func(n int) bool { return fine(func(p *impl.Player) { p.Last = n }) }},
		{"Seq in the Store, by Next", 50, 61, func(n int) bool { return fine(func(p *impl.Player) { p.Store = []impl.Packet{{Seq: n}} }) }},
		{"Seq in the Store", noLeast, 1000000, func(n int) bool {
			return impl.PlayerOk(impl.Player{Next: 999995, Depth: 1, Store: []impl.Packet{{Seq: n}}})
		}},
		{"Tick in the Store", 0, 1000000000, func(n int) bool {
			return fine(func(p *impl.Player) { p.Store = []impl.Packet{{Seq: 50, Tick: n}} })
		}},
		{"Seq behind another one", 56, noMost, func(n int) bool {
			return fine(func(p *impl.Player) { p.Store = append(p.Store, impl.Packet{Seq: n}) })
		}},
		upTo("Packets in the Store", 12, func(n int) bool { return fine(func(p *impl.Player) { p.Store = storeFrom(50, n) }) }),
		{"Seq that is put", 0, 1000000, func(n int) bool { return puts(with(func(p *impl.Player) {}), impl.Packet{Seq: n}) }},
		{"Tick that is put", 0, 1000000000, func(n int) bool { return puts(with(func(p *impl.Player) {}), impl.Packet{Seq: 50, Tick: n}) }},
		{"Seq that is not thrown away", 50, 61, func(n int) bool { return late(n) == 0 }},
		{"Late ahead of a Put", 0, 999999999, func(n int) bool { return puts(with(func(p *impl.Player) { p.Late = n }), impl.Packet{Seq: 1}) }},
		{"Next of Play", 0, 999999, func(n int) bool { return plays(impl.Player{Next: n, Depth: 1}) }},
		{"Gaps of Play", 0, 999999999, func(n int) bool { return plays(with(func(p *impl.Player) { p.Gaps = n })) }},
		{"Packets of Ready", 3, 12, func(n int) bool {
			return impl.Ready(impl.Player{Next: 50, Depth: min(max(n, 3), 12), Store: storeFrom(50, n)})
		}},
		{"the Seq of Ready", 53, 61, func(n int) bool {
			return impl.Ready(with(func(p *impl.Player) { p.Store = []impl.Packet{{Seq: n}} }))
		}},
		{"packets of Hear12", 1, 60, func(n int) bool { return hears(n, 1, 0) }},
		{"depth", 1, 12, func(n int) bool { return hears(1, n, 0) }},
		{"count", 0, 60, func(n int) bool { return hears(1, 1, n) }},
		{"packets of Steady", 1, 60, func(n int) bool { return steady(make([]impl.Packet, n)) }},
		{"Seq of Steady", 0, 1000000, func(n int) bool { return steady([]impl.Packet{{Seq: n}}) }},
		{"Tick of Steady", 0, 1000000000, func(n int) bool { return steady([]impl.Packet{{Tick: n}}) }},
		{"Tick behind another one", 700, 1000000000, func(n int) bool {
			_, _, ok := impl.Hear12([]impl.Packet{{Tick: 700}, {Tick: n}}, 1, 0)
			return ok
		}},
	})
}

// P21: chapter 13.
func TestLimitsOfTones(t *testing.T) {
	tones := func(digit, size, phase, n int) bool {
		_, ok := impl.Tone13(digit, size, phase, n)
		return ok
	}
	power := func(list []int, step int) bool {
		_, ok := impl.Power13(list, step)
		return ok
	}
	digits := func(list []int) bool {
		_, ok := impl.Digits13(list)
		return ok
	}
	tone, _ := impl.Tone13(5, 1000, 0, 300)
	checkLimits(t, []limit{
		{"digit", 0, 15, func(n int) bool { return tones(n, 1, 1, 1) }},
		{"size", 0, 16000, func(n int) bool { return tones(1, n, 1, 1) }},
		{"phase", 0, 255, func(n int) bool { return tones(1, 1, n, 1) }},
		{"n", 0, 1024, func(n int) bool { return tones(1, 1, 1, n) }},
		upTo("levels of Power13", 128, func(n int) bool { return power(make([]int, n), 1) }),
		{"a level of Power13", -32767, 32767, func(n int) bool { return power([]int{n}, 1) }},
		{"step of Power13", 0, 255, func(n int) bool { return power([]int{1}, n) }},
		{"levels of Digit", 128, 128, func(n int) bool { return impl.Digit(tone[:n]) == 5 }},
		{"a level of Digit", -32767, 32767, func(n int) bool {
			loud, _ := impl.Tone13(5, 16000, 0, 128)
			loud[0] = n
			return impl.Digit(loud) == 5
		}},
		upTo("levels of Digits13", 1024, func(n int) bool { return digits(make([]int, n)) }),
		{"a level of Digits13", -32767, 32767, func(n int) bool { return digits([]int{n}) }},
		{"levels of two windows", 256, noMost, func(n int) bool {
			told, ok := impl.Digits13(tone[:n])
			return ok && told == "5"
		}},
	})
}

// P21: chapter 14.
func TestLimitsOfSamples(t *testing.T) {
	many := func(n int) []impl.Sample { return slices.Repeat([]impl.Sample{{Re: 1}}, n) }
	matches := func(list, known int) bool {
		_, ok := impl.Match14(many(list), many(known))
		return ok
	}
	learns := func(list, want, taps int) bool {
		missed, all, ok := impl.Learn(many(list), many(want), taps, 0.5)
		return ok && len(missed) == list && len(all) == taps
	}
	checkLimits(t, []limit{
		upTo("samples of Sums", 200, func(n int) bool {
			narrow, wide := impl.Sums(many(n))
			return narrow.Re == float32(n) && wide.Re == float64(n)
		}),
		{"samples of Match14", 1, 200, func(n int) bool { return matches(n, n) }},
		{"samples that are known", 7, 7, func(n int) bool { return matches(7, n) }},
		{"n of Turns", 0, 200, func(n int) bool {
			turns, ok := impl.Turns(impl.Sample{Im: 1}, n)
			return ok && len(turns) == n
		}},
		{"taps", 1, 8, func(n int) bool { return learns(3, 3, n) }},
		upTo("samples of Learn", 200, func(n int) bool { return learns(n, n, 1) }),
		{"samples that are wanted", 7, 7, func(n int) bool { return learns(7, n, 1) }},
	})
}

// P21: chapter 15.
func TestLimitsOfBursts(t *testing.T) {
	many := func(n int) []impl.Sample { return slices.Repeat([]impl.Sample{{Re: 1, Im: 1}}, n) }
	bursts := func(bits []int) bool {
		_, ok := impl.Burst(bits)
		return ok
	}
	airs := func(burst, noise int) bool {
		air, ok := impl.Air15(many(burst), impl.Sample{Re: 1}, many(noise))
		return ok && len(air) == burst
	}
	keys := func(book []int, frame int) bool {
		_, ok := impl.Key15(book, frame)
		return ok
	}
	stirs := func(bits []int, key int) bool {
		stirred, ok := impl.Stir15(bits, key)
		return ok && len(stirred) == len(bits)
	}
	// Samples that are those of a burst, so that no gain is 0.
	carried := func(n int) []impl.Sample {
		h := max(n-26, 0) / 2
		return append(append(many(h), impl.Train()...), many(max(n-26, 0)-h)...)[:n]
	}
	limits := []limit{
		{"two bits of Burst", 1, 160, func(n int) bool { return bursts(make([]int, 2*n)) }},
		{"bits of Burst by one", 2, 2, func(n int) bool { return bursts(make([]int, n)) }},
		{"bits of Burst by one at its end", 320, 320, func(n int) bool { return bursts(make([]int, n)) }},
		{"a bit of Burst", 0, 1, func(n int) bool { return bursts([]int{0, n}) }},
		upTo("samples of Air15", 200, func(n int) bool { return airs(n, n) }),
		{"noise of Air15", 7, 7, func(n int) bool { return airs(7, n) }},
		{"samples of Gain15", 27, 200, func(n int) bool {
			_, ok := impl.Gain15(carried(n))
			return ok
		}},
		{"samples of Bits15", 27, 200, func(n int) bool {
			bits, ok := impl.Bits15(carried(n))
			return ok && len(bits) == 2*(n-26)
		}},
		{"numbers of the book", 1, 64, func(n int) bool { return keys(slices.Repeat([]int{9}, n), 5) }},
		{"a number of the book", 1, 65535, func(n int) bool { return keys([]int{9, n}, 0) }},
		{"frame of Key15", 0, 1000000, func(n int) bool { return keys([]int{9}, n) }},
		upTo("bits of Stir15", 320, func(n int) bool { return stirs(make([]int, n), 5) }),
		{"a bit of Stir15", 0, 1, func(n int) bool { return stirs([]int{n}, 5) }},
		{"key of Stir15", 1, 65535, func(n int) bool { return stirs([]int{1}, n) }},
		{"seed of Hop", 0, 65535, func(n int) bool { return impl.Hop(n, 5, 7) >= 0 }},
		{"frame of Hop", 0, 1000000, func(n int) bool { return impl.Hop(5, n, 7) >= 0 }},
		{"channels of Hop", 1, 64, func(n int) bool { return impl.Hop(5, 7, n) >= 0 }},
	}
	for name, weave := range map[string]func(bits []int, rows int) ([]int, bool){"Weave15": impl.Weave15, "Unweave15": impl.Unweave15} {
		weaves := func(bits []int, rows int) bool {
			woven, ok := weave(bits, rows)
			return ok && len(woven) == len(bits)
		}
		limits = append(limits,
			upTo("bits of "+name, 320, func(n int) bool { return weaves(make([]int, n), 1) }),
			limit{"a bit of " + name, 0, 1, func(n int) bool { return weaves([]int{n, 0}, 2) }},
			limit{"rows of " + name, 1, 16, func(n int) bool { return weaves(make([]int, max(n, 0)), n) }},
			limit{"rows of no bits of " + name, 1, 16, func(n int) bool { return weaves(nil, n) }},
			limit{"bits of " + name + " that are divided", 7, 7, func(n int) bool { return weaves(make([]int, n), 7) }})
	}
	checkLimits(t, limits)
}
