package cable_test

import (
	"math/big"
	"math/rand"
	"testing"

	"isobath/api"
	"isobath/cable"
)

// P4.2 and P4.3: the chapter's examples.
func TestExamplesOfPower(t *testing.T) {
	l, e := cable.Currents(example())
	same(t, "currents", l, e, []api.Span{span(300, 450), span(300, 450), span(200, 300), span(0, 50)}, api.OK)
	l, e = cable.Voltages(example())
	same(t, "voltages", l, e, []api.Span{span(10000, 10000), span(9910, 9970), span(9610, 9770), span(9885, 9970)}, api.OK)
	x, e := cable.Within(example())
	same(t, "within", x, e, []api.Answer{api.Yes, api.Yes, api.Yes, api.Yes}, api.OK)
	x, e = cable.Fed(example())
	same(t, "fed", x, e, []api.Answer{api.Yes, api.Yes, api.Open, api.Open}, api.OK)
}

// P4.2: each drop is rounded outward, by itself, and not only their sum.
func TestDropsAreRounded(t *testing.T) {
	c := chain(4)
	c.Supply = span(50, 60)
	for k, ohms := range []api.Span{{}, span(999, 1001), span(1, 1), span(1500, 1500)} {
		c.Nodes[k].Ohms, c.Nodes[k].Load = ohms, exactly(0)
	}
	c.Nodes[3].Load = exactly(1)
	l, e := cable.Voltages(c)
	same(t, "1 mA", l, e, []api.Span{span(50, 60), span(48, 60), span(47, 60), span(45, 59)}, api.OK)
	c.Nodes[3].Load = exactly(1000)
	l, e = cable.Voltages(c)
	same(t, "1000 mA", l, e, []api.Span{span(50, 60), span(-951, -939), span(-952, -940), span(-2452, -2440)}, api.OK)
}

// P4.2: currents and voltages at all limits, which are far beyond MaxValue.
func TestPowerAtLimits(t *testing.T) {
	c := greatest()
	currents, e := cable.Currents(c)
	voltages, f := cable.Voltages(c)
	if e != api.OK || f != api.OK || len(currents) != 60 || len(voltages) != 60 {
		t.Fatal(e, f)
	}
	volts := big.NewInt(1 << 26)
	for k := range c.Nodes {
		amps := int64(60-k) << 16
		if currents[k] != exactly(amps) {
			t.Error(k, currents[k])
		}
		if k > 0 {
			d := new(big.Int).Mul(big.NewInt(amps), big.NewInt(1<<24))
			d.Neg(d).Div(d, big.NewInt(1000)) // the greater end of the drop, below 0
			volts.Add(volts, d)
		}
		if !volts.IsInt64() || voltages[k].Lo != volts.Int64() {
			t.Error(k, voltages[k], volts)
		}
	}
	fed, e := cable.Fed(c)
	if e != api.OK || fed[0] != api.Yes || fed[1] != api.No || fed[59] != api.No {
		t.Error(fed, e)
	}
}

// P4.2 and P4.3: a cable of the node 0 alone.
func TestPowerOfOne(t *testing.T) {
	c := chain(1)
	c.Supply, c.Nodes[0].Load, c.Nodes[0].Limit, c.Nodes[0].Least = span(3, 5), span(1, 2), 1, 5
	l, e := cable.Currents(c)
	same(t, "currents", l, e, []api.Span{span(1, 2)}, api.OK)
	l, e = cable.Voltages(c)
	same(t, "voltages", l, e, []api.Span{span(3, 5)}, api.OK)
	x, e := cable.Within(c)
	same(t, "within", x, e, []api.Answer{api.Open}, api.OK)
	x, e = cable.Fed(c)
	same(t, "fed", x, e, []api.Answer{api.Open}, api.OK)
}

// P4.3: a limit and a least voltage at, just below and just above both ends.
func TestAnswersAtEnds(t *testing.T) {
	limits := map[int64]api.Answer{199: api.No, 200: api.Open, 299: api.Open, 300: api.Yes, 301: api.Yes, 0: api.No, 60 << 16: api.Yes}
	for limit, want := range limits {
		c := example()
		c.Nodes[2].Limit = limit
		if l, e := cable.Within(c); e != api.OK || l[2] != want || l[1] != api.Yes || l[3] != api.Yes {
			t.Error(limit, l, e)
		}
	}
	leasts := map[int64]api.Answer{0: api.Yes, 9609: api.Yes, 9610: api.Yes, 9611: api.Open, 9770: api.Open, 9771: api.No, 1 << 26: api.No}
	for least, want := range leasts {
		c := example()
		c.Nodes[2].Least = least
		if l, e := cable.Fed(c); e != api.OK || l[2] != want || l[1] != api.Yes || l[3] != api.Open {
			t.Error(least, l, e)
		}
	}
	for least, want := range map[int64]api.Answer{10000: api.Yes, 10001: api.No} {
		c := example()
		c.Nodes[0].Least = least
		if l, e := cable.Fed(c); e != api.OK || l[0] != want {
			t.Error(least, l, e)
		}
	}
	for limit, want := range map[int64]api.Answer{299: api.No, 300: api.Open, 449: api.Open, 450: api.Yes} {
		c := example()
		c.Nodes[0].Limit = limit
		if l, e := cable.Within(c); e != api.OK || l[0] != want {
			t.Error(limit, l, e)
		}
	}
}

// P4.2 and P4.3: random cables, by the definitions.
func TestPower(t *testing.T) {
	r := rand.New(rand.NewSource(3))
	for range 400 {
		c := someCable(r, 20)
		var amps, volts []api.Span
		var within, fed []api.Answer
		for k, n := range c.Nodes {
			i, v := currentOf(c, k), voltageOf(c, k)
			amps, volts = append(amps, i), append(volts, v)
			within = append(within, told(i.Hi <= n.Limit, i.Lo > n.Limit))
			fed = append(fed, told(v.Lo >= n.Least, v.Hi < n.Least))
		}
		l, e := cable.Currents(c)
		same(t, "currents", l, e, amps, api.OK)
		l, e = cable.Voltages(c)
		same(t, "voltages", l, e, volts, api.OK)
		x, e := cable.Within(c)
		same(t, "within", x, e, within, api.OK)
		x, e = cable.Fed(c)
		same(t, "fed", x, e, fed, api.OK)
	}
}

// told returns an answer from whether it is Yes, and whether it is No.
func told(yes, no bool) api.Answer {
	switch {
	case yes:
		return api.Yes
	case no:
		return api.No
	}
	return api.Open
}

// truth is what is true of a cable: the supply voltage, and for each node its
// load and the resistance of its segment.
type truth struct {
	supply      *big.Rat
	loads, ohms []*big.Rat
}

// someTruth returns numbers within all spans of a cable.
func someTruth(r *rand.Rand, c api.Cable) truth {
	x := truth{supply: pick(r, c.Supply)}
	for _, n := range c.Nodes {
		x.loads, x.ohms = append(x.loads, pick(r, n.Load)), append(x.ohms, pick(r, n.Ohms))
	}
	return x
}

// current returns the true current in a segment.
func (x truth) current(c api.Cable, k int) *big.Rat {
	sum := new(big.Rat)
	for _, j := range subtreeOf(c, k) {
		sum.Add(sum, x.loads[j])
	}
	return sum
}

// voltage returns the true voltage at a node.
func (x truth) voltage(c api.Cable, k int) *big.Rat {
	v := new(big.Rat).Set(x.supply)
	for _, j := range pathOf(c, k) {
		drop := x.current(c, j)
		drop.Mul(drop, x.ohms[j]).Quo(drop, big.NewRat(1000, 1))
		v.Sub(v, drop)
	}
	return v
}

// P4.9 and G1: true currents and voltages lie in their spans, and agree with
// the answers that are certain.
func TestEveryLoad(t *testing.T) {
	r := rand.New(rand.NewSource(4))
	for range 400 {
		c := someCable(r, 10)
		x := someTruth(r, c)
		amps, _ := cable.Currents(c)
		volts, _ := cable.Voltages(c)
		within, _ := cable.Within(c)
		fed, _ := cable.Fed(c)
		for k, n := range c.Nodes {
			i, v := x.current(c, k), x.voltage(c, k)
			if !inside(amps[k], i) || !inside(volts[k], v) {
				t.Fatal(c, k, amps[k], i, volts[k], v)
			}
			fits, feeds := i.Cmp(big.NewRat(n.Limit, 1)) <= 0, v.Cmp(big.NewRat(n.Least, 1)) >= 0
			if within[k] != api.Open && fits != (within[k] == api.Yes) || fed[k] != api.Open && feeds != (fed[k] == api.Yes) {
				t.Fatal(c, k, within[k], fits, fed[k], feeds)
			}
		}
	}
}

// P4.9: narrower spans give spans in the former ones, and answers that stay.
func TestNarrower(t *testing.T) {
	r := rand.New(rand.NewSource(5))
	for range 400 {
		c := someCable(r, 15)
		d := kept(c)
		d.Supply = narrower(r, c.Supply)
		for k := range d.Nodes {
			d.Nodes[k].Load, d.Nodes[k].Ohms = narrower(r, c.Nodes[k].Load), narrower(r, c.Nodes[k].Ohms)
		}
		for _, of := range []func(api.Cable) ([]api.Span, api.Errno){cable.Currents, cable.Voltages} {
			wide, _ := of(c)
			narrow, e := of(d)
			for k := range wide {
				if e != api.OK || !contains(wide[k], narrow[k]) {
					t.Fatal(c, d, k, wide[k], narrow[k])
				}
			}
		}
		for _, of := range []func(api.Cable) ([]api.Answer, api.Errno){cable.Within, cable.Fed} {
			former, _ := of(c)
			later, e := of(d)
			for k := range former {
				if e != api.OK || former[k] != api.Open && later[k] != former[k] {
					t.Fatal(c, d, k, former[k], later[k])
				}
			}
		}
	}
}
