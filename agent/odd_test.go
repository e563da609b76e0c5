package agent_test

import (
	"strings"
	"testing"

	"hostler/admit"
	"hostler/agent"
	"hostler/api"
	"hostler/disk"
	"hostler/path"
	"hostler/record"
)

// R1: an agent on a disk that no agent has written, and messages of all kinds.

type dice uint32

func (d *dice) roll(n int) int {
	*d = *d*1664525 + 1013904223
	return int(*d>>8) % n
}

func (d *dice) name() string {
	if d.roll(20) == 0 {
		return []string{"", "A"}[d.roll(2)]
	}
	return "abc"[d.roll(3):][:1]
}

func (d *dice) items(n int) []api.Item {
	var l []api.Item
	for range n {
		l = append(l, api.Item{T: d.name(), Need: complex(float64(d.roll(4)), float64(d.roll(3)))})
	}
	return l
}

func (d *dice) disk() *disk.Disk {
	x := disk.New(64 + d.roll(2000))
	for n := range d.roll(6) {
		b, err := admit.Pack(admit.Entry{F: "a", E: d.name(), Run: d.roll(4), Items: []api.Item{{T: d.name(), Need: 1}}})
		if err == api.OK {
			x.Append(path.Admit(n+1), b)
		}
	}
	for range d.roll(5) {
		record.Add(x, path.Log(api.Key{F: "a", T: "abc"[d.roll(3):][:1]}), []byte{byte(1 + d.roll(2)), byte(1 + d.roll(2)), byte(d.roll(9))}[:2+d.roll(2)])
	}
	for range d.roll(4) {
		x.Append(path.Gone("a", "abc"[d.roll(3):][:1], 1+d.roll(3)), nil)
		x.Append(path.Box("a", "abc"[d.roll(3):][:1], 1+d.roll(3)), []byte("1"))
	}
	if d.roll(3) == 0 {
		x.Append(path.Epoch(), []byte{byte(d.roll(130))})
	}
	return x
}

func (d *dice) message() api.Message {
	m := api.Message{Kind: d.roll(19)}
	for i, do := range []func(){
		func() { m.F = d.name() }, func() { m.E = d.name() }, func() { m.T = d.name() }, func() { m.N = d.roll(4) },
		func() { m.State = d.roll(9) }, func() { m.Number = d.roll(4) }, func() { m.Epoch = d.roll(3) }, func() { m.Items = d.items(d.roll(6)) },
	} {
		letter := "FETNSUPI"[i : i+1]
		if d.roll(20) == 0 || strings.Contains(fieldsOf[m.Kind], letter) {
			do()
		}
	}
	return m
}

var fieldsOf = map[int]string{api.Run: "FEI", api.Kill: "FT", api.Shut: "F", api.Ack: "FTUP", api.Ask: "FI", api.Hello: "FEN", api.Report: "FENTS", api.Gone: "FEN"}

func TestOddDisksAndMessages(t *testing.T) {
	opened := 0
	for seed := range 3000 {
		d := dice(seed*7919 + 13)
		x := d.disk()
		a, err := agent.Open(config, x)
		if err != api.OK {
			if a != nil {
				t.Error("an agent beside an error")
			}
			continue
		}
		opened++
		a.Do(welcome())
		for range 60 {
			if d.roll(5) == 0 {
				a.Tick(d.roll(7) - 2)
			} else {
				a.Do(d.message())
			}
			if d.roll(50) == 0 {
				x.Fuse(d.roll(9))
			}
		}
		(&rig{T: t, a: a}).text()
	}
	if opened < 300 {
		t.Errorf("only %d were opened", opened)
	}
}
