package unit

import (
	"testing"

	"steelyard/api"
	"steelyard/rat"
)

// calls are all that may be asked of a table first.
func calls() []func(t *Table) {
	return []func(t *Table){
		func(t *Table) { t.Has("m") },
		func(t *Table) { t.Of("") },
		func(t *Table) { t.Define("q", api.Unit{Factor: rat.Whole(1)}) },
		func(t *Table) { t.Parse("1") },
		func(t *Table) { t.Names() },
	}
}

// The first call that asks makes the table; no later one makes it again, and those of it that were left out stay so.
func TestTheTableIsMadeOnce(t *testing.T) {
	for i, first := range calls() {
		table := New()
		if table.units != nil {
			t.Fatal("the table is there ahead of the first call")
		}
		first(table)
		if len(table.units) < 92 {
			t.Fatalf("%d units behind call %d", len(table.units), i)
		}
		delete(table.units, "m")
		for _, later := range calls() {
			later(table)
		}
		if table.Has("m") {
			t.Errorf("call %d: the table was made again", i)
		}
	}
}
