package tests

import (
	"runtime/debug"
	"testing"
)

// TestMain lets more garbage lie: the tests keep little and make much of it, and would otherwise spend most of their time on sweeping.
func TestMain(m *testing.M) {
	debug.SetGCPercent(800)
	m.Run()
}
