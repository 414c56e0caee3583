package tests

import (
	"testing"

	"loop.example/g00897/impl"
)

// TestConstants compares the constants of all chapters with the numbers in the document.
func TestConstants(t *testing.T) {
	for _, x := range []struct {
		name string
		is   int
		want int
	}{
		{"MaxString", impl.MaxString, 4000}, {"MaxDecimal", impl.MaxDecimal, 999999},
		{"MaxNodes", impl.MaxNodes, 8}, {"MaxFibers", impl.MaxFibers, 14}, {"MaxLength", impl.MaxLength, 5000}, {"MaxRisk", impl.MaxRisk, 9},
		{"MaxRoutes", impl.MaxRoutes, 200},
		{"DisjointFibers", impl.DisjointFibers, 1}, {"DisjointRisks", impl.DisjointRisks, 2}, {"DisjointNodes", impl.DisjointNodes, 3},
		{"MaxSlots", impl.MaxSlots, 24},
		{"MaxLights", impl.MaxLights, 12}, {"MaxId", impl.MaxId, 999},
		{"MaxFormats", impl.MaxFormats, 6}, {"MaxReach", impl.MaxReach, 20000}, {"MaxRate", impl.MaxRate, 1000}, {"MaxDemands", impl.MaxDemands, 12}, {"ClassPlain", impl.ClassPlain, 0}, {"ClassDedicated", impl.ClassDedicated, 1}, {"ClassShared", impl.ClassShared, 2},
		{"FitFirst", impl.FitFirst, 1}, {"FitLast", impl.FitLast, 2}, {"FitBest", impl.FitBest, 3},
		{"MaxRequests", impl.MaxRequests, 7},
		{"MaxServices", impl.MaxServices, 8},
		{"StatusUnaffected", impl.StatusUnaffected, 0}, {"StatusSwitched", impl.StatusSwitched, 1}, {"StatusDegraded", impl.StatusDegraded, 2}, {"StatusLost", impl.StatusLost, 3},
		{"MaxFailures", impl.MaxFailures, 20},
		{"MaxUnit", impl.MaxUnit, 20},
		{"MaxRings", impl.MaxRings, 60},
		{"MaxTributaries", impl.MaxTributaries, 12}, {"MaxLinks", impl.MaxLinks, 12}, {"MaxPacked", impl.MaxPacked, 10},
		{"MaxItems", impl.MaxItems, 32}, {"ItemTransponder", impl.ItemTransponder, 1}, {"ItemRegenerator", impl.ItemRegenerator, 2}, {"ItemAmplifier", impl.ItemAmplifier, 3}, {"ItemPort", impl.ItemPort, 4},
		{"MaxActions", impl.MaxActions, 8}, {"ActionAdd", impl.ActionAdd, 1}, {"ActionRemove", impl.ActionRemove, 2}, {"ActionMove", impl.ActionMove, 3}, {"ChangeRunning", impl.ChangeRunning, 0}, {"ChangeDone", impl.ChangeDone, 1}, {"ChangeUndone", impl.ChangeUndone, 2},
		{"MaxSpans", impl.MaxSpans, 12}, {"MaxLevel", impl.MaxLevel, 10000},
		{"PayloadSize", impl.PayloadSize, 12}, {"FrameSize", impl.FrameSize, 17}, {"MaxFrames", impl.MaxFrames, 12}, {"MaxStream", impl.MaxStream, 400},
		{"DataSize", impl.DataSize, 11}, {"CodeSize", impl.CodeSize, 15}, {"MaxBlocks", impl.MaxBlocks, 8},
		{"MaxExplanations", impl.MaxExplanations, 40}, {"MaxAlarms", impl.MaxAlarms, 40},
		{"MaxPeriods", impl.MaxPeriods, 8},
		{"MaxRecords", impl.MaxRecords, 60}, {"MaxCommand", impl.MaxCommand, 160}, {"MaxReply", impl.MaxReply, 200}, {"LogOK", impl.LogOK, 0}, {"LogInvalid", impl.LogInvalid, 1}, {"LogFull", impl.LogFull, 2},
		{"MaxScriptLines", impl.MaxScriptLines, 30},
	} {
		if x.is != x.want {
			t.Errorf("%s is %d instead of %d", x.name, x.is, x.want)
		}
	}
}
