package tests

import (
	"math"
	"slices"
	"strings"
	"testing"
	"testing/synctest"

	"loop.example/zonefiles/impl"
)

// listText returns what a list has, for messages.
func listText(list []impl.Record) string {
	var lines []string
	for _, r := range list[:min(len(list), 70)] {
		lines = append(lines, impl.FormatRecord(r))
	}
	return strings.Join(lines, "\n")
}

// checkSent reports records and a truth that are not the wanted ones.
func checkSent(t *testing.T, got []impl.Record, ok bool, want []impl.Record, call string) {
	t.Helper()
	if !ok || !sameRecords(got, want) {
		t.Errorf("%s = %q, %v; want %q", call, listText(got), ok, listText(want))
	}
}

// checkNotSent reports records where there are none.
func checkNotSent(t *testing.T, got []impl.Record, ok bool, call string) {
	t.Helper()
	if ok || len(got) != 0 {
		t.Errorf("%s = %.400q, %v; want no records", call, listText(got), ok)
	}
}

// checkSteps reports differences and a truth that are not the wanted ones.
func checkSteps(t *testing.T, got []impl.Diff, ok bool, want []impl.Diff, call string) {
	t.Helper()
	if !ok || !slices.EqualFunc(got, want, sameDiff) {
		t.Errorf("%s = %d differences, %v; want %d others", call, len(got), ok, len(want))
	}
}

// checkNoSteps reports differences where there are none.
func checkNoSteps(t *testing.T, got []impl.Diff, ok bool, call string) {
	t.Helper()
	if ok || len(got) != 0 {
		t.Errorf("%s = %d differences, %v; want none", call, len(got), ok)
	}
}

// startsAs returns the starts of a list, and its other records.
func startsAs(list []impl.Record) ([]impl.Record, []impl.Record) {
	var starts, others []impl.Record
	for _, r := range list {
		if r.Kind == 6 {
			starts = append(starts, r)
		} else {
			others = append(others, r)
		}
	}
	return starts, others
}

// streamAs is chapter 8's definition of the records of a valid zone as they are sent.
func streamAs(z impl.Zone) []impl.Record {
	starts, others := startsAs(z.Records)
	return copyList(slices.Concat(starts, others, starts))
}

// readStreamAs is chapter 8's definition of the zone that was sent.
func readStreamAs(list []impl.Record) (impl.Zone, bool) {
	n := len(list) - 1
	if n < 1 || n > 60 || list[0].Kind != 6 || !sameRecord(list[0], list[n]) {
		return impl.Zone{}, false
	}
	for i, r := range list[:n] {
		if hasAs(list[:i], r) {
			return impl.Zone{}, false
		}
	}
	z := impl.Zone{Origin: list[0].Name, Records: sortedAs(list[:n], nil)}
	if !impl.ZoneValid(z) {
		return impl.Zone{}, false
	}
	return z, true
}

// completeAs is chapter 8's definition of a complete difference.
func completeAs(d impl.Diff) bool {
	out, _ := startsAs(d.Out)
	in, _ := startsAs(d.In)
	return validDiffAs(d) && len(out) == 1 && len(in) == 1 && out[0].Name == in[0].Name && out[0].Nums[0] == d.From && in[0].Nums[0] == d.To
}

// stepsAs is chapter 8's definition of the records of differences as they are sent.
func stepsAs(last impl.Record, diffs []impl.Diff) ([]impl.Record, bool) {
	if !impl.RecordValid(last) || last.Kind != 6 || len(diffs) < 1 || len(diffs) > 6 {
		return nil, false
	}
	list := []impl.Record{last}
	var ends []impl.Record
	for _, d := range diffs {
		if !completeAs(d) {
			return nil, false
		}
		out, gone := startsAs(d.Out)
		in, come := startsAs(d.In)
		list = slices.Concat(list, out, gone, in, come)
		ends = append(ends, out[0], in[0])
	}
	ends = append(ends, last)
	for i := 1; i < len(ends); i += 2 {
		if !sameRecord(ends[i], ends[i+1]) {
			return nil, false
		}
	}
	return copyList(append(list, last)), true
}

// answerTransferAs is chapter 8's definition of what is sent to one who has a serial.
func answerTransferAs(z impl.Zone, diffs []impl.Diff, serial int) ([]impl.Record, bool) {
	if !impl.ZoneValid(z) || !isSerialAs(serial) {
		return nil, false
	}
	starts, _ := startsAs(z.Records)
	if serial == serialAs(z) || lessSerialAs(serialAs(z), serial) {
		return starts, true
	}
	for i := range diffs {
		if list, ok := stepsAs(starts[0], diffs[i:]); ok && diffs[i].From == serial {
			return list, true
		}
	}
	return streamAs(z), true
}

func TestStreamOf(t *testing.T) {
	for _, c := range []struct{ zone, want []string }{
		{[]string{startText}, []string{startText, startText}},
		{[]string{startText, "www.a.b. 300 A 1.2.3.4"}, []string{startText, "www.a.b. 300 A 1.2.3.4", startText}},
		{[]string{"a.b. 60 NS .", startText}, []string{startText, "a.b. 60 NS .", startText}},
		{[]string{"a.b. 5 A 1.2.3.4", "a.b. 60 NS .", startText, "a.b. 5 PTR .", "*.a.b. 7 CNAME ."}, []string{startText, "a.b. 5 A 1.2.3.4", "a.b. 60 NS .", "a.b. 5 PTR .", "*.a.b. 7 CNAME .", startText}},
	} {
		got, ok := impl.StreamOf(zoneOf(t, "a.b.", c.zone...))
		checkSent(t, got, ok, recordsOf(t, c.want...), "StreamOf")
	}
	for _, z := range zoneCases(t) {
		got, ok := impl.StreamOf(z)
		checkSent(t, got, ok, streamAs(z), "StreamOf")
		if len(got) != len(z.Records)+1 {
			t.Errorf("StreamOf %d records has %d", len(z.Records), len(got))
		}
		read, ok := impl.ReadStream(got)
		checkZone(t, read, ok, z, "ReadStream of "+listText(got))
	}
	for _, c := range faultCases(t) {
		got, ok := impl.StreamOf(c.zone)
		checkNotSent(t, got, ok, "StreamOf an invalid zone")
	}
	got, ok := impl.StreamOf(impl.Zone{})
	checkNotSent(t, got, ok, "StreamOf nothing")
}

func TestReadStream(t *testing.T) {
	w, x := "www.a.b. 300 A 1.2.3.4", "x.a.b. 5 NS ."
	for _, c := range []struct {
		list []string
		want impl.Zone
	}{
		{[]string{startText, startText}, zoneOf(t, "a.b.", startText)},
		{[]string{startText, w, x, startText}, zoneOf(t, "a.b.", startText, w, x)},
		{[]string{startText, x, w, startText}, zoneOf(t, "a.b.", startText, w, x)},
		{[]string{startText, w, "a.b. 60 NS .", startText}, zoneOf(t, "a.b.", "a.b. 60 NS .", startText, w)},
		{[]string{". 0 SOA . 1 2 3 4 5", w, ". 0 SOA . 1 2 3 4 5"}, zoneOf(t, ".", ". 0 SOA . 1 2 3 4 5", w)},
	} {
		got, ok := impl.ReadStream(recordsOf(t, c.list...))
		checkZone(t, got, ok, c.want, "ReadStream of "+strings.Join(c.list, "\n"))
	}
	for _, list := range [][]string{
		// Too few, and a first or a last one that is no start, or not the same one.
		{}, {startText}, {w}, {w, w}, {w, startText}, {startText, w}, {startText, w, x}, {w, startText, w}, {w, startText, startText}, {x, startText, w, x},
		{startText, "a.b. 3600 SOA ns.b. 8 10 20 30 40"}, {startText, "a.b. 3601 SOA ns.b. 7 10 20 30 40"}, {startText, "a.b. 3600 SOA n.b. 7 10 20 30 40"}, {startText, w, "a.b. 3600 SOA ns.b. 7 10 20 30 41"}, {startText, "b. 3600 SOA ns.b. 7 10 20 30 40"},
		// Records that are there twice, and starts that are.
		{startText, w, w, startText}, {startText, w, x, w, startText}, {startText, startText, startText}, {startText, startText, w, startText}, {startText, w, startText, startText}, {startText, w, startText, x, startText},
		{startText, "a.b. 3600 SOA ns.b. 8 10 20 30 40", startText}, {startText, "x.a.b. 3600 SOA ns.b. 7 10 20 30 40", startText},
		// Zones that are not valid.
		{startText, "c. 5 A 1.2.3.4", startText}, {startText, "b. 5 A 1.2.3.4", startText}, {startText, w, "www.a.b. 301 A 1.2.3.5", startText}, {startText, w, "www.a.b. 300 CNAME .", startText}, {startText, w, "www.a.b. 301 A 1.2.3.4", startText},
	} {
		got, ok := impl.ReadStream(recordsOf(t, list...))
		checkNoZone(t, got, ok, "ReadStream of "+strings.Join(list, "\n"))
	}
}

func TestReadStreamAtLimits(t *testing.T) {
	for n := range 59 {
		z := bigZone(t, n+1)
		list := streamAs(z)
		slices.Reverse(list)
		got, ok := impl.ReadStream(list)
		checkZone(t, got, ok, z, "ReadStream from the last one on")
	}
	for n := 60; n < 64; n++ {
		list := streamAs(bigZone(t, n))
		got, ok := impl.ReadStream(list)
		if n == 60 {
			checkZone(t, got, ok, bigZone(t, n), "ReadStream of 61 records")
		} else {
			checkNoZone(t, got, ok, "ReadStream of more than 61 records")
		}
		// Records that are there twice do not make it less.
		list[n-1] = list[1]
		got, ok = impl.ReadStream(list)
		checkNoZone(t, got, ok, "ReadStream of two that are equal")
	}
	got, ok := impl.ReadStream(slices.Repeat(recordsOf(t, startText), 100000))
	checkNoZone(t, got, ok, "ReadStream of 100000 starts")
}

func TestReadStreamOfInvalidRecords(t *testing.T) {
	start, w := recordOf(t, startText), recordOf(t, "www.a.b. 300 A 1.2.3.4")
	for _, r := range invalidRecords() {
		for _, list := range [][]impl.Record{{r, r}, {r, w, r}, {start, r, start}, {start, w, r, start}, {start, r, r, start}, {start, r}, {r, start}, {r}, {start, w, r}} {
			got, ok := impl.ReadStream(list)
			checkNoZone(t, got, ok, "ReadStream of an invalid record")
		}
	}
	for _, c := range faultCases(t) {
		if len(c.zone.Records) > 70 {
			continue
		}
		list := streamAs(c.zone)
		got, ok := impl.ReadStream(list)
		if want, fits := readStreamAs(list); fits {
			checkZone(t, got, ok, want, "ReadStream")
		} else {
			checkNoZone(t, got, ok, "ReadStream of an invalid zone")
		}
	}
}

// eachList calls a function with all lists of a number of records of a pool.
func eachList(pool []impl.Record, n int, call func(list []impl.Record)) {
	list := make([]impl.Record, n)
	var fill func(place int)
	fill = func(place int) {
		if place == n {
			call(list)
			return
		}
		for _, r := range pool {
			list[place] = r
			fill(place + 1)
		}
	}
	fill(0)
}

func TestReadStreamAsDefined(t *testing.T) {
	pool := append(recordsOf(t, startOn(7), startOn(8), "a.b. 5 NS .", "x.a.b. 5 A 1.1.1.1", "x.a.b. 6 A 1.1.1.1", "b. 5 NS ."), impl.Record{Name: "x.a.b."})
	for n := range 6 {
		eachList(pool, n, func(list []impl.Record) {
			got, ok := impl.ReadStream(list)
			if want, fits := readStreamAs(list); fits {
				checkZone(t, got, ok, want, "ReadStream of "+listText(list))
			} else {
				checkNoZone(t, got, ok, "ReadStream of "+listText(list))
			}
		})
	}
}

// rowOf returns n records, some of which are equal, and some of which are not valid.
func rowOf(t *testing.T, n int) []impl.Record {
	t.Helper()
	var pool []impl.Record
	for _, c := range recordCases() {
		pool = append(pool, c.record)
	}
	pool = append(append(pool, invalidRecords()...), impl.Record{}, impl.Record{Nums: make([]int, 9)})
	return copyList(slices.Repeat(pool, n/len(pool)+1)[:n])
}

// checkMessages reports messages that are not those into which a list is cut.
func checkMessages(t *testing.T, list []impl.Record, most int) {
	t.Helper()
	got, ok := impl.CutStream(list, most)
	if !ok || len(got) != (len(list)+most-1)/most {
		t.Fatalf("CutStream of %d records by %d = %d messages, %v", len(list), most, len(got), ok)
	}
	for i, message := range got {
		if want := list[i*most : min(i*most+most, len(list))]; !sameRecords(message, want) {
			t.Fatalf("CutStream of %d records by %d has other records in message %d", len(list), most, i)
		}
	}
	joined, ok := impl.JoinStream(got)
	checkSent(t, joined, ok, list, "JoinStream")
}

// checkNoMessages reports messages where there are none.
func checkNoMessages(t *testing.T, list []impl.Record, most int) {
	t.Helper()
	if got, ok := impl.CutStream(list, most); ok || len(got) != 0 {
		t.Errorf("CutStream of %d records by %d = %d messages, %v; want none", len(list), most, len(got), ok)
	}
}

func TestCutStream(t *testing.T) {
	for _, n := range []int{0, 1, 2, 3, 5, 6, 7, 99, 100, 101, 199, 200, 201, 299, 300, 301, 398, 399, 400} {
		list := rowOf(t, n)
		for most := 1; most <= 100; most++ {
			checkMessages(t, list, most)
		}
		for _, most := range []int{0, -1, -2, -100, 101, 102, 200, 400, 401, 4294967297, math.MinInt, math.MaxInt} {
			checkNoMessages(t, list, most)
		}
	}
	for _, n := range []int{401, 402, 500, 800, 100000} {
		list := make([]impl.Record, n)
		for _, most := range []int{1, 2, 50, 99, 100, 101, 0, -1, n, math.MaxInt} {
			checkNoMessages(t, list, most)
		}
	}
	checkNoMessages(t, nil, 0)
	checkNoMessages(t, nil, 101)
	checkMessages(t, nil, 1)
	checkMessages(t, []impl.Record{}, 100)
}

func TestJoinStream(t *testing.T) {
	a, b, c := recordOf(t, "a. 1 NS ."), recordOf(t, "b. 1 MX 5 ."), impl.Record{Name: "no name", Nums: []int{-1}}
	for _, row := range []struct {
		messages [][]impl.Record
		want     []impl.Record
	}{
		{nil, nil}, {[][]impl.Record{}, nil},
		{[][]impl.Record{{a}}, []impl.Record{a}},
		{[][]impl.Record{{a, b, c}}, []impl.Record{a, b, c}},
		{[][]impl.Record{{c}, {b, a}, {a, a}, {b}}, []impl.Record{c, b, a, a, a, b}},
		{[][]impl.Record{{c}, {{}}, {{}, {}}}, []impl.Record{c, {}, {}, {}}},
	} {
		got, ok := impl.JoinStream(row.messages)
		checkSent(t, got, ok, row.want, "JoinStream")
	}
	for _, messages := range [][][]impl.Record{{nil}, {{}}, {nil, nil}, {nil, {a}}, {{a}, nil}, {{a}, {}, {b}}, {{a, b}, {c}, {}}, {{}, {a, b}, {c}}} {
		got, ok := impl.JoinStream(messages)
		checkNotSent(t, got, ok, "JoinStream of an empty message")
	}
}

func TestJoinStreamAtLimits(t *testing.T) {
	list := rowOf(t, 403)
	for _, n := range []int{1, 2, 3, 99, 100, 101, 200, 399, 400, 401, 402, 403} {
		for _, size := range []int{1, 2, 3, 7, 60, 100, 101, 200, 399, 400, 401, 402} {
			messages := slices.Collect(slices.Chunk(list[:n], size))
			got, ok := impl.JoinStream(messages)
			if n <= 400 {
				checkSent(t, got, ok, list[:n], "JoinStream")
			} else {
				checkNotSent(t, got, ok, "JoinStream of more than 400 records")
			}
			for place := range min(len(messages)+1, 5) {
				got, ok = impl.JoinStream(slices.Insert(slices.Clone(messages), place, nil))
				checkNotSent(t, got, ok, "JoinStream with an empty message")
			}
		}
	}
	for _, messages := range [][][]impl.Record{slices.Repeat([][]impl.Record{list[:1]}, 1000000), slices.Repeat([][]impl.Record{list[:400]}, 2), {make([]impl.Record, 1000000)}, make([][]impl.Record, 1000000)} {
		got, ok := impl.JoinStream(messages)
		checkNotSent(t, got, ok, "JoinStream of many records")
	}
}

// rowOfDiffs returns n differences that lead from zone to zone with serials from first on, and all these zones.
func rowOfDiffs(t *testing.T, first int, n int) ([]impl.Diff, []impl.Zone) {
	t.Helper()
	zones := []impl.Zone{zoneOn(t, first, hosts("", 0, 6)...)}
	var diffs []impl.Diff
	for i := range n {
		serial := (first + i + 1) % 4294967296
		// From some zones on, records go, come, or do both; from one, the start alone does.
		z := zoneOn(t, serial, hosts("", (i+2)/3*2, 6+i%3*4)...)
		if i%2 == 1 {
			z = zoneOn(t, serial, append(hosts("", (i+2)/3*2, 6), "a.b. 5 NS .", "a.b. 5 A 1.2.3.4", "*.a.b. 5 TXT \"\"")...)
		}
		if i == 4 {
			z = copyZone(zones[i])
			z.Records[slices.IndexFunc(z.Records, func(r impl.Record) bool { return r.Kind == 6 })].Nums[0] = serial
		}
		diffs = append(diffs, diffAs(zones[i], z))
		zones = append(zones, z)
	}
	return diffs, zones
}

// startRecord returns the start of a zone.
func startRecord(z impl.Zone) impl.Record {
	starts, _ := startsAs(z.Records)
	return starts[0]
}

func TestStepsOf(t *testing.T) {
	w, x, ns := "w.a.b. 5 A 1.2.3.4", "x.a.b. 5 NS .", "a.b. 5 NS ."
	for _, c := range []struct {
		last  string
		diffs []impl.Diff
		want  []string
	}{
		{startOn(8), []impl.Diff{startDiff(t, 7, 8)}, []string{startOn(8), startOn(7), startOn(8), startOn(8)}},
		{startOn(9), []impl.Diff{startDiff(t, 7, 8), startDiff(t, 8, 9)}, []string{startOn(9), startOn(7), startOn(8), startOn(8), startOn(9), startOn(9)}},
		{startOn(7), []impl.Diff{startDiff(t, 7, 8), startDiff(t, 8, 7)}, []string{startOn(7), startOn(7), startOn(8), startOn(8), startOn(7), startOn(7)}},
		{startOn(0), []impl.Diff{startDiff(t, 4294967295, 0)}, []string{startOn(0), startOn(4294967295), startOn(0), startOn(0)}},
		// A start goes in front of those that are in front of it.
		{startOn(8), []impl.Diff{diffOf(t, 7, 8, "-"+ns, "-"+startOn(7), "-"+w, "+a.b. 5 A 1.2.3.4", "+"+startOn(8), "+"+x)}, []string{startOn(8), startOn(7), ns, w, startOn(8), "a.b. 5 A 1.2.3.4", x, startOn(8)}},
		{startOn(9), []impl.Diff{diffOf(t, 7, 8, "-"+startOn(7), "+"+ns, "+"+startOn(8)), diffOf(t, 8, 9, "-"+ns, "-"+startOn(8), "+"+startOn(9), "+"+w)}, []string{startOn(9), startOn(7), startOn(8), ns, startOn(8), ns, startOn(9), w, startOn(9)}},
		// Names that no zone has together, and starts that differ in more than the serial, or in all but it.
		{startOn(8), []impl.Diff{diffOf(t, 7, 8, "-. 5 A 1.2.3.4", "-"+startOn(7), "+"+startOn(8), "+c. 5 NS .")}, []string{startOn(8), startOn(7), ". 5 A 1.2.3.4", startOn(8), "c. 5 NS .", startOn(8)}},
		{"a.b. 9 SOA x. 8 0 0 0 0", []impl.Diff{diffOf(t, 7, 8, "-"+startOn(7), "+a.b. 9 SOA x. 8 0 0 0 0")}, []string{"a.b. 9 SOA x. 8 0 0 0 0", startOn(7), "a.b. 9 SOA x. 8 0 0 0 0", "a.b. 9 SOA x. 8 0 0 0 0"}},
		{"a.b. 9 SOA x. 7 0 0 0 0", []impl.Diff{diffOf(t, 7, 7, "-"+startOn(7), "+a.b. 9 SOA x. 7 0 0 0 0")}, []string{"a.b. 9 SOA x. 7 0 0 0 0", startOn(7), "a.b. 9 SOA x. 7 0 0 0 0", "a.b. 9 SOA x. 7 0 0 0 0"}},
		{". 0 SOA . 1 0 0 0 0", []impl.Diff{diffOf(t, 5, 1, "-. 0 SOA . 5 0 0 0 0", "+. 0 SOA . 1 0 0 0 0")}, []string{". 0 SOA . 1 0 0 0 0", ". 0 SOA . 5 0 0 0 0", ". 0 SOA . 1 0 0 0 0", ". 0 SOA . 1 0 0 0 0"}},
	} {
		got, ok := impl.StepsOf(recordOf(t, c.last), c.diffs)
		checkSent(t, got, ok, recordsOf(t, c.want...), "StepsOf")
		diffs, ok := impl.ReadSteps(got)
		checkSteps(t, diffs, ok, c.diffs, "ReadSteps of "+listText(got))
	}
}

func TestStepsOfNeedsDifferencesInARow(t *testing.T) {
	seven, eight, nine := startOn(7), startOn(8), startOn(9)
	for _, c := range []struct {
		last  string
		diffs []impl.Diff
	}{
		{eight, nil}, {eight, []impl.Diff{}}, {eight, []impl.Diff{{}}},
		// A last one that is no start, or not that of the last difference.
		{"a.b. 5 NS .", []impl.Diff{startDiff(t, 7, 8)}}, {seven, []impl.Diff{startDiff(t, 7, 8)}}, {nine, []impl.Diff{startDiff(t, 7, 8)}}, {"a.b. 61 SOA . 8 1 2 3 4", []impl.Diff{startDiff(t, 7, 8)}}, {"a.b. 60 SOA . 8 1 2 3 5", []impl.Diff{startDiff(t, 7, 8)}},
		{"a.b. 60 SOA b. 8 1 2 3 4", []impl.Diff{startDiff(t, 7, 8)}}, {"b. 60 SOA . 8 1 2 3 4", []impl.Diff{startDiff(t, 7, 8)}}, {eight, []impl.Diff{startDiff(t, 7, 8), startDiff(t, 8, 9)}},
		// Differences that do not follow each other.
		{eight, []impl.Diff{startDiff(t, 7, 8), startDiff(t, 7, 8)}}, {nine, []impl.Diff{startDiff(t, 6, 7), startDiff(t, 8, 9)}}, {eight, []impl.Diff{startDiff(t, 8, 9), startDiff(t, 7, 8)}},
		{nine, []impl.Diff{startDiff(t, 7, 8), diffOf(t, 8, 9, "-a.b. 61 SOA . 8 1 2 3 4", "+"+nine)}}, {nine, []impl.Diff{diffOf(t, 7, 8, "-"+seven, "+a.b. 60 SOA . 8 1 2 3 5"), startDiff(t, 8, 9)}},
		{nine, []impl.Diff{diffOf(t, 7, 8, "-b. 60 SOA . 7 1 2 3 4", "+b. 60 SOA . 8 1 2 3 4"), startDiff(t, 8, 9)}},
		// Differences that are not complete: no start, more than one, other names, other serials.
		{eight, []impl.Diff{{From: 7, To: 8}}}, {eight, []impl.Diff{diffOf(t, 7, 8, "-"+seven)}}, {eight, []impl.Diff{diffOf(t, 7, 8, "+"+eight)}}, {eight, []impl.Diff{diffOf(t, 7, 8, "-a.b. 5 NS .", "+"+eight)}},
		{eight, []impl.Diff{diffOf(t, 7, 8, "-a.b. 60 SOA . 6 1 2 3 4", "-"+seven, "+"+eight)}}, {eight, []impl.Diff{diffOf(t, 7, 8, "-"+seven, "-"+nine, "+"+eight)}}, {eight, []impl.Diff{diffOf(t, 7, 8, "-"+seven, "-x.a.b. 60 SOA . 7 1 2 3 4", "+"+eight)}},
		{eight, []impl.Diff{diffOf(t, 7, 8, "-"+seven, "+"+eight, "+"+nine)}}, {nine, []impl.Diff{diffOf(t, 7, 8, "-"+seven, "+"+eight, "+"+nine)}}, {eight, []impl.Diff{diffOf(t, 7, 8, "-"+seven, "+"+eight, "+x.a.b. 60 SOA . 8 1 2 3 4")}},
		{eight, []impl.Diff{diffOf(t, 7, 8, "-b. 60 SOA . 7 1 2 3 4", "+"+eight)}}, {eight, []impl.Diff{diffOf(t, 7, 8, "-x.a.b. 60 SOA . 7 1 2 3 4", "+"+eight)}},
		{eight, []impl.Diff{diffOf(t, 6, 8, "-"+seven, "+"+eight)}}, {eight, []impl.Diff{diffOf(t, 7, 9, "-"+seven, "+"+eight)}}, {eight, []impl.Diff{diffOf(t, 8, 7, "-"+seven, "+"+eight)}}, {eight, []impl.Diff{diffOf(t, 8, 8, "-"+seven, "+"+eight)}},
		{nine, []impl.Diff{{From: 8, To: 8}, startDiff(t, 8, 9)}}, {nine, []impl.Diff{startDiff(t, 8, 9), {From: 9, To: 9}}}, {nine, []impl.Diff{{From: 7, To: 8}, startDiff(t, 8, 9)}},
	} {
		got, ok := impl.StepsOf(recordOf(t, c.last), c.diffs)
		checkNotSent(t, got, ok, "StepsOf to "+c.last)
	}
	for _, d := range invalidDiffs(t) {
		for _, diffs := range [][]impl.Diff{{d}, {d, startDiff(t, 8, 9)}, {startDiff(t, 6, 7), d}} {
			for _, last := range []string{eight, nine} {
				got, ok := impl.StepsOf(recordOf(t, last), diffs)
				checkNotSent(t, got, ok, "StepsOf an invalid difference")
			}
		}
	}
	for _, r := range invalidRecords() {
		for _, diffs := range [][]impl.Diff{{startDiff(t, 7, 8)}, {{From: 7, To: 8, Out: recordsOf(t, seven), In: []impl.Record{r}}}, {{}}, nil} {
			got, ok := impl.StepsOf(r, diffs)
			checkNotSent(t, got, ok, "StepsOf an invalid start")
		}
	}
}

func TestStepsAtLimits(t *testing.T) {
	for _, first := range []int{7, 0, 2147483645, 4294967290, 4294967294, 4294967295} {
		diffs, zones := rowOfDiffs(t, first, 8)
		for n := range 9 {
			last := startRecord(zones[n])
			for from := range n + 1 {
				got, ok := impl.StepsOf(last, diffs[from:n])
				if from == n || n-from > 6 {
					checkNotSent(t, got, ok, "StepsOf no or too many differences")
					continue
				}
				want, _ := stepsAs(last, diffs[from:n])
				checkSent(t, got, ok, want, "StepsOf")
				read, ok := impl.ReadSteps(got)
				checkSteps(t, read, ok, diffs[from:n], "ReadSteps")
			}
		}
	}
	got, ok := impl.StepsOf(recordOf(t, startOn(8)), slices.Repeat([]impl.Diff{startDiff(t, 7, 8), startDiff(t, 8, 7)}, 100000))
	checkNotSent(t, got, ok, "StepsOf 200000 differences")
}

// wideDiffs returns differences that lead on from the serial 0, each with numbers of records of Out and of In beside the starts, and the last start.
func wideDiffs(t *testing.T, counts ...int) ([]impl.Diff, impl.Record) {
	t.Helper()
	var diffs []impl.Diff
	for i := 0; i < len(counts); i += 2 {
		serial := i / 2
		lines := append([]string{"-" + startOn(serial), "+" + startOn(serial+1)}, hosts("-", 0, counts[i])...)
		diffs = append(diffs, diffOf(t, serial, serial+1, append(lines, hosts("+", 100, counts[i+1])...)...))
	}
	return diffs, recordOf(t, startOn(len(counts)/2))
}

func TestStepsOfManyRecords(t *testing.T) {
	for _, counts := range [][]int{
		{59, 59}, {59, 59, 59, 59, 59, 59}, {59, 59, 59, 59, 59, 59, 18, 18}, {59, 59, 59, 59, 59, 59, 0, 36}, {59, 59, 59, 59, 59, 59, 36, 0}, {0, 0, 0, 36, 59, 59, 59, 59, 59, 55},
		{59, 59, 59, 59, 59, 59, 18, 19}, {59, 59, 59, 59, 59, 59, 19, 18}, {59, 59, 59, 59, 59, 59, 37, 0}, {59, 59, 59, 59, 59, 59, 59, 59, 59, 59, 59, 59},
	} {
		diffs, last := wideDiffs(t, counts...)
		want, fits := stepsAs(last, diffs)
		got, ok := impl.StepsOf(last, diffs)
		if !fits {
			t.Fatalf("no steps of %v", counts)
		}
		checkSent(t, got, ok, want, "StepsOf many records")
		read, ok := impl.ReadSteps(want)
		if len(want) <= 400 {
			checkSteps(t, read, ok, diffs, "ReadSteps of many records")
		} else {
			checkNoSteps(t, read, ok, "ReadSteps of more than 400 records")
		}
	}
	for _, counts := range [][]int{{60, 0}, {0, 60}, {59, 59, 60, 0}, {0, 60, 0, 0}} {
		diffs, last := wideDiffs(t, counts...)
		got, ok := impl.StepsOf(last, diffs)
		checkNotSent(t, got, ok, "StepsOf 61 records")
		// The records are those of a difference but for their number.
		list := []impl.Record{last}
		for _, d := range diffs {
			list = append(append(list, d.Out...), d.In...)
		}
		read, ok := impl.ReadSteps(append(list, last))
		checkNoSteps(t, read, ok, "ReadSteps of 61 records")
	}
	diffs, last := wideDiffs(t, 59, 59, 59, 59, 59, 59, 18, 18)
	if list, _ := stepsAs(last, diffs); len(list) != 400 {
		t.Errorf("%d records are not at the limit", len(list))
	}
	read, ok := impl.ReadSteps(slices.Repeat(recordsOf(t, startOn(7)), 100000))
	checkNoSteps(t, read, ok, "ReadSteps of 100000 starts")
}

func TestReadSteps(t *testing.T) {
	s7, s8, s9, w, x := startOn(7), startOn(8), startOn(9), "w.a.b. 5 A 1.2.3.4", "x.a.b. 5 NS ."
	for _, list := range [][]string{
		{}, {s8}, {s8, s8}, {s8, s7, s8}, {s8, s8, s8}, {s8, s8, s8, s8}, {w}, {w, w}, {s8, w, s8},
		// A whole zone, and parts of differences.
		{s8, w, x, s8}, {s8, s7, w, s8}, {s8, s7, w, x, s8, s8, s8}, {s8, s7, s8, s8, s8}, {s7, s8, s8, s8}, {s8, s7, s8, w}, {s8, s7, s8, w, x},
		// Records in front of the first or behind the last start, and in another order.
		{s8, w, s7, s8, s8}, {s8, s7, s8, s8, w}, {w, s8, s7, s8, s8}, {w, s7, s8, w}, {s8, s7, x, w, s8, s8}, {s8, s7, s8, x, w, s8}, {s8, s7, w, w, s8, s8}, {s8, s7, s8, w, w, s8}, {s8, s7, w, s8, w, s8},
		// Starts that do not follow each other.
		{s9, s7, s8, s9}, {s9, s7, s8, s8, s9, s8}, {s8, s7, s8, s8, s9, s9}, {s9, s7, s8, s7, s9, s9}, {s9, s7, s8, s8, s9}, {s9, s7, s8, s9, s9}, {s9, s7, s9, s8, s9, s9}, {s8, "b. 60 SOA . 7 1 2 3 4", s8, s8}, {s8, s7, "a.b. 61 SOA . 8 1 2 3 4", s8}, {s8, s7, s8, "a.b. 61 SOA . 8 1 2 3 4"},
	} {
		got, ok := impl.ReadSteps(recordsOf(t, list...))
		checkNoSteps(t, got, ok, "ReadSteps of "+strings.Join(list, "\n"))
	}
	got, ok := impl.ReadSteps(recordsOf(t, s9, s7, "a.b. 5 NS .", w, s8, s8, s9, "a.b. 5 A 1.2.3.4", x, s9))
	checkSteps(t, got, ok, []impl.Diff{diffOf(t, 7, 8, "-a.b. 5 NS .", "-"+s7, "-"+w, "+"+s8), diffOf(t, 8, 9, "-"+s8, "+a.b. 5 A 1.2.3.4", "+"+s9, "+"+x)}, "ReadSteps")
}

func TestReadStepsOfInvalidRecords(t *testing.T) {
	good := recordsOf(t, startOn(9), startOn(7), "w.a.b. 5 A 1.2.3.4", startOn(8), startOn(8), startOn(9), "x.a.b. 5 NS .", startOn(9))
	for _, r := range invalidRecords() {
		for i := range good {
			for _, list := range [][]impl.Record{slices.Insert(copyList(good), i, r), slices.Replace(copyList(good), i, i+1, r)} {
				got, ok := impl.ReadSteps(list)
				checkNoSteps(t, got, ok, "ReadSteps of an invalid record")
			}
		}
		for _, list := range [][]impl.Record{{r}, {r, r}, {r, r, r, r}, {r, good[1], r, r}, append([]impl.Record{r}, good[1:7]...)} {
			got, ok := impl.ReadSteps(append(copyList(list), r))
			checkNoSteps(t, got, ok, "ReadSteps of an invalid start")
		}
	}
}

// eachRow calls a function with all rows of at most some complete differences of a pool that follow each other, and with their steps.
func eachRow(pool []impl.Diff, most int, call func(diffs []impl.Diff, steps []impl.Record)) {
	var grow func(diffs []impl.Diff)
	grow = func(diffs []impl.Diff) {
		for _, d := range pool {
			row := append(slices.Clone(diffs), d)
			starts, _ := startsAs(d.In)
			steps, ok := stepsAs(starts[0], row)
			if !ok {
				continue
			}
			call(row, steps)
			if len(row) < most {
				grow(row)
			}
		}
	}
	grow(nil)
}

func TestReadStepsAsDefined(t *testing.T) {
	pool := recordsOf(t, startOn(7), "a.b. 60 SOA . 7 9 2 3 4", startOn(8), "x.a.b. 5 A 1.1.1.1", "a.b. 5 NS .")
	var complete []impl.Diff
	for _, from := range []int{7, 8} {
		for _, to := range []int{7, 8} {
			for _, d := range poolDiffs(pool, from, to) {
				d.Out, d.In = sortedAs(d.Out, nil), sortedAs(d.In, nil)
				if completeAs(d) {
					complete = append(complete, d)
				}
			}
		}
	}
	wanted := map[string][]impl.Diff{}
	eachRow(complete, 2, func(diffs []impl.Diff, steps []impl.Record) { wanted[listText(steps)] = diffs })
	found := 0
	for n := range 8 {
		eachList(pool, n, func(list []impl.Record) {
			got, ok := impl.ReadSteps(list)
			if want, fits := wanted[listText(list)]; fits {
				checkSteps(t, got, ok, want, "ReadSteps of "+listText(list))
				found++
			} else {
				checkNoSteps(t, got, ok, "ReadSteps of "+listText(list))
			}
		})
	}
	if found < 60 {
		t.Errorf("only %d of %d lists have differences", found, len(wanted))
	}
}

func TestReadStepsOfEachChange(t *testing.T) {
	diffs, zones := rowOfDiffs(t, 4294967294, 6)
	last := startRecord(zones[6])
	good, _ := stepsAs(last, diffs)
	check := func(list []impl.Record) {
		t.Helper()
		got, ok := impl.ReadSteps(list)
		if !ok {
			checkNoSteps(t, got, ok, "ReadSteps of a change")
			return
		}
		// A change can lead to other differences, if these are those of which the steps are the list.
		if want, fits := stepsAs(list[0], got); !fits || !sameRecords(want, list) {
			t.Errorf("ReadSteps finds differences that are not sent as %q", listText(list))
		}
	}
	for i := range good {
		check(slices.Delete(copyList(good), i, i+1))
		check(slices.Insert(copyList(good), i, good[i]))
		check(good[:i])
		check(good[i:])
		for _, change := range []func(r *impl.Record){func(r *impl.Record) { r.Ttl++ }, func(r *impl.Record) { r.Kind++ }, func(r *impl.Record) { r.Nums = nil }, func(r *impl.Record) { r.Nums = append(r.Nums, 0) }, func(r *impl.Record) { r.Name = "z.a.b." }, func(r *impl.Record) { r.Text += "x" }} {
			list := copyList(good)
			change(&list[i])
			check(list)
		}
		for j := range i {
			list := copyList(good)
			list[i], list[j] = list[j], list[i]
			check(list)
		}
	}
}

func TestStepsOfAsDefined(t *testing.T) {
	pool := recordsOf(t, startOn(7), startOn(8), "x.a.b. 5 A 1.1.1.1")
	var all []impl.Diff
	for _, serials := range [][2]int{{7, 7}, {7, 8}, {8, 7}} {
		all = append(all, poolDiffs(pool, serials[0], serials[1])...)
	}
	check := func(last impl.Record, diffs []impl.Diff) {
		t.Helper()
		got, ok := impl.StepsOf(last, diffs)
		if want, fits := stepsAs(last, diffs); fits {
			checkSent(t, got, ok, want, "StepsOf")
		} else {
			checkNotSent(t, got, ok, "StepsOf")
		}
	}
	for _, last := range append(pool, impl.Record{Name: "a.b.", Kind: 6, Nums: []int{7}}) {
		for _, a := range all {
			check(last, []impl.Diff{a})
			for _, b := range all {
				check(last, []impl.Diff{a, b})
			}
		}
	}
}

func TestAnswerTransfer(t *testing.T) {
	diffs, zones := rowOfDiffs(t, 10, 6)
	z := zones[6]
	whole := streamAs(z)
	start := []impl.Record{startRecord(z)}
	for serial := range 16 {
		got, ok := impl.AnswerTransfer(z, diffs, serial)
		want := whole
		if serial >= 10 {
			want, _ = stepsAs(start[0], diffs[serial-10:])
		}
		checkSent(t, got, ok, want, "AnswerTransfer of an earlier serial")
	}
	for _, serial := range []int{16, 17, 100, 2147483647, 2147483662, 2147483663} {
		got, ok := impl.AnswerTransfer(z, diffs, serial)
		checkSent(t, got, ok, start, "AnswerTransfer of a later serial")
	}
	// From half of all serials on, none is later, and then all are earlier.
	for _, serial := range []int{2147483664, 2147483665, 4294967294, 4294967295} {
		got, ok := impl.AnswerTransfer(z, diffs, serial)
		checkSent(t, got, ok, whole, "AnswerTransfer of a serial in front")
	}
	for _, serial := range noSerials {
		got, ok := impl.AnswerTransfer(z, diffs, serial)
		checkNotSent(t, got, ok, "AnswerTransfer of no serial")
	}
	for _, c := range faultCases(t) {
		for _, serial := range []int{0, 1, 6, 7, 8} {
			got, ok := impl.AnswerTransfer(c.zone, []impl.Diff{startDiff(t, 6, 7)}, serial)
			checkNotSent(t, got, ok, "AnswerTransfer of an invalid zone")
		}
	}
}

func TestAnswerTransferFindsTheFirst(t *testing.T) {
	seven, eight, nine := zoneOn(t, 7, "w.a.b. 5 A 1.2.3.4"), zoneOn(t, 8), zoneOn(t, 9, "x.a.b. 5 NS .")
	to8, to9, direct := diffAs(seven, eight), diffAs(eight, nine), diffAs(seven, nine)
	other, back := diffAs(seven, zoneOn(t, 8, "q.a.b. 5 NS .")), startDiff(t, 9, 7)
	last := startRecord(nine)
	steps := func(diffs ...impl.Diff) []impl.Record {
		list, ok := stepsAs(last, diffs)
		if !ok {
			t.Fatalf("no steps of %d differences", len(diffs))
		}
		return list
	}
	whole := streamAs(nine)
	for _, c := range []struct {
		diffs  []impl.Diff
		serial int
		want   []impl.Record
	}{
		{nil, 7, whole}, {nil, 8, whole}, {[]impl.Diff{}, 0, whole},
		{[]impl.Diff{to8, to9}, 7, steps(to8, to9)}, {[]impl.Diff{to8, to9}, 8, steps(to9)}, {[]impl.Diff{to8, to9}, 6, whole}, {[]impl.Diff{direct}, 7, steps(direct)}, {[]impl.Diff{direct}, 8, whole},
		// Of two with the serial, the first one if all behind it follow each other, and else the other one.
		{[]impl.Diff{to8, startDiff(t, 8, 9), back, direct}, 7, steps(to8, startDiff(t, 8, 9), back, direct)}, {[]impl.Diff{to8, startDiff(t, 8, 9), back, direct}, 8, steps(startDiff(t, 8, 9), back, direct)}, {[]impl.Diff{direct, to8, to9}, 7, steps(to8, to9)}, {[]impl.Diff{to8, direct}, 7, steps(direct)}, {[]impl.Diff{to8, to8, to9}, 7, steps(to8, to9)},
		{[]impl.Diff{other, to9}, 7, steps(other, to9)},
		// Differences in front that are not complete do not matter, but those behind do.
		{[]impl.Diff{{From: 7, To: 7}, {From: -1}, to8, to9}, 7, steps(to8, to9)}, {[]impl.Diff{{From: 7}, {From: 7, To: 8}, direct}, 7, steps(direct)}, {[]impl.Diff{to8, to9, {}}, 7, whole}, {[]impl.Diff{to8, {From: 8, To: 8}, to9}, 7, whole}, {[]impl.Diff{to8, {From: 8, To: 8}, to9}, 8, steps(to9)},
		{[]impl.Diff{to8}, 7, whole}, {[]impl.Diff{to9, to8}, 7, whole}, {[]impl.Diff{to9, to8}, 8, whole}, {[]impl.Diff{to8, back}, 7, whole}, {[]impl.Diff{diffOf(t, 7, 9, "-"+startOn(7), "+a.b. 61 SOA . 9 1 2 3 4")}, 7, whole},
		{[]impl.Diff{diffOf(t, 7, 9, "+x.a.b. 5 NS .")}, 7, whole}, {[]impl.Diff{diffOf(t, 7, 9, "-a.b. 60 SOA . 6 1 2 3 4", "+"+startOn(9))}, 7, whole}, {[]impl.Diff{diffOf(t, 6, 9, "-"+startOn(7), "+"+startOn(9))}, 7, whole},
		// From more than 6, the first ones do not lead on.
		{slices.Concat(slices.Repeat([]impl.Diff{direct, back}, 3), []impl.Diff{to8, to9}), 7, steps(direct, back, direct, back, to8, to9)}, {append(slices.Repeat([]impl.Diff{direct, back}, 100000), direct), 7, steps(direct, back, direct, back, direct)},
		// Neither the serial of the zone nor a later one gets differences.
		{[]impl.Diff{to8, to9}, 9, []impl.Record{last}}, {[]impl.Diff{startDiff(t, 10, 9)}, 10, []impl.Record{last}}, {[]impl.Diff{diffOf(t, 9, 9, "-a.b. 61 SOA . 9 1 2 3 4", "+"+startOn(9))}, 9, []impl.Record{last}},
		// It does not matter whether a difference fits the zone, or is later than it.
		{[]impl.Diff{diffOf(t, 7, 9, "-"+startOn(7), "-c. 5 NS .", "+"+startOn(9), "+d. 5 NS .")}, 7, steps(diffOf(t, 7, 9, "-"+startOn(7), "-c. 5 NS .", "+"+startOn(9), "+d. 5 NS ."))}, {[]impl.Diff{startDiff(t, 2147483657, 9)}, 2147483657, steps(startDiff(t, 2147483657, 9))}, {[]impl.Diff{startDiff(t, 4294967295, 9)}, 4294967295, steps(startDiff(t, 4294967295, 9))},
		{[]impl.Diff{startDiff(t, 2147483656, 9)}, 2147483656, []impl.Record{last}},
	} {
		got, ok := impl.AnswerTransfer(nine, c.diffs, c.serial)
		checkSent(t, got, ok, c.want, "AnswerTransfer")
	}
	for _, d := range invalidDiffs(t) {
		d.From = 7
		got, ok := impl.AnswerTransfer(nine, []impl.Diff{to8, d}, 7)
		want, _ := answerTransferAs(nine, []impl.Diff{to8, d}, 7)
		checkSent(t, got, ok, want, "AnswerTransfer with an invalid difference")
	}
}

func TestAnswerTransferAsDefined(t *testing.T) {
	pool := recordsOf(t, startOn(7), startOn(8), "x.a.b. 5 A 1.1.1.1")
	var all []impl.Diff
	for _, serials := range [][2]int{{7, 8}, {8, 7}, {7, 7}} {
		for i, d := range poolDiffs(pool, serials[0], serials[1]) {
			if completeAs(d) || i%9 == 2 {
				all = append(all, d)
			}
		}
	}
	for _, z := range []impl.Zone{zoneOn(t, 8), zoneOn(t, 7, "x.a.b. 5 A 1.1.1.1"), zoneOn(t, 0)} {
		for _, a := range all {
			for _, b := range all {
				for _, diffs := range [][]impl.Diff{{a}, {a, b}, {b, a, b}, {a, a, b, b}} {
					for _, serial := range []int{6, 7, 8, 9, 4294967296} {
						got, ok := impl.AnswerTransfer(z, diffs, serial)
						if want, fits := answerTransferAs(z, diffs, serial); fits {
							checkSent(t, got, ok, want, "AnswerTransfer")
						} else {
							checkNotSent(t, got, ok, "AnswerTransfer")
						}
					}
				}
			}
		}
	}
}

// received returns the zone of one who had another one when messages came.
func received(t *testing.T, had impl.Zone, messages [][]impl.Record) impl.Zone {
	t.Helper()
	list, ok := impl.JoinStream(messages)
	if !ok {
		t.Fatal("the messages cannot be joined")
	}
	if len(list) == 1 {
		return had
	}
	diffs, ok := impl.ReadSteps(list)
	if !ok {
		z, ok := impl.ReadStream(list)
		if !ok {
			t.Fatalf("%q is neither a zone nor differences", listText(list))
		}
		return z
	}
	if z, ok := impl.ReadStream(list); ok {
		t.Errorf("%q is both the zone %q and differences", listText(list), zoneText(z))
	}
	for _, d := range diffs {
		if had, ok = impl.ApplyDiff(had, d); !ok {
			t.Fatalf("ApplyDiff(%q) = false", diffText(d))
		}
	}
	return had
}

func TestZonesAndDifferencesAreReadFromWhatIsSent(t *testing.T) {
	for _, first := range []int{0, 7, 4294967289, 4294967290, 4294967292, 4294967295} {
		diffs, zones := rowOfDiffs(t, first, 6)
		for to := range zones {
			for from := range to + 1 {
				for skipped := range to + 1 {
					list, ok := impl.AnswerTransfer(zones[to], diffs[skipped:to], serialAs(zones[from]))
					if !ok {
						t.Fatalf("AnswerTransfer from %d to %d = false", from, to)
					}
					for _, most := range []int{1, 2, 5, 100} {
						messages, ok := impl.CutStream(list, most)
						checkZone(t, received(t, zones[from], messages), ok, zones[to], "what was received")
					}
				}
			}
		}
	}
	for _, z := range zoneCases(t) {
		list, ok := impl.AnswerTransfer(z, nil, (serialAs(z)+4294967295)%4294967296)
		messages, _ := impl.CutStream(list, 7)
		checkZone(t, received(t, impl.Zone{}, messages), ok, z, "what was received")
	}
}

func TestNothingIsStillSentBehindACall(t *testing.T) {
	diffs, zones := rowOfDiffs(t, 7, 6)
	last := startRecord(zones[6])
	list, _ := stepsAs(last, diffs)
	// A bubble fails if something in it still waits at its end.
	synctest.Test(t, func(t *testing.T) {
		for i := range list {
			impl.ReadSteps(slices.Insert(copyList(list), i, list[i]))
			impl.ReadSteps(slices.Delete(copyList(list), i, i+1))
			impl.ReadStream(list[:i])
			impl.JoinStream([][]impl.Record{list[i:], list[:i]})
		}
		for i, z := range zones {
			impl.StreamOf(z)
			impl.StepsOf(last, diffs[i:])
			impl.AnswerTransfer(zones[6], diffs, serialAs(z))
		}
	})
}

// roomyDiffs returns differences like some, whose slices have memory beyond their lengths, and all of that memory.
func roomyDiffs(diffs []impl.Diff) ([]impl.Diff, [][]impl.Record) {
	var made []impl.Diff
	var all [][]impl.Record
	for _, d := range diffs {
		same, lists := roomyDiff(d)
		made = append(made, same)
		all = append(all, lists[:]...)
	}
	return append(made, impl.Diff{From: 5})[:len(made)], all
}

// transferCalls returns the functions of the chapter, each with lists as its result.
func transferCalls(t *testing.T) map[string]func(z impl.Zone, diffs []impl.Diff, list []impl.Record) [][]impl.Record {
	t.Helper()
	single := func(list []impl.Record, ok bool) [][]impl.Record {
		if !ok {
			t.Error("a call returns nothing")
		}
		return [][]impl.Record{list}
	}
	return map[string]func(z impl.Zone, diffs []impl.Diff, list []impl.Record) [][]impl.Record{
		"StreamOf": func(z impl.Zone, _ []impl.Diff, _ []impl.Record) [][]impl.Record { return single(impl.StreamOf(z)) },
		"ReadStream": func(_ impl.Zone, _ []impl.Diff, list []impl.Record) [][]impl.Record {
			z, ok := impl.ReadStream(list)
			return single(z.Records, ok)
		},
		"CutStream": func(_ impl.Zone, _ []impl.Diff, list []impl.Record) [][]impl.Record {
			messages, _ := impl.CutStream(list, 2)
			return messages
		},
		"CutOne": func(_ impl.Zone, _ []impl.Diff, list []impl.Record) [][]impl.Record {
			messages, _ := impl.CutStream(list, 100)
			return messages
		},
		"JoinStream": func(z impl.Zone, _ []impl.Diff, list []impl.Record) [][]impl.Record {
			return single(impl.JoinStream([][]impl.Record{list, z.Records, list}))
		},
		"JoinOne": func(_ impl.Zone, _ []impl.Diff, list []impl.Record) [][]impl.Record {
			return single(impl.JoinStream([][]impl.Record{list}))
		},
		"StepsOf": func(z impl.Zone, diffs []impl.Diff, _ []impl.Record) [][]impl.Record {
			return single(impl.StepsOf(startRecord(z), diffs))
		},
		"AnswerStart": func(z impl.Zone, diffs []impl.Diff, _ []impl.Record) [][]impl.Record {
			return single(impl.AnswerTransfer(z, diffs, 9))
		},
		"AnswerSteps": func(z impl.Zone, diffs []impl.Diff, _ []impl.Record) [][]impl.Record {
			return single(impl.AnswerTransfer(z, diffs, 8))
		},
		"AnswerStream": func(z impl.Zone, diffs []impl.Diff, _ []impl.Record) [][]impl.Record {
			return single(impl.AnswerTransfer(z, diffs, 6))
		},
	}
}

// copyLists returns lists that share nothing with others.
func copyLists(lists [][]impl.Record) [][]impl.Record {
	var made [][]impl.Record
	for _, list := range lists {
		made = append(made, wholeCopy(list))
	}
	return made
}

// sameLists reports whether lists are the same.
func sameLists(a [][]impl.Record, b [][]impl.Record) bool {
	return slices.EqualFunc(a, b, sameRecords)
}

// checkListsNew reports lists, or records in them, that share memory.
func checkListsNew(t *testing.T, lists [][]impl.Record, call string) {
	t.Helper()
	before := make([][]impl.Record, len(lists))
	for i, list := range lists {
		before[i] = copyList(list)
	}
	for i, list := range lists {
		spoilOne(t, list, call)
		spoil(list)
		if !sameLists(lists[i+1:], before[i+1:]) {
			t.Fatalf("lists of one result of %s share memory", call)
		}
	}
	// The memory of the lists themselves must not be that of the next ones.
	for i, list := range lists[:cap(lists)][len(lists):] {
		if len(list) > 0 {
			t.Errorf("%s has a list behind its end at %d", call, i)
		}
	}
}

func TestTransfersAreNew(t *testing.T) {
	seven, eight, nine := zoneOn(t, 7, "w.a.b. 5 MX 1 .", "x.a.b. 5 A 1.1.1.1"), zoneOn(t, 8, "w.a.b. 5 MX 2 .", "a.b. 5 A 1.2.3.4"), zoneOn(t, 9, "w.a.b. 5 MX 3 .", "a.b. 5 A 1.2.3.5")
	for name, call := range transferCalls(t) {
		z, whole := roomy(nine)
		diffs, all := roomyDiffs([]impl.Diff{diffAs(seven, eight), diffAs(eight, nine)})
		sent, wholeSent := roomy(impl.Zone{Records: streamAs(eight)})
		all = append(all, whole, wholeSent)
		before := copyLists(all)
		first, second := call(z, diffs, sent.Records), call(z, diffs, sent.Records)
		want := copyLists(second)
		for i, list := range second {
			want[i] = copyList(list)
		}
		if len(first) == 0 || !sameLists(first, want) {
			t.Fatalf("%s = %v, and then %v", name, first, second)
		}
		checkListsNew(t, first, name)
		if !sameLists(second, want) {
			t.Errorf("%s: a result changed to %v", name, second)
		}
		if !sameLists(copyLists(all), before) {
			t.Errorf("%s: an argument changed to %v", name, all)
		}
		if third := call(z, diffs, sent.Records); !sameLists(third, want) {
			t.Errorf("%s = %v after its result was written to", name, third)
		}
		for _, list := range all {
			spoil(list)
		}
		if !sameLists(second, want) {
			t.Errorf("%s: a result changed to %v with an argument", name, second)
		}
		if beyond := diffs[:cap(diffs)][2:]; beyond[0].From != 5 {
			t.Errorf("%s writes behind the differences", name)
		}
	}
}

func TestReadStepsAreNew(t *testing.T) {
	wanted := []impl.Diff{
		diffOf(t, 7, 8, "-a.b. 5 NS .", "-"+startOn(7), "-w.a.b. 5 MX 1 .", "+"+startOn(8), "+w.a.b. 5 MX 2 ."),
		diffOf(t, 8, 9, "-"+startOn(8), "-w.a.b. 5 MX 2 .", "+a.b. 5 A 1.2.3.4", "+"+startOn(9), "+w.a.b. 5 MX 3 ."),
	}
	steps, _ := stepsAs(recordOf(t, startOn(9)), wanted)
	sent, whole := roomy(impl.Zone{Records: steps})
	before := wholeCopy(whole)
	first, ok := impl.ReadSteps(sent.Records)
	checkSteps(t, first, ok, wanted, "ReadSteps")
	second, _ := impl.ReadSteps(sent.Records)
	checkDiffNew(t, first[0], "ReadSteps")
	if !sameDiff(first[1], wanted[1]) {
		t.Error("differences of one result of ReadSteps share memory")
	}
	checkDiffNew(t, first[1], "ReadSteps")
	checkSteps(t, second, true, wanted, "ReadSteps before its first result was written to")
	if !sameRecords(wholeCopy(whole), before) {
		t.Errorf("ReadSteps changes its argument to %v", whole)
	}
	third, ok := impl.ReadSteps(sent.Records)
	checkSteps(t, third, ok, wanted, "ReadSteps after its result was written to")
	spoil(whole)
	checkSteps(t, second, true, wanted, "ReadSteps before its argument was written to")
}

func TestTransfersAreNotChangedByQuestions(t *testing.T) {
	lists := [][]impl.Record{nil, invalidRecords(), recordsOf(t, zoneTexts...), rowOf(t, 401), streamAs(bigZone(t, 61))}
	for _, c := range faultCases(t) {
		if len(c.zone.Records) <= 70 {
			lists = append(lists, c.zone.Records, streamAs(c.zone))
		}
	}
	good := zoneOn(t, 7)
	for _, list := range lists {
		z, all := roomy(impl.Zone{Origin: "a.b.", Records: list})
		d := impl.Diff{From: 6, To: 7, Out: z.Records, In: z.Records}
		before := wholeCopy(all)
		messages := [][]impl.Record{z.Records, z.Records, {}, all}[:2]
		impl.StreamOf(z)
		impl.ReadStream(z.Records)
		impl.CutStream(z.Records, 3)
		impl.JoinStream(messages)
		impl.ReadSteps(z.Records)
		impl.AnswerTransfer(z, []impl.Diff{d}, 6)
		impl.AnswerTransfer(good, []impl.Diff{d, startDiff(t, 6, 7)}, 6)
		if len(z.Records) > 0 {
			impl.StepsOf(z.Records[0], []impl.Diff{d})
		}
		if !sameRecords(wholeCopy(all), before) || len(messages[:4][2]) != 0 || len(messages[0]) != len(list) {
			t.Fatalf("the list %q changed to %v", listText(list), all)
		}
	}
}
