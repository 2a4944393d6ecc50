package tests

import (
	"math"
	"slices"
	"strconv"
	"strings"
	"testing"

	"loop.example/zonefiles/impl"
)

// answerTexts are the records of a zone with wildcards, cuts, aliases and names without records, in order.
var answerTexts = []string{
	"a.b. 60 NS ns.a.b.", startText, "a.b. 300 MX 5 mail.a.b.",
	"*.a.b. 300 A 9.9.9.9", "*.a.b. 300 A 9.9.9.10", "*.a.b. 60 TXT \"any\"",
	"al.a.b. 300 CNAME www.a.b.", "*.c.a.b. 60 CNAME al.a.b.",
	"*.deep.a.b. 8 MX 5 w.a.b.", "e.d.deep.a.b. 60 TXT \"deep\"", "*.x.deep.a.b. 7 TXT \"x\"",
	"*.s.a.b. 9 NS ns.s.a.b.",
	"sub.a.b. 300 NS ns.sub.a.b.", "sub.a.b. 300 NS ns2.sub.a.b.", "sub.a.b. 5 TXT \"s\"", "*.sub.a.b. 5 CNAME c.", "low.sub.a.b. 5 NS .", "ns.sub.a.b. 300 A 5.6.7.8",
	"www.a.b. 300 A 1.2.3.4", "www.a.b. 300 A 1.2.3.5", "www.a.b. 60 TXT \"x; y\"", "*.www.a.b. 1 CNAME www.a.b.", "x.www.a.b. 60 CNAME out.",
}

// answerWords are the codes of answers in words.
var answerWords = []string{"none", "data", "alias", "nothing", "missing", "refer", "outside"}

// answerZone returns the zone of answerTexts.
func answerZone(t *testing.T) impl.Zone {
	t.Helper()
	z := zoneOf(t, "a.b.", answerTexts...)
	checkFault(t, z, 0, 0)
	return z
}

// sameAnswer reports whether two answers are equal, without the package.
func sameAnswer(a impl.Answer, b impl.Answer) bool {
	return a.Code == b.Code && a.Name == b.Name && sameRecords(a.Records, b.Records)
}

// answerText returns what an answer says, for messages and for comparisons with texts.
func answerText(a impl.Answer) string {
	word := strconv.Itoa(a.Code)
	if 0 <= a.Code && a.Code < len(answerWords) {
		word = answerWords[a.Code]
	}
	lines := []string{word + " " + a.Name}
	for _, r := range a.Records {
		lines = append(lines, impl.FormatRecord(r))
	}
	return strings.Join(lines, "\n")
}

// checkAnswer reports an answer that does not say the wanted text, whose lines are joined here.
func checkAnswer(t *testing.T, z impl.Zone, name string, kind int, lines ...string) {
	t.Helper()
	got, ok := impl.LookUp(z, name, kind)
	if want := strings.Join(lines, "\n"); !ok || answerText(got) != want {
		t.Errorf("LookUp(%q, %d) = %q, %v; want %q", name, kind, answerText(got), ok, want)
	}
}

// checkAnswers reports answers that do not say the wanted texts.
func checkAnswers(t *testing.T, z impl.Zone, name string, kind int, want ...string) {
	t.Helper()
	list, ok := impl.FollowUp(z, name, kind)
	var got []string
	for _, a := range list {
		got = append(got, answerText(a))
	}
	if !ok || !slices.Equal(got, want) {
		t.Errorf("FollowUp(%q, %d) = %q, %v; want %q", name, kind, got, ok, want)
	}
}

// checkNoAnswer reports an answer to a question that has none.
func checkNoAnswer(t *testing.T, z impl.Zone, name string, kind int) {
	t.Helper()
	if got, ok := impl.LookUp(z, name, kind); ok || !sameAnswer(got, impl.Answer{}) {
		t.Errorf("LookUp(%.100q, %d) = %q, %v; want no answer", name, kind, answerText(got), ok)
	}
	if got, ok := impl.FollowUp(z, name, kind); ok || len(got) != 0 {
		t.Errorf("FollowUp(%.100q, %d) = %v, %v; want no answer", name, kind, got, ok)
	}
}

func TestAnswerConstants(t *testing.T) {
	codes := []int{impl.AnswerData, impl.AnswerAlias, impl.AnswerNothing, impl.AnswerMissing, impl.AnswerRefer, impl.AnswerOutside}
	if !slices.Equal(codes, []int{1, 2, 3, 4, 5, 6}) {
		t.Errorf("the codes are %v", codes)
	}
}

func TestOwnersOf(t *testing.T) {
	want := []string{
		"a.b.", "*.a.b.", "al.a.b.", "*.c.a.b.", "*.deep.a.b.", "e.d.deep.a.b.", "*.x.deep.a.b.", "*.s.a.b.",
		"sub.a.b.", "*.sub.a.b.", "low.sub.a.b.", "ns.sub.a.b.", "www.a.b.", "*.www.a.b.", "x.www.a.b.",
	}
	if got := impl.OwnersOf(answerZone(t)); !slices.Equal(got, want) {
		t.Errorf("OwnersOf = %q; want %q", got, want)
	}
	for _, z := range zoneCases(t) {
		var owners []string
		for _, r := range z.Records {
			if !slices.Contains(owners, r.Name) {
				owners = append(owners, r.Name)
			}
		}
		slices.SortFunc(owners, compareNames)
		if got := impl.OwnersOf(z); !slices.Equal(got, owners) {
			t.Errorf("OwnersOf(%q) = %q; want %q", zoneText(z), got, owners)
		}
	}
	if got := impl.OwnersOf(bigZone(t, 60)); len(got) != 60 || got[0] != "a.b." || got[59] != "h158.a.b." {
		t.Errorf("OwnersOf of 60 names = %q", got)
	}
}

func TestNameExists(t *testing.T) {
	z := answerZone(t)
	for _, name := range []string{
		"a.b.", "*.a.b.", "al.a.b.", "c.a.b.", "*.c.a.b.", "deep.a.b.", "*.deep.a.b.", "x.deep.a.b.", "*.x.deep.a.b.", "d.deep.a.b.", "e.d.deep.a.b.",
		"s.a.b.", "*.s.a.b.", "sub.a.b.", "*.sub.a.b.", "low.sub.a.b.", "ns.sub.a.b.", "www.a.b.", "*.www.a.b.", "x.www.a.b.",
	} {
		if !impl.NameExists(z, name) {
			t.Errorf("NameExists(%q) = false", name)
		}
	}
	for _, name := range []string{
		".", "b.", "c.", "*.", "*.b.", "out.", "ns.b.", "xa.b.", "b.a.", "a.b.a.b.", "q.a.b.", "ns.a.b.", "mail.a.b.", "w.a.b.", "ww.a.b.", "wwww.a.b.", "e.deep.a.b.", "q.c.a.b.", "*.d.deep.a.b.",
		"f.e.d.deep.a.b.", "*.e.d.deep.a.b.", "q.sub.a.b.", "*.al.a.b.", "ns2.sub.a.b.", "*.q.a.b.", "eep.a.b.", "q.x.www.a.b.",
	} {
		if impl.NameExists(z, name) {
			t.Errorf("NameExists(%q) = true", name)
		}
	}
	root := zoneOf(t, ".", startAt("."), "*.a. 2 NS .", "x.y. 3 A 0.0.0.0")
	for name, want := range map[string]bool{".": true, "a.": true, "y.": true, "x.y.": true, "*.a.": true, "*.": false, "x.": false, "b.": false, "x.a.": false, "q.x.y.": false} {
		if impl.NameExists(root, name) != want {
			t.Errorf("NameExists(%q) = %v below the root", name, !want)
		}
	}
}

func TestCutOf(t *testing.T) {
	z := answerZone(t)
	for name, want := range map[string]string{
		"sub.a.b.": "sub.a.b.", "ns.sub.a.b.": "sub.a.b.", "q.sub.a.b.": "sub.a.b.", "*.sub.a.b.": "sub.a.b.", "low.sub.a.b.": "sub.a.b.", "x.low.sub.a.b.": "sub.a.b.", "a.b.c.d.sub.a.b.": "sub.a.b.",
		"*.s.a.b.": "*.s.a.b.", "q.s.a.b.": "", "s.a.b.": "", "a.b.": "", "*.a.b.": "", "q.a.b.": "", "www.a.b.": "", "xsub.a.b.": "", "sub.b.": "", "ub.a.b.": "",
		".": "", "b.": "", "c.": "", "sub.": "", "sub.a.b.c.": "", "a.b.sub.": "",
	} {
		got, ok := impl.CutOf(z, name)
		checkText(t, got, ok, want, "CutOf", name)
	}
	root := zoneOf(t, ".", ". 5 NS .", startAt("."), "a. 5 NS .", "*.b. 5 NS .", "x.y.b. 5 NS a.", "y.x.y.b. 6 NS .")
	for name, want := range map[string]string{
		".": "", "a.": "a.", "q.a.": "a.", "*.a.": "a.", "b.": "", "*.b.": "*.b.", "q.b.": "", "y.b.": "", "x.y.b.": "x.y.b.", "y.x.y.b.": "x.y.b.", "z.x.y.b.": "x.y.b.", "c.": "", "*.": "",
	} {
		got, ok := impl.CutOf(root, name)
		checkText(t, got, ok, want, "CutOf below the root", name)
	}
}

func TestClosestOf(t *testing.T) {
	z := answerZone(t)
	for name, want := range map[string]string{
		"a.b.": "a.b.", "www.a.b.": "www.a.b.", "q.www.a.b.": "www.a.b.", "p.q.www.a.b.": "www.a.b.", "*.www.a.b.": "*.www.a.b.", "q.a.b.": "a.b.", "p.q.a.b.": "a.b.", "*.q.a.b.": "a.b.", "*.a.b.": "*.a.b.",
		"c.a.b.": "c.a.b.", "q.c.a.b.": "c.a.b.", "deep.a.b.": "deep.a.b.", "d.deep.a.b.": "d.deep.a.b.", "f.d.deep.a.b.": "d.deep.a.b.", "e.d.deep.a.b.": "e.d.deep.a.b.", "a.b.e.d.deep.a.b.": "e.d.deep.a.b.",
		"e.deep.a.b.": "deep.a.b.", "d.x.deep.a.b.": "x.deep.a.b.", "q.sub.a.b.": "sub.a.b.", "q.low.sub.a.b.": "low.sub.a.b.", "a.b.a.b.": "a.b.", "x.a.b.a.b.": "a.b.", "ww.a.b.": "a.b.",
		".": "", "b.": "", "c.": "", "*.b.": "", "xa.b.": "", "www.": "", "www.a.": "", "a.b.c.": "",
	} {
		got, ok := impl.ClosestOf(z, name)
		checkText(t, got, ok, want, "ClosestOf", name)
	}
	root := zoneOf(t, ".", startAt("."), "*.a. 2 NS .", "x.y. 3 A 0.0.0.0")
	for name, want := range map[string]string{".": ".", "q.": ".", "p.q.": ".", "*.": ".", "a.": "a.", "q.a.": "a.", "*.a.": "*.a.", "y.": "y.", "x.y.": "x.y.", "z.x.y.": "x.y.", labels8: "."} {
		got, ok := impl.ClosestOf(root, name)
		checkText(t, got, ok, want, "ClosestOf below the root", name)
	}
	star := zoneOf(t, "*.a.", startAt("*.a."))
	for name, want := range map[string]string{"*.a.": "*.a.", "q.a.": "", "a.": "", ".": ""} {
		got, ok := impl.ClosestOf(star, name)
		checkText(t, got, ok, want, "ClosestOf below a wildcard", name)
	}
}

func TestLookUpOfNamesThatExist(t *testing.T) {
	z := answerZone(t)
	checkAnswer(t, z, "www.a.b.", impl.KindA, "data www.a.b.", "www.a.b. 300 A 1.2.3.4", "www.a.b. 300 A 1.2.3.5")
	checkAnswer(t, z, "www.a.b.", impl.KindTxt, "data www.a.b.", "www.a.b. 60 TXT \"x; y\"")
	checkAnswer(t, z, "www.a.b.", impl.KindCname, "nothing www.a.b.", startText)
	checkAnswer(t, z, "www.a.b.", impl.KindNs, "nothing www.a.b.", startText)
	checkAnswer(t, z, "www.a.b.", impl.KindSoa, "nothing www.a.b.", startText)
	checkAnswer(t, z, "a.b.", impl.KindNs, "data a.b.", "a.b. 60 NS ns.a.b.")
	checkAnswer(t, z, "a.b.", impl.KindSoa, "data a.b.", startText)
	checkAnswer(t, z, "a.b.", impl.KindMx, "data a.b.", "a.b. 300 MX 5 mail.a.b.")
	checkAnswer(t, z, "a.b.", impl.KindA, "nothing a.b.", startText)
	checkAnswer(t, z, "al.a.b.", impl.KindCname, "data al.a.b.", "al.a.b. 300 CNAME www.a.b.")
	for _, kind := range []int{1, 2, 6, 12, 15, 16} {
		checkAnswer(t, z, "al.a.b.", kind, "alias al.a.b.", "al.a.b. 300 CNAME www.a.b.")
		checkAnswer(t, z, "x.www.a.b.", kind, "alias x.www.a.b.", "x.www.a.b. 60 CNAME out.")
	}
	for _, kind := range []int{1, 2, 5, 6, 12, 15, 16} {
		for _, name := range []string{"c.a.b.", "deep.a.b.", "d.deep.a.b.", "x.deep.a.b.", "s.a.b."} {
			checkAnswer(t, z, name, kind, "nothing "+name, startText)
		}
	}
	checkAnswer(t, z, "*.a.b.", impl.KindA, "data *.a.b.", "*.a.b. 300 A 9.9.9.9", "*.a.b. 300 A 9.9.9.10")
	checkAnswer(t, z, "*.a.b.", impl.KindMx, "nothing *.a.b.", startText)
	checkAnswer(t, z, "*.c.a.b.", impl.KindMx, "alias *.c.a.b.", "*.c.a.b. 60 CNAME al.a.b.")
}

func TestLookUpOfWildcards(t *testing.T) {
	z := answerZone(t)
	for _, name := range []string{"q.a.b.", "p.q.a.b.", "*.q.a.b.", "a.b.a.b.", "ns.a.b.", "mail.a.b.", "ww.a.b.", "deep.q.a.b.", "a.b.c.d.e.f.a.b."} {
		checkAnswer(t, z, name, impl.KindA, "data *.a.b.", name+" 300 A 9.9.9.9", name+" 300 A 9.9.9.10")
		checkAnswer(t, z, name, impl.KindTxt, "data *.a.b.", name+" 60 TXT \"any\"")
		for _, kind := range []int{2, 5, 6, 12, 15} {
			checkAnswer(t, z, name, kind, "nothing *.a.b.", startText)
		}
	}
	for _, name := range []string{"q.c.a.b.", "p.q.c.a.b.", "*.q.c.a.b."} {
		checkAnswer(t, z, name, impl.KindA, "alias *.c.a.b.", name+" 60 CNAME al.a.b.")
		checkAnswer(t, z, name, impl.KindCname, "data *.c.a.b.", name+" 60 CNAME al.a.b.")
	}
	checkAnswer(t, z, "q.www.a.b.", impl.KindA, "alias *.www.a.b.", "q.www.a.b. 1 CNAME www.a.b.")
	checkAnswer(t, z, "q.deep.a.b.", impl.KindMx, "data *.deep.a.b.", "q.deep.a.b. 8 MX 5 w.a.b.")
	checkAnswer(t, z, "q.deep.a.b.", impl.KindA, "nothing *.deep.a.b.", startText)
	checkAnswer(t, z, "q.x.deep.a.b.", impl.KindTxt, "data *.x.deep.a.b.", "q.x.deep.a.b. 7 TXT \"x\"")
	checkAnswer(t, z, "q.x.deep.a.b.", impl.KindMx, "nothing *.x.deep.a.b.", startText)
	checkAnswer(t, z, "q.s.a.b.", impl.KindNs, "data *.s.a.b.", "q.s.a.b. 9 NS ns.s.a.b.")
	checkAnswer(t, z, "q.s.a.b.", impl.KindA, "nothing *.s.a.b.", startText)
}

func TestLookUpOfMissingNames(t *testing.T) {
	z := answerZone(t)
	for _, kind := range []int{1, 2, 5, 6, 12, 15, 16} {
		// What is below another name that exists is out of the reach of a wildcard above that.
		for name, closest := range map[string]string{
			"q.al.a.b.": "al.a.b.", "*.al.a.b.": "al.a.b.", "p.q.al.a.b.": "al.a.b.", "q.d.deep.a.b.": "d.deep.a.b.", "q.e.d.deep.a.b.": "e.d.deep.a.b.", "*.d.deep.a.b.": "d.deep.a.b.", "q.x.www.a.b.": "x.www.a.b.",
		} {
			checkAnswer(t, z, name, kind, "missing "+closest, startText)
		}
		for _, name := range []string{".", "b.", "c.", "*.", "*.b.", "xa.b.", "out.", "www.a.", "a.b.c.", "ns.b."} {
			checkAnswer(t, z, name, kind, "outside "+name)
		}
	}
	small := zoneOf(t, "a.b.", startText)
	for _, name := range []string{"q.a.b.", "p.q.a.b.", "*.a.b.", "*.q.a.b."} {
		checkAnswer(t, small, name, impl.KindA, "missing a.b.", startText)
		checkAnswer(t, small, name, impl.KindSoa, "missing a.b.", startText)
	}
}

func TestLookUpBelowCuts(t *testing.T) {
	z := answerZone(t)
	for _, kind := range []int{1, 2, 5, 6, 12, 15, 16} {
		for _, name := range []string{"sub.a.b.", "ns.sub.a.b.", "q.sub.a.b.", "*.sub.a.b.", "low.sub.a.b.", "q.low.sub.a.b.", "a.b.c.d.sub.a.b."} {
			checkAnswer(t, z, name, kind, "refer sub.a.b.", "sub.a.b. 300 NS ns.sub.a.b.", "sub.a.b. 300 NS ns2.sub.a.b.")
		}
		checkAnswer(t, z, "*.s.a.b.", kind, "refer *.s.a.b.", "*.s.a.b. 9 NS ns.s.a.b.")
	}
}

func TestLookUpBelowTheRoot(t *testing.T) {
	start := ". 5 SOA x. 7 1 2 3 4"
	z := zoneOf(t, ".", ". 5 NS .", start, "*. 9 A 1.1.1.1", "*. 8 TXT \"\"", "a. 5 NS .", "x.y. 3 CNAME q.")
	checkAnswer(t, z, ".", impl.KindNs, "data .", ". 5 NS .")
	checkAnswer(t, z, ".", impl.KindA, "nothing .", start)
	checkAnswer(t, z, "*.", impl.KindA, "data *.", "*. 9 A 1.1.1.1")
	checkAnswer(t, z, "q.", impl.KindA, "data *.", "q. 9 A 1.1.1.1")
	checkAnswer(t, z, "p.q.", impl.KindTxt, "data *.", "p.q. 8 TXT \"\"")
	checkAnswer(t, z, "q.", impl.KindMx, "nothing *.", start)
	checkAnswer(t, z, "y.", impl.KindA, "nothing y.", start)
	checkAnswer(t, z, "q.y.", impl.KindA, "missing y.", start)
	checkAnswer(t, z, "q.a.", impl.KindA, "refer a.", "a. 5 NS .")
	checkAnswers(t, z, "x.y.", impl.KindA, "alias x.y.\nx.y. 3 CNAME q.", "data *.\nq. 9 A 1.1.1.1")
	alone := zoneOf(t, ".", startAt("."))
	for _, name := range []string{"*.", "q.", labels8, labels8All, name60} {
		checkAnswer(t, alone, name, impl.KindA, "missing .", startAt("."))
	}
}

func TestLookUpAtLimits(t *testing.T) {
	big := bigZone(t, 60)
	checkAnswer(t, big, "h158.a.b.", impl.KindA, "data h158.a.b.", "h158.a.b. 300 A 1.1.1.1")
	checkAnswer(t, big, "h159.a.b.", impl.KindA, "missing a.b.", startText)
	checkNoAnswer(t, bigZone(t, 61), "h158.a.b.", impl.KindA)

	long := "*." + name60[len(label10):]
	z := zoneOf(t, ".", startAt("."), "*.b.c.d.e.f.g.h. 5 A 1.1.1.1", long+" 6 A 2.2.2.2")
	slices.SortFunc(z.Records, compareRecords)
	checkAnswer(t, z, labels8, impl.KindA, "data *.b.c.d.e.f.g.h.", labels8+" 5 A 1.1.1.1")
	checkAnswer(t, z, labels8All, impl.KindA, "data *.b.c.d.e.f.g.h.", labels8All+" 5 A 1.1.1.1")
	checkAnswer(t, z, name60, impl.KindA, "data "+long, name60+" 6 A 2.2.2.2")
	checkNoAnswer(t, z, "x."+labels8, impl.KindA)
	checkNoAnswer(t, z, name61, impl.KindA)
	full := zoneOf(t, name60, name60+" 0 SOA . 1 2 3 4 5")
	checkAnswer(t, full, name60, impl.KindA, "nothing "+name60, name60+" 0 SOA . 1 2 3 4 5")
	checkAnswer(t, full, "q.", impl.KindA, "outside q.")
	eight := zoneOf(t, labels8, startAt(labels8))
	checkAnswer(t, eight, labels8, impl.KindSoa, "data "+labels8, startAt(labels8))
	star := zoneOf(t, "*.a.", "*.a. 1 A 1.2.3.4", startAt("*.a."))
	checkAnswer(t, star, "*.a.", impl.KindA, "data *.a.", "*.a. 1 A 1.2.3.4")
	checkAnswer(t, star, "q.a.", impl.KindA, "outside q.a.")
}

func TestQuestionsMustBeValid(t *testing.T) {
	z := answerZone(t)
	for _, kind := range []int{0, -1, 3, 4, 7, 11, 13, 14, 17, 28, 257, -2, math.MinInt, math.MaxInt} {
		for _, name := range []string{"www.a.b.", "q.a.b.", "q.sub.a.b.", "c.", "q.al.a.b.", "c.a.b.", "al.a.b."} {
			checkNoAnswer(t, z, name, kind)
		}
	}
	for _, name := range append([]string{"www", "www.a.b", "WWW.a.b.", "a.*.b.", "x.*.a.b.", "@"}, invalidNames...) {
		for _, given := range []impl.Zone{z, zoneOf(t, ".", startAt("."))} {
			checkNoAnswer(t, given, name, impl.KindA)
			if impl.NameExists(given, name) {
				t.Errorf("NameExists(%.100q) = true", name)
			}
			cut, ok := impl.CutOf(given, name)
			checkText(t, cut, ok, "", "CutOf", name)
			closest, ok := impl.ClosestOf(given, name)
			checkText(t, closest, ok, "", "ClosestOf", name)
		}
	}
}

func TestQuestionsNeedZones(t *testing.T) {
	for _, c := range faultCases(t) {
		names := []string{"a.b.", "www.a.b.", "q.a.b.", "w.a.b.", "x.a.b.", "c.", ".", "*.a.b.", ""}
		for _, r := range c.zone.Records[:min(len(c.zone.Records), 3)] {
			names = append(names, r.Name)
		}
		if got := impl.OwnersOf(c.zone); len(got) != 0 {
			t.Errorf("OwnersOf(%.400q) = %q", zoneText(c.zone), got)
		}
		for _, name := range names[:min(len(names), 3000/(len(c.zone.Records)+1)+1)] {
			checkNoAnswer(t, c.zone, name, impl.KindA)
			if impl.NameExists(c.zone, name) {
				t.Errorf("NameExists(%q) = true in %.400q", name, zoneText(c.zone))
			}
			cut, ok := impl.CutOf(c.zone, name)
			checkText(t, cut, ok, "", "CutOf of an invalid zone", name)
			closest, ok := impl.ClosestOf(c.zone, name)
			checkText(t, closest, ok, "", "ClosestOf of an invalid zone", name)
		}
	}
}

func TestFollowUp(t *testing.T) {
	z := answerZone(t)
	address := "data www.a.b.\nwww.a.b. 300 A 1.2.3.4\nwww.a.b. 300 A 1.2.3.5"
	alias := "alias al.a.b.\nal.a.b. 300 CNAME www.a.b."
	checkAnswers(t, z, "www.a.b.", impl.KindA, address)
	checkAnswers(t, z, "al.a.b.", impl.KindA, alias, address)
	checkAnswers(t, z, "al.a.b.", impl.KindMx, alias, "nothing www.a.b.\n"+startText)
	checkAnswers(t, z, "al.a.b.", impl.KindCname, "data al.a.b.\nal.a.b. 300 CNAME www.a.b.")
	checkAnswers(t, z, "q.c.a.b.", impl.KindA, "alias *.c.a.b.\nq.c.a.b. 60 CNAME al.a.b.", alias, address)
	checkAnswers(t, z, "q.c.a.b.", impl.KindCname, "data *.c.a.b.\nq.c.a.b. 60 CNAME al.a.b.")
	checkAnswers(t, z, "q.www.a.b.", impl.KindTxt, "alias *.www.a.b.\nq.www.a.b. 1 CNAME www.a.b.", "data www.a.b.\nwww.a.b. 60 TXT \"x; y\"")
	checkAnswers(t, z, "x.www.a.b.", impl.KindA, "alias x.www.a.b.\nx.www.a.b. 60 CNAME out.", "outside out.")
	checkAnswers(t, z, "q.al.a.b.", impl.KindA, "missing al.a.b.\n"+startText)
	checkAnswers(t, z, "c.", impl.KindA, "outside c.")
	checkAnswers(t, z, "q.sub.a.b.", impl.KindA, "refer sub.a.b.\nsub.a.b. 300 NS ns.sub.a.b.\nsub.a.b. 300 NS ns2.sub.a.b.")

	other := zoneOf(t, "a.b.", startText, "e.d.a.b. 1 A 1.1.1.1", "p.a.b. 5 CNAME q.sub.a.b.", "q.a.b. 5 CNAME z.a.b.", "r.a.b. 5 CNAME d.a.b.", "sub.a.b. 5 NS .")
	checkAnswers(t, other, "p.a.b.", impl.KindNs, "alias p.a.b.\np.a.b. 5 CNAME q.sub.a.b.", "refer sub.a.b.\nsub.a.b. 5 NS .")
	checkAnswers(t, other, "q.a.b.", impl.KindA, "alias q.a.b.\nq.a.b. 5 CNAME z.a.b.", "missing a.b.\n"+startText)
	checkAnswers(t, other, "r.a.b.", impl.KindA, "alias r.a.b.\nr.a.b. 5 CNAME d.a.b.", "nothing d.a.b.\n"+startText)
}

func TestFollowUpAtLimits(t *testing.T) {
	for n := 1; n <= 12; n++ {
		texts := []string{startText}
		for i := range n {
			texts = append(texts, "c"+strconv.Itoa(100+i)+".a.b. 300 CNAME c"+strconv.Itoa(101+i)+".a.b.")
		}
		last := "c" + strconv.Itoa(100+n) + ".a.b."
		z := zoneOf(t, "a.b.", append(texts, last+" 5 A 1.1.1.1")...)
		var want []string
		for i := range min(n, 8) {
			want = append(want, "alias c"+strconv.Itoa(100+i)+".a.b.\n"+texts[1+i])
		}
		if n < 8 {
			want = append(want, "data "+last+"\n"+last+" 5 A 1.1.1.1")
		}
		checkAnswers(t, z, "c100.a.b.", impl.KindA, want...)
	}
}

func TestFollowUpInCircles(t *testing.T) {
	z := zoneOf(t, "a.b.", startText, "*.a.b. 5 CNAME r.s.a.b.", "l.a.b. 5 CNAME l.a.b.", "m.a.b. 5 CNAME n.a.b.", "n.a.b. 5 CNAME m.a.b.")
	loop := "alias l.a.b.\nl.a.b. 5 CNAME l.a.b."
	checkAnswers(t, z, "l.a.b.", impl.KindA, slices.Repeat([]string{loop}, 8)...)
	pair := []string{"alias m.a.b.\nm.a.b. 5 CNAME n.a.b.", "alias n.a.b.\nn.a.b. 5 CNAME m.a.b."}
	checkAnswers(t, z, "m.a.b.", impl.KindA, slices.Repeat(pair, 4)...)
	star := []string{"alias *.a.b.\nq.a.b. 5 CNAME r.s.a.b."}
	checkAnswers(t, z, "q.a.b.", impl.KindA, append(star, slices.Repeat([]string{"alias *.a.b.\nr.s.a.b. 5 CNAME r.s.a.b."}, 7)...)...)
	checkAnswers(t, z, "l.a.b.", impl.KindCname, "data l.a.b.\nl.a.b. 5 CNAME l.a.b.")
}

// isUnder reports whether a name is below another one, for names that are known to be valid.
func isUnder(s string, top string) bool {
	return top == "." || s == top || strings.HasSuffix(s, "."+top)
}

// below returns the name of the labels of front and of top.
func below(front string, top string) string {
	if top == "." {
		return front
	}
	return front + top
}

// answerAsDefined is chapter 5's definition of an answer, for arguments that are known to be valid.
func answerAsDefined(z impl.Zone, name string, kind int) impl.Answer {
	at := func(owner string, kind int) []impl.Record {
		var list []impl.Record
		for _, r := range z.Records {
			if r.Name == owner && r.Kind == kind {
				list = append(list, changed(r, func(r *impl.Record) { r.Name = name }))
			}
		}
		return list
	}
	if !isUnder(name, z.Origin) {
		return impl.Answer{Code: 6, Name: name}
	}
	start := z.Records[slices.IndexFunc(z.Records, func(r impl.Record) bool { return r.Kind == 6 })]
	cut, closest := cutAndClosestAsDefined(z, name)
	if cut != "" {
		servers := at(cut, 2)
		for i := range servers {
			servers[i].Name = cut
		}
		return impl.Answer{Code: 5, Name: cut, Records: servers}
	}
	for _, owner := range []string{name, below("*.", closest)} {
		if !existsAsDefined(z, owner) {
			continue
		}
		for code, kind := range []int{kind, 5} {
			if list := at(owner, kind); len(list) > 0 {
				return impl.Answer{Code: code + 1, Name: owner, Records: list}
			}
		}
		return impl.Answer{Code: 3, Name: owner, Records: []impl.Record{start}}
	}
	return impl.Answer{Code: 4, Name: closest, Records: []impl.Record{start}}
}

// existsAsDefined is chapter 5's definition of a name that exists.
func existsAsDefined(z impl.Zone, name string) bool {
	return isUnder(name, z.Origin) && slices.ContainsFunc(z.Records, func(r impl.Record) bool { return isUnder(r.Name, name) })
}

// cutAndClosestAsDefined is chapter 5's definition of both of these names, of all that there are; the empty text stands for none.
func cutAndClosestAsDefined(z impl.Zone, name string) (string, string) {
	cut, closest := "", ""
	for _, r := range z.Records {
		if r.Kind == 2 && r.Name != z.Origin && isUnder(name, r.Name) && (cut == "" || len(r.Name) < len(cut)) {
			cut = r.Name
		}
		labels := plainLabels(r.Name)
		for i := range len(labels) + 1 {
			top := strings.Join(append(slices.Clone(labels[i:]), ""), ".")
			if top == "" {
				top = "."
			}
			if isUnder(top, z.Origin) && isUnder(name, top) && len(top) > len(closest) {
				closest = top
			}
		}
	}
	return cut, closest
}

// checkAnswersAsDefined reports answers of a zone that are not as chapter 5 defines them.
func checkAnswersAsDefined(t *testing.T, z impl.Zone, names []string, kinds ...int) {
	t.Helper()
	for _, name := range names {
		cut, closest := cutAndClosestAsDefined(z, name)
		if !isUnder(name, z.Origin) {
			cut = ""
		}
		gotCut, ok := impl.CutOf(z, name)
		checkText(t, gotCut, ok, cut, "CutOf", name)
		gotClosest, ok := impl.ClosestOf(z, name)
		checkText(t, gotClosest, ok, closest, "ClosestOf", name)
		if got := impl.NameExists(z, name); got != existsAsDefined(z, name) {
			t.Errorf("NameExists(%q, %q) = %v", zoneText(z), name, got)
		}
		for _, kind := range kinds {
			want := answerAsDefined(z, name, kind)
			if got, ok := impl.LookUp(z, name, kind); !ok || !sameAnswer(got, want) {
				t.Errorf("LookUp(%q, %q, %d) = %q, %v; want %q", zoneText(z), name, kind, answerText(got), ok, answerText(want))
			}
		}
		checkFollowUpAsDefined(t, z, name, kinds[0])
	}
}

// checkFollowUpAsDefined reports answers of a question that are not as chapter 5 defines them.
func checkFollowUpAsDefined(t *testing.T, z impl.Zone, name string, kind int) {
	t.Helper()
	want := []impl.Answer{answerAsDefined(z, name, kind)}
	for len(want) < 8 && want[len(want)-1].Code == 2 {
		want = append(want, answerAsDefined(z, want[len(want)-1].Records[0].Target, kind))
	}
	if got, ok := impl.FollowUp(z, name, kind); !ok || !slices.EqualFunc(got, want, sameAnswer) {
		t.Errorf("FollowUp(%q, %q, %d) = %v, %v; want %v", zoneText(z), name, kind, got, ok, want)
	}
}

func TestAnswersAsDefined(t *testing.T) {
	for _, z := range append(zoneCases(t), answerZone(t)) {
		names := slices.Clone(validNames)
		for _, r := range z.Records {
			names = append(names, r.Name)
			for _, front := range []string{"q.", "*.", "p.q.", "x."} {
				if name := below(front, r.Name); isName(name) {
					names = append(names, name)
				}
			}
		}
		slices.Sort(names)
		checkAnswersAsDefined(t, z, slices.Compact(names), 1, 2, 5, 6, 12, 15, 16)
	}
}

func TestAnswersOfAllZonesAsDefined(t *testing.T) {
	pool := recordsOf(t,
		"a. 9 NS .", "*.a. 9 A 1.1.1.1", "*.a. 9 CNAME y.x.a.", "x.a. 9 A 3.3.3.3", "x.a. 9 NS .", "*.x.a. 9 TXT \"\"", "*.x.a. 9 CNAME q.a.",
		"y.x.a. 9 CNAME y.y.x.a.", "y.x.a. 9 NS .", "y.y.x.a. 9 A 2.2.2.2", "z.z.a. 9 NS .")
	names := []string{
		".", "a.", "b.", "xa.", "*.", "*.a.", "x.a.", "q.a.", "z.a.", "q.q.a.", "*.q.a.", "*.x.a.", "y.x.a.", "q.x.a.", "y.y.x.a.", "*.y.x.a.", "q.y.y.x.a.", "q.q.x.a.", "z.z.a.", "q.z.a.", "*.z.a.", "q.z.z.a.",
	}
	for set := range 1 << len(pool) {
		z := impl.Zone{Origin: "a.", Records: recordsOf(t, startAt("a."))}
		for i, r := range pool {
			if set>>i&1 == 1 {
				z.Records = append(z.Records, r)
			}
		}
		slices.SortFunc(z.Records, compareRecords)
		if !impl.ZoneValid(z) {
			continue
		}
		checkAnswersAsDefined(t, z, names, 1, 2)
	}
}

func TestAnswerSame(t *testing.T) {
	z := answerZone(t)
	answers := []impl.Answer{{}, {Code: 6}, {Code: -1, Name: "?", Records: []impl.Record{{}}}}
	for _, name := range []string{"www.a.b.", "q.a.b.", "p.q.a.b.", "al.a.b.", "q.al.a.b.", "c.", "sub.a.b.", "a.b.", "c.a.b.", "q.c.a.b."} {
		for _, kind := range []int{1, 5, 16} {
			answers = append(answers, answerAsDefined(z, name, kind))
		}
	}
	for i, a := range answers {
		if !impl.AnswerSame(a, a) || !impl.AnswerSame(a, impl.Answer{Code: a.Code, Name: a.Name, Records: copyZone(impl.Zone{Records: a.Records}).Records}) {
			t.Fatalf("%q is not the same as itself", answerText(a))
		}
		for j, b := range answers {
			if got := impl.AnswerSame(a, b); got != sameAnswer(a, b) {
				t.Errorf("AnswerSame of the answers %d and %d is %v", i, j, got)
			}
		}
	}
	if !impl.AnswerSame(impl.Answer{}, impl.Answer{Records: []impl.Record{}}) || !impl.AnswerSame(impl.Answer{Records: []impl.Record{{}}}, impl.Answer{Records: []impl.Record{{Nums: []int{}}}}) {
		t.Error("nothing and nil are not the same")
	}
}

func TestAnswerSameOfEachChange(t *testing.T) {
	a := answerAsDefined(answerZone(t), "www.a.b.", 1)
	differ := func(change func(a *impl.Answer)) {
		t.Helper()
		other := impl.Answer{Code: a.Code, Name: a.Name, Records: copyZone(impl.Zone{Records: a.Records}).Records}
		change(&other)
		if impl.AnswerSame(a, other) || impl.AnswerSame(other, a) {
			t.Errorf("AnswerSame of %q and %q", answerText(a), answerText(other))
		}
	}
	differ(func(a *impl.Answer) { a.Code = 2 })
	differ(func(a *impl.Answer) { a.Code = -1 })
	differ(func(a *impl.Answer) { a.Name = "*.a.b." })
	differ(func(a *impl.Answer) { a.Name = "" })
	differ(func(a *impl.Answer) { a.Records = nil })
	differ(func(a *impl.Answer) { a.Records = a.Records[:1] })
	differ(func(a *impl.Answer) { a.Records = append(a.Records, impl.Record{}) })
	differ(func(a *impl.Answer) { a.Records[0], a.Records[1] = a.Records[1], a.Records[0] })
	for i := range a.Records {
		differ(func(a *impl.Answer) { a.Records[i].Name = "q.a.b." })
		differ(func(a *impl.Answer) { a.Records[i].Ttl++ })
		differ(func(a *impl.Answer) { a.Records[i].Kind = 2 })
		differ(func(a *impl.Answer) { a.Records[i].Nums[3] = 9 })
		differ(func(a *impl.Answer) { a.Records[i].Nums = nil })
		differ(func(a *impl.Answer) { a.Records[i].Target = "." })
		differ(func(a *impl.Answer) { a.Records[i].Text = " " })
	}
}

// answerCalls are calls that return records of a zone, each with several slices where there can be some.
func answerCalls() map[string]func(z impl.Zone) []impl.Record {
	look := func(name string, kind int) func(z impl.Zone) []impl.Record {
		return func(z impl.Zone) []impl.Record { a, _ := impl.LookUp(z, name, kind); return a.Records }
	}
	follow := func(name string) func(z impl.Zone) []impl.Record {
		return func(z impl.Zone) []impl.Record {
			list, _ := impl.FollowUp(z, name, 1)
			var all []impl.Record
			for _, a := range list {
				all = append(all, a.Records...)
			}
			return all
		}
	}
	return map[string]func(z impl.Zone) []impl.Record{
		"data": look("www.a.b.", 1), "wildcard": look("q.a.b.", 1), "alias": look("al.a.b.", 1), "nothing": look("www.a.b.", 15), "missing": look("q.al.a.b.", 1), "refer": look("q.sub.a.b.", 1),
		"start": look("a.b.", 6), "mail": look("a.b.", 15), "followed": follow("q.c.a.b."), "in a circle": follow("l.a.b."),
	}
}

func TestAnswersAreNew(t *testing.T) {
	for name, call := range answerCalls() {
		given := answerZone(t)
		given.Records = append(given.Records, recordOf(t, "l.a.b. 5 CNAME l.a.b."))
		slices.SortFunc(given.Records, compareRecords)
		z, all := roomy(given)
		before := wholeCopy(all)
		first := call(z)
		second := call(z)
		want := copyZone(impl.Zone{Records: second}).Records
		if len(first) == 0 || !sameRecords(first, second) {
			t.Fatalf("%s = %v, and then %v", name, first, second)
		}
		spoilOne(t, first, name)
		spoil(first)
		if !sameRecords(second, want) {
			t.Errorf("%s: a result changed to %v", name, second)
		}
		if !sameRecords(wholeCopy(all), before) {
			t.Errorf("%s: the zone changed to %v", name, all)
		}
		spoil(z.Records)
		if !sameRecords(second, want) {
			t.Errorf("%s: a result changed to %v with the zone", name, second)
		}
	}
	z := answerZone(t)
	first, second := impl.OwnersOf(z), impl.OwnersOf(z)
	clear(first[:cap(first)])
	if !slices.Equal(second, impl.OwnersOf(answerZone(t))) || !sameZone(z, answerZone(t)) {
		t.Errorf("a result changed to %q", second)
	}
}

func TestFollowedAnswersShareNothing(t *testing.T) {
	z := zoneOf(t, "a.b.", startText, "l.a.b. 5 CNAME l.a.b.")
	list, ok := impl.FollowUp(z, "l.a.b.", impl.KindA)
	if !ok || len(list) != 8 {
		t.Fatalf("FollowUp = %v, %v", list, ok)
	}
	for i := range list {
		all := list[i].Records[:cap(list[i].Records)]
		clear(all)
		for _, a := range list[i+1:] {
			if answerText(a) != "alias l.a.b.\nl.a.b. 5 CNAME l.a.b." {
				t.Fatalf("answers of one result share memory: %q", answerText(a))
			}
		}
	}
}

func TestZonesAreNotChangedByAnswers(t *testing.T) {
	for _, c := range append(faultCases(t), faultCase{zone: answerZone(t)}) {
		if len(c.zone.Records) > 70 {
			continue
		}
		z, all := roomy(c.zone)
		before := wholeCopy(all)
		impl.OwnersOf(z)
		for _, name := range []string{"a.b.", "q.a.b.", "www.a.b.", "q.sub.a.b.", "q.c.a.b.", "c.", ""} {
			impl.NameExists(z, name)
			impl.CutOf(z, name)
			impl.ClosestOf(z, name)
			impl.LookUp(z, name, impl.KindA)
			impl.FollowUp(z, name, impl.KindA)
		}
		impl.AnswerSame(impl.Answer{Records: z.Records}, impl.Answer{Records: z.Records})
		if !sameRecords(wholeCopy(all), before) {
			t.Errorf("the zone %q changed to %v", zoneText(c.zone), all)
		}
	}
}
