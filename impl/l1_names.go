package impl

import "strings"

// Limits of names.
const (
	MaxLabel  = 10
	MaxLabels = 8
	MaxName   = 60
)

// Texts with a meaning of their own.
const (
	rootName   = "."
	starLabel  = "*"
	originText = "@"
)

// smallLetters has the small letter of each capital one, in the order of the capital ones.
const smallLetters = "abcdefghijklmnopqrstuvwxyz"

// NameValid reports whether s is a name.
func NameValid(s string) bool {
	_, ok := splitName(s)
	return ok
}

// LabelsOf returns the labels of a name.
func LabelsOf(s string) []string {
	labels, _ := splitName(s)
	return labels
}

// NameOf returns the name of some labels.
func NameOf(labels []string) (string, bool) {
	if !labelsValid(labels) {
		return "", false
	}
	// Only now is the text known to be short, whatever the labels were.
	name := joinLabels(labels)
	if len(name) > MaxName {
		return "", false
	}
	return name, true
}

// ReadName reads a name as it is written below an origin.
func ReadName(text string, origin string) (string, bool) {
	if !NameValid(origin) || text == "" || len(text) > MaxName {
		return "", false
	}
	name := fullText(text, origin)
	if !NameValid(name) {
		return "", false
	}
	return name, true
}

// ShortName returns the shortest text of a name below an origin.
func ShortName(s string, origin string) (string, bool) {
	if !NameValid(s) || !NameValid(origin) {
		return "", false
	}
	if s == origin {
		return originText, true
	}
	if origin == rootName || !IsBelow(s, origin) {
		return s, true
	}
	return strings.TrimSuffix(s, "."+origin), true
}

// NameBefore reports whether a name is in front of another one.
func NameBefore(a string, b string) bool {
	first, firstValid := splitName(a)
	second, secondValid := splitName(b)
	if !firstValid || !secondValid {
		return false
	}
	same := commonEnd(first, second)
	if same == len(first) || same == len(second) {
		return len(first) < len(second)
	}
	return first[len(first)-1-same] < second[len(second)-1-same]
}

// IsBelow reports whether a name is below another one, or equal.
func IsBelow(s string, top string) bool {
	labels, valid := splitName(s)
	ends, topValid := splitName(top)
	return valid && topValid && commonEnd(labels, ends) == len(ends)
}

// ParentOf returns a name without its first label.
func ParentOf(s string) (string, bool) {
	labels, ok := splitName(s)
	if !ok || len(labels) == 0 {
		return "", false
	}
	return joinLabels(labels[1:]), true
}

// StarOf returns the wildcard name in place of a name.
func StarOf(s string) (string, bool) {
	labels, ok := splitName(s)
	if !ok || len(labels) == 0 {
		return "", false
	}
	labels[0] = starLabel
	return joinLabels(labels), true
}

// CommonTop returns the longest name that two names are below.
func CommonTop(a string, b string) (string, bool) {
	first, firstValid := splitName(a)
	second, secondValid := splitName(b)
	if !firstValid || !secondValid {
		return "", false
	}
	same := commonEnd(first, second)
	return joinLabels(first[len(first)-same:]), true
}

// splitName returns the labels of s, in a new slice, and whether s is a valid name.
func splitName(s string) ([]string, bool) {
	if s == rootName {
		return nil, true
	}
	if len(s) > MaxName || !strings.HasSuffix(s, ".") {
		return nil, false
	}
	var labels []string
	start := 0
	for i, r := range s {
		if r == '.' {
			labels = append(labels, s[start:i])
			start = i + 1
		}
	}
	if !labelsValid(labels) {
		return nil, false
	}
	return labels, true
}

// joinLabels returns the text of a name with these labels.
func joinLabels(labels []string) string {
	return strings.Join(labels, ".") + "."
}

// labelsValid reports whether a name could have these labels, but for its length.
func labelsValid(labels []string) bool {
	if len(labels) > MaxLabels {
		return false
	}
	for i, label := range labels {
		if !labelValid(label) && (i > 0 || label != starLabel) {
			return false
		}
	}
	return true
}

// labelValid reports whether a label can stand anywhere in a name, as the wildcard cannot.
func labelValid(label string) bool {
	if label == "" || len(label) > MaxLabel {
		return false
	}
	for _, r := range label {
		if !isLabelRune(r) {
			return false
		}
	}
	return true
}

// isLabelRune reports whether a label can contain r.
func isLabelRune(r rune) bool {
	return 'a' <= r && r <= 'z' || '0' <= r && r <= '9' || r == '-' || r == '_'
}

// fullText returns what text stands for below a valid origin; this need not be a name.
func fullText(text string, origin string) string {
	if text == originText {
		return origin
	}
	small := withSmallLetters(text)
	if strings.HasSuffix(small, ".") {
		return small
	}
	if origin == rootName {
		return small + "."
	}
	return small + "." + origin
}

// withSmallLetters changes the letters from A to Z alone: strings.ToLower would make names of others, such as the Kelvin sign.
func withSmallLetters(text string) string {
	small := []byte(text)
	for i, r := range text {
		if 'A' <= r && r <= 'Z' {
			small[i] = smallLetters[r-'A']
		}
	}
	return string(small)
}

// commonEnd returns how many elements are the same at the ends of a and b, compared from the last ones on.
func commonEnd[T comparable](a []T, b []T) int {
	same := 0
	for same < len(a) && same < len(b) && a[len(a)-1-same] == b[len(b)-1-same] {
		same++
	}
	return same
}
