package condition

import "hodoscope/api"

// keys is how many keys there are: those of layer 3's cells are the most.
const keys = 1 << 26

func isKind(kind int) bool {
	return kind >= 0 && kind < api.Kinds
}

func isTime(time int) bool {
	return time >= 0 && time <= api.MaxTime
}

func isList(l []api.Entry) bool {
	if len(l) > api.MaxEntries {
		return false
	}
	last := -1
	for _, x := range l {
		if x.Key <= last || x.Key >= keys || x.Value < -api.MaxValue || x.Value > api.MaxValue {
			return false
		}
		last = x.Key
	}
	return true
}

func isName(s string) bool {
	if s == "" || len(s) > api.MaxName {
		return false
	}
	for i, c := range []byte(s) {
		isLetter := c >= 'a' && c <= 'z'
		isOther := c >= '0' && c <= '9' || c == '-'
		if !isLetter && (i == 0 || !isOther) {
			return false
		}
	}
	return true
}
