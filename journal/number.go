package journal

const (
	group     = 7          // bits of a number that a byte has
	goesOn    = 1 << group // more in each byte but the last
	mostBytes = 5          // bytes of a number
)

// appendNumber lays a number from -1 on behind b.
func appendNumber(b []byte, n int) []byte {
	rest := n + 1
	for rest >= goesOn {
		b = append(b, byte(rest%goesOn+goesOn))
		rest /= goesOn
	}
	return append(b, byte(rest))
}

// readNumber answers the number at the beginning, and how many bytes it has;
// 0: none stands there. A last byte 0 behind others is refused, as the number
// could have fewer.
func readNumber(b []byte) (int, int) {
	sum := 0
	for i, c := range b[:min(len(b), mostBytes)] {
		sum += (int(c) % goesOn) << (group * i)
		if c >= goesOn {
			continue
		}
		if c == 0 && i > 0 {
			return 0, 0
		}
		return sum - 1, i + 1
	}
	return 0, 0
}
