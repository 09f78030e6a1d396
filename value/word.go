package value

// result is what two numbers of 32 bits come to by a word, perhaps with more bits than these; false: there is no such word, or it can't be of them.
func result(word string, a, b int) (int, bool) {
	switch word {
	case "*":
		return a * b, true
	case "/", "MOD":
		return divided(word, a, b)
	case "SHL", "SHR":
		return shifted(word, a, b)
	case "AND":
		return a & b, true
	case "OR":
		return a | b, true
	case "XOR":
		return a ^ b, true
	}
	return compared(word, a, b)
}

// divided is a division, or what is left of it: both are cut towards 0, as the language does.
func divided(word string, a, b int) (int, bool) {
	switch {
	case b == 0:
		return 0, false
	case word == "MOD":
		return a % b, true
	}
	return a / b, true
}

// shifted is a number of 32 bits so many bits up, or down. Down it has no sign, so that noughts come in.
func shifted(word string, a, b int) (int, bool) {
	bits := b % 32
	switch {
	case b < 0:
		return 0, false
	case word == "SHR":
		return int(uint32(a) >> bits), true
	}
	return int(uint32(a) << bits), true
}

// compared is -1, so that all bits are set, where two numbers are as a word says, else 0; false: there is no such word.
func compared(word string, a, b int) (int, bool) {
	switch word {
	case "EQ":
		return truth(a == b), true
	case "NE":
		return truth(a != b), true
	case "LT":
		return truth(a < b), true
	case "LE":
		return truth(a <= b), true
	case "GT":
		return truth(a > b), true
	case "GE":
		return truth(a >= b), true
	}
	return 0, false
}

func truth(is bool) int {
	if is {
		return -1
	}
	return 0
}
