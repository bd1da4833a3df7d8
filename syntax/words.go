package syntax

// The levels of expressions: the nonterminals of the grammar from expr to primary. A form of a level belongs to the nonterminals of all lower levels too.
const (
	exprLevel = iota
	orLevel
	andLevel
	notLevel
	compLevel
	catLevel
	sumLevel
	prodLevel
	negLevel
	postfixLevel
	primaryLevel
)

// binaryLevels returns the levels of the binary operators by their words.
func binaryLevels() map[string]int {
	return map[string]int{
		"or":  orLevel,
		"and": andLevel,
		"==":  compLevel, "!=": compLevel, "<": compLevel, "<=": compLevel, ">": compLevel, ">=": compLevel,
		"++": catLevel,
		"+":  sumLevel, "-": sumLevel,
		"*": prodLevel, "/": prodLevel, "%": prodLevel,
	}
}

// operandLevels returns the levels that the operands of a binary operator of a level must have at least.
func operandLevels(level int) (left, right int) {
	if level == compLevel {
		return level + 1, level + 1
	}
	return level, level + 1
}

func isLower(word string) bool {
	return word != "" && 'a' <= word[0] && word[0] <= 'z' && !isReserved(word)
}

func isUpper(word string) bool { return word != "" && 'A' <= word[0] && word[0] <= 'Z' }

func isReserved(word string) bool {
	switch word {
	case "record", "variant", "effect", "fun", "actor", "restart", "escalate", "state", "on",
		"let", "in", "if", "then", "else", "match", "with", "and", "or", "not", "true", "false", "self",
		"for", "send", "after", "spawn", "do", "stop", "fail":
		return true
	}
	return word == "ref" || isBasicType(word)
}

func isBasicType(word string) bool {
	switch word {
	case "int", "bool", "text", "unit":
		return true
	}
	return false
}
