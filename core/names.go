package core

func isUpper(name string) bool {
	return name != "" && 'A' <= name[0] && name[0] <= 'Z' && isWord(name)
}

func isLower(name string) bool {
	return name != "" && 'a' <= name[0] && name[0] <= 'z' && isWord(name) && !isReserved(name)
}

// isFunctionName reports whether a declared function may have a name.
func isFunctionName(name string) bool { return isLower(name) && !isPrimitive(name) }

// isParameterName reports whether a parameter of a function may have a name. A closure captures the reference to its actor as self.
func isParameterName(name string) bool { return isLower(name) || name == "self" }

func isWord(name string) bool {
	for k := range len(name) {
		c := name[k]
		switch {
		case 'a' <= c && c <= 'z', 'A' <= c && c <= 'Z', '0' <= c && c <= '9', c == '_':
		default:
			return false
		}
	}
	return true
}

// isReserved reports whether a word is one of the reserved words of layer 8.
func isReserved(word string) bool {
	switch word {
	case "record", "variant", "effect", "fun", "actor", "restart", "escalate", "state", "on",
		"let", "in", "if", "then", "else", "match", "with", "and", "or", "not", "true", "false", "self",
		"for", "send", "after", "spawn", "do", "stop", "fail", "ref", "int", "bool", "text", "unit":
		return true
	}
	return false
}

// isPrimitive reports whether a word is the name of a primitive function of layer 9.
func isPrimitive(word string) bool {
	switch word {
	case "len", "at", "put", "slice", "size", "sub", "show":
		return true
	}
	return false
}

// areNames reports whether each name is of a sort, and none occurs twice.
func areNames(l []string, isName func(name string) bool) bool {
	counts := map[string]int{}
	for _, name := range l {
		counts[name]++
		if counts[name] > 1 || !isName(name) {
			return false
		}
	}
	return true
}
