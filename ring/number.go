package ring

// modQ is a number modulo Q, 0 to Q - 1.
func modQ(x int64) int32 {
	rest := x % Q
	if rest < 0 {
		rest += Q
	}
	return int32(rest)
}

// isPlain tells whether a number is one of 0 to Q - 1.
func isPlain(x int32) bool {
	return x >= 0 && x < Q
}

func plus(x, y int32) int32 { return modQ(int64(x) + int64(y)) }

func minus(x, y int32) int32 { return modQ(int64(x) - int64(y)) }

func times(x, y int32) int32 { return modQ(int64(x) * int64(y)) }
