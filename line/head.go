package line

const (
	headSize  = 4
	nonceSize = 12
)

// headOf a number: four bytes, the highest one first.
func headOf(number int) []byte {
	var head []byte
	for place := headSize - 1; place >= 0; place-- {
		head = append(head, byte(number>>(8*place)))
	}
	return head
}

// numberOf a head.
func numberOf(head []byte) int {
	number := 0
	for _, b := range head {
		number = number<<8 | int(b)
	}
	return number
}

// nonceOf a head: no two records that a channel sends have the same, since no two have the same number.
func nonceOf(head []byte) []byte {
	return append(make([]byte, nonceSize-headSize, nonceSize), head...)
}

// cut a record behind its head. The head ends where what is sealed begins, its room too: nothing that is put behind it can run over into that.
func cut(record []byte) (head, sealed []byte) {
	return record[:headSize:headSize], record[headSize:]
}
