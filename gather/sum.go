package gather

import (
	"math/bits"

	"sandglass/api"
)

// order is q. The layers that this one stands on hand out neither it nor a sum modulo it.
var order = api.Num{0xf3b9cac2fc632551, 0xbce6faada7179e84, 0xffffffffffffffff, 0xffffffff00000000}

// add answers a + b modulo q, of two numbers less than q.
func add(a, b api.Num) api.Num {
	var sum, less api.Num
	var over, under uint64
	for i := range sum {
		sum[i], over = bits.Add64(a[i], b[i], over)
		less[i], under = bits.Sub64(sum[i], order[i], under)
	}
	// The sum is less than q just if it takes a borrow and has no carry to pay it; a carry without a borrow may not be, since the sum is less than 2q.
	if over == under {
		return less
	}
	return sum
}
