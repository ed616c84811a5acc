package boot

import (
	"os"
	"strconv"
	"testing"

	"selfsame/api"
	"selfsame/compile"
	"selfsame/samples"
	"selfsame/store"
	"selfsame/typing"
)

// P22.3, P0.1, P0.3: sources some bytes of which are others
func TestBytes(t *testing.T) {
	files := stage(t, 1)
	const bytes = "\"\"((**))0AFHX9.:=<>[]{}~^&#;,+-/\x00\x7f\x80 \n\t!_aZENDIFxM"
	d := dice(11)
	if k, err := strconv.Atoi(os.Getenv("FIRST")); err == nil {
		d = dice(k)
	}
	l := append(samples.Right(), samples.Wrong()...)
	for range often(300) {
		b := []byte(l[d.n(len(l))])
		for range 1 + d.n(3) {
			if len(b) == 0 {
				break
			}
			i := d.n(len(b))
			c := bytes[d.n(len(bytes))]
			switch d.n(4) {
			case 0:
				b[i] = c
			case 1:
				b = append(b[:i], b[i+1:]...)
			case 2:
				b = append(b[:i], append([]byte{c}, b[i:]...)...)
			case 3:
				j := min(i+d.n(20), len(b))
				b = append(b[:j:j], b[i:]...)
			}
		}
		s, _ := store.New(1 << 20)
		s.Put("source", b)
		m := compile.Source(b, nil)
		if _, e := typing.Source(b); (m.Err == 0) != (e == api.OK) && m.Err < 60 {
			t.Errorf("%q: %d at %d, typing %v", b, m.Err, m.Pos, e)
		}
		both(t, files, s)
	}
}
