package desk

import "wayleave/api"

// BehindItsBack makes a step of the Space of a Desk's Watch that the Watch does not see.
func BehindItsBack(d *Desk, x api.Step) {
	d.watch.Space.Do(x)
}
