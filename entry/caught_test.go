package entry

import "testing"

func TestCaught(t *testing.T) {
	if code := caught(func() {}); code != 0 {
		t.Errorf("a look to the end: %d", code)
	}
	if code := caught(func() { giveUpIf(false, 7) }); code != 0 {
		t.Errorf("a look that does not give up: %d", code)
	}
	code := caught(func() {
		giveUpIf(true, 7)
		giveUpIf(true, 2)
	})
	if code != 7 {
		t.Errorf("a look that gives up: %d, want 7", code)
	}
}

// A panic that is no look's own is not told as a code.
func TestCaughtLetsOthersGo(t *testing.T) {
	defer func() {
		if found := recover(); found != "another" {
			t.Errorf("%v, want another", found)
		}
	}()
	code := caught(func() { panic("another") })
	t.Errorf("caught, with the code %d", code)
}
