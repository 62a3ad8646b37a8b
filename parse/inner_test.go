package parse

import (
	"errors"
	"fmt"
	"testing"

	"parterre/api"
)

// The section Ways: errors are asked by errors.As, however far in they are.

func TestAskLooksInside(t *testing.T) {
	spot := api.Spot{Line: 3, Col: 4}
	inside := fmt.Errorf("told on: %w", errors.Join(errors.New("another"), wrongAt(spot)))
	for _, err := range []error{wrongAt(spot), wrongToken(api.Token{Line: 3, Col: 4}), inside} {
		if code, got := ask(err); code != api.ErrText || got != spot {
			t.Errorf("%v: %d at %v", err, code, got)
		}
	}
	for _, err := range []error{nil, errors.New("another")} {
		if code, got := ask(err); code != api.OK || got != (api.Spot{}) {
			t.Errorf("%v: %d at %v", err, code, got)
		}
	}
	if got := wrongAt(spot).Error(); got != "code 2 at 3:4" {
		t.Error(got)
	}
}
