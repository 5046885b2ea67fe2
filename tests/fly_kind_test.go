package tests

import (
	"testing"

	"loop.example/lapwing/impl"
)

func wantFlyKind(t *testing.T, quick, slow int, want bool) {
	t.Helper()
	if got := impl.FlyKindOk(impl.FlyKind{Quick: quick, Slow: slow}); got != want {
		t.Errorf("FlyKindOk is %v of Quick %d and Slow %d", got, quick, slow)
	}
}

func TestFlyKindByHand(t *testing.T) {
	for _, c := range []struct {
		quick, slow int
		want        bool
	}{
		{1, 1, true}, {1, 2, true}, {2, 2, true}, {2, 3, true}, {1, 50, true}, {49, 50, true}, {50, 50, true},
		{0, 0, false}, {0, 1, false}, {0, 50, false}, {1, 0, false}, {-1, 1, false}, {-1, -1, false}, {1, -1, false},
		{2, 1, false}, {50, 49, false}, {50, 1, false}, {3, 2, false},
		{1, 51, false}, {50, 51, false}, {51, 51, false}, {51, 50, false}, {51, 52, false}, {-50, 50, false}, {-50, -1, false},
	} {
		wantFlyKind(t, c.quick, c.slow, c.want)
	}
}

func TestFlyKindsAllRound(t *testing.T) {
	count := 0
	for quick := -3; quick <= 54; quick++ {
		for slow := -3; slow <= 54; slow++ {
			want := quick > 0 && slow < 51 && slow-quick >= 0
			wantFlyKind(t, quick, slow, want)
			if want {
				count++
			}
		}
	}
	if count != 50*51/2 {
		t.Errorf("%d kinds are ok", count)
	}
}

func TestFlyKindsFarAway(t *testing.T) {
	for _, far := range farNumbers {
		for _, n := range append([]int{-1, 0, 1, 25, 50, 51}, farNumbers...) {
			wantFlyKind(t, far, n, false)
			wantFlyKind(t, n, far, false)
		}
	}
}
