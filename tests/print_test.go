package tests

import (
	"math/rand/v2"
	"reflect"
	"testing"

	"loop.example/lapwing/impl"
)

func TestSkyPrintOfSmallSky(t *testing.T) {
	want := `sky 5 4 3
point a 0 0
point b 4 3
point c 2 1
airway j1 b a
airway j2 a c b
sector one 0 0 1 3 1 2
sector one 0 0 1 3 3 3
sector two 2 0 4 1 1 3
sector two 2 2 4 3 1 3
runway r1 1 1 ne
runway r2 3 1 w
`
	if got := impl.SkyPrint(smallSky()); got != want {
		t.Errorf("%q", got)
	}
	if got := impl.SkyPrint(coverSky(16, 1, 6)); got != "sky 16 1 6\nsector all 0 0 15 0 1 6\n" {
		t.Errorf("%q", got)
	}
}

func TestSkyPrintTurns(t *testing.T) {
	for i, word := range []string{"n", "ne", "e", "se", "s", "sw", "w", "nw"} {
		s := coverSky(3, 3, 1)
		s.Runways = []impl.SkyRunway{{Name: "r", X: 1, Y: 1, Turn: i + 1}}
		if got, want := impl.SkyPrint(s), "sky 3 3 1\nsector all 0 0 2 2 1 1\nrunway r 1 1 "+word+"\n"; got != want {
			t.Errorf("%q, not %q", got, want)
		}
	}
}

func TestSkyPrintLines(t *testing.T) {
	r := rand.New(rand.NewPCG(6, 1))
	skies := []impl.Sky{smallSky(), fullSky()}
	for range 1000 {
		skies = append(skies, drawSky(r))
	}
	for _, s := range skies {
		if got, want := impl.SkyPrint(s), textOf(skyLines(s)); got != want {
			t.Fatalf("%q, not %q", got, want)
		}
	}
}

func TestSkyPrintOfSkiesThatAreNotValid(t *testing.T) {
	if got := impl.SkyPrint(impl.Sky{}); got != "" {
		t.Errorf("of nothing: %q", got)
	}
	turnless := smallSky()
	turnless.Runways[1].Turn = 9
	hole := smallSky()
	hole.Sectors = hole.Sectors[:1]
	upsideDown := smallSky()
	upsideDown.Points[0], upsideDown.Points[1] = upsideDown.Points[1], upsideDown.Points[0]
	for _, s := range []impl.Sky{turnless, hole, upsideDown} {
		if got := impl.SkyPrint(s); got != "" {
			t.Errorf("%q of %+v", got, s)
		}
	}
	r := rand.New(rand.NewPCG(6, 2))
	for range 2000 {
		s := drawSky(r)
		bend(r, &s)
		if got := impl.SkyPrint(s); (got != "") != validByPlaces(s) {
			t.Fatalf("%q of %+v", got, s)
		}
	}
}

func TestSkyPrintWritesNothing(t *testing.T) {
	upsideDown := smallSky()
	upsideDown.Sectors[0], upsideDown.Sectors[1] = upsideDown.Sectors[1], upsideDown.Sectors[0]
	for i, s := range []impl.Sky{smallSky(), fullSky(), upsideDown} {
		s = fenceSky(s)
		before := wholeSky(s)
		first := impl.SkyPrint(s)
		if !reflect.DeepEqual(wholeSky(s), before) {
			t.Errorf("sky %d is written into", i)
		}
		if impl.SkyPrint(s) != first {
			t.Errorf("sky %d is written in another way the second time", i)
		}
	}
}
