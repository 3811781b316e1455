package cert

import (
	"testing"

	"arithmetica/api"
)

// TestLookStopsBehindMaxList: P3.1's ErrMany. The look begins as if it had come to some parts already: no certificate is known of which so many parts are right that Check would come to one more than MaxList.
func TestLookStopsBehindMaxList(t *testing.T) {
	three := api.Cert{N: 3, Root: 2, Parts: []api.Cert{{N: 2}}}
	seven := api.Cert{N: 7, Root: 3, Parts: []api.Cert{{N: 2}, three}} // four parts
	wrongThree := api.Cert{N: 3, Root: 1, Parts: three.Parts}
	wrongSeven := api.Cert{N: 7, Root: 3, Parts: []api.Cert{{N: 2}, wrongThree}}
	many := api.Fault{Code: api.ErrMany, At: 0}
	for _, c := range []struct {
		name string
		seen int
		part api.Cert
		want api.Fault
	}{
		{"none ahead", 0, seven, api.Fault{}},
		{"MaxList in all", api.MaxList - 4, seven, api.Fault{}},
		{"one more", api.MaxList - 3, seven, many},
		{"many more", api.MaxList - 1, seven, many},
		{"the last one alone", api.MaxList - 1, api.Cert{N: 2}, api.Fault{}},
		{"one more alone", api.MaxList, api.Cert{N: 2}, many},
		{"one more ahead of its own fault", api.MaxList, api.Cert{}, many},
		{"the last one's own fault", api.MaxList - 1, api.Cert{}, api.Fault{Code: api.ErrRange, At: api.MaxList - 1}},
		{"a fault ahead of one more", api.MaxList - 3, wrongSeven, api.Fault{Code: api.ErrForm, At: api.MaxList - 1}},
		{"one more ahead of a fault", api.MaxList - 2, wrongSeven, many},
	} {
		l := look{seen: c.seen}
		if got := l.at(c.part); got != c.want {
			t.Errorf("%s: %v, want %v", c.name, got, c.want)
		}
	}
}
