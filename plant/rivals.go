package plant

// rival is a joint that was found to cost at least so much, with what its machines have left, a byte for each. It is kept with the kins of its stands: joints with the same ones in which no machine has more left cost at least as much.
type rival struct {
	left uint64
	cost int
}

const (
	// lately is how many of the last rivals are asked: to ask all would take more time than it saves.
	lately = 500
	// tops are the highest bits of bytes, which are not set in what is left.
	tops = 0x8080808080808080
)

// reaches reports whether each machine of a rival has at least as much left: the difference of no byte takes away the top that was put on it.
func (r rival) reaches(left uint64) bool { return ((r.left|tops)-left)&tops == tops }

// family returns the kins of a joint, and what its machines have left.
func (p *planner) family(at joint) (joint, uint64) {
	kins, left := joint{hour: at.hour}, uint64(0)
	for i, c := range p.courses {
		s := &c.stands[at.stands[i]]
		kins.stands[i] = s.kin
		left |= uint64(s.left) << (8 * i)
	}
	return kins, left
}

// outdone returns the greatest cost of the last rivals that reach a joint, so that it costs no less; 0, if there is none.
func (p *planner) outdone(at joint) int {
	kins, left := p.family(at)
	rivals := p.rivals[kins]
	cost := 0
	for _, r := range rivals[max(0, len(rivals)-lately):] {
		if r.cost > cost && r.reaches(left) {
			cost = r.cost
		}
	}
	return cost
}

// keep keeps what was found of a joint.
func (p *planner) keep(at joint, f found) {
	p.known[at] = f
	kins, left := p.family(at)
	p.rivals[kins] = append(p.rivals[kins], rival{left, f.cost})
}
