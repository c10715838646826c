package impl

const MaxBands = 6
const MaxGrace = 500
const MaxPods = 12
const MaxGroups = 4
const MaxMounts = 12
const MaxProbes = 9
const MaxTries = 30

type Pod struct {
	Group int64
	Band  int64
	Grace int64
	Hook  int64
}

type Mount struct {
	Pod    int64
	Parent int64
}

type Device struct {
	Mount int64
}

type Plan struct {
	Pods    []Pod
	Mins    []int64
	Mounts  []Mount
	Devices []Device
	LockMax int64
	Probes  int64
	Tries   int64
}

func PlanOk(p Plan) bool {
	return p.sizesRight() && p.timesRight() &&
		allBelow(len(p.Pods), p.podRight) &&
		allBelow(len(p.Mins), p.minRight) &&
		allBelow(len(p.Mounts), p.mountRight) &&
		allBelow(len(p.Devices), p.deviceRight)
}

func PodsIn(p Plan, group int64) []int64 {
	return p.numbersWith(len(p.Pods), p.groupOfPod, group)
}

func ChildrenOf(p Plan, mount int64) []int64 {
	return p.numbersWith(len(p.Mounts), p.parentOfMount, mount)
}

func MountsOf(p Plan, pod int64) []int64 {
	return p.numbersWith(len(p.Mounts), p.podOfMount, pod)
}

func (p Plan) sizesRight() bool {
	return len(p.Pods) <= MaxPods && len(p.Mins) <= MaxGroups &&
		len(p.Mounts) <= MaxMounts && len(p.Devices) <= MaxMounts
}

func (p Plan) timesRight() bool {
	return within(p.LockMax, 0, MaxGrace) && within(p.Probes, 1, MaxProbes) &&
		within(p.Tries, p.Probes, MaxTries)
}

func (p Plan) podRight(pod int) bool {
	d := p.Pods[pod]
	return isIndex(d.Group, len(p.Mins)) && isIndex(d.Band, MaxBands) &&
		within(d.Grace, 0, MaxGrace) && within(d.Hook, 0, MaxGrace)
}

func (p Plan) minRight(group int) bool {
	return within(p.Mins[group], 0, MaxPods)
}

// A parent is always an earlier mount, so no mount can lie in itself, however
// far out one looks.
func (p Plan) mountRight(mount int) bool {
	m := p.Mounts[mount]
	return isIndex(m.Pod, len(p.Pods)) && (m.Parent == -1 || isIndex(m.Parent, mount))
}

func (p Plan) deviceRight(device int) bool {
	return isIndex(p.Devices[device].Mount, len(p.Mounts))
}

func (p Plan) groupOfPod(pod int) int64 { return p.Pods[pod].Group }

func (p Plan) parentOfMount(mount int) int64 { return p.Mounts[mount].Parent }

func (p Plan) podOfMount(mount int) int64 { return p.Mounts[mount].Pod }

// numbersWith lists the numbers below count of which tell says wanted. It
// looks at the whole plan first: a part of a wrong plan is no answer.
func (p Plan) numbersWith(count int, tell func(int) int64, wanted int64) []int64 {
	found := []int64{}
	if !PlanOk(p) {
		return found
	}
	for i := range count {
		if tell(i) == wanted {
			found = append(found, int64(i))
		}
	}
	return found
}

func allBelow(count int, right func(int) bool) bool {
	for i := range count {
		if !right(i) {
			return false
		}
	}
	return true
}

func within(number, least, most int64) bool {
	return least <= number && number <= most
}

func isIndex(number int64, count int) bool {
	return 0 <= number && number < int64(count)
}
