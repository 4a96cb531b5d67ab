package tests

import (
	"fmt"
	"math/rand"
	"regexp"
	"slices"
	"strconv"
	"strings"

	"loop.example/portreeve/impl"
)

// Words on audits, credentials, tapes and requests, said once more by other means: forms, and sums of the library.
var (
	detailForm = regexp.MustCompile(`\A[ -~]{0,160}\z`)
	sealForm   = regexp.MustCompile(`\A[0-9a-f]{64}\z`)
	limitForm  = regexp.MustCompile(`\A(until (0|[1-9][0-9]{0,5})|only [a-z][a-z0-9]{0,6}\.[a-z][a-z0-9]{0,6})\z`)
	auditForm  = regexp.MustCompile(`\A([0-9]{1,9}) ([a-z0-9]+) ([a-z0-9]+) ([0-9a-f]+) (.*)\z`)
	capForm    = regexp.MustCompile(`\A([a-z0-9]+) ([a-z0-9]+) ([0-9]{1,9}) ([0-9]{1,9}) ([0-9]{1,9}) ([0-9a-f]+)((?:;[^;]*)*)\z`)
	pieceForm  = regexp.MustCompile(`(?s)\Ar (0|[1-9][0-9]{0,3}) ([0-9a-f]{8})\n(.*)\z`)
	reqForm    = regexp.MustCompile(`\A(tick|tenant|user|space|conf|policy|plan|approve|cancel|step) (-|[a-z][a-z0-9]{0,6}) (-|[a-z][a-z0-9]{0,6}) (-|[a-z][a-z0-9]{0,6}) (0|[1-9][0-9]{0,3}) (0|[1-9][0-9]{0,5}) ([ -~\n]*)\z`)
)

var kindWords = []string{"", "tick", "tenant", "user", "space", "conf", "policy", "plan", "approve", "cancel", "step"}

// wantList is a sum of texts with their lengths.
func wantList(list ...string) string {
	all := ""
	for _, text := range list {
		all += fmt.Sprintf("%d:%s", len(text), text)
	}
	return wantSum(all)
}

// said is what an entry tells.
type said struct{ tenant, what, detail string }

// audit is entries with the right numbers and sums, whatever they tell.
func audit(list ...said) []impl.AuditEntry {
	var all []impl.AuditEntry
	sum := ""
	for i, s := range list {
		sum = wantList(sum, strconv.Itoa(i+1), s.tenant, s.what, s.detail)
		all = append(all, impl.AuditEntry{Seq: i + 1, Tenant: s.tenant, What: s.what, Detail: s.detail, Sum: sum})
	}
	return all
}

// saidOf is what the entries of an audit tell.
func saidOf(list []impl.AuditEntry) []said {
	var all []said
	for _, e := range list {
		all = append(all, said{e.Tenant, e.What, e.Detail})
	}
	return all
}

// someSaid is entries of two tenants, with details of all kinds.
func someSaid() []said {
	return []said{
		{"acme", "tenant", "ann - 0 0"}, {"beta", "plan", ""}, {"acme", "refuse", " "}, {"acme", "a1", "3 acme plan"},
		{"beta", "step123", " ~ \"\\ "}, {"acme", "plan", "1 acme tenant " + strings.Repeat("0", 64) + " x"}, {"b", "plan", strings.Repeat("~", 160)},
	}
}

// longAudit is n entries.
func longAudit(n int) []impl.AuditEntry {
	return audit(slices.Repeat([]said{{"acme", "plan", "x"}}, n)...)
}

func modelAudit(list []impl.AuditEntry) bool {
	for i, e := range list {
		if e.Seq != i+1 || !modelName(e.Tenant) || !modelName(e.What) || !detailForm.MatchString(e.Detail) {
			return false
		}
	}
	return len(list) <= 200 && slices.Equal(audit(saidOf(list)...), list)
}

// auditLines is entries as lines, whatever they are.
func auditLines(list []impl.AuditEntry) string {
	text := ""
	for _, e := range list {
		text += fmt.Sprintf("%d %s %s %s %s\n", e.Seq, e.Tenant, e.What, e.Sum, e.Detail)
	}
	return text
}

func modelAuditRead(text string) ([]impl.AuditEntry, bool) {
	var list []impl.AuditEntry
	for _, line := range strings.SplitAfter(text, "\n") {
		if line == "" {
			continue
		}
		m := auditForm.FindStringSubmatch(strings.TrimSuffix(line, "\n"))
		if m == nil {
			return nil, false
		}
		seq, _ := strconv.Atoi(m[1])
		list = append(list, impl.AuditEntry{Seq: seq, Tenant: m[2], What: m[3], Sum: m[4], Detail: m[5]})
	}
	if !modelAudit(list) || auditLines(list) != text {
		return nil, false
	}
	return list, true
}

const someKey = "the key"

func modelSeal(key string, c impl.Cap) string {
	seal := wantMac(key, fmt.Sprintf("%s %s %d %d %d", c.Tenant, c.Space, c.Run, c.From, c.Until))
	for _, limit := range c.Limits {
		seal = wantMac(seal, limit)
	}
	return seal
}

// sealed is a credential with its right seal by someKey, whatever it is.
func sealed(c impl.Cap) impl.Cap {
	c.Seal = modelSeal(someKey, c)
	return c
}

// grant is a credential with limits.
func grant(limits ...string) impl.Cap {
	return sealed(impl.Cap{Tenant: "acme", Space: "prod", Run: 3, From: 5, Until: 9, Limits: limits})
}

func sameCap(a, b impl.Cap) bool {
	return slices.Equal(a.Limits, b.Limits) && fmt.Sprint(a.Tenant, a.Space, a.Run, a.From, a.Until, a.Seal) == fmt.Sprint(b.Tenant, b.Space, b.Run, b.From, b.Until, b.Seal)
}

func modelCap(c impl.Cap) bool {
	for _, limit := range c.Limits {
		if !limitForm.MatchString(limit) {
			return false
		}
	}
	return modelName(c.Tenant) && modelName(c.Space) && c.Run >= 1 && c.Run <= 9999 && c.From >= 0 && c.From <= c.Until && c.Until <= 999999 && len(c.Limits) <= 4 && sealForm.MatchString(c.Seal)
}

func modelMay(key string, c impl.Cap, tenant, space string, run int, id string, now int) bool {
	if !modelCap(c) || c.Seal != modelSeal(key, c) || !idForm.MatchString(id) || now < c.From || now > c.Until {
		return false
	}
	for _, limit := range c.Limits {
		word, rest, _ := strings.Cut(limit, " ")
		if n, _ := strconv.Atoi(rest); word == "until" && now > n || word == "only" && id != rest {
			return false
		}
	}
	return c.Tenant == tenant && c.Space == space && c.Run == run
}

// capText is a credential as a text, whatever it is.
func capText(c impl.Cap) string {
	text := fmt.Sprintf("%s %s %d %d %d %s", c.Tenant, c.Space, c.Run, c.From, c.Until, c.Seal)
	for _, limit := range c.Limits {
		text += ";" + limit
	}
	return text
}

func modelCapRead(text string) (impl.Cap, bool) {
	m := capForm.FindStringSubmatch(text)
	if m == nil {
		return impl.Cap{}, false
	}
	c := impl.Cap{Tenant: m[1], Space: m[2], Seal: m[6]}
	c.Run, _ = strconv.Atoi(m[3])
	c.From, _ = strconv.Atoi(m[4])
	c.Until, _ = strconv.Atoi(m[5])
	if m[7] != "" {
		c.Limits = strings.Split(m[7][1:], ";")
	}
	if !modelCap(c) || capText(c) != text {
		return impl.Cap{}, false
	}
	return c, true
}

// piece is a record as it stands on a tape, whatever its size.
func piece(record string) string {
	return fmt.Sprintf("r %d %s\n%s", len(record), wantSum(record)[:8], record)
}

func pieces(records ...string) []string {
	var all []string
	for _, record := range records {
		all = append(all, piece(record))
	}
	return all
}

func sameTape(a, b impl.Tape) bool {
	return slices.Equal(a.Safe, b.Safe) && slices.Equal(a.Loose, b.Loose)
}

// modelOpen is the records of a tape's first pieces that are whole.
func modelOpen(t impl.Tape) []string {
	var records []string
	for _, p := range t.Safe {
		m := pieceForm.FindStringSubmatch(p)
		if m == nil || m[1] != strconv.Itoa(len(m[3])) || len(m[3]) > 2000 || m[2] != wantSum(m[3])[:8] || len(records) == 220 {
			break
		}
		records = append(records, m[3])
	}
	return records
}

func modelReq(r impl.Req) bool {
	for _, name := range []string{r.Tenant, r.User, r.Space} {
		if name != "" && !modelName(name) {
			return false
		}
	}
	return r.Kind >= 1 && r.Kind <= 10 && r.Run >= 0 && r.Run <= 9999 && r.Num >= 0 && r.Num <= 999999 && len(r.Text) <= 1200 && regexp.MustCompile(`\A[ -~\n]*\z`).MatchString(r.Text)
}

// reqText is a request as a text, whatever it is but for its kind.
func reqText(r impl.Req) string {
	return fmt.Sprintf("%s %s %s %s %d %d %s", kindWords[r.Kind], or(r.Tenant, "-"), or(r.User, "-"), or(r.Space, "-"), r.Run, r.Num, r.Text)
}

// or is a text, or another one if it is empty.
func or(text, other string) string {
	if text == "" {
		return other
	}
	return text
}

func modelReqRead(text string) (impl.Req, bool) {
	m := reqForm.FindStringSubmatch(text)
	if m == nil || len(m[7]) > 1200 {
		return impl.Req{}, false
	}
	for i := 2; i <= 4; i++ {
		m[i] = strings.TrimPrefix(m[i], "-")
	}
	r := impl.Req{Kind: slices.Index(kindWords, m[1]), Tenant: m[2], User: m[3], Space: m[4], Text: m[7]}
	r.Run, _ = strconv.Atoi(m[5])
	r.Num, _ = strconv.Atoi(m[6])
	return r, true
}

// spoilText is a text with a byte more, less, or another one, or two pieces of it that changed places.
func spoilText(r *rand.Rand, text string, bytes string) string {
	at, c := r.Intn(len(text)+1), string(bytes[r.Intn(len(bytes))])
	end := min(at+1, len(text))
	switch r.Intn(4) {
	case 0:
		return text[:at] + c + text[at:]
	case 1:
		return text[:at] + text[end:]
	case 2:
		return text[:at] + c + text[end:]
	}
	return text[at:] + text[:at]
}

// ownTexts is a list in memory of its own, with something behind its end.
func ownTexts(list ...string) []string {
	all := make([]string, 0, len(list)+1)
	for _, text := range list {
		all = append(all, own(text))
	}
	all[:len(all)+1][len(all)] = "behind"
	return all
}
