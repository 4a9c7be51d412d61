/- Plain parcels. -/
import Derived.Test.YtjpkhefegpbooaaPcM
import Derived.Test.YtjpkhefegpbooaaPcR2
namespace Go.Proofs.Ytjpkhefegpbooaa

/-- A parcel with zero in what its kind does not use. -/
def plainP (p : Pc) : Pc := ⟨p.kind, p.pub, if subB p.kind = true then p.sub else 0, if subB p.kind = true then p.n_ else 0, if fromB p.kind = true then p.fr else 0, if toB p.kind = true then p.to_ else 0, if newsB p.kind = true then p.spans else [], if newsB p.kind = true then p.items else []⟩
/-- So of every kind. -/
def plainQ (p : Pc) : Pc := if isB p.kind = true then plainP p else ⟨p.kind, 0, 0, 0, 0, 0, [], []⟩
theorem plainQ_is {p : Pc} (h : isB p.kind = true) : plainQ p = plainP p := if_pos h
theorem plainQ_bad {p : Pc} (h : isB p.kind = false) : plainQ p = ⟨p.kind, 0, 0, 0, 0, 0, [], []⟩ := by rw [plainQ, h]; rfl
end Go.Proofs.Ytjpkhefegpbooaa
