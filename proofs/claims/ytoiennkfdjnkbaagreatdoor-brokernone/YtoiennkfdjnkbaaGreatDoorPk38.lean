import Derived.Test.YtoiennkfdjnkbaaGreatDoorPk23
import Derived.Lib.SmallJoins
import Derived.Test.YtoiennkfdjnkbaaGreatDoorPk37
import Derived.Deep.CutBlock
set_option maxRecDepth 100000
set_option maxHeartbeats 8000000
namespace Go.Proofs.YtoiennkfdjnkbaaGreatDoor
section
open Go.ChangeShapes Go.WideShapes Go.ChangeAt Go.RowKit Go.Joins
structure PcBig (p:Pc) (sa:Option Addr) (sc:Nat) (ia:Option Addr) (ic:Nat):Prop where
 sb:sc * 24≤140737488351232
 sz:sa=none→sc=0
 ib:ic * 40≤140737488351232
 iz:ia=none→ic=0
 bb:∀ q∈p.items,q.body.length≤140737488351232
end
section
open Go.ChangeShapes Go.WideShapes Go.ChangeAt Go.RowKit
structure Pa where
 p:Pc
 sa:Option Addr
 sn:Nat
 sc:Nat
 ia:Option Addr
 im:Nat
 ic:Nat
structure PaOk (w:World) (q:Pa):Prop where
 rd:PcRd w q.p q.sa q.sn q.sc q.ia q.im q.ic
 big:PcBig q.p q.sa q.sc q.ia q.ic
theorem PaOk.below {w w':World} {q:Pa} (h:PaOk w q) (hb:Below w.heap.size w w'):PaOk w' q:=⟨h.rd.below hb,h.big⟩
def PaAt (w:World) (g o:Nat) (q:Pa):Prop:=w.cell? ⟨g,o,none⟩=some (.int .i64 q.p.kind)∧w.cell? ⟨g,o+1,none⟩=some (.int .i64 q.p.pub)∧w.cell? ⟨g,o+2,none⟩=some (.int .i64 q.p.sub)∧w.cell? ⟨g,o+3,none⟩=some (.int .i64 q.p.n_)∧w.cell? ⟨g,o+4,none⟩=some (.int .i64 q.p.fr)∧w.cell? ⟨g,o+5,none⟩=some (.int .i64 q.p.to_)∧w.cell? ⟨g,o+6,none⟩=some (.slice q.sa q.sn q.sc)∧w.cell? ⟨g,o+7,none⟩=some (.slice q.ia q.im q.ic)
theorem PaAt.below {w w':World} {g o B:Nat} {q:Pa} (h:PaAt w g o q) (hb:Below B w w') (hg:g<B):PaAt w' g o q:=by
 unfold PaAt at h ⊢
 rw [hb.cell (p:=⟨g,o,none⟩) hg,hb.cell (p:=⟨g,o+1,none⟩) hg,hb.cell (p:=⟨g,o+2,none⟩) hg,hb.cell (p:=⟨g,o+3,none⟩) hg,hb.cell (p:=⟨g,o+4,none⟩) hg,hb.cell (p:=⟨g,o+5,none⟩) hg,hb.cell (p:=⟨g,o+6,none⟩) hg,hb.cell (p:=⟨g,o+7,none⟩) hg]
 exact h
structure PasRd (w:World) (a:Option Addr) (n:Nat) (l:List Pa):Prop where
 size:l.length=n
 cells:l=[] ∨ ∃ g o,a=some ⟨g,o,none⟩∧g<w.heap.size∧∀ (i:Nat) (q:Pa),l[i]? = some q→PaAt w g (o+i * 8) q
 each:∀ q∈l,PaOk w q
theorem PasRd.below {w w':World} {a:Option Addr} {n:Nat} {l:List Pa} (h:PasRd w a n l) (hb:Below w.heap.size w w'):PasRd w' a n l:=by
 refine ⟨h.size,?_,fun q hq=>(h.each q hq).below hb⟩
 rcases h.cells with h0 | ⟨g,o,ha,hg,hc⟩
 ·exact .inl h0
 ·exact .inr ⟨g,o,ha,Nat.lt_of_lt_of_le hg hb.size,fun i q hi=>(hc i q hi).below hb hg⟩
theorem PasRd.spot {w:World} {a:Option Addr} {n:Nat} {l:List Pa} (h:PasRd w a n l) (i:Nat) (hi:i<n):∃ g o,a=some ⟨g,o,none⟩∧g<w.heap.size∧∃ q,l[i]? = some q∧PaOk w q∧PaAt w g (o+i * 8) q:=by
 have hl:i<l.length:=by rw [h.size];exact hi
 rcases h.cells with rfl | ⟨g,o,ha,hg,hc⟩
 ·simp at hl
 ·exact ⟨g,o,ha,hg,l[i],List.getElem?_eq_getElem hl,h.each _ (List.getElem_mem hl),hc i l[i] (List.getElem?_eq_getElem hl)⟩
end
section
set_option maxRecDepth 100000
open Go.RowKit
variable {Z:Nat→Prop}
def pacel (q:Pa):List Value:=[.int .i64 q.p.kind,.int .i64 q.p.pub,.int .i64 q.p.sub,.int .i64 q.p.n_,.int .i64 q.p.fr,.int .i64 q.p.to_,.slice q.sa q.sn q.sc,.slice q.ia q.im q.ic]
structure PcR (Z:Nat→Prop) (w:World) (base:Nat) (q:Pa):Prop where
 spans:Sps w base (.slice q.sa q.sn q.sc) q.p.spans
 items:∃ R,Ros Z w base (.slice q.ia q.im q.ic) R∧R.map Prod.fst=q.p.items
def PcLt (B:Nat) (q:Pa):Prop:=(∀ ad,q.sa=some ad→ad.block<B)∧(∀ ad,q.ia=some ad→ad.block<B)
theorem row_frame {w w':World} {base:Nat} {e:TypeId} {sz n:Nat} {v:Value} {cs:List Value} (h:w.ownsRow base e sz v n cs) (hk:∀ (g:Nat) c m,v.ownBlock=some g→w.heap[g]? = some (.cells c e m)→w'.heap[g]? = w.heap[g]?):w'.ownsRow base e sz v n cs:=by
 refine ⟨h.1,?_⟩
 rcases h.2 with hn | ⟨g,c,cur,hv,hbg,hg,r⟩
 ·exact .inl hn
 ·exact .inr ⟨g,c,cur,hv,hbg,(hk g _ _ (by rw [hv];rfl) hg).trans hg,r⟩
theorem row_type {w:World} {base:Nat} {e:TypeId} {sz n:Nat} {v:Value} {cs:List Value} (h:w.ownsRow base e sz v n cs) {g:Nat} (hg:v.ownBlock=some g):∃ c m,w.heap[g]? = some (.cells c e m):=by
 rcases h.2 with ⟨hn,_⟩ | ⟨g',c,cur,hv,hbg,hg',r⟩
 ·rw [hn] at hg;cases hg
 ·rw [hv] at hg
  simp only [Value.ownBlock,Option.some.injEq] at hg
  subst hg
  exact ⟨_,_,hg'⟩
theorem row_ne {w:World} {b1 b2:Nat} {e1 e2:TypeId} {s1 s2 n1 n2:Nat} {v1 v2:Value} {c1 c2:List Value} (h1:w.ownsRow b1 e1 s1 v1 n1 c1) (h2:w.ownsRow b2 e2 s2 v2 n2 c2) (hne:e1≠e2) {g:Nat} (hg:v1.ownBlock=some g):some g≠v2.ownBlock:=fun e=>by
 obtain ⟨c,m,k1⟩:=row_type h1 hg
 obtain ⟨c',m',k2⟩:=row_type h2 e.symm
 rw [k1] at k2
 simp only [Option.some.injEq,Obj.cells.injEq] at k2
 exact hne k2.2.1
theorem PcR.frame {w w':World} {base:Nat} {q:Pa} (h:PcR Z w base q) (hs:w.heap.size≤w'.heap.size) (hk:∀ (g:Nat) t c m,((Value.slice q.sa q.sn q.sc).ownBlock=some g∧t=186∨(Value.slice q.ia q.im q.ic).ownBlock=some g∧t=51)→w.heap[g]? = some (.cells c t m)→w'.heap[g]? = w.heap[g]?) (h2:∀ (k:Nat) cs m,w.heap[k]? = some (Obj.cells cs 5 m)→w'.heap[k]? = w.heap[k]?):PcR Z w' base q:=by
 obtain ⟨R,hR,e⟩:=h.items
 exact ⟨⟨row_frame h.spans.row fun g c m hg hc=>hk g _ c m (.inl ⟨hg,rfl⟩) hc⟩,R,⟨row_frame hR.row fun g c m hg hc=>hk g _ c m (.inr ⟨hg,rfl⟩) hc,fun x hx=>(hR.bod x hx).typed hs h2,hR.each⟩,e⟩
theorem PcR.below {w w':World} {base:Nat} {q:Pa} (h:PcR Z w base q) (hb:Below w.heap.size w w'):PcR Z w' base q:=h.frame hb.size (fun g _ _ _ _ hc=>hb.block g (Array.getElem?_eq_some_iff.1 hc).1) (fun k _ _ hc=>hb.block k (Array.getElem?_eq_some_iff.1 hc).1)
theorem PcR.lower {w:World} {base base':Nat} {q:Pa} (h:PcR Z w base q) (hb:base'≤base):PcR Z w base' q:=by
 obtain ⟨R,hR,e⟩:=h.items
 exact ⟨h.spans.lower hb,R,hR.lower hb,e⟩
theorem own_lt {w:World} {base:Nat} {e:TypeId} {sz n:Nat} {a:Option Addr} {k c:Nat} {cs:List Value} (h:w.ownsRow base e sz (.slice a k c) n cs):∀ ad,a=some ad→ad.block<w.heap.size∧(Value.slice a k c).ownBlock=some ad.block:=by
 intro ad ha
 subst ha
 rcases h.2 with ⟨hn,_⟩ | ⟨g',c',cur,hv,hbg,hg',r⟩
 ·cases hn
 ·simp only [Value.slice.injEq,Option.some.injEq] at hv
  obtain ⟨rfl,_⟩:=hv
  exact ⟨(Array.getElem?_eq_some_iff.1 hg').1,rfl⟩
theorem own_addr {a:Option Addr} {k c g:Nat} (h:(Value.slice a k c).ownBlock=some g):∃ ad,a=some ad∧ad.block=g:=by
 cases a with
 | none=>cases h
 | some ad=>simp only [Value.ownBlock,Option.some.injEq] at h;exact ⟨ad,rfl,h⟩
theorem PcR.lt {w:World} {base:Nat} {q:Pa} (h:PcR Z w base q):PcLt w.heap.size q:=by
 obtain ⟨R,hR,e⟩:=h.items
 exact ⟨fun ad ha=>(own_lt h.spans.row ad ha).1,fun ad ha=>(own_lt hR.row ad ha).1⟩
theorem PcR.rd {w:World} {base:Nat} {q:Pa} (h:PcR Z w base q) (hz:∀ k,base≤k→Z k):PcRd w q.p q.sa q.sn q.sc q.ia q.im q.ic:=by
 obtain ⟨R,hR,e⟩:=h.items
 have hs:=h.spans.big
 obtain ⟨a',c',hv,h1,h2,_⟩:=hR.form
 simp only [Value.slice.injEq] at hv
 obtain ⟨_,hv2,hv3⟩:=hv
 have hi:=(hR.rit hz).rd
 rw [e] at hi
 exact ⟨h.spans.rd,hi,hs.1,hs.2,by omega,by omega⟩
structure Making (Z:Nat→Prop) (B0 tb:Nat) (w1 wr:World) (v:Value) (l:List Pa) (q:Pa) (B:Nat):Prop where
 tbk:Bk wr tb (pacel q).toArray 116
 row:wr.ownsRow B0 116 8 v l.length (l.flatMap pacel)
 each:∀ x∈l,PcR Z wr B0 x∧PcLt B x
 cur:PcR Z wr B q
 tn:some tb≠v.ownBlock
 b0:w1.heap.size≤B0
 h0:B0≤B
 hB:B≤wr.heap.size
 bel:Below w1.heap.size w1 wr
 tl:w1.heap.size≤tb
theorem Making.below {B0 tb B:Nat} {w1 wr w':World} {v:Value} {l:List Pa} {q:Pa} (h:Making Z B0 tb w1 wr v l q B) (hb:Below wr.heap.size wr w'):Making Z B0 tb w1 w' v l q B :=
 ⟨h.tbk.stay hb,row_frame h.row fun g _ _ _ hc=>hb.block g (Array.getElem?_eq_some_iff.1 hc).1,fun x hx=>⟨(h.each x hx).1.below hb,(h.each x hx).2⟩,h.cur.below hb,h.tn,h.b0,h.h0,Nat.le_trans h.hB hb.size,h.bel.trans (hb.mono h.bel.size),h.tl⟩
theorem bk_type {w:World} {g:Nat} {cs c:Array Value} {t t':TypeId} {m:Nat×Nat} (h:Bk w g cs t) (hc:w.heap[g]? = some (.cells c t' m)):t'=t:=by
 have h1:w.heap[g]? = some (.cells cs t (0,0)):=h
 rw [h1] at hc
 simp only [Option.some.injEq,Obj.cells.injEq] at hc
 exact hc.2.1.symm
theorem Making.cell {B0 tb B:Nat} {w1 wr:World} {v:Value} {l:List Pa} {q q':Pa} (h:Making Z B0 tb w1 wr v l q B) (i:Nat) (u:Value) (hq:(pacel q).toArray.setIfInBounds i u=(pacel q').toArray) (hc:PcR Z wr B q'):Making Z B0 tb w1 (wr.setCell ⟨tb,i,none⟩ u) v l q' B:=by
 have hne:∀ (g:Nat) t c m,wr.heap[g]? = some (.cells c t m)→t≠116→(wr.setCell ⟨tb,i,none⟩ u).heap[g]? = wr.heap[g]?:=fun g t c m hc ht=>heap_setCell_other wr ⟨tb,i,none⟩ g u (by rintro rfl;exact ht (bk_type h.tbk hc))
 have hfr:∀ (b:Nat) (x:Pa),PcR Z wr b x→PcR Z (wr.setCell ⟨tb,i,none⟩ u) b x:=fun b x hx=>hx.frame (by rw [World.size_setCell];exact Nat.le_refl _) (fun g t c m ht hc=>hne g t c m hc (by rcases ht with ⟨_,rfl⟩ | ⟨_,rfl⟩ <;> decide)) (fun k cs m hc=>hne k _ cs m hc (by decide))
 refine ⟨?_,row_frame h.row fun g _ _ hg _=>heap_setCell_other wr ⟨tb,i,none⟩ g u (by rintro rfl;exact h.tn hg.symm),fun x hx=>⟨hfr _ _ (h.each x hx).1,(h.each x hx).2⟩,hfr _ _ hc,h.tn,h.b0,h.h0,by rw [World.size_setCell];exact h.hB,h.bel.setCell h.tl _,h.tl⟩
 have:=h.tbk.set i u
 rw [hq] at this
 exact this
theorem Making.put {B0 tb B:Nat} {w1 wr w5:World} {v:Value} {l:List Pa} {q q':Pa} (h:Making Z B0 tb w1 wr v l q B) {own:Option Nat} (hg:wr.grownBy w5 own) (ho:∀ k,own=some k→B≤k∧∃ c t m,wr.heap[k]? = some (.cells c t m)∧t≠116∧t≠5) (hb:Below B wr w5) (i:Nat) (u:Value) (hq:(pacel q).toArray.setIfInBounds i u=(pacel q').toArray) (hc:PcR Z w5 B q'):Making Z B0 tb w1 (w5.setCell ⟨tb,i,none⟩ u) v l q' B:=by
 have hne:∀ (g:Nat) t c m,wr.heap[g]? = some (.cells c t m)→(t=116∨t=5∨g<B)→w5.heap[g]? = wr.heap[g]?:=fun g t c m hc ht=>hg.block g (Array.getElem?_eq_some_iff.1 hc).1 fun e=>by
  obtain ⟨h1,c',t',m',h2,h3,h4⟩:=ho g e.symm
  rw [hc] at h2
  simp only [Option.some.injEq,Obj.cells.injEq] at h2
  obtain ⟨_,rfl,_⟩:=h2
  rcases ht with h | h | h
  ·exact h3 h
  ·exact h4 h
  ·omega
 have htb:Bk w5 tb (pacel q).toArray 116:=(hne tb _ _ _ h.tbk (.inl rfl)).trans h.tbk
 have hst:∀ (g:Nat) t c m,w5.heap[g]? = some (.cells c t m)→t≠116→(w5.setCell ⟨tb,i,none⟩ u).heap[g]? = w5.heap[g]?:=fun g t c m hc ht=>heap_setCell_other w5 ⟨tb,i,none⟩ g u (by rintro rfl;exact ht (bk_type htb hc))
 have hfr:∀ (b:Nat) (x:Pa),PcR Z w5 b x→PcR Z (w5.setCell ⟨tb,i,none⟩ u) b x:=fun b x hx=>hx.frame (by rw [World.size_setCell];exact Nat.le_refl _) (fun g t c m ht hc=>hst g t c m hc (by rcases ht with ⟨_,rfl⟩ | ⟨_,rfl⟩ <;> decide)) (fun k cs m hc=>hst k _ cs m hc (by decide))
 have hr5:w5.ownsRow B0 116 8 v l.length (l.flatMap pacel):=row_frame h.row fun g c m _ hc=>hne g _ c m hc (.inl rfl)
 refine ⟨?_,row_frame hr5 fun g _ _ hg _=>heap_setCell_other w5 ⟨tb,i,none⟩ g u (by rintro rfl;exact h.tn hg.symm),fun x hx=>⟨hfr _ _ ((h.each x hx).1.frame hg.size (fun g t c m ht hc=>hne g t c m hc (.inr (.inr ?_))) (fun k cs m hc=>hne k _ cs m hc (.inr (.inl rfl)))),(h.each x hx).2⟩,hfr _ _ hc,h.tn,h.b0,h.h0,by rw [World.size_setCell];exact Nat.le_trans h.hB hg.size,(h.bel.trans (hb.mono (Nat.le_trans h.b0 h.h0))).setCell h.tl _,h.tl⟩
 ·have:=htb.set i u
  rw [hq] at this
  exact this
 ·rcases ht with ⟨h1,_⟩ | ⟨h1,_⟩
  ·obtain ⟨ad,ha,rfl⟩:=own_addr h1
   exact (h.each x hx).2.1 ad ha
  ·obtain ⟨ad,ha,rfl⟩:=own_addr h1
   exact (h.each x hx).2.2 ad ha
theorem row_own {w:World} {base:Nat} {e:TypeId} {sz n:Nat} {v:Value} {cs:List Value} (h:w.ownsRow base e sz v n cs) (h1:e≠116) (h2:e≠5):∀ k,v.ownBlock=some k→base≤k∧∃ c t m,w.heap[k]? = some (.cells c t m)∧t≠116∧t≠5:=fun k hk=>by
 obtain ⟨c,m,hc⟩:=row_type h hk
 exact ⟨(h.lt k hk).1,c,e,m,hc,h1,h2⟩
theorem row_stays {w w5:World} {b1 b2:Nat} {e1 e2:TypeId} {s1 s2 n1 n2:Nat} {v1 v2:Value} {c1 c2:List Value} (h1:w.ownsRow b1 e1 s1 v1 n1 c1) (h2:w.ownsRow b2 e2 s2 v2 n2 c2) (hne:e1≠e2) (hg:w.grownBy w5 v2.ownBlock):w5.ownsRow b1 e1 s1 v1 n1 c1:=row_frame h1 fun g _ _ hg1 hc=>hg.block g (Array.getElem?_eq_some_iff.1 hc).1 (row_ne h1 h2 hne hg1)
theorem infoParcel8:(Tryz.prog.info? 116).map (fun i=>(i.zero,i.size,i.bytes))=some (some (.agg #[.int .i64 0,.int .i64 0,.int .i64 0,.int .i64 0,.int .i64 0,.int .i64 0,.slice none 0 0,.slice none 0 0]),8,96):=by kernel_rfl
theorem pacel_one (q:Pa):∀ u∈pacel q,u.oneCell'=true:=by
 intro u hu
 simp only [pacel,List.mem_cons,List.not_mem_nil,or_false] at hu
 rcases hu with rfl | rfl | rfl | rfl | rfl | rfl | rfl | rfl <;> rfl
def Sn (w:World) (v v':Value):Prop:=v'.ownBlock=v.ownBlock∨∃ k,v'.ownBlock=some k∧w.heap.size≤k
theorem run_append_where {P:Program} (w:World) (base:Nat) (t ty e:TypeId) (i:TypeInfo) (z:Value) (size bytes:Nat) (ht:P.underlying t=some (.slice e)) (hi:P.info? e=some i) (hz:i.zero=some z)
  (hsize:i.size=size) (hby:i.bytes=bytes) (v:Value) (n:Nat) (xs:List Value) (hown:w.ownsRow base e size v n xs)
  (a:Addr) (c:Nat) (news:List Value) (hl:news.length=1 * size) (hnews:∀ j u,news[j]? = some u→w.cell? (a.add j)=some u) (h1:∀ u∈news,u.oneCell'=true)
  (h63:n+1≤maxLen) (hbytes:(n+1) * bytes≤140737488355328) (v':Value) (w':World) (hr:(Builtin.append_ #[t,t] ty #[v,.slice (some a) 1 c]).run P w=.ok v' w'):Sn w v v':=by
 subst hsize
 subst hby
 have hsmall:n+1≤9223372036854775807:=by simp only [maxLen] at h63;omega
 rcases hown.2 with ⟨rfl,rfl⟩ | ⟨g,cap,cur,rfl,hbg,hg,hnc,hcm,hcs,htake⟩
 ·have hr2:=run_append_nil (P:=P) w t ty e i z ht hi hz a 1 c news hl hnews (by omega) (by omega) (by have hb:=hbytes;simp only [Nat.zero_add] at hb;omega)
  rw [hr2] at hr
  simp only [Result.ok.injEq] at hr
  rw [← hr.1]
  exact .inr ⟨_,rfl,Nat.le_refl _⟩
 ·by_cases hroom:n+1≤cap
  ·have hfit:n * i.size+news.length≤cur.size:=by rw [hl,hcs,← Nat.add_mul];exact Nat.mul_le_mul_right _ hroom
   have hr2:=run_append_room (P:=P) w t ty e i ht hi g n cap cur hg a 1 c news hl hnews h1 hroom hfit
   rw [hr2] at hr
   simp only [Result.ok.injEq] at hr
   rw [← hr.1]
   exact .inl rfl
  ·have holds:∀ j u,xs[j]? = some u→w.cell? ((⟨g,0,none⟩:Addr).add j)=some u:=hown.cells (g:=g) rfl
   have hr2:=run_append_grow (P:=P) w t ty e i z ht hi hz ⟨g,0,none⟩ n cap xs hown.1 holds a 1 c news hl hnews (by omega) (by omega) (growslice_fits (by omega) hbytes)
   rw [hr2] at hr
   simp only [Result.ok.injEq] at hr
   rw [← hr.1]
   exact .inr ⟨_,rfl,Nat.le_refl _⟩
structure PRow (w:World) (base:Nat) (v:Value) (l:List Pa):Prop where
 row:w.ownsRow base 116 8 v l.length (l.flatMap pacel)
theorem wpList_append_tell {w:World} {ops:Array Oper} {rest:List Oper} {o:Oper} {act:Act} {Q:Exit→Act→World→Prop} (hgd:o.guard=none) (s x:Operand)
  (ho:o.op=.call { callee:=.builtin .append,args:=#[s,x],argTypes:=#[247,247] })
  (base:Nat) (v:Value) (l:List Pa) (hs:act.eval s=v) (hown:w.ownsRow base 116 8 v l.length (l.flatMap pacel)) (ad:Addr) (c:Nat) (q:Pa) (hx:act.eval x=.slice (some ad) 1 c) (hnews:∀ j u,(pacel q)[j]? = some u→w.cell? (ad.add j)=some u)
  (hl:l.length≤1099511627776) (hbase:base≤w.heap.size)
  (h:∀ v' w',PRow w' base v' (l++[q])→w.grownBy w' v.ownBlock→Below base w w'→Sn w v v'→wpList Tryz.prog ops Q rest (act.put o.dst v') w'):wpList Tryz.prog ops Q (o :: rest) act w:=by
 obtain ⟨i0,hi,hz0,hz1,hz2⟩:=info_parts infoParcel8
 refine wpList_plain hgd fun K hK => ?_
 obtain ⟨v',w',hr,h1,h2,_⟩:=run_append_own (P:=Tryz.prog) w base 247 o.type 116 i0 (.agg #[.int .i64 0,.int .i64 0,.int .i64 0,.int .i64 0,.int .i64 0,.int .i64 0,.slice none 0 0,.slice none 0 0]) 8 96 Tryz.underlying247 hi hz0 hz1 hz2 (by rfl) (by decide) v l.length (l.flatMap pacel) hown ad 1 c (pacel q) (by rfl) hnews (pacel_one q) (by unfold maxLen;omega) (by omega) hbase
 have h5:=run_append_where (P:=Tryz.prog) w base 247 o.type 116 i0 (.agg #[.int .i64 0,.int .i64 0,.int .i64 0,.int .i64 0,.int .i64 0,.int .i64 0,.slice none 0 0,.slice none 0 0]) 8 96 Tryz.underlying247 hi hz0 hz1 hz2 v l.length (l.flatMap pacel) hown ad c (pacel q) (by rfl) hnews (pacel_one q) (by unfold maxLen;omega) (by omega) v' w' hr
 have hbel:Below base w w':=(Below.refl _ _).grown h2 hbase (fun k hk=>(hown.lt k hk).1)
 unfold Oper.wp execOp
 simp only [ho,resolve,invoke,builtin,Sem.run_bind,Sem.run_pure,Result.andThen_ok,List.map_toArray,List.map_cons,List.map_nil,hs,hx,hr]
 refine hK _ _ (h v' w' ⟨?_⟩ h2 hbel h5)
 rw [List.length_append,List.flatMap_append]
 simpa using h1
theorem tell_told {w:World} {g:Nat} {q:Pa} {t:TypeId} (h:Bk w g (pacel q).toArray t):∀ j u,(pacel q)[j]? = some u→w.cell? ((⟨g,0,none⟩:Addr).add j)=some u:=by
 intro j u hj
 have hk:(pacel q).toArray[j]? = some u:=by rw [List.getElem?_toArray];exact hj
 have:=h.cell j hk
 have hz:(⟨g,0,none⟩:Addr).add j=⟨g,j,none⟩:=by unfold Addr.add;split <;> simp_all
 rw [hz]
 exact this
theorem Making.done {B0 tb B:Nat} {w1 wr w5:World} {v:Value} {l:List Pa} {q:Pa} (h:Making Z B0 tb w1 wr v l q B) (hg:wr.grownBy w5 v.ownBlock) (hb:Below B0 wr w5):Bk w5 tb (pacel q).toArray 116∧(∀ x∈l++[q],PcR Z w5 B0 x∧PcLt w5.heap.size x)∧Below w1.heap.size w1 w5∧B0≤w5.heap.size:=by
 have hne:∀ (g:Nat) t c m,wr.heap[g]? = some (.cells c t m)→t≠116→w5.heap[g]? = wr.heap[g]?:=fun g t c m hc ht=>hg.block g (Array.getElem?_eq_some_iff.1 hc).1 fun e=>by
  obtain ⟨c',m',k⟩:=row_type h.row e.symm
  rw [hc] at k
  simp only [Option.some.injEq,Obj.cells.injEq] at k
  exact ht k.2.1
 have hfr:∀ (b:Nat) (x:Pa),PcR Z wr b x→PcR Z w5 b x:=fun b x hx=>hx.frame hg.size (fun g t c m ht hc=>hne g t c m hc (by rcases ht with ⟨_,rfl⟩ | ⟨_,rfl⟩ <;> decide)) (fun k cs m hc=>hne k _ cs m hc (by decide))
 refine ⟨h.tbk.grown hg h.tn,fun x hx => ?_,h.bel.trans (hb.mono h.b0),Nat.le_trans (Nat.le_trans h.h0 h.hB) hg.size⟩
 rcases List.mem_append.1 hx with hx | hx
 ·have:=hfr _ _ (h.each x hx).1
  exact ⟨this,this.lt⟩
 ·rw [List.mem_singleton.1 hx]
  have:=(hfr _ _ h.cur).lower h.h0
  exact ⟨this,this.lt⟩
structure Tells (Z:Nat→Prop) (w:World) (base:Nat) (v:Value) (l:List Pa):Prop where
 row:w.ownsRow base 116 8 v l.length (l.flatMap pacel)
 each:∀ x∈l,PcR Z w base x
theorem Tells.lower {w:World} {base base':Nat} {v:Value} {l:List Pa} (h:Tells Z w base v l) (hb:base'≤base):Tells Z w base' v l:=by
 refine ⟨⟨h.row.1,?_⟩,fun x hx=>(h.each x hx).lower hb⟩
 rcases h.row.2 with hn | ⟨g8,c8,cur,hv,hbg,r⟩
 ·exact .inl hn
 ·exact .inr ⟨g8,c8,cur,hv,Nat.le_trans hb hbg,r⟩
theorem Tells.below {w w':World} {base:Nat} {v:Value} {l:List Pa} (h:Tells Z w base v l) (hb:Below w.heap.size w w'):Tells Z w' base v l:=⟨row_frame h.row fun g _ _ _ hc=>hb.block g (Array.getElem?_eq_some_iff.1 hc).1,fun x hx=>(h.each x hx).below hb⟩
end
section
set_option maxRecDepth 100000
open Go.RowKit
variable {Z:Nat→Prop}
theorem st_isFull (c0 c1 c2 c3 c4 c5:Value) (sa:Option Addr) (sn sc:Nat) (ia:Option Addr) (im ic:Nat) (p:Pc) (x:Pce) (b:Bd) (w:World) (hs:p.spans.length=sn) (hi:p.items.length=im) :
  Calls Tryz.prog 303 #[.agg #[c0,c1,c2,c3,c4,c5,.slice sa sn sc,.slice ia im ic],pval (x,b)] w fun e w'=>e=.returned (.bool (fullB p x))∧Below w.heap.size w w':=by
 obtain ⟨⟨xf,xt,xi⟩,⟨xk,xo,xb⟩⟩:=x
 obtain ⟨ba,bl,bc⟩:=b
 unfold pval
 simp only
 obtain ⟨fb,HF⟩:∃ fb,Hid (fullB p (⟨xf,xt,xi⟩,⟨xk,xo,xb⟩)=fb):=⟨_,rfl⟩
 rw [HF.out]
 have HB:Hid (Below w.heap.size w ((w.alloc (.cells #[c0,c1,c2,c3,c4,c5,.slice sa sn sc,.slice ia im ic] 116)).alloc (.cells #[.int .i64 xf,.int .i64 xt,.int .i64 xi,.int .i64 xk,.int .u32 xo,.slice ba bl bc] 400))):=(below_new w _).alloc (by simp) _
 by_cases h1:xi=1
 ·have HFB:Hid (fb=decide ((im:Int)=8)):=by
   (show _=_)
   rw [← HF.out]
   unfold fullB
   simp only
   rw [if_pos h1,hi]
   exact decide_eq_decide.2 (by omega)
  subst h1
  clear hs hi
  go_enter Tryz.func303,Tryz.ntmps303
  go_wp2
  go_ret
  exact ⟨by rw [HFB.out];rfl,HB.out⟩
 ·have HFB:Hid (fb=decide ((sn:Int)=32)):=by
   (show _=_)
   rw [← HF.out]
   unfold fullB
   simp only
   rw [if_neg h1,hs]
   exact decide_eq_decide.2 (by omega)
  have k1:(xi == 1)=false:=by rw [beq_eq_false_iff_ne];exact h1
  clear hs hi
  go_enter Tryz.func303,Tryz.ntmps303
  go_wp2
  go_ret
  exact ⟨by rw [HFB.out];rfl,HB.out⟩
end
end Go.Proofs.YtoiennkfdjnkbaaGreatDoor
