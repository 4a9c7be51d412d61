import Derived.Test.YtghajmcohdedlaaGreatPk28
import Derived.Test.YtghajmcohdedlaaGreatPk43
import Derived.Deep.SlicePairs
namespace Go.Proofs.YtghajmcohdedlaaGreat
open Go.ChangeShapes Go.WideShapes Go.ChangeAt Go.RowKit
theorem bytes_cell {H : Type} {enc : TypeId × Value → H} {W : World} {fuel : Nat} {v : Value} {x : DataW H × List MemPlace}
  (h : DataW.trod enc Tryz.prog W 0 (fun _ => true) true fuel 27 [v] = some x) : ∃ a len cap bs,v = .slice a len cap ∧ Rd W a len bs ∧ len ≤ cap ∧ (a = none → cap = 0) ∧ Form x.1 len cap:=by
 rcases open_ints Tryz.underlying27 Tryz.underlying5 (by kernel_rfl) h with ⟨hcs,hx⟩ | ⟨y,l,c,zs,hcs,hrest⟩
 ·have hv : v = .slice none 0 0:=by simpa using hcs
  subst hv
  obtain ⟨bs,hb⟩:=rd_of (W:=W) (enc:=enc) (a:=none) (len:=0) (cap:=0) (d:=x.1) (p:=x.2) ⟨fuel,h⟩
  exact ⟨none,0,0,bs,rfl,hb.1,hb.2.1,hb.2.2.2.2.1,hb.2.2.2.2.2⟩
 ·have hv : v = .slice (some y) l c:=by simpa using hcs
  subst hv
  obtain ⟨bs,hb⟩:=rd_of (W:=W) (enc:=enc) (a:=some y) (len:=l) (cap:=c) (d:=x.1) (p:=x.2) ⟨fuel,h⟩
  exact ⟨some y,l,c,bs,rfl,hb.1,hb.2.1,hb.2.2.2.2.1,hb.2.2.2.2.2⟩
theorem fates_cell {H : Type} {enc : TypeId × Value → H} {W : World} {fuel : Nat} {v : Value} {x : DataW H × List MemPlace}
  (h : DataW.trod enc Tryz.prog W 0 (fun _ => true) true fuel 28 [v] = some x) : ∃ a len cap F,v = .slice a len cap ∧ FtRd W a len F ∧ Form x.1 len cap:=by
 rcases open_ints Tryz.underlying28 Tryz.underlying3 (by kernel_rfl) h with ⟨hcs,hx⟩ | ⟨y,l,c,zs,hcs,_,hl,hm,hz,hx,hcell,hwz⟩
 ·have hv : v = .slice none 0 0:=by simpa using hcs
  subst hv
  exact ⟨none,0,0,[],rfl,⟨rfl,.inl rfl⟩,.inl ⟨by rw [hx],rfl,rfl⟩⟩
 ·have hv : v = .slice (some y) l c:=by simpa using hcs
  subst hv
  simp only [if_true] at hz
  unfold maxLen at hm
  refine ⟨some y,l,c,zs.take l,rfl,⟨by rw [List.length_take];omega,?_⟩,.inr ⟨_,_,by rw [hx],by simp only [lits,List.length_map,List.length_take];omega,by simp only [lits,List.length_map,List.length_take,List.length_drop];omega⟩⟩
  by_cases h0 : l = 0
  ·exact .inl h0
  ·right
   obtain ⟨b,off,spot⟩:=y
   have hc:=hcell 0 (by omega)
   have hspot : spot = none:=by simpa [Addr.add] using World.cell?_spot hc
   subst hspot
   refine ⟨b,off,rfl,fun i hi => ?_⟩
   have hci:=hcell i (by omega)
   have e : (⟨b,off,none⟩ : Addr).add i = ⟨b,off + i,none⟩:=by unfold Addr.add;split <;> simp_all
   rw [e] at hci
   rw [hci]
   have hzi : i < zs.length:=by omega
   simp only [List.getD_eq_getElem?_getD,List.getElem?_take_of_lt hi,List.getElem?_eq_getElem hzi,Option.getD_some]
theorem FtRd.below {w w' : World} {a : Option Addr} {n : Nat} {F : List Int} (h : FtRd w a n F) (hb : Below w.heap.size w w') : FtRd w' a n F:=by
 refine ⟨h.size,?_⟩
 rcases h.cells with h0 | ⟨b,off,ha,hc⟩
 ·exact .inl h0
 ·refine .inr ⟨b,off,ha,fun i hi => ?_⟩
  rw [hb.cell (p:=⟨b,off + i,none⟩) (World.block_lt_of_cell? w _ (hc i hi))]
  exact hc i hi
theorem FtRd.far {w : World} {a : Option Addr} {n : Nat} {F : List Int} (h : FtRd w a n F) : n = 0 ∨ ∃ b off,a = some ⟨b,off,none⟩ ∧ b < w.heap.size:=by
 rcases h.cells with h0 | ⟨b,off,ha,hc⟩
 ·exact .inl h0
 ·by_cases hn : n = 0
  ·exact .inl hn
  ·exact .inr ⟨b,off,ha,World.block_lt_of_cell? w _ (hc 0 (by omega))⟩
theorem bytesInt : Tryz.prog.bytesOf 3 = 8:=by kernel_rfl
theorem weights_in' {H : Type} (P : Program) (e : TypeId) : ∀ (l : List (DataW H)) (d : DataW H) (y : Nat),d ∈ l → y ∈ DataW.weights P e d → y ∈ DataW.weightsAll P e l
 | x :: l,d,y,hd,hy => by
  simp only [DataW.weightsAll,List.mem_append]
  rcases List.mem_cons.1 hd with rfl | hd
  ·exact .inl hy
  ·exact .inr (weights_in' P e l d y hd hy)
end Go.Proofs.YtghajmcohdedlaaGreat

namespace Go.Proofs.YtghajmcohdedlaaGreat
open Go.ChangeShapes Go.WideShapes Go.ChangeAt Go.RowKit
structure Dq where
 kind : Int
 at_ : Int
 ba : Option Addr
 bl : Nat
 bc : Nat
 bs : List Nat
 fa : Option Addr
 fl : Nat
 fc : Nat
 F : List Int
structure DqOk (w : World) (q : Dq) : Prop where
 rd : Rd w q.ba q.bl q.bs
 nc : q.ba = none → q.bc = 0
 bb : q.bl ≤ 140737488351232
 ft : FtRd w q.fa q.fl q.F
 fb : q.fl ≤ 9223372036854775000
 at1 : q.at_ ≤ 9223372036854775807
theorem DqOk.below {w w' : World} {q : Dq} (h : DqOk w q) (hb : Below w.heap.size w w') : DqOk w' q:=⟨h.rd.below hb,h.nc,h.bb,h.ft.below hb,h.fb,h.at1⟩
structure DqsRd (w : World) (a : Option Addr) (n : Nat) (l : List Dq) : Prop where
 size : l.length = n
 cells : l = [] ∨ ∃ g o,a = some ⟨g,o,none⟩ ∧ g < w.heap.size ∧ ∀ (i : Nat) (q : Dq),l[i]? = some q → w.cell? ⟨g,o + i * 4,none⟩ = some (.int .i64 q.kind) ∧ w.cell? ⟨g,o + i * 4 + 1,none⟩ = some (.int .i64 q.at_) ∧ w.cell? ⟨g,o + i * 4 + 2,none⟩ = some (.slice q.ba q.bl q.bc) ∧ w.cell? ⟨g,o + i * 4 + 3,none⟩ = some (.slice q.fa q.fl q.fc)
 each : ∀ q ∈ l,DqOk w q
theorem DqsRd.below {w w' : World} {a : Option Addr} {n : Nat} {l : List Dq} (h : DqsRd w a n l) (hb : Below w.heap.size w w') : DqsRd w' a n l:=by
 refine ⟨h.size,?_,fun q hq => (h.each q hq).below hb⟩
 rcases h.cells with h0 | ⟨g,o,ha,hg,hc⟩
 ·exact .inl h0
 ·refine .inr ⟨g,o,ha,Nat.lt_of_lt_of_le hg hb.size,fun i q hi => ?_⟩
  rw [hb.cell (p:=⟨g,o + i * 4,none⟩) hg,hb.cell (p:=⟨g,o + i * 4 + 1,none⟩) hg,hb.cell (p:=⟨g,o + i * 4 + 2,none⟩) hg,hb.cell (p:=⟨g,o + i * 4 + 3,none⟩) hg]
  exact hc i q hi
theorem DqsRd.spot {w : World} {a : Option Addr} {n : Nat} {l : List Dq} (h : DqsRd w a n l) (i : Nat) (hi : i < n) : ∃ g o,a = some ⟨g,o,none⟩ ∧ g < w.heap.size ∧ ∃ q,l[i]? = some q ∧ DqOk w q ∧ w.cell? ⟨g,o + i * 4,none⟩ = some (.int .i64 q.kind) ∧ w.cell? ⟨g,o + i * 4 + 1,none⟩ = some (.int .i64 q.at_) ∧ w.cell? ⟨g,o + i * 4 + 2,none⟩ = some (.slice q.ba q.bl q.bc) ∧ w.cell? ⟨g,o + i * 4 + 3,none⟩ = some (.slice q.fa q.fl q.fc):=by
 have hl : i < l.length:=by rw [h.size];exact hi
 rcases h.cells with rfl | ⟨g,o,ha,hg,hc⟩
 ·simp at hl
 ·exact ⟨g,o,ha,hg,l[i],List.getElem?_eq_getElem hl,h.each _ (List.getElem_mem hl),hc i l[i] (List.getElem?_eq_getElem hl)⟩
set_option maxRecDepth 10000 in
theorem open_deeds11 {H : Type} {enc : TypeId × Value → H} {W : World} {a : Option Addr} {n cap : Nat} {d : DataW H} {fuel : Nat} {p : List MemPlace}
  (hf : DataW.trod enc Tryz.prog W 0 (fun _ => true) true fuel 22 [.slice a n cap] = some (d,p)) (hw : ∀ y ∈ DataW.weights Tryz.prog 22 d,y ≤ reachBytes) : ∃ l,DqsRd W a n l ∧ n ≤ cap ∧ cap ≤ maxLen:=by
 rcases Go.Deep.open_slice Tryz.underlying22 hf with ⟨hcs,hx⟩ | ⟨x,l,c,m,n',D,Pl,hcs,hb,hl,hm,hmm,hx,hr⟩
 ·simp at hcs
  obtain ⟨rfl,rfl,rfl⟩:=hcs
  exact ⟨[],⟨rfl,.inl rfl,fun q hq => by cases hq⟩,Nat.le_refl _,by omega⟩
 ·simp at hcs
  obtain ⟨rfl,rfl,rfl⟩:=hcs
  simp only [if_true] at hmm
  subst hmm
  simp only [Prod.mk.injEq] at hx
  obtain ⟨rfl,_⟩:=hx
  have hw2 : ∀ r,r < n → ∀ y ∈ DataW.weights Tryz.prog 30 (D r),y ≤ reachBytes:=by
   intro r hr y hy
   refine hw y ?_
   simp only [DataW.weights,Tryz.underlying22]
   exact List.mem_cons_of_mem _ (List.mem_append_left _ (weights_in' _ _ _ (D r) _ (List.mem_map.2 ⟨r,List.mem_range.2 hr,rfl⟩) hy))
  have each : ∀ r,r < m → ∃ q : Dq,W.cell? (x.add (r * 4)) = some (.int .i64 q.kind) ∧ W.cell? (x.add (r * 4 + 1)) = some (.int .i64 q.at_) ∧ W.cell? (x.add (r * 4 + 2)) = some (.slice q.ba q.bl q.bc) ∧ W.cell? (x.add (r * 4 + 3)) = some (.slice q.fa q.fl q.fc) ∧ (r < n → DqOk W q):=by
   intro r hrc
   obtain ⟨cs',h1,h2⟩:=hr r hrc
   rw [show Tryz.prog.cellsOf 30 = 4 from by kernel_rfl] at h1
   obtain ⟨_,hlen,hcell⟩:=World.cells?_some h1
   obtain ⟨xs,k,hk,hxy,_,hxl,hf⟩:=DataW.trod_struct Tryz.underlying30 h2
   match xs,hxl,cs',hlen with
   | [y0,y1,y2,y3],_,[v0,v1,v2,v3],_ =>
    have g0:=hf 0 _ rfl
    have g1:=hf 1 _ rfl
    have g2:=hf 2 _ rfl
    have g3:=hf 3 _ rfl
    rw [show Tryz.prog.cellsOf _ = 1 from by kernel_rfl] at g0 g1 g2 g3
    simp only [List.getElem?_cons_zero,List.getElem?_cons_succ] at g0 g1 g2 g3
    have e0:=hcell 0 (by omega)
    have e1:=hcell 1 (by omega)
    have e2:=hcell 2 (by omega)
    have e3:=hcell 3 (by omega)
    rw [Go.Deep.add_add] at e0 e1 e2 e3
    obtain ⟨q0,r0,_,s0⟩:=DataW.trod_int Tryz.underlying3 g0
    obtain ⟨q1,r1,_,s1⟩:=DataW.trod_int Tryz.underlying3 g1
    obtain ⟨ba,bl,bc,bs,r2,hrd,hlc,hnc,hfm⟩:=bytes_cell g2
    obtain ⟨fa,fl,fc,F,r3,hft,hfg⟩:=fates_cell g3
    refine ⟨⟨q0,q1,ba,bl,bc,bs,fa,fl,fc,F⟩,?_,?_,?_,?_,fun hrn => ⟨hrd,hnc,?_,hft,?_,?_⟩⟩
    ·simp_all
    ·simp_all
    ·simp_all
    ·simp_all
    ·show bl ≤ _
     rcases hfm with ⟨_,h3,_⟩ | ⟨els,sp,h3,h4,h5⟩
     ·omega
     ·have h6:=hw2 r hrn ((els.length + sp.length) * 1) (by
       rw [show D r = .agg [y0.1,y1.1,y2.1,y3.1] from by simpa using congrArg Prod.fst hxy]
       simp only [DataW.weights,Tryz.underlying30]
       simp only [List.map_cons,List.map_nil,DataW.weightsEach,h3,List.mem_append]
       refine .inr (.inr (.inl ?_))
       simp [DataW.weights,Tryz.underlying27,bytesByte])
      simp only [reachBytes] at h6
      omega
    ·show fl ≤ _
     rcases hfg with ⟨_,h3,_⟩ | ⟨els,sp,h3,h4,h5⟩
     ·omega
     ·have h6:=hw2 r hrn ((els.length + sp.length) * 8) (by
       rw [show D r = .agg [y0.1,y1.1,y2.1,y3.1] from by simpa using congrArg Prod.fst hxy]
       simp only [DataW.weights,Tryz.underlying30]
       simp only [List.map_cons,List.map_nil,DataW.weightsEach,h3,List.mem_append]
       refine .inr (.inr (.inr (.inl ?_)))
       simp [DataW.weights,Tryz.underlying28,bytesInt])
      simp only [reachBytes] at h6
      omega
    ·show q1 ≤ _
     have : (-9223372036854775808 : Int) ≤ q1 ∧ q1 ≤ 9223372036854775807:=by simpa [Lit.wf,IntKind.min,IntKind.max,IntKind.signed,IntKind.bits] using s1
     exact this.2
  haveI : Inhabited Dq:=⟨⟨0,0,none,0,0,[],none,0,0,[]⟩⟩
  obtain ⟨y,hy⟩:=Go.Deep.choose_lt each
  refine ⟨(List.range n).map y,⟨by simp,?_,?_⟩,hl,hm⟩
  ·by_cases hn0 : n = 0
   ·left;simp [hn0]
   ·right
    obtain ⟨b,off,spot⟩:=x
    have hc:=(hy 0 (by omega)).1
    have hspot : spot = none:=by simpa [Addr.add] using World.cell?_spot hc
    subst hspot
    refine ⟨b,off,rfl,World.block_lt_of_cell? W _ hc,fun i q hi => ?_⟩
    have hin : i < n:=by
     have:=(List.getElem?_eq_some_iff.1 hi).1
     simpa using this
    have hq : q = y i:=by
     rw [List.getElem?_map,List.getElem?_range hin] at hi
     simpa using hi.symm
    subst hq
    have e : ∀ j,(⟨b,off,none⟩ : Addr).add j = ⟨b,off + j,none⟩:=fun j => by unfold Addr.add;split <;> simp_all
    obtain ⟨h2,h3,h4,h5,_⟩:=hy i (by omega)
    rw [e] at h2 h3 h4 h5
    exact ⟨h2,h3,h4,h5⟩
  ·intro q hq
   obtain ⟨i,hi,rfl⟩:=List.mem_map.1 hq
   have hin:=List.mem_range.1 hi
   exact (hy i (by omega)).2.2.2.2 hin
end Go.Proofs.YtghajmcohdedlaaGreat

namespace Go.Proofs.YtghajmcohdedlaaGreat
open Go.RowKit
def Pr11 (w : World) (gp g gl r gy : Nat) : Prop:=Blk w gp #[.pointer (some ⟨g,0,none⟩),.pointer (some ⟨gl,0,none⟩),.pointer (some ⟨r,0,none⟩),.pointer (some ⟨gy,0,none⟩)] 39
structure Evp (w : World) (base gp g gs gl gc r gy q ag : Nat) (wv sv rv : Value) (SV WV : List Value) (D : Dk) (V : List Sg) (uc ur : Value) (hi rel : Nat) (L L2 : List Rc) (vc vr : Value) : Prop where
 lc : LgG w base base g gs wv D gl gc 1 3 ag (V.map (plc 1)) uc hi rel L vc
 lr : LrG w base r q sv rv SV WV D gy 1 3 ag V ur hi rel L2 vr
 qq : q < w.heap.size
 pr : Pr11 w gp g gl r gy
 bp : base ≤ gp
 same : L.map plR = L2.map plR
 off : ∀ k,vc.ownBlock = some k → vr.ownBlock ≠ some k
theorem Evp.stay {w w' : World} {base gp g gs gl gc r gy q ag : Nat} {wv sv rv : Value} {SV WV : List Value} {D : Dk} {V : List Sg} {uc ur : Value} {hi rel : Nat} {L L2 : List Rc} {vc vr : Value} (h : Evp w base gp g gs gl gc r gy q ag wv sv rv SV WV D V uc ur hi rel L L2 vc vr) (hb : Below w.heap.size w w') : Evp w' base gp g gs gl gc r gy q ag wv sv rv SV WV D V uc ur hi rel L L2 vc vr :=
 ⟨h.lc.below hb,h.lr.below hb,Nat.lt_of_lt_of_le h.qq hb.size,Blk.stay h.pr hb,h.bp,h.same,h.off⟩
theorem Evp.base {w : World} {base gp g gs gl gc r gy q ag : Nat} {wv sv rv : Value} {SV WV : List Value} {D : Dk} {V : List Sg} {uc ur : Value} {hi rel : Nat} {L L2 : List Rc} {vc vr : Value} (h : Evp w base gp g gs gl gc r gy q ag wv sv rv SV WV D V uc ur hi rel L L2 vc vr) : base ≤ w.heap.size:=h.lc.sz
def Sc (gl : Nat) (uc vc : Value) (k : Nat) : Prop:=k = gl ∨ some k = uc.ownBlock ∨ some k = vc.ownBlock
theorem blkTy {w : World} {k : Nat} {cs cs' : Array Value} {t t' : TypeId} {fr : Nat × Nat} (h : Blk w k cs t) (h2 : w.heap[k]? = some (.cells cs' t' fr)) : t' = t:=by
 have h3:=h
 unfold Blk at h3
 rw [h2] at h3
 simp only [Option.some.injEq,Obj.cells.injEq] at h3
 exact h3.2.1
theorem LgG.sty {w : World} {base bd g gs : Nat} {wv : Value} {D : Dk} {gl gc b m ag : Nat} {U : List Sg} {uv : Value} {hi rel : Nat} {L : List Rc} {rv : Value} (h : LgG w base bd g gs wv D gl gc b m ag U uv hi rel L rv) {k : Nat} {cs : Array Value} {t : TypeId} {fr : Nat × Nat} (hk : w.heap[k]? = some (.cells cs t fr)) (hs : Sc gl uv rv k) : t = 74 ∨ t = 88 ∨ t = 44:=by
 rcases hs with rfl | h1 | h1
 ·exact .inl (blkTy h.log hk)
 ·exact .inr (.inl (own_typ h.used h1 hk))
 ·exact .inr (.inr (own_typ h.recs.row h1 hk))
theorem LrG.sty {w : World} {base r q : Nat} {sv wv : Value} {SV WV : List Value} {D : Dk} {gl b m ag : Nat} {V : List Sg} {uv : Value} {hi rel : Nat} {L : List Rc} {rv : Value} (h : LrG w base r q sv wv SV WV D gl b m ag V uv hi rel L rv) {k : Nat} {cs : Array Value} {t : TypeId} {fr : Nat × Nat} (hk : w.heap[k]? = some (.cells cs t fr)) (hs : Sc gl uv rv k) : t = 60 ∨ t = 106 ∨ t = 44:=by
 rcases hs with rfl | h1 | h1
 ·exact .inl (blkTy h.log hk)
 ·exact .inr (.inl (own_typ h.used h1 hk))
 ·exact .inr (.inr (own_typ h.recs.row h1 hk))
theorem LgG.left {w w' : World} {base g gs : Nat} {wv : Value} {D : Dk} {gl gc b m ag : Nat} {U : List Sg} {uv : Value} {hi rel : Nat} {L : List Rc} {rv : Value} (h : LgG w base base g gs wv D gl gc b m ag U uv hi rel L rv) (hm : Mvx (Sc gl uv rv) w w' base g gs) {k : Nat} {cs : Array Value} {t : TypeId} {fr : Nat × Nat} (hk : w.heap[k]? = some (.cells cs t fr)) (h1 : t ≠ 79) (h2 : t ≠ 97) (h3 : t ≠ 99) (h4 : t ≠ 74) (h5 : t ≠ 88) (h6 : t ≠ 44 ∨ some k ≠ rv.ownBlock) : w'.heap[k]? = some (.cells cs t fr):=by
 refine hm.block k cs t fr (fun e => ?_) (fun e => ?_) (fun hs => ?_) hk h3
 ·subst e;exact h1 (blkTy h.disk.blk hk)
 ·subst e;exact h2 (blkTy h.disk.srow hk)
 ·rcases h6 with h6 | h6
  ·rcases h.sty hk hs with e | e | e
   ·exact h4 e
   ·exact h5 e
   ·exact h6 e
  ·rcases hs with rfl | e | e
   ·exact h4 (blkTy h.log hk)
   ·exact h5 (own_typ h.used e hk)
   ·exact h6 e
theorem LrG.left {w w' : World} {base r q : Nat} {sv wv : Value} {SV WV : List Value} {D : Dk} {gl b m ag : Nat} {V : List Sg} {uv : Value} {hi rel : Nat} {L : List Rc} {rv : Value} (h : LrG w base r q sv wv SV WV D gl b m ag V uv hi rel L rv) {base2 : Nat} (hm : Mrx (Sc gl uv rv) w w' base2) {k : Nat} {cs : Array Value} {t : TypeId} {fr : Nat × Nat} (hk : w.heap[k]? = some (.cells cs t fr)) (h1 : t ≠ 66) (h2 : t ≠ 27) (h3 : t ≠ 101) (h4 : t ≠ 60) (h5 : t ≠ 106) (h6 : t ≠ 44 ∨ some k ≠ rv.ownBlock) : w'.heap[k]? = some (.cells cs t fr):=by
 refine hm.block k cs t fr (fun hs => ?_) hk h1 h2 h3
 rcases h6 with h6 | h6
 ·rcases h.sty hk hs with e | e | e
  ·exact h4 e
  ·exact h5 e
  ·exact h6 e
 ·rcases hs with rfl | e | e
  ·exact h4 (blkTy h.log hk)
  ·exact h5 (own_typ h.used e hk)
  ·exact h6 e
theorem LrG.mvx {w w' : World} {base g gs gl gc r gy q ag : Nat} {wv sv rv : Value} {SV WV : List Value} {D D2 : Dk} {U V : List Sg} {uc ur : Value} {hi rel hi2 rel2 : Nat} {L L2 : List Rc} {vc vr : Value} (h2 : LrG w base r q sv rv SV WV D2 gy 1 3 ag V ur hi2 rel2 L2 vr) (h : LgG w base base g gs wv D gl gc 1 3 ag U uc hi rel L vc) (hm : Mvx (Sc gl uc vc) w w' base g gs) (off : ∀ k,vc.ownBlock = some k → vr.ownBlock ≠ some k) : LrG w' base r q sv rv SV WV D2 gy 1 3 ag V ur hi2 rel2 L2 vr:=by
 refine ⟨h2.disk.move (fun k cs t fr h1 ht => h.left hm h1 ?_ ?_ ?_ ?_ ?_ (.inl ?_)),h.left hm h2.log (by decide) (by decide) (by decide) (by decide) (by decide) (.inl (by decide)),own_type h2.used (fun k cs hk => h.left hm hk (by decide) (by decide) (by decide) (by decide) (by decide) (.inl (by decide))),⟨?_,fun x hx => (h2.recs.bd x hx).stays fun k cs fr hk => h.left hm hk (by decide) (by decide) (by decide) (by decide) (by decide) (.inl (by decide))⟩,h2.bl⟩
 ·rcases ht with rfl | rfl | rfl | ⟨rfl,_⟩ <;> decide
 ·rcases ht with rfl | rfl | rfl | ⟨rfl,_⟩ <;> decide
 ·rcases ht with rfl | rfl | rfl | ⟨rfl,_⟩ <;> decide
 ·rcases ht with rfl | rfl | rfl | ⟨rfl,_⟩ <;> decide
 ·rcases ht with rfl | rfl | rfl | ⟨rfl,_⟩ <;> decide
 ·rcases ht with rfl | rfl | rfl | ⟨rfl,_⟩ <;> decide
 ·refine own_stay h2.recs.row fun k hk => ?_
  rcases h2.recs.row.2 with ⟨a1,_⟩ | ⟨gr,cp,cur,a1,_,a3,_⟩
  ·rw [a1] at hk;cases hk
  ·have hk2:=hk
   rw [a1] at hk2
   simp only [Value.ownBlock,Option.some.injEq] at hk2
   subst hk2
   have a4 : w.heap[gr]? = some (.cells cur 44 (0,0)):=a3
   rw [a4]
   exact h.left hm a4 (by decide) (by decide) (by decide) (by decide) (by decide) (.inr (fun e => off _ e.symm hk))
theorem LgG.mrx {w w' : World} {base bd g gs gl gc r gy q ag : Nat} {wv sv rv : Value} {SV WV : List Value} {D D2 : Dk} {U V : List Sg} {uc ur : Value} {hi rel hi2 rel2 : Nat} {L L2 : List Rc} {vc vr : Value} (h : LgG w base bd g gs wv D gl gc 1 3 ag U uc hi rel L vc) (h2 : LrG w base r q sv rv SV WV D2 gy 1 3 ag V ur hi2 rel2 L2 vr) (hm : Mrx (Sc gy ur vr) w w' base) (off : ∀ k,vc.ownBlock = some k → vr.ownBlock ≠ some k) : LgG w' base bd g gs wv D gl gc 1 3 ag U uc hi rel L vc:=by
 have hd:=h.disk
 have key : ∀ {k : Nat} {cs : Array Value} {t : TypeId},Blk w k cs t → t ≠ 66 → t ≠ 27 → t ≠ 101 → t ≠ 60 → t ≠ 106 → t ≠ 44 → Blk w' k cs t:=fun hk a1 a2 a3 a4 a5 a6 => h2.left hm hk a1 a2 a3 a4 a5 (.inl a6)
 refine ⟨⟨key hd.blk (by decide) (by decide) (by decide) (by decide) (by decide) (by decide),key hd.srow (by decide) (by decide) (by decide) (by decide) (by decide) (by decide),own_type hd.wrow (fun k cs hk => key hk (by decide) (by decide) (by decide) (by decide) (by decide) (by decide)),hd.bg,hd.bs,hd.sz,hd.sec,hd.wts,hd.tr,hd.ag,hd.wl⟩,key h.log (by decide) (by decide) (by decide) (by decide) (by decide) (by decide),key h.cells (by decide) (by decide) (by decide) (by decide) (by decide) (by decide),own_type h.used (fun k cs hk => key hk (by decide) (by decide) (by decide) (by decide) (by decide) (by decide)),⟨?_,fun x hx => (h.recs.bd x hx).stays fun k cs fr hk => h2.left hm hk (by decide) (by decide) (by decide) (by decide) (by decide) (.inl (by decide))⟩,h.bl⟩
 refine own_stay h.recs.row fun k hk => ?_
 rcases h.recs.row.2 with ⟨a1,_⟩ | ⟨gr,cp,cur,a1,_,a3,_⟩
 ·rw [a1] at hk;cases hk
 ·have hk2:=hk
  rw [a1] at hk2
  simp only [Value.ownBlock,Option.some.injEq] at hk2
  subst hk2
  have a4 : w.heap[gr]? = some (.cells cur 44 (0,0)):=a3
  rw [a4]
  exact h2.left hm a4 (by decide) (by decide) (by decide) (by decide) (by decide) (.inr (fun e => off _ hk e.symm))
theorem off_oon {w : World} {v v' u : Value} {B size n : Nat} {e : TypeId} {xs : List Value} (off : ∀ k,v.ownBlock = some k → u.ownBlock ≠ some k) (ho : Oon w v v') (hu : w.ownsRow B e size u n xs) : ∀ k,v'.ownBlock = some k → u.ownBlock ≠ some k:=fun k hk hk2 => by
 rcases ho k hk with h1 | h1
 ·exact off k h1 hk2
 ·have:=(hu.lt k hk2).2
  omega
theorem Evp.mid {w w2 : World} {base gp g gs gl gc r gy q ag : Nat} {wv sv rv : Value} {SV WV : List Value} {D : Dk} {V : List Sg} {uc ur : Value} {hi rel : Nat} {L L2 : List Rc} {vc vr : Value} (h : Evp w base gp g gs gl gc r gy q ag wv sv rv SV WV D V uc ur hi rel L L2 vc vr) (hm : Mvx (Sc gl uc vc) w w2 base g gs) : LrG w2 base r q sv rv SV WV D gy 1 3 ag V ur hi rel L2 vr ∧ q < w2.heap.size ∧ Pr11 w2 gp g gl r gy :=
 ⟨h.lr.mvx h.lc hm h.off,Nat.lt_of_lt_of_le h.qq hm.low.size,h.lc.left hm h.pr (by decide) (by decide) (by decide) (by decide) (by decide) (.inl (by decide))⟩
theorem Evp.both {w w2 w3 : World} {base gp g gs gl gc r gy q ag : Nat} {wv sv rv : Value} {SV WV : List Value} {D : Dk} {V : List Sg} {uc ur : Value} {hi rel : Nat} {L L2 : List Rc} {vc vr : Value} (h : Evp w base gp g gs gl gc r gy q ag wv sv rv SV WV D V uc ur hi rel L L2 vc vr) (hm : Mvx (Sc gl uc vc) w w2 base g gs)
  {wv3 sv3 rv3 : Value} {SV3 WV3 : List Value} {D3 : Dk} {V3 : List Sg} {uc3 ur3 : Value} {hi3 rel3 : Nat} {L3 L4 : List Rc} {vc3 vr3 : Value} (h2 : LgG w2 base base g gs wv3 D3 gl gc 1 3 ag (V3.map (plc 1)) uc3 hi3 rel3 L3 vc3) (o2 : Oon w vc vc3) (hr : Mrx (Sc gy ur vr) w2 w3 base) (h3 : LrG w3 base r q sv3 rv3 SV3 WV3 D3 gy 1 3 ag V3 ur3 hi3 rel3 L4 vr3) (o3 : Oon w2 vr vr3) (hs : L3.map plR = L4.map plR) :
  Evp w3 base gp g gs gl gc r gy q ag wv3 sv3 rv3 SV3 WV3 D3 V3 uc3 ur3 hi3 rel3 L3 L4 vc3 vr3:=by
 obtain ⟨m1,m2,m3⟩:=h.mid hm
 have off2 : ∀ k,vc3.ownBlock = some k → vr.ownBlock ≠ some k:=off_oon h.off o2 h.lr.recs.row
 refine ⟨h2.mrx m1 hr off2,h3,Nat.lt_of_lt_of_le m2 hr.low.size,m1.left hr m3 (by decide) (by decide) (by decide) (by decide) (by decide) (.inl (by decide)),h.bp,hs,fun k a1 a2 => ?_⟩
 exact off_oon (fun k b1 b2 => off2 k b2 b1) o3 h2.recs.row k a2 a1
def Ev (w : World) (base gp g gs r N : Nat) (D : Dk) (V : List Sg) (hi rel ag : Nat) (P : List (Nat × List Nat)) : Prop :=
 ∃ gl gc gy q wv sv rv SV WV uc ur L L2 vc vr,Evp w base gp g gs gl gc r gy q ag wv sv rv SV WV D V uc ur hi rel L L2 vc vr ∧ L.map plR = P ∧ Okp N D V hi rel P
theorem Ev.stay {w w' : World} {base gp g gs r N : Nat} {D : Dk} {V : List Sg} {hi rel ag : Nat} {P : List (Nat × List Nat)} (h : Ev w base gp g gs r N D V hi rel ag P) (hb : Below w.heap.size w w') : Ev w' base gp g gs r N D V hi rel ag P:=by
 obtain ⟨gl,gc,gy,q,wv,sv,rv,SV,WV,uc,ur,L,L2,vc,vr,h1,h2,h3⟩:=h
 exact ⟨gl,gc,gy,q,wv,sv,rv,SV,WV,uc,ur,L,L2,vc,vr,h1.stay hb,h2,h3⟩
theorem Evp.plen {w : World} {base gp g gs gl gc r gy q ag N : Nat} {wv sv rv : Value} {SV WV : List Value} {D : Dk} {V : List Sg} {uc ur : Value} {hi rel : Nat} {L L2 : List Rc} {vc vr : Value} (h : Evp w base gp g gs gl gc r gy q ag wv sv rv SV WV D V uc ur hi rel L L2 vc vr) (hk : Okp N D V hi rel (L.map plR)) : L.length ≤ N ∧ L2.length ≤ N ∧ (∀ x ∈ L,rel < x.tick) ∧ ∀ x ∈ L2,rel < x.tick:=by
 have h1:=hk.pl
 have h2:=congrArg List.length h.same
 simp only [List.length_map] at h1 h2
 refine ⟨h1,by omega,fun x hx => (hk.ps (plR x) (List.mem_map_of_mem hx)).1,fun x hx => ?_⟩
 have h3 : plR x ∈ L.map plR:=by rw [h.same];exact List.mem_map_of_mem hx
 exact (hk.ps _ h3).1
theorem LgG.low {w : World} {B bd g gs : Nat} {wv : Value} {D : Dk} {gl gc b m ag : Nat} {U : List Sg} {uv : Value} {hi rel : Nat} {L : List Rc} {rv : Value} (h : LgG w B bd g gs wv D gl gc b m ag U uv hi rel L rv) {B' : Nat} (hb : B' ≤ B) : LgG w B' bd g gs wv D gl gc b m ag U uv hi rel L rv:=⟨h.disk,h.log,h.cells,h.used.low hb,h.recs.low hb,Nat.le_trans hb h.bl⟩
end Go.Proofs.YtghajmcohdedlaaGreat
