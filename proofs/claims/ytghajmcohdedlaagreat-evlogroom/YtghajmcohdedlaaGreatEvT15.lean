import Derived.Test.YtghajmcohdedlaaGreatPk37
import Derived.Deep.CutBlock
import Derived.BigQuiet
namespace Go.Proofs.YtghajmcohdedlaaGreat
open Go.RowKit
set_option maxRecDepth 100000
theorem own_typ {w : World} {base k : Nat} {e : TypeId} {size n : Nat} {v : Value} {xs : List Value} {cs : Array Value} {t : TypeId} {fr : Nat × Nat} (h : w.ownsRow base e size v n xs) (hk : some k = v.ownBlock) (hb : w.heap[k]? = some (.cells cs t fr)) : t = e:=Classical.byContradiction fun hne => own_ne' h hb hne hk
theorem LrG.more {w w5 : World} {base r q : Nat} {sv wv : Value} {SV WV : List Value} {D : Dk} {gl b m ag : Nat} {V V5 : List Sg} {uv v5 : Value} {hi rel : Nat} {L : List Rc} {rv : Value} (h : LrG w base r q sv wv SV WV D gl b m ag V uv hi rel L rv) (hs : Rgs w5 base v5 V5) (hg : w.grownBy w5 uv.ownBlock) : LrG (w5.setCell ⟨gl,6,none⟩ v5) base r q sv wv SV WV D gl b m ag V5 v5 hi rel L rv ∧ Frm (fun k => k = gl ∨ some k = uv.ownBlock) w (w5.setCell ⟨gl,6,none⟩ v5) ∧ Lr w5 gl r b m ag (hi : Int) (rel : Int) uv rv:=by
 have hf5 : Frm (fun k => k = gl ∨ some k = uv.ownBlock) w w5:=Frm.of_grown hg (fun k hk => .inr hk)
 have hl : Lr w5 gl r b m ag (hi : Int) (rel : Int) uv rv:=Blk.grown h.log hg (own_ne h.used h.log (by decide))
 have hf : Frm (fun k => k = gl ∨ some k = uv.ownBlock) w (w5.setCell ⟨gl,6,none⟩ v5):=hf5.set (.inl rfl) 6 v5
 have ht : ∀ (k : Nat) cs t fr,(k = gl ∨ some k = uv.ownBlock) → w.heap[k]? = some (.cells cs t fr) → t = 60 ∨ t = 106:=fun k cs t fr e h1 => e.imp (fun e => lr_type h.log e h1) (fun e => own_typ h.used e h1)
 refine ⟨⟨h.disk.frm hf (fun k cs t fr e h1 => by rcases ht k cs t fr e h1 with rfl | rfl <;> decide),Blk.set hl 6 _,row_set hs (own_ne hs hl (by decide)),⟨own_stay h.recs.row (fun k hk2 => hf.block k (h.recs.row.lt k hk2).2 (fun e => ?_)),fun x hx => (h.recs.bd x hx).stays fun k cs fr h1 => ?_⟩,h.bl⟩,hf,hl⟩
 ·rcases h.recs.row.2 with ⟨a1,_⟩ | ⟨gr,cp,cur,a1,_,a3,_⟩
  ·rw [a1] at hk2;cases hk2
  ·rw [a1] at hk2
   simp only [Value.ownBlock,Option.some.injEq] at hk2
   subst hk2
   rcases ht _ _ _ _ e a3 with h2 | h2 <;> exact absurd h2 (by decide)
 ·rw [hf.block k (heap_lt h1) (fun e => by rcases ht _ _ _ _ e h1 with h2 | h2 <;> exact absurd h2 (by decide))]
  exact h1
theorem LrG.rec_ {w w5 : World} {base r q : Nat} {sv wv : Value} {SV WV : List Value} {D : Dk} {gl b m ag : Nat} {V : List Sg} {uv v5 : Value} {hi rel : Nat} {L L5 : List Rc} {rv : Value} (h : LrG w base r q sv wv SV WV D gl b m ag V uv hi rel L rv) (hr : Rcs w5 base v5 L5) (hg : w.grownBy w5 rv.ownBlock) : LrG (w5.setCell ⟨gl,7,none⟩ v5) base r q sv wv SV WV D gl b m ag V uv hi rel L5 v5 ∧ Frm (fun k => k = gl ∨ some k = rv.ownBlock) w (w5.setCell ⟨gl,7,none⟩ v5) ∧ Lr w5 gl r b m ag (hi : Int) (rel : Int) uv rv:=by
 have hf5 : Frm (fun k => k = gl ∨ some k = rv.ownBlock) w w5:=Frm.of_grown hg (fun k hk => .inr hk)
 have hl : Lr w5 gl r b m ag (hi : Int) (rel : Int) uv rv:=Blk.grown h.log hg (own_ne h.recs.row h.log (by decide))
 have hf : Frm (fun k => k = gl ∨ some k = rv.ownBlock) w (w5.setCell ⟨gl,7,none⟩ v5):=hf5.set (.inl rfl) 7 v5
 have ht : ∀ (k : Nat) cs t fr,(k = gl ∨ some k = rv.ownBlock) → w.heap[k]? = some (.cells cs t fr) → t = 60 ∨ t = 44:=fun k cs t fr e h1 => e.imp (fun e => lr_type h.log e h1) (fun e => own_typ h.recs.row e h1)
 have hf2 : Frm (fun k => k = gl) w5 (w5.setCell ⟨gl,7,none⟩ v5):=(Frm.refl (fun k => k = gl) w5).set rfl 7 v5
 refine ⟨⟨h.disk.frm hf (fun k cs t fr e h1 => by rcases ht k cs t fr e h1 with rfl | rfl <;> decide),Blk.set hl 7 _,own_stay h.used (fun k hk2 => hf.block k (h.used.lt k hk2).2 (fun e => ?_)),⟨row_set hr.row (own_ne hr.row hl (by decide)),fun x hx => (hr.bd x hx).stays fun k cs fr h1 => ?_⟩,h.bl⟩,hf,hl⟩
 ·rcases h.used.2 with ⟨a1,_⟩ | ⟨gr,cp,cur,a1,_,a3,_⟩
  ·rw [a1] at hk2;cases hk2
  ·rw [a1] at hk2
   simp only [Value.ownBlock,Option.some.injEq] at hk2
   subst hk2
   rcases ht _ _ _ _ e a3 with h2 | h2 <;> exact absurd h2 (by decide)
 ·rw [hf2.block k (heap_lt h1) (fun e => absurd (lr_type hl e h1) (by decide))]
  exact h1
theorem LrG.high {w : World} {base r q : Nat} {sv wv : Value} {SV WV : List Value} {D : Dk} {gl b m ag : Nat} {V : List Sg} {uv : Value} {hi rel : Nat} {L : List Rc} {rv : Value} (h : LrG w base r q sv wv SV WV D gl b m ag V uv hi rel L rv) (T : Nat) : LrG (w.setCell ⟨gl,4,none⟩ (.int .i64 (T : Int))) base r q sv wv SV WV D gl b m ag V uv T rel L rv ∧ Frm (fun k => k = gl) w (w.setCell ⟨gl,4,none⟩ (.int .i64 (T : Int))):=by
 have hf : Frm (fun k => k = gl) w (w.setCell ⟨gl,4,none⟩ (.int .i64 (T : Int))):=(Frm.refl (fun k => k = gl) w).set rfl 4 _
 refine ⟨⟨h.disk.frm hf (fun k cs t fr e h1 => by rw [lr_type h.log e h1];decide),Blk.set h.log 4 _,row_set h.used (own_ne h.used h.log (by decide)),⟨row_set h.recs.row (own_ne h.recs.row h.log (by decide)),fun x hx => (h.recs.bd x hx).stays fun k cs fr h1 => ?_⟩,h.bl⟩,hf⟩
 rw [hf.block k (heap_lt h1) (fun e => absurd (lr_type h.log e h1) (by decide))]
 exact h1
def finR (bb : Bool) (V : List Sg) (p a sq T K : Nat) : List Sg:=if bb = true then V ++ [⟨p,sq,T,a + K⟩] else V.set (V.length - 1) ⟨p,(lastG V).num,T,a + K⟩
theorem finR_is {bb : Bool} {V V1 : List Sg} {p a sq T K u1 : Nat} (h1 : V1 = if bb = true then V ++ [⟨p,sq,0,0⟩] else V) (hu : V1.length = u1 + 1) (hf : bb = false → V ≠ [] ∧ (lastG V).at_ = p) : (V1.set u1 { V1.getD u1 zSg with en:=a + K }).set u1 { (V1.set u1 { V1.getD u1 zSg with en:=a + K }).getD u1 zSg with high:=T } = finR bb V p a sq T K:=by
 have hg : (V1.set u1 { V1.getD u1 zSg with en:=a + K }).getD u1 zSg = { V1.getD u1 zSg with en:=a + K }:=by
  rw [List.getD_eq_getElem?_getD,List.getElem?_set_self (by omega)]
  rfl
 rw [hg,List.set_set]
 unfold finR
 cases bb with
 | true =>
  rw [if_pos rfl] at h1 ⊢
  have hl : V.length = u1:=by rw [h1,List.length_append] at hu;simpa using hu
  subst h1
  have hd : (V ++ [(⟨p,sq,0,0⟩ : Sg)]).getD u1 zSg = ⟨p,sq,0,0⟩:=by
   rw [List.getD_eq_getElem?_getD,List.getElem?_append_right (by omega),hl,Nat.sub_self]
   rfl
  rw [hd,List.set_append_right _ _ (by omega),hl,Nat.sub_self]
  rfl
 | false =>
  rw [if_neg (by simp)] at h1 ⊢
  subst h1
  obtain ⟨h2,h3⟩:=hf rfl
  have hd : V1.getD u1 zSg = lastG V1:=by unfold lastG;rw [hu];rfl
  rw [hd,show V1.length - 1 = u1 from by omega,← h3]
theorem writesF_zero (KB : List Nat) (k P : Nat) (D : Dk) : writesF KB 0 k P D = (0,D):=rfl
theorem writesF_next (KB : List Nat) (c k P : Nat) (D : Dk) : writesF KB (c + 1) k P D = if writeE D (P : Int) (partE KB k) ≠ 0 then (writeE D (P : Int) (partE KB k),writeD D (P : Int) (partE KB k)) else writesF KB c (k + 1) (P + 1) (writeD D (P : Int) (partE KB k)):=rfl
set_option maxHeartbeats 64000000 in
theorem ref_AppendG (w : World) (base r q : Nat) (sv wv : Value) (SV WV : List Value) (D : Dk) (gl b m ag : Nat) (V : List Sg) (uv : Value) (hi rl : Nat) (L : List Rc) (rv : Value) (t : Int) (ab : Option Addr) (nb cb : Nat) (bs : List Nat) (h : LrG w base r q sv wv SV WV D gl b m ag V uv hi rl L rv) (hq : q < w.heap.size) (hb : b ≤ 1000) (hm : m ≤ 16) (hu : V.length ≤ 16) (hV : ∀ s ∈ V,s.num ≤ 4611686018427387904 ∧ s.en ≤ 16 ∧ s.at_ < m) (hhi : hi ≤ 1099511627776) (hw : D.waits.length ≤ 800000000) (hsz : b + 2 + m * 16 ≤ D.sure.length) (hbs : bs.length = nb) (hbd : ∀ w',Below base w w' → Rd w' ab nb bs) (hnn : ab = none → cb = 0) (hl : L.length ≤ 100000) :
  Calls Tryz.prog 29 #[.pointer (some ⟨gl,0,none⟩),.int .i64 t,.slice ab nb cb] w fun e w' => AppendToldR w base r q sv gl b m ag uv rl L rv t bs (appendRF b m ag D V hi t bs) e w':=by
 obtain ⟨R,HR⟩ : ∃ R,Hid (appendRF b m ag D V hi t bs = R):=⟨_,rfl⟩
 rw [HR.out]
 obtain ⟨au,cu,hv⟩:=h.used.val
 obtain ⟨un,HUN⟩ : ∃ un,Hid (V.length = un):=⟨_,rfl⟩
 rw [HUN.out] at hv
 subst hv
 obtain ⟨ar,cr,hvr⟩:=h.recs.val
 obtain ⟨rn,HRN⟩ : ∃ rn,Hid (L.length = rn):=⟨_,rfl⟩
 rw [HRN.out] at hvr
 subst hvr
 have HG : Hid (LrG w base r q sv wv SV WV D gl b m ag V (.slice au un cu) hi rl L (.slice ar rn cr)):=h
 have HBD : Hid (base ≤ w.heap.size ∧ base ≤ gl ∧ q < w.heap.size):=⟨h.sz,h.bl,hq⟩
 obtain ⟨S1,HS1⟩ : ∃ S1 : Nat → Prop,Hid ((∀ k,w.heap.size ≤ k → S1 k) ∧ S1 gl ∧ (∀ k,some k = (Value.slice au un cu).ownBlock → S1 k) ∧ (∀ k,some k = (Value.slice ar rn cr).ownBlock → S1 k) ∧ (∀ k,S1 k → base ≤ k) ∧ (∀ k,k < w.heap.size → S1 k → k = gl ∨ some k = (Value.slice au un cu).ownBlock ∨ some k = (Value.slice ar rn cr).ownBlock)) :=
  ⟨fun k => w.heap.size ≤ k ∨ k = gl ∨ some k = (Value.slice au un cu).ownBlock ∨ some k = (Value.slice ar rn cr).ownBlock,fun k hk => .inl hk,.inr (.inl rfl),fun k hk => .inr (.inr (.inl hk)),fun k hk => .inr (.inr (.inr hk)),fun k hk => by
   rcases hk with hk | rfl | hk | hk
   ·exact Nat.le_trans HBD.out.1 hk
   ·exact HBD.out.2.1
   ·exact (h.used.lt k hk.symm).1
   ·exact (h.recs.row.lt k hk.symm).1,fun k hk h2 => h2.resolve_left (by omega)⟩
 have HBODY : Hid (∀ w',Below base w w' → Rd w' ab nb bs):=hbd
 obtain ⟨POST,HPO⟩ : ∃ P0 : Ending → World → Prop,Hid (P0 = fun e w' => AppendToldR w base r q sv gl b m ag (.slice au un cu) rl L (.slice ar rn cr) t bs R e w'):=⟨_,rfl⟩
 have hpost : (fun e w' => AppendToldR w base r q sv gl b m ag (.slice au un cu) rl L (.slice ar rn cr) t bs R e w') = fun e w' => POST e w':=HPO.out.symm
 rw [hpost]
 have HNO : Hid (∀ (er : Int) (w' : World) (wv' : Value) (SV' WV' : List Value) (D' : Dk),R = (er,D',V,hi,false) → LrG w' base r q sv wv' SV' WV' D' gl b m ag V (.slice au un cu) hi rl L (.slice ar rn cr) → Mrx S1 w w' base → POST (.returned (.int .i64 er)) w'):=fun er w' wv' SV' WV' D' hr hg hmx => by
  rw [HPO.out,hr]
  exact ⟨rfl,⟨wv',SV',WV',_,_,L,hg,rfl,Oon.refl _ _,Oon.refl _ _,fun x hx => .inl hx⟩,hmx.mono HS1.out.2.2.2.2.2⟩
 have HYES : Hid (∀ (w' : World) (wv' : Value) (SV' WV' : List Value) (uv' rv' : Value) (L' : List Rc) (D' : Dk) (V' : List Sg) (T : Nat),t = (T : Int) → R = (0,D',V',T,true) → LrG w' base r q sv wv' SV' WV' D' gl b m ag V' uv' T rl L' rv' → L'.map plR = L.map plR ++ [(T,bs)] → Oon w (.slice au un cu) uv' → Oon w (.slice ar rn cr) rv' → Mrx S1 w w' base → (∀ x ∈ L',x ∈ L ∨ Bd w' w.heap.size x.a x.n x.bs) → POST (.returned (.int .i64 0)) w'):=fun w' wv' SV' WV' uv' rv' L' D' V' T ht hr hg hL ho1 ho2 hmx hnb => by
  rw [HPO.out,hr]
  exact ⟨rfl,⟨wv',SV',WV',uv',rv',L',hg,by rw [hL,ht];rfl,ho1,ho2,hnb⟩,hmx.mono HS1.out.2.2.2.2.2⟩
 obtain ⟨sh,HSH⟩ : ∃ sh,Hid (shutE D ag = sh):=⟨_,rfl⟩
 have HST:=ref_Bad11 w base r q sv wv SV WV D gl b m ag (hi : Int) (rl : Int) (.slice au un cu) (.slice ar rn cr) h.disk h.log
 rw [HSH.out] at HST
 have HSEG : Hid (b ≤ 1000 ∧ m ≤ 16 ∧ V.length ≤ 16 ∧ (∀ s ∈ V,s.num ≤ 4611686018427387904 ∧ s.en ≤ 16 ∧ s.at_ < m) ∧ hi ≤ 1099511627776 ∧ D.waits.length ≤ 800000000 ∧ b + 2 + m * 16 ≤ D.sure.length):=⟨hb,hm,hu,hV,hhi,hw,hsz⟩
 have HLL : Hid (L.length ≤ 100000):=hl
 have HBS : Hid (bs.length = nb):=hbs
 have HNN : Hid (ab = none → cb = 0):=hnn
 have hu16 : un ≤ 16:=by rw [← HUN.out];exact hu
 have HUNF : Hid (shutE D ag = sh → R = (if sh ≠ 0 then (sh,D,V,hi,false) else if 400 < nb then (6,D,V,hi,false) else if t ≤ (hi : Int) ∨ 1099511627776 < t then (14,D,V,hi,false) else appendRG b m D V hi t.toNat (keyB t.toNat bs) (((keyB t.toNat bs).length + 58) / 59))):=fun h1 => by
  rw [← HR.out,← HBS.out]
  unfold appendRF
  rw [h1]
 clear h hq hb hm hu hV hhi hw hsz hbs hbd hnn hl hpost
 go_enter Tryz.func29,Tryz.ntmps29
 go_wp2_with fail
 refine HST.mono ?_
 rintro e w1 ⟨rfl,hb1⟩
 have HG1 : Hid (LrG w1 base r q sv wv SV WV D gl b m ag V (.slice au un cu) hi rl L (.slice ar rn cr)):=HG.out.below hb1
 have HB1 : Hid (Below w.heap.size w w1):=hb1
 have HM1 : Hid (Mrx S1 w w1 base):=Mrx.of_below hb1 HBD.out.1
 clear hb1 HST
 by_cases a1 : sh = 0
 case neg =>
  have e5 : (sh != 0) = true:=by rw [bne_iff_ne];exact a1
  have HX:=HNO.out sh w1 wv SV WV D (by rw [HUNF.out HSH.out,if_pos a1]) HG1.out HM1.out
  go_wp2
  exact HX
 subst a1
 by_cases a2 : 400 < nb
 ·have a2' : (400 : Int) < (nb : Int):=by omega
  have HX:=HNO.out 6 w1 wv SV WV D (by rw [HUNF.out HSH.out,if_neg (by simp),if_pos a2]) HG1.out HM1.out
  go_wp2
  exact HX
 have c4 : w1.cell? ⟨gl,4,none⟩ = some (.int .i64 (hi : Int)):=Blk.cell HG1.out.log 4 rfl
 have a2' : ¬ (400 : Int) < (nb : Int):=by omega
 by_cases a3 : t ≤ (hi : Int)
 ·have HX:=HNO.out 14 w1 wv SV WV D (by rw [HUNF.out HSH.out,if_neg (by simp),if_neg a2,if_pos (.inl a3)]) HG1.out HM1.out
  have d3 : decide (t ≤ (hi : Int)) = true:=decide_eq_true a3
  go_wp2
  exact HX
 by_cases a4 : 1099511627776 < t
 ·have HX:=HNO.out 14 w1 wv SV WV D (by rw [HUNF.out HSH.out,if_neg (by simp),if_neg a2,if_pos (.inr a4)]) HG1.out HM1.out
  have d3 : decide (t ≤ (hi : Int)) = false:=decide_eq_false a3
  have d4 : decide ((1099511627776 : Int) < t) = true:=decide_eq_true a4
  go_wp2
  exact HX
 obtain ⟨T,rfl⟩ : ∃ T : Nat,t = (T : Int):=⟨t.toNat,by omega⟩
 have HT : Hid (T ≤ 1099511627776 ∧ nb ≤ 400):=by (show _ ∧ _);omega
 have d3 : decide ((T : Int) ≤ (hi : Int)) = false:=decide_eq_false a3
 have d4 : decide ((1099511627776 : Int) < (T : Int)) = false:=decide_eq_false a4
 have d5 : decide (T ≤ hi) = false:=decide_eq_false (by omega)
 have d6 : decide (1099511627776 < T) = false:=decide_eq_false (by omega)
 obtain ⟨KB,HKB⟩ : ∃ KB,Hid (keyB T bs = KB):=⟨_,rfl⟩
 obtain ⟨n,HN⟩ : ∃ n,Hid (8 + nb = n):=⟨_,rfl⟩
 have HBD1 : Hid (Rd w1 ab nb bs):=HBODY.out w1 HM1.out.low
 have HKL : Hid (KB.length = n ∧ ∀ x ∈ KB,x < 256):=by
  (show _ ∧ _)
  rw [← HKB.out]
  unfold keyB
  refine ⟨by rw [List.length_append,HBS.out,← HN.out];simp [KeyM.key],fun x hx => ?_⟩
  rcases List.mem_append.1 hx with hx | hx
  ·exact KeyM.key_byte _ x hx
  ·exact HBD1.out.byte x hx
 obtain ⟨K,HK⟩ : ∃ K,Hid ((n + 58) / 59 = K ∧ 1 ≤ K ∧ K ≤ 7):=⟨_,rfl,by have:=HN.out;have:=HT.out;omega,by have:=HN.out;have:=HT.out;omega⟩
 have HRE : Hid (R = appendRG b m D V hi T KB K):=by
  (show _ = _)
  rw [HUNF.out HSH.out,if_neg (by simp),if_neg a2,if_neg (by omega),Int.toNat_natCast,HKB.out,HKL.out.1,HK.out.1]
 have HUP : Hid (D.down = false):=by
  (show _ = _)
  have h1:=HSH.out
  unfold shutE at h1
  split at h1
  ·split at h1
   ·cases h1
   ·rename_i h2;simpa using h2
  ·cases h1
 clear a2 a3 a4
 go_wp2_with fail
 refine (ref_Key (T : Int) (by have:=HT.out;omega) w1).mono ?_
 rintro e w2 ⟨a2,rfl,ho2,hb2⟩
 have HBD2 : Hid (Rd w2 ab nb bs):=HBD1.out.below hb2
 have HO2 : Hid (Own w2 w1.heap.size (some a2) 8 8 (KeyM.key (KeyM.up (T : Int)))):=ho2
 have HX2 : Hid (Below w1.heap.size w1 w2):=hb2
 clear ho2 hb2 c4 a2' d3 d4 d5 d6
 go_wp2_with (guard_target =~ wpList _ _ _ (Oper.mk (some 42) _ _ _ _ _ :: _) _ _;refine wpList_append_rd rfl (.tmp 40) (.tmp 41) rfl w1.heap.size (some a2) 8 8 _ rfl HO2.out ab nb cb bs rfl HBD2.out HNN.out (by have:=HT.out;omega) HX2.out.size ?_)
 intro a3 c3 w3 ho3 hg3 hb3
 rw [HN.out] at ho3
 rw [HN.out]
 have HX3 : Hid (Below w1.heap.size w1 w3):=HX2.out.trans hb3
 obtain ⟨g3,cur3,HA3⟩ : ∃ g3 cur3,Hid (a3 = some ⟨g3,0,none⟩ ∧ Blk w3 g3 cur3 5 ∧ Rd w3 a3 n KB ∧ n ≤ c3 ∧ w1.heap.size ≤ g3):=by
  rcases ho3.row.2 with ⟨_,h0⟩ | ⟨gg,cp,cur,hv,hbg,hgg,hlc,_⟩
  ·have:=HN.out;omega
  ·cases hv
   exact ⟨gg,cur,rfl,hgg,by rw [← HKB.out];exact ho3.rd,hlc,hbg⟩
 have ha3:=HA3.out.1
 subst ha3
 have HG3 : Hid (LrG w3 base r q sv wv SV WV D gl b m ag V (.slice au un cu) hi rl L (.slice ar rn cr)):=HG1.out.below HX3.out
 have HB3 : Hid (Below w.heap.size w w3):=HB1.out.trans (HX3.out.mono HB1.out.size)
 clear ho3 hg3 hb3
 -- how many parts
 obtain ⟨kq,HKQ⟩ : ∃ kq,Hid (n / 59 = kq):=⟨_,rfl⟩
 obtain ⟨kr,HKR⟩ : ∃ kr,Hid (n % 59 = kr):=⟨_,rfl⟩
 have q1 : wrap64 ((n : Int) / 59) = (kq : Int):=by unfold wrap64;have:=HKQ.out;have:=HN.out;have:=HT.out;omega
 have q2 : (n : Int) % 59 = (kr : Int):=by have:=HKR.out;omega
 go_upto_if 49 with fail
 rw [q1]
 rw [q2]
 go_cut [9] from 45 to 51 (fun v9 wx => v9 = .int .i64 (K : Int) ∧ wx = w3)
 case first =>
  by_cases hkr : 0 < kr
  ·have d1 : decide ((0 : Int) < (kr : Int)) = true:=decide_eq_true (by omega)
   have d2 : (0 : Int) < (kr : Int):=by omega
   have d3 : decide (0 < kr) = true:=decide_eq_true hkr
   have q3 : IntKind.i64.wrap ((kq : Int) + 1) = (K : Int):=by rw [IntKind.wrap_i64];have:=HKQ.out;have:=HKR.out;have:=HK.out;omega
   clear hkr
   go_wp2
   go_meet
   exact ⟨by first | rfl | (congr 1;omega),rfl⟩
  ·have hk0 : kq = K:=by have:=HKQ.out;have:=HKR.out;have:=HK.out;omega
   have d1 : decide ((0 : Int) < (kr : Int)) = false:=decide_eq_false (by omega)
   have d2 : ¬ (0 : Int) < (kr : Int):=by omega
   have d3 : decide (0 < kr) = false:=decide_eq_false hkr
   have HK0 : Hid (kq = K):=hk0
   clear hkr hk0
   go_wp2
   go_meet
   exact ⟨by rw [HK0.out],rfl⟩
 case rest =>
 obtain ⟨rfl,hwc⟩:=hcut
 rw [hwc]
 clear hwc q1 q2 wc
 -- the last segment
 obtain ⟨p0,HP0⟩ : ∃ p0,Hid (posR V = p0):=⟨_,rfl⟩
 obtain ⟨e0,HE0⟩ : ∃ e0,Hid (endR V = e0):=⟨_,rfl⟩
 obtain ⟨sq,HSQ⟩ : ∃ sq,Hid (nextN V = sq):=⟨_,rfl⟩
 have HPB : Hid (p0 ≤ 16 ∧ e0 ≤ 17 ∧ sq ≤ 4611686018427387905):=by
  (show _ ∧ _ ∧ _)
  rw [← HP0.out,← HE0.out,← HSQ.out]
  unfold posR endR nextN
  by_cases hV : V = []
  ·rw [if_pos hV,if_pos hV,if_pos hV];omega
  ·rw [if_neg hV,if_neg hV,if_neg hV]
   have h1:=HSEG.out.2.2.2.1 _ (lastG_mem hV)
   have h2:=HSEG.out.2.1
   omega
 have c6 : w3.cell? ⟨gl,6,none⟩ = some (.slice au un cu):=Blk.cell HG3.out.log 6 rfl
 go_upto_if 58 with fail
 go_cut [10,11,12,13] from 52 to 79 (fun v10 v11 v12 _v13 wx => v10 = .int .i64 (p0 : Int) ∧ v11 = .int .i64 (e0 : Int) ∧ v12 = .int .i64 (sq : Int) ∧ Hid (Below w3.heap.size w3 wx))
 case first =>
  by_cases hun : 0 < un
  ·have d1 : decide ((0 : Int) < (un : Int)) = true:=decide_eq_true (by omega)
   have d2 : (0 : Int) < (un : Int):=by omega
   have d3 : decide (0 < un) = true:=decide_eq_true hun
   have hVn : V ≠ []:=fun e => by have:=HUN.out;rw [e] at this;simp at this;omega
   obtain ⟨kb,rfl⟩:=HG3.out.used.some_ hVn
   obtain ⟨u1,HU1⟩ : ∃ u1,Hid (un = u1 + 1):=⟨un - 1,by (show _ = _);omega⟩
   have q3 : IntKind.i64.wrap ((un : Int) - 1) = (u1 : Int):=by rw [IntKind.wrap_i64];have:=HU1.out;omega
   obtain ⟨s,HS⟩ : ∃ s,Hid (V.getD u1 zSg = s ∧ lastG V = s):=⟨_,rfl,by unfold lastG;rw [HUN.out,HU1.out];rfl⟩
   obtain ⟨x0,x1,x2,x3⟩:=HG3.out.used.facts (J:=u1) (by have:=HUN.out;have:=HU1.out;omega) HS.out.1
   have HSN : Hid (s.num ≤ 4611686018427387904):=(HSEG.out.2.2.2.1 s (by rw [← HS.out.2];exact lastG_mem hVn)).1
   obtain ⟨at_,num,sh2,en⟩:=s
   simp only at x0 x1 x2 x3
   have HEQ : Hid (at_ = p0 ∧ en = e0 ∧ num + 1 = sq):=by
    (show _ ∧ _ ∧ _)
    rw [← HP0.out,← HE0.out,← HSQ.out]
    unfold posR endR nextN
    rw [if_neg hVn,if_neg hVn,if_neg hVn,HS.out.2]
    exact ⟨rfl,rfl,rfl⟩
   have g0 : (0 : Int) ≤ (u1 : Int):=by omega
   have g1 : (u1 : Int) < (un : Int):=by have:=HU1.out;omega
   have q4 : IntKind.i64.wrap ((num : Int) + 1) = (sq : Int):=by rw [IntKind.wrap_i64];have:=HSN.out;have:=HEQ.out;simp only at *;omega
   have HRG : Hid (∀ w',Below w3.heap.size w3 w' → w'.cell? ⟨gl,6,none⟩ = some (.slice (some ⟨kb,0,none⟩) un cu) ∧ w'.cell? ⟨kb,u1 * 4,none⟩ = some (.int .i64 (at_ : Int)) ∧ w'.cell? ⟨kb,u1 * 4 + 1,none⟩ = some (.int .i64 (num : Int)) ∧ w'.cell? ⟨kb,u1 * 4 + 2,none⟩ = some (.int .i64 (en : Int)) ∧ w'.cell? ⟨kb,u1 * 4 + 3,none⟩ = some (.int .i64 (sh2 : Int))):=fun w' hb' => by
    obtain ⟨y0,y1,y2,y3⟩:=(HG3.out.below hb').used.facts (J:=u1) (by have:=HUN.out;have:=HU1.out;omega) HS.out.1
    exact ⟨Blk.cell (HG3.out.below hb').log 6 rfl,y0,y1,y2,y3⟩
   obtain ⟨z6,z0,z1,z2,z3⟩:=HRG.out (w3.alloc (.cells #[.int .i64 0,.int .i64 0,.int .i64 0,.int .i64 0] 106)) (below_alloc _ _)
   clear hun
   go_upto_region 16 with fail
   go_region
   obtain ⟨W4,HW4⟩ : ∃ W4,Hid (W4 = (w3.alloc (.cells #[.int .i64 (at_ : Int),.int .i64 (num : Int),.int .i64 (en : Int),.int .i64 (sh2 : Int)] 106)).drew):=⟨_,rfl⟩
   have HB4 : Hid (Below w3.heap.size w3 W4):=by (show Below _ _ _);rw [HW4.out];exact (below_alloc _ _).drew
   have HK4 : Hid (Blk W4 w3.heap.size #[.int .i64 (at_ : Int),.int .i64 (num : Int),.int .i64 (en : Int),.int .i64 (sh2 : Int)] 106):=by (show Blk _ _ _ _);rw [HW4.out];exact (Blk.new w3 _ _).stay (Below.refl _ _).drew
   rw [← HW4.out]
   clear x0 x1 x2 x3 z0 z1 z2 z3 z6 c6
   have k0 : W4.cell? ⟨w3.heap.size,0,none⟩ = some (.int .i64 (at_ : Int)):=HK4.out.cell 0 rfl
   have k1 : W4.cell? ⟨w3.heap.size,1,none⟩ = some (.int .i64 (num : Int)):=HK4.out.cell 1 rfl
   have k2 : W4.cell? ⟨w3.heap.size,2,none⟩ = some (.int .i64 (en : Int)):=HK4.out.cell 2 rfl
   go_wp2
   go_meet
   exact ⟨by rw [HEQ.out.1],by rw [HEQ.out.2.1],rfl,HB4⟩
  ·obtain rfl : un = 0:=by omega
   have hVn : V = []:=List.eq_nil_of_length_eq_zero HUN.out
   have HEQ : Hid (p0 = 0 ∧ e0 = 17 ∧ sq = 1):=by
    (show _ ∧ _ ∧ _)
    rw [← HP0.out,← HE0.out,← HSQ.out]
    unfold posR endR nextN
    rw [if_pos hVn,if_pos hVn,if_pos hVn]
    exact ⟨rfl,rfl,rfl⟩
   clear hun
   go_wp2
   go_meet
   exact ⟨by rw [HEQ.out.1];rfl,by rw [HEQ.out.2.1];rfl,by rw [HEQ.out.2.2];rfl,Below.refl _ _⟩
 case rest =>
 obtain ⟨rfl,rfl,rfl,HBC⟩:=hcut
 obtain ⟨w4,rfl⟩ : ∃ w4,w4 = wc:=⟨wc,rfl⟩
 have HG4 : Hid (LrG w4 base r q sv wv SV WV D gl b m ag V (.slice au un cu) hi rl L (.slice ar rn cr)):=HG3.out.below HBC.out
 have HB4 : Hid (Below w.heap.size w w4):=HB3.out.trans (HBC.out.mono HB3.out.size)
 have HK4 : Hid (Blk w4 g3 cur3 5 ∧ Rd w4 (some ⟨g3,0,none⟩) n KB):=⟨HA3.out.2.1.stay HBC.out,HA3.out.2.2.1.below HBC.out⟩
 have HXG : Hid (w.heap.size ≤ g3):=Nat.le_trans HB1.out.size HA3.out.2.2.2.2
 clear c6
 obtain ⟨eK,HEK⟩ : ∃ eK,Hid (e0 + K = eK):=⟨_,rfl⟩
 have q5 : IntKind.i64.wrap ((e0 : Int) + (K : Int)) = (eK : Int):=by rw [IntKind.wrap_i64];have:=HEK.out;have:=HPB.out;have:=HK.out;omega
 obtain ⟨bb,HBB⟩ : ∃ bb,Hid (decide (16 < eK) = bb):=⟨_,rfl⟩
 have e6 : decide ((16 : Int) < (eK : Int)) = bb:=by
  have h1:=HBB.out
  by_cases h2 : 16 < eK
  ·rw [decide_eq_true h2] at h1
   rw [← h1]
   exact decide_eq_true (by omega)
  ·rw [decide_eq_false h2] at h1
   rw [← h1]
   exact decide_eq_false (by omega)
 have e7 : decide (16 < eK) = bb:=HBB.out
 -- what is begun
 go_upto_if 84 with fail
 go_cut [10,11] from 85 to 94 (fun v10 v11 wx => ∃ (p1 a1 : Nat) (D1 : Dk) (wv1 : Value) (SV1 WV1 : List Value),v10 = .int .i64 (p1 : Int) ∧ v11 = .int .i64 (a1 : Int) ∧ Hid (p1 ≤ 16 ∧ a1 ≤ 16 ∧ D1.waits.length ≤ 800000017) ∧ Hid (R = if (writesF KB K 0 (b + 2 + 16 * p1 + a1) D1).1 ≠ 0 then ((writesF KB K 0 (b + 2 + 16 * p1 + a1) D1).1,(writesF KB K 0 (b + 2 + 16 * p1 + a1) D1).2,V,hi,false) else (0,(writesF KB K 0 (b + 2 + 16 * p1 + a1) D1).2,finR bb V p1 a1 sq T K,T,true)) ∧ Hid (bb = false → V ≠ [] ∧ (lastG V).at_ = p1) ∧ Hid (Blk wx g3 cur3 5 ∧ Rd wx (some ⟨g3,0,none⟩) n KB) ∧ Hid (LrG wx base r q sv wv1 SV1 WV1 D1 gl b m ag V (.slice au un cu) hi rl L (.slice ar rn cr)) ∧ Hid (Mrx S1 w wx base))
 case first =>
  cases bb with
  | false =>
   have hle : ¬ 16 < endR V + K:=by rw [HE0.out,HEK.out];exact of_decide_eq_false HBB.out
   have hVn : V ≠ []:=fun e => hle (by unfold endR;rw [if_pos e];omega)
   have HREL : Hid (R = if (writesF KB K 0 (b + 2 + 16 * p0 + e0) D).1 ≠ 0 then ((writesF KB K 0 (b + 2 + 16 * p0 + e0) D).1,(writesF KB K 0 (b + 2 + 16 * p0 + e0) D).2,V,hi,false) else (0,(writesF KB K 0 (b + 2 + 16 * p0 + e0) D).2,finR false V p0 e0 sq T K,T,true)):=by
    (show _ = _)
    have h1:=HP0.out
    have h2:=HE0.out
    unfold posR at h1
    unfold endR at h2
    rw [if_neg hVn] at h1 h2
    rw [HRE.out]
    unfold appendRG
    rw [if_neg hle,h1,h2]
    unfold appendRO finR
    rw [h1,h2]
    rfl
   have HPA : Hid (p0 ≤ 16 ∧ e0 ≤ 16 ∧ D.waits.length ≤ 800000017):=by have:=HPB.out;have:=HEK.out;rw [HE0.out] at hle;have:=HSEG.out.2.2.2.2.2.1;(show _ ∧ _ ∧ _);omega
   have HVN : Hid (false = false → V ≠ [] ∧ (lastG V).at_ = p0):=fun _ => ⟨hVn,by have h1:=HP0.out;unfold posR at h1;rw [if_neg hVn] at h1;exact h1⟩
   clear hle hVn
   go_wp2
   go_meet
   exact ⟨p0,e0,D,wv,SV,WV,rfl,rfl,HPA,HREL,HVN,HK4,HG4,Mrx.of_below HB4.out HBD.out.1⟩
  | true =>
   have hgt : 16 < endR V + K:=by rw [HE0.out,HEK.out];exact of_decide_eq_true HBB.out
   have HBG:=ref_begun w4 base r q sv wv SV WV D gl b m ag V (.slice au un cu) hi rl L (.slice ar rn cr) sq HG4.out (Nat.lt_of_lt_of_le HBD.out.2.2 HB4.out.size) HSEG.out.1 HSEG.out.2.1 HSEG.out.2.2.1 (by have:=HPB.out;omega) HSEG.out.2.2.2.2.1 HSEG.out.2.2.2.2.2.1 HUP.out HSEG.out.2.2.2.2.2.2
   obtain ⟨⟨BE,BD⟩,HBR⟩ : ∃ R,Hid (begR b m D V sq hi = R):=⟨_,rfl⟩
   rw [HBR.out] at HBG
   simp only at HBG
   obtain ⟨P,HP⟩ : ∃ P,Hid (posF V V.length 0 = P):=⟨_,rfl⟩
   rw [HP.out] at HBG
   have HREB : Hid (R = appendRB V hi T K sq P (BE,BD) (writesF KB K 0 (b + 2 + 16 * P + 1) BD)):=by
    (show _ = _)
    rw [HRE.out]
    unfold appendRG
    rw [if_pos hgt,HSQ.out,HBR.out,HP.out]
   have HPP : Hid (P ≤ 16):=by
    (show _ ≤ _)
    have:=(pos_ok V V.length 0 (fun i hi => by omega)).2.2.1
    rw [HP.out] at this
    have:=HSEG.out.2.2.1
    omega
   have HBW : Hid (BD.waits.length ≤ 800000017):=by
    (show _ ≤ _)
    have h1:=HBR.out
    have h2:=HSEG.out.2.2.2.2.2.1
    unfold begR at h1
    split at h1
    ·cases h1;omega
    ·have h3:=congrArg Prod.snd h1
     simp only at h3
     have h4:=beginG_wl (b + 2 + posF V V.length 0 * 16) D sq hi
     rw [h3] at h4
     omega
   clear hgt
   go_wp2_with fail
   refine HBG.mono ?_
   rintro e w5 ⟨ht5,hd5,hm5⟩
   obtain ⟨p5,rfl,hp5⟩:=ht5.out
   obtain ⟨wv5,SV5,WV5,hg5⟩:=hd5.out
   have HP5 : Hid (BE = 0 → p5 = P):=hp5
   have HG5 : Hid (LrG w5 base r q sv wv5 SV5 WV5 BD gl b m ag V (.slice au un cu) hi rl L (.slice ar rn cr)):=hg5
   have HM5 : Hid (Mrx S1 w w5 base):=(Mrx.of_below HB4.out HBD.out.1).trans (Mrx.of_mr hm5.out)
   have HK5 : Hid (Blk w5 g3 cur3 5 ∧ Rd w5 (some ⟨g3,0,none⟩) n KB):=by
    have h1 : Blk w5 g3 cur3 5:=hm5.out.keep HK4.out.1 (by decide) (by decide) (by decide)
    exact ⟨h1,HK4.out.2.same HK4.out.1 h1⟩
   clear ht5 hd5 hg5 hm5 HBG hp5
   by_cases hBE : BE = 0
   ·subst hBE
    obtain rfl : p5 = P:=HP5.out rfl
    have HREL : Hid (R = if (writesF KB K 0 (b + 2 + 16 * p5 + 1) BD).1 ≠ 0 then ((writesF KB K 0 (b + 2 + 16 * p5 + 1) BD).1,(writesF KB K 0 (b + 2 + 16 * p5 + 1) BD).2,V,hi,false) else (0,(writesF KB K 0 (b + 2 + 16 * p5 + 1) BD).2,finR true V p5 1 sq T K,T,true)):=by
     (show _ = _)
     rw [HREB.out]
     unfold appendRB finR
     simp only [ne_eq,not_true_eq_false,if_false,if_true]
    go_wp2
    go_meet
    exact ⟨p5,1,BD,wv5,SV5,WV5,rfl,rfl,⟨HPP.out,by omega,HBW.out⟩,HREL,fun h => (by cases h),HK5,HG5,HM5⟩
   ·have e8 : (BE != 0) = true:=by rw [bne_iff_ne];exact hBE
    have HX:=HNO.out BE w5 wv5 SV5 WV5 BD (by rw [HREB.out];unfold appendRB;rw [if_pos hBE]) HG5.out HM5.out
    clear hBE
    go_wp2
    exact HX
 case rest =>
 obtain ⟨p1,a1,D1,wv1,SV1,WV1,rfl,rfl,HPA,HREL,HVN,HKC,HGC,HMC⟩:=hcut
 obtain ⟨w5,rfl⟩ : ∃ w5,w5 = wc:=⟨wc,rfl⟩
 clear q5 e6 e7
 obtain ⟨A,HA⟩ : ∃ A,Hid (b + 2 + 16 * p1 + a1 = A):=⟨_,rfl⟩
 rw [HA.out] at HREL
 obtain ⟨⟨WE,WD⟩,HWR⟩ : ∃ r,Hid (writesF KB K 0 A D1 = r):=⟨_,rfl⟩
 rw [HWR.out] at HREL
 simp only at HREL
 have hK7 : K ≤ 7:=HK.out.2.2
 go_wp2_with fail
 go_loopw [7,17,18,19] (fun t7 t17 _ _ wr => ∃ (i : Nat) (D2 : Dk) (wv2 : Value) (WV2 : List Value),i ≤ K ∧ t7 = .int .i64 0 ∧ t17 = .int .i64 (i : Int) ∧ Hid (writesF KB (K - i) i (A + i) D2 = (WE,WD)) ∧ Hid (D2.waits.length ≤ 800000017 + i) ∧ Hid (LrG wr base r q sv wv2 SV1 WV2 D2 gl b m ag V (.slice au un cu) hi rl L (.slice ar rn cr)) ∧ Hid (Blk wr g3 cur3 5 ∧ Rd wr (some ⟨g3,0,none⟩) n KB) ∧ Hid (Mrx S1 w wr base)) (fun _ t17 _ _ _ => 8 - (intOf t17).toNat)
 case atStart => exact ⟨0,D1,wv1,WV1,Nat.zero_le _,rfl,rfl,HWR,HPA.out.2.2,HGC,HKC,HMC⟩
 case round =>
  obtain ⟨i,D2,wv2,WV2,hi1,rfl,rfl,HWI,HWL,HGr,HKr,HMr⟩:=hrel
  obtain ⟨w6,rfl⟩ : ∃ w6,w6 = wr:=⟨wr,rfl⟩
  by_cases hlt : i < K
  ·have hlt' : (i : Int) < (K : Int):=by omega
   obtain ⟨A9,HA9⟩ : ∃ A9,Hid (59 * i = A9):=⟨_,rfl⟩
   obtain ⟨M,HM⟩ : ∃ M,Hid (n - A9 = M ∧ A9 < n):=⟨_,rfl,by have:=HK.out;have:=HA9.out;omega⟩
   obtain ⟨C9,HC9⟩ : ∃ C9,Hid (c3 - A9 = C9 ∧ M ≤ C9 ∧ A9 < c3):=⟨_,rfl,by have:=HM.out;have:=HA3.out.2.2.2.1;omega,by have:=HM.out;have:=HA3.out.2.2.2.1;omega⟩
   have q1 : IntKind.i64.wrap (59 * (i : Int)) = (A9 : Int):=by rw [IntKind.wrap_i64];have:=HA9.out;omega
   have g0 : (0 : Int) ≤ (A9 : Int):=by omega
   have g1 : (A9 : Int) ≤ (n : Int):=by have:=HM.out;omega
   have g2 : (n : Int) ≤ (c3 : Int):=by have:=HA3.out.2.2.2.1;omega
   have g3' : ¬ c3 = A9:=by have:=HC9.out;omega
   have g4 : ¬ c3 - A9 = 0:=by have:=HC9.out;omega
   have g5 : ¬ (c3 : Int) = (A9 : Int):=by have:=HC9.out;omega
   obtain ⟨K1,HK1⟩ : ∃ K1,Hid (K = K1 + 1):=⟨K - 1,by (show _ = _);omega⟩
   have q2 : IntKind.i64.wrap ((K : Int) - 1) = (K1 : Int):=by rw [IntKind.wrap_i64];have:=HK1.out;omega
   obtain ⟨lst,HLS⟩ : ∃ lst,Hid (decide (n ≤ 59 * i + 59) = lst):=⟨_,rfl⟩
   have e9 : ((i : Int) == (K1 : Int)) = lst:=by
    rw [← HLS.out]
    have h1:=HK1.out
    have h2:=HK.out
    by_cases h3 : n ≤ 59 * i + 59
    ·rw [decide_eq_true h3,beq_iff_eq];omega
    ·rw [decide_eq_false h3,beq_eq_false_iff_ne];omega
   obtain ⟨ai,HAI⟩ : ∃ ai,Hid (a1 + i = ai):=⟨_,rfl⟩
   have q3 : IntKind.i64.wrap ((a1 : Int) + (i : Int)) = (ai : Int):=by rw [IntKind.wrap_i64];have:=HAI.out;have:=HPA.out;omega
   obtain ⟨er,HE3⟩ : ∃ er,Hid (writeE D2 ((A + i : Nat) : Int) (partE KB i) = er):=⟨_,rfl⟩
   obtain ⟨D3,HD3⟩ : ∃ D3,Hid (writeD D2 ((A + i : Nat) : Int) (partE KB i) = D3):=⟨_,rfl⟩
   have HWS : Hid ((if er ≠ 0 then (er,D3) else writesF KB (K - (i + 1)) (i + 1) (A + (i + 1)) D3) = (WE,WD)):=by
    (show _ = _)
    have h1:=HWI.out
    rw [show K - i = (K - (i + 1)) + 1 from by omega,writesF_next,HE3.out,HD3.out,show A + i + 1 = A + (i + 1) from by omega] at h1
    exact h1
   have HWL3 : Hid (D3.waits.length ≤ 800000017 + (i + 1)):=by
    (show _ ≤ _)
    have h1:=write_wl D2 ((A + i : Nat) : Int) (partE KB i)
    rw [HD3.out] at h1
    have:=HWL.out
    omega
   go_upto_if 106 with fail
   rw [HM.out.1,HC9.out.1]
   clear g0 g1 g2 g3' g4 g5 q1
   by_cases hL : 59 < M
   ·have f1 : decide ((59 : Int) < (M : Int)) = true:=decide_eq_true (by omega)
    have f2 : (59 : Int) < (M : Int):=by omega
    have f3 : (59 : Int) ≤ (C9 : Int):=by have:=HC9.out;omega
    have f4 : decide (59 < M) = true:=decide_eq_true hL
    have HLL59 : Hid (59 < M):=hL
    by_cases h0 : i = 0
    ·have e10 : ((i : Int) == 0) = true:=by rw [h0];rfl
     have HI0 : Hid (i = 0):=h0
     clear h0
     have HRC : Hid (Rd w6 (some ⟨g3,A9,none⟩) 59 (chunkL KB i)):=by
      (show Rd _ _ _ _)
      have h1:=HKr.out.2.part A9 59 (by have:=HM.out;omega)
      rw [Nat.zero_add] at h1
      rw [show (KB.drop A9).take 59 = chunkL KB i from by rw [← chunk_eq,HKL.out.1,HA9.out,show min n (A9 + 59) - A9 = 59 from by have:=HM.out;omega]] at h1
      exact h1
     have HB7 : Hid (Below w6.heap.size w6 w6.drew):=(Below.refl _ _).drew
     have HPL : Hid (∀ w',Below w6.heap.size w6 w' → Calls Tryz.prog 61 #[.pointer (some ⟨gl,0,none⟩),.int .i64 (p1 : Int),.int .i64 (ai : Int)] w' fun e w'' => e = .returned (.int .i64 ((A + i : Nat) : Int)) ∧ w'' = w'):=fun w' hb' => by
      have:=ref_place11 w' gl r b m ag (hi : Int) (rl : Int) (.slice au un cu) (.slice ar rn cr) p1 ai (HGr.out.log.stay hb') HSEG.out.1 (by have:=HPA.out.1;omega) (by have:=HPA.out;have:=HAI.out;omega)
      rw [show b + 2 + 16 * p1 + ai = A + i from by have:=HA.out;have:=HAI.out;omega] at this
      exact this
     have HLD:=ref_Laid w6.drew 2 (some ⟨g3,A9,none⟩) 59 C9 (chunkL KB i) lst (by omega) (by omega) (HRC.out.below HB7.out) (fun h => by cases h)
     rw [show layE 2 lst (chunkL KB i) = partE KB i from by unfold partE;rw [HKL.out.1,HLS.out,if_pos HI0.out]] at HLD
     have t0 : w6.drew.cell? ⟨gl,0,none⟩ = some (.pointer (some ⟨r,0,none⟩)):=Blk.cell (HGr.out.log.stay HB7.out) 0 rfl
     go_upto_region 36 with fail
     go_region_held3 (fun w' => w'.cell? ⟨gl,0,none⟩ = some (.pointer (some ⟨r,0,none⟩))) (first | exact t2 | exact t1 | exact t0 | fail)
      (first
       | (go_at_call 61;refine (HPL.out _ (by first | exact HX10.out | exact HB7.out)).mono ?_;rintro e wp ⟨rfl,hwp⟩;rw [hwp];clear hwp wp)
       | (go_at_call 62;refine HLD.mono ?_;rintro e w10 ⟨ht10,hb10⟩;obtain ⟨g10,c10,rfl,ho10⟩:=ht10.out;have HX10 : Hid (Below w6.heap.size w6 w10):=HB7.out.trans (hb10.mono HB7.out.size);have HO10 : Hid (Own w10 w6.heap.size (some ⟨g10,0,none⟩) 64 c10 (partE KB i)):=(Own.lower ho10 HB7.out.size);have t1 : w10.cell? ⟨gl,0,none⟩ = some (.pointer (some ⟨r,0,none⟩)):=Blk.cell (HGr.out.log.stay HX10.out) 0 rfl;clear ht10 ho10 hb10)
       | (go_at_call 26;refine (ref_Write w10 base r q sv wv2 SV1 WV2 D2 ((A + i : Nat) : Int) (some ⟨g10,0,none⟩) 64 c10 (partE KB i) (HGr.out.disk.stay HX10.out) (Nat.lt_of_lt_of_le HBD.out.2.2 (Nat.le_trans HMr.out.low.size HX10.out.size)) (fun w' hm => (HO10.out.mr hm).rd) (fun h => by cases h) (by omega) (by have:=HWL.out;omega)).mono ?_;rw [HE3.out,HD3.out];rintro e wF ⟨rfl,hdF,hmF⟩;have HMX : Hid (Mr w6 wF base):=(Mr.of_below HX10.out (Nat.le_trans HBD.out.1 HMr.out.low.size)).trans hmF;have HMF : Hid (Mrx S1 w wF base):=HMr.out.trans (Mrx.of_mr HMX.out);have HDF : Hid (∃ wv' WV',LrG wF base r q sv wv' SV1 WV' D3 gl b m ag V (.slice au un cu) hi rl L (.slice ar rn cr)):=(hdF.out.elim fun a h1 => h1.elim fun c h3 => ⟨a,c,(HGr.out.below HX10.out).mr hmF h3⟩);have t2 : wF.cell? ⟨gl,0,none⟩ = some (.pointer (some ⟨r,0,none⟩)):=(HDF.out.elim fun a h1 => h1.elim fun c h3 => Blk.cell h3.log 0 rfl);clear hdF hmF))
     clear t0 t1 t2 HLD
     obtain ⟨wvF,WVF,hgF⟩:=HDF.out
     have HGF : Hid (LrG wF base r q sv wvF SV1 WVF D3 gl b m ag V (.slice au un cu) hi rl L (.slice ar rn cr)):=hgF
     clear hgF
     have HKF : Hid (Blk wF g3 cur3 5 ∧ Rd wF (some ⟨g3,0,none⟩) n KB):=by
      have h1 : Blk wF g3 cur3 5:=HMX.out.keep HKr.out.1 (by decide) (by decide) (by decide)
      exact ⟨h1,HKr.out.2.same HKr.out.1 h1⟩
     by_cases her : er = 0
     ·subst her
      have HWN : Hid (writesF KB (K - (i + 1)) (i + 1) (A + (i + 1)) D3 = (WE,WD)):=by have h1:=HWS.out;rw [if_neg (by simp)] at h1;exact h1
      go_wp2
      go_roundw
      case rel => exact ⟨i + 1,D3,wvF,WVF,by omega,rfl,by go_num,HWN,HWL3,HGF,HKF,HMF⟩
      case measure => simp [intOf];omega
     ·have e11 : (er != 0) = true:=by rw [bne_iff_ne];exact her
      have HWN : Hid ((er,D3) = (WE,WD)):=by have h1:=HWS.out;rw [if_pos her] at h1;exact h1
      have HX:=HNO.out er wF wvF SV1 WVF D3 (by rw [HREL.out];have h1:=HWN.out;cases h1;rw [if_pos her]) HGF.out HMF.out
      clear her
      go_wp2
      exact HX
    ·have e10 : ((i : Int) == 0) = false:=by rw [beq_eq_false_iff_ne];omega
     have HI0 : Hid (¬ i = 0):=h0
     clear h0
     have HRC : Hid (Rd w6 (some ⟨g3,A9,none⟩) 59 (chunkL KB i)):=by
      (show Rd _ _ _ _)
      have h1:=HKr.out.2.part A9 59 (by have:=HM.out;omega)
      rw [Nat.zero_add] at h1
      rw [show (KB.drop A9).take 59 = chunkL KB i from by rw [← chunk_eq,HKL.out.1,HA9.out,show min n (A9 + 59) - A9 = 59 from by have:=HM.out;omega]] at h1
      exact h1
     have HB7 : Hid (Below w6.heap.size w6 w6.drew):=(Below.refl _ _).drew
     have HPL : Hid (∀ w',Below w6.heap.size w6 w' → Calls Tryz.prog 61 #[.pointer (some ⟨gl,0,none⟩),.int .i64 (p1 : Int),.int .i64 (ai : Int)] w' fun e w'' => e = .returned (.int .i64 ((A + i : Nat) : Int)) ∧ w'' = w'):=fun w' hb' => by
      have:=ref_place11 w' gl r b m ag (hi : Int) (rl : Int) (.slice au un cu) (.slice ar rn cr) p1 ai (HGr.out.log.stay hb') HSEG.out.1 (by have:=HPA.out.1;omega) (by have:=HPA.out;have:=HAI.out;omega)
      rw [show b + 2 + 16 * p1 + ai = A + i from by have:=HA.out;have:=HAI.out;omega] at this
      exact this
     have HLD:=ref_Laid w6.drew 3 (some ⟨g3,A9,none⟩) 59 C9 (chunkL KB i) lst (by omega) (by omega) (HRC.out.below HB7.out) (fun h => by cases h)
     rw [show layE 3 lst (chunkL KB i) = partE KB i from by unfold partE;rw [HKL.out.1,HLS.out,if_neg HI0.out]] at HLD
     have t0 : w6.drew.cell? ⟨gl,0,none⟩ = some (.pointer (some ⟨r,0,none⟩)):=Blk.cell (HGr.out.log.stay HB7.out) 0 rfl
     go_upto_region 36 with fail
     go_region_held3 (fun w' => w'.cell? ⟨gl,0,none⟩ = some (.pointer (some ⟨r,0,none⟩))) (first | exact t2 | exact t1 | exact t0 | fail)
      (first
       | (go_at_call 61;refine (HPL.out _ (by first | exact HX10.out | exact HB7.out)).mono ?_;rintro e wp ⟨rfl,hwp⟩;rw [hwp];clear hwp wp)
       | (go_at_call 62;refine HLD.mono ?_;rintro e w10 ⟨ht10,hb10⟩;obtain ⟨g10,c10,rfl,ho10⟩:=ht10.out;have HX10 : Hid (Below w6.heap.size w6 w10):=HB7.out.trans (hb10.mono HB7.out.size);have HO10 : Hid (Own w10 w6.heap.size (some ⟨g10,0,none⟩) 64 c10 (partE KB i)):=(Own.lower ho10 HB7.out.size);have t1 : w10.cell? ⟨gl,0,none⟩ = some (.pointer (some ⟨r,0,none⟩)):=Blk.cell (HGr.out.log.stay HX10.out) 0 rfl;clear ht10 ho10 hb10)
       | (go_at_call 26;refine (ref_Write w10 base r q sv wv2 SV1 WV2 D2 ((A + i : Nat) : Int) (some ⟨g10,0,none⟩) 64 c10 (partE KB i) (HGr.out.disk.stay HX10.out) (Nat.lt_of_lt_of_le HBD.out.2.2 (Nat.le_trans HMr.out.low.size HX10.out.size)) (fun w' hm => (HO10.out.mr hm).rd) (fun h => by cases h) (by omega) (by have:=HWL.out;omega)).mono ?_;rw [HE3.out,HD3.out];rintro e wF ⟨rfl,hdF,hmF⟩;have HMX : Hid (Mr w6 wF base):=(Mr.of_below HX10.out (Nat.le_trans HBD.out.1 HMr.out.low.size)).trans hmF;have HMF : Hid (Mrx S1 w wF base):=HMr.out.trans (Mrx.of_mr HMX.out);have HDF : Hid (∃ wv' WV',LrG wF base r q sv wv' SV1 WV' D3 gl b m ag V (.slice au un cu) hi rl L (.slice ar rn cr)):=(hdF.out.elim fun a h1 => h1.elim fun c h3 => ⟨a,c,(HGr.out.below HX10.out).mr hmF h3⟩);have t2 : wF.cell? ⟨gl,0,none⟩ = some (.pointer (some ⟨r,0,none⟩)):=(HDF.out.elim fun a h1 => h1.elim fun c h3 => Blk.cell h3.log 0 rfl);clear hdF hmF))
     clear t0 t1 t2 HLD
     obtain ⟨wvF,WVF,hgF⟩:=HDF.out
     have HGF : Hid (LrG wF base r q sv wvF SV1 WVF D3 gl b m ag V (.slice au un cu) hi rl L (.slice ar rn cr)):=hgF
     clear hgF
     have HKF : Hid (Blk wF g3 cur3 5 ∧ Rd wF (some ⟨g3,0,none⟩) n KB):=by
      have h1 : Blk wF g3 cur3 5:=HMX.out.keep HKr.out.1 (by decide) (by decide) (by decide)
      exact ⟨h1,HKr.out.2.same HKr.out.1 h1⟩
     by_cases her : er = 0
     ·subst her
      have HWN : Hid (writesF KB (K - (i + 1)) (i + 1) (A + (i + 1)) D3 = (WE,WD)):=by have h1:=HWS.out;rw [if_neg (by simp)] at h1;exact h1
      go_wp2
      go_roundw
      case rel => exact ⟨i + 1,D3,wvF,WVF,by omega,rfl,by go_num,HWN,HWL3,HGF,HKF,HMF⟩
      case measure => simp [intOf];omega
     ·have e11 : (er != 0) = true:=by rw [bne_iff_ne];exact her
      have HWN : Hid ((er,D3) = (WE,WD)):=by have h1:=HWS.out;rw [if_pos her] at h1;exact h1
      have HX:=HNO.out er wF wvF SV1 WVF D3 (by rw [HREL.out];have h1:=HWN.out;cases h1;rw [if_pos her]) HGF.out HMF.out
      clear her
      go_wp2
      exact HX
   ·have f1 : decide ((59 : Int) < (M : Int)) = false:=decide_eq_false (by omega)
    have f2 : ¬ (59 : Int) < (M : Int):=by omega
    have f4 : decide (59 < M) = false:=decide_eq_false hL
    by_cases h0 : i = 0
    ·have e10 : ((i : Int) == 0) = true:=by rw [h0];rfl
     have HI0 : Hid (i = 0):=h0
     clear h0
     have HRC : Hid (Rd w6 (some ⟨g3,A9,none⟩) M (chunkL KB i)):=by
      (show Rd _ _ _ _)
      have h1:=HKr.out.2.part A9 M (by have:=HM.out;omega)
      rw [Nat.zero_add] at h1
      rw [show (KB.drop A9).take M = chunkL KB i from by rw [← chunk_eq,HKL.out.1,HA9.out,show min n (A9 + 59) - A9 = M from by have:=HM.out;omega]] at h1
      exact h1
     have HB7 : Hid (Below w6.heap.size w6 w6.drew):=(Below.refl _ _).drew
     have HPL : Hid (∀ w',Below w6.heap.size w6 w' → Calls Tryz.prog 61 #[.pointer (some ⟨gl,0,none⟩),.int .i64 (p1 : Int),.int .i64 (ai : Int)] w' fun e w'' => e = .returned (.int .i64 ((A + i : Nat) : Int)) ∧ w'' = w'):=fun w' hb' => by
      have:=ref_place11 w' gl r b m ag (hi : Int) (rl : Int) (.slice au un cu) (.slice ar rn cr) p1 ai (HGr.out.log.stay hb') HSEG.out.1 (by have:=HPA.out.1;omega) (by have:=HPA.out;have:=HAI.out;omega)
      rw [show b + 2 + 16 * p1 + ai = A + i from by have:=HA.out;have:=HAI.out;omega] at this
      exact this
     have HLD:=ref_Laid w6.drew 2 (some ⟨g3,A9,none⟩) M C9 (chunkL KB i) lst (by omega) (by omega) (HRC.out.below HB7.out) (fun h => by cases h)
     rw [show layE 2 lst (chunkL KB i) = partE KB i from by unfold partE;rw [HKL.out.1,HLS.out,if_pos HI0.out]] at HLD
     have t0 : w6.drew.cell? ⟨gl,0,none⟩ = some (.pointer (some ⟨r,0,none⟩)):=Blk.cell (HGr.out.log.stay HB7.out) 0 rfl
     go_upto_region 36 with fail
     go_region_held3 (fun w' => w'.cell? ⟨gl,0,none⟩ = some (.pointer (some ⟨r,0,none⟩))) (first | exact t2 | exact t1 | exact t0 | fail)
      (first
       | (go_at_call 61;refine (HPL.out _ (by first | exact HX10.out | exact HB7.out)).mono ?_;rintro e wp ⟨rfl,hwp⟩;rw [hwp];clear hwp wp)
       | (go_at_call 62;refine HLD.mono ?_;rintro e w10 ⟨ht10,hb10⟩;obtain ⟨g10,c10,rfl,ho10⟩:=ht10.out;have HX10 : Hid (Below w6.heap.size w6 w10):=HB7.out.trans (hb10.mono HB7.out.size);have HO10 : Hid (Own w10 w6.heap.size (some ⟨g10,0,none⟩) 64 c10 (partE KB i)):=(Own.lower ho10 HB7.out.size);have t1 : w10.cell? ⟨gl,0,none⟩ = some (.pointer (some ⟨r,0,none⟩)):=Blk.cell (HGr.out.log.stay HX10.out) 0 rfl;clear ht10 ho10 hb10)
       | (go_at_call 26;refine (ref_Write w10 base r q sv wv2 SV1 WV2 D2 ((A + i : Nat) : Int) (some ⟨g10,0,none⟩) 64 c10 (partE KB i) (HGr.out.disk.stay HX10.out) (Nat.lt_of_lt_of_le HBD.out.2.2 (Nat.le_trans HMr.out.low.size HX10.out.size)) (fun w' hm => (HO10.out.mr hm).rd) (fun h => by cases h) (by omega) (by have:=HWL.out;omega)).mono ?_;rw [HE3.out,HD3.out];rintro e wF ⟨rfl,hdF,hmF⟩;have HMX : Hid (Mr w6 wF base):=(Mr.of_below HX10.out (Nat.le_trans HBD.out.1 HMr.out.low.size)).trans hmF;have HMF : Hid (Mrx S1 w wF base):=HMr.out.trans (Mrx.of_mr HMX.out);have HDF : Hid (∃ wv' WV',LrG wF base r q sv wv' SV1 WV' D3 gl b m ag V (.slice au un cu) hi rl L (.slice ar rn cr)):=(hdF.out.elim fun a h1 => h1.elim fun c h3 => ⟨a,c,(HGr.out.below HX10.out).mr hmF h3⟩);have t2 : wF.cell? ⟨gl,0,none⟩ = some (.pointer (some ⟨r,0,none⟩)):=(HDF.out.elim fun a h1 => h1.elim fun c h3 => Blk.cell h3.log 0 rfl);clear hdF hmF))
     clear t0 t1 t2 HLD
     obtain ⟨wvF,WVF,hgF⟩:=HDF.out
     have HGF : Hid (LrG wF base r q sv wvF SV1 WVF D3 gl b m ag V (.slice au un cu) hi rl L (.slice ar rn cr)):=hgF
     clear hgF
     have HKF : Hid (Blk wF g3 cur3 5 ∧ Rd wF (some ⟨g3,0,none⟩) n KB):=by
      have h1 : Blk wF g3 cur3 5:=HMX.out.keep HKr.out.1 (by decide) (by decide) (by decide)
      exact ⟨h1,HKr.out.2.same HKr.out.1 h1⟩
     by_cases her : er = 0
     ·subst her
      have HWN : Hid (writesF KB (K - (i + 1)) (i + 1) (A + (i + 1)) D3 = (WE,WD)):=by have h1:=HWS.out;rw [if_neg (by simp)] at h1;exact h1
      go_wp2
      go_roundw
      case rel => exact ⟨i + 1,D3,wvF,WVF,by omega,rfl,by go_num,HWN,HWL3,HGF,HKF,HMF⟩
      case measure => simp [intOf];omega
     ·have e11 : (er != 0) = true:=by rw [bne_iff_ne];exact her
      have HWN : Hid ((er,D3) = (WE,WD)):=by have h1:=HWS.out;rw [if_pos her] at h1;exact h1
      have HX:=HNO.out er wF wvF SV1 WVF D3 (by rw [HREL.out];have h1:=HWN.out;cases h1;rw [if_pos her]) HGF.out HMF.out
      clear her
      go_wp2
      exact HX
    ·have e10 : ((i : Int) == 0) = false:=by rw [beq_eq_false_iff_ne];omega
     have HI0 : Hid (¬ i = 0):=h0
     clear h0
     have HRC : Hid (Rd w6 (some ⟨g3,A9,none⟩) M (chunkL KB i)):=by
      (show Rd _ _ _ _)
      have h1:=HKr.out.2.part A9 M (by have:=HM.out;omega)
      rw [Nat.zero_add] at h1
      rw [show (KB.drop A9).take M = chunkL KB i from by rw [← chunk_eq,HKL.out.1,HA9.out,show min n (A9 + 59) - A9 = M from by have:=HM.out;omega]] at h1
      exact h1
     have HB7 : Hid (Below w6.heap.size w6 w6.drew):=(Below.refl _ _).drew
     have HPL : Hid (∀ w',Below w6.heap.size w6 w' → Calls Tryz.prog 61 #[.pointer (some ⟨gl,0,none⟩),.int .i64 (p1 : Int),.int .i64 (ai : Int)] w' fun e w'' => e = .returned (.int .i64 ((A + i : Nat) : Int)) ∧ w'' = w'):=fun w' hb' => by
      have:=ref_place11 w' gl r b m ag (hi : Int) (rl : Int) (.slice au un cu) (.slice ar rn cr) p1 ai (HGr.out.log.stay hb') HSEG.out.1 (by have:=HPA.out.1;omega) (by have:=HPA.out;have:=HAI.out;omega)
      rw [show b + 2 + 16 * p1 + ai = A + i from by have:=HA.out;have:=HAI.out;omega] at this
      exact this
     have HLD:=ref_Laid w6.drew 3 (some ⟨g3,A9,none⟩) M C9 (chunkL KB i) lst (by omega) (by omega) (HRC.out.below HB7.out) (fun h => by cases h)
     rw [show layE 3 lst (chunkL KB i) = partE KB i from by unfold partE;rw [HKL.out.1,HLS.out,if_neg HI0.out]] at HLD
     have t0 : w6.drew.cell? ⟨gl,0,none⟩ = some (.pointer (some ⟨r,0,none⟩)):=Blk.cell (HGr.out.log.stay HB7.out) 0 rfl
     go_upto_region 36 with fail
     go_region_held3 (fun w' => w'.cell? ⟨gl,0,none⟩ = some (.pointer (some ⟨r,0,none⟩))) (first | exact t2 | exact t1 | exact t0 | fail)
      (first
       | (go_at_call 61;refine (HPL.out _ (by first | exact HX10.out | exact HB7.out)).mono ?_;rintro e wp ⟨rfl,hwp⟩;rw [hwp];clear hwp wp)
       | (go_at_call 62;refine HLD.mono ?_;rintro e w10 ⟨ht10,hb10⟩;obtain ⟨g10,c10,rfl,ho10⟩:=ht10.out;have HX10 : Hid (Below w6.heap.size w6 w10):=HB7.out.trans (hb10.mono HB7.out.size);have HO10 : Hid (Own w10 w6.heap.size (some ⟨g10,0,none⟩) 64 c10 (partE KB i)):=(Own.lower ho10 HB7.out.size);have t1 : w10.cell? ⟨gl,0,none⟩ = some (.pointer (some ⟨r,0,none⟩)):=Blk.cell (HGr.out.log.stay HX10.out) 0 rfl;clear ht10 ho10 hb10)
       | (go_at_call 26;refine (ref_Write w10 base r q sv wv2 SV1 WV2 D2 ((A + i : Nat) : Int) (some ⟨g10,0,none⟩) 64 c10 (partE KB i) (HGr.out.disk.stay HX10.out) (Nat.lt_of_lt_of_le HBD.out.2.2 (Nat.le_trans HMr.out.low.size HX10.out.size)) (fun w' hm => (HO10.out.mr hm).rd) (fun h => by cases h) (by omega) (by have:=HWL.out;omega)).mono ?_;rw [HE3.out,HD3.out];rintro e wF ⟨rfl,hdF,hmF⟩;have HMX : Hid (Mr w6 wF base):=(Mr.of_below HX10.out (Nat.le_trans HBD.out.1 HMr.out.low.size)).trans hmF;have HMF : Hid (Mrx S1 w wF base):=HMr.out.trans (Mrx.of_mr HMX.out);have HDF : Hid (∃ wv' WV',LrG wF base r q sv wv' SV1 WV' D3 gl b m ag V (.slice au un cu) hi rl L (.slice ar rn cr)):=(hdF.out.elim fun a h1 => h1.elim fun c h3 => ⟨a,c,(HGr.out.below HX10.out).mr hmF h3⟩);have t2 : wF.cell? ⟨gl,0,none⟩ = some (.pointer (some ⟨r,0,none⟩)):=(HDF.out.elim fun a h1 => h1.elim fun c h3 => Blk.cell h3.log 0 rfl);clear hdF hmF))
     clear t0 t1 t2 HLD
     obtain ⟨wvF,WVF,hgF⟩:=HDF.out
     have HGF : Hid (LrG wF base r q sv wvF SV1 WVF D3 gl b m ag V (.slice au un cu) hi rl L (.slice ar rn cr)):=hgF
     clear hgF
     have HKF : Hid (Blk wF g3 cur3 5 ∧ Rd wF (some ⟨g3,0,none⟩) n KB):=by
      have h1 : Blk wF g3 cur3 5:=HMX.out.keep HKr.out.1 (by decide) (by decide) (by decide)
      exact ⟨h1,HKr.out.2.same HKr.out.1 h1⟩
     by_cases her : er = 0
     ·subst her
      have HWN : Hid (writesF KB (K - (i + 1)) (i + 1) (A + (i + 1)) D3 = (WE,WD)):=by have h1:=HWS.out;rw [if_neg (by simp)] at h1;exact h1
      go_wp2
      go_roundw
      case rel => exact ⟨i + 1,D3,wvF,WVF,by omega,rfl,by go_num,HWN,HWL3,HGF,HKF,HMF⟩
      case measure => simp [intOf];omega
     ·have e11 : (er != 0) = true:=by rw [bne_iff_ne];exact her
      have HWN : Hid ((er,D3) = (WE,WD)):=by have h1:=HWS.out;rw [if_pos her] at h1;exact h1
      have HX:=HNO.out er wF wvF SV1 WVF D3 (by rw [HREL.out];have h1:=HWN.out;cases h1;rw [if_pos her]) HGF.out HMF.out
      clear her
      go_wp2
      exact HX
  ·have hlt' : ¬ (i : Int) < (K : Int):=by omega
   have HRF : Hid (R = (0,D2,finR bb V p1 a1 sq T K,T,true)):=by
    (show _ = _)
    have h1:=HWI.out
    rw [show K - i = 0 from by omega,writesF_zero] at h1
    have h2:=HREL.out
    cases h1
    rw [if_neg (by simp)] at h2
    exact h2
   have HGX : Hid (∃ wv' SV' WV',LrG w6 base r q sv wv' SV' WV' D2 gl b m ag V (.slice au un cu) hi rl L (.slice ar rn cr)):=⟨_,_,_,HGr.out⟩
   clear HWI HREL
   go_upto_if 132 with fail
   go_cut [] from 132 to 146 (fun wx => ∃ (kb n1 c1 : Nat) (V1 : List Sg),Hid (LrG wx base r q sv wv2 SV1 WV2 D2 gl b m ag V1 (.slice (some ⟨kb,0,none⟩) n1 c1) hi rl L (.slice ar rn cr)) ∧ Hid (V1 = if bb = true then V ++ [⟨p1,sq,0,0⟩] else V) ∧ Hid (V1.length = n1 ∧ 1 ≤ n1 ∧ n1 ≤ 17) ∧ Hid (Oon w (.slice au un cu) (.slice (some ⟨kb,0,none⟩) n1 c1)) ∧ Hid (Mrx S1 w wx base))
   case first =>
    cases bb with
    | false =>
     have hVn:=HVN.out rfl
     obtain ⟨kb,rfl⟩:=HGr.out.used.some_ hVn.1
     have HLN : Hid (V.length = un ∧ 1 ≤ un ∧ un ≤ 17):=⟨HUN.out,by have h1:=HUN.out;have h2:=List.length_pos_iff.2 hVn.1;omega,by omega⟩
     clear hVn
     go_wp2
     go_meet
     exact ⟨kb,un,cu,V,HGr,rfl,HLN,Oon.refl _ _,HMr⟩
    | true =>
     have c6 : w6.cell? ⟨gl,6,none⟩ = some (.slice au un cu):=Blk.cell HGr.out.log 6 rfl
     have HX5 : Hid (Blk (w6.alloc (.cells #[.int .i64 (p1 : Int),.int .i64 (sq : Int),.int .i64 0,.int .i64 0] 106)) w6.heap.size (rgc ⟨p1,sq,0,0⟩).toArray 106):=Blk.new _ _ _
     have HB5 : Hid (Below w6.heap.size w6 (w6.alloc (.cells #[.int .i64 (p1 : Int),.int .i64 (sq : Int),.int .i64 0,.int .i64 0] 106))):=below_alloc _ _
     have HVL : Hid (V.length ≤ 1000000):=by have:=HUN.out;(show _ ≤ _);omega
     have c6b : (w6.alloc (.cells #[.int .i64 (p1 : Int),.int .i64 (sq : Int),.int .i64 0,.int .i64 0] 106)).cell? ⟨gl,6,none⟩ = some (.slice au un cu):=Blk.cell (HGr.out.log.stay HB5.out) 6 rfl
     go_wp2_with (guard_target =~ wpList _ _ _ (Oper.mk (some 143) _ _ _ _ _ :: _) _ _;refine wpList_append_rg rfl (.tmp 138) (.tmp 142) rfl base _ V rfl (HGr.out.used.below HB5.out) w6.heap.size 1 ⟨p1,sq,0,0⟩ rfl HX5.out HVL.out (Nat.le_trans HGr.out.sz HB5.out.size) ?_;intro v7 w7 hs7 hg7 ho7;revert hs7 hg7 ho7)
     intro hs7 hg7 ho7
     obtain ⟨hgm,hfm,hlm⟩:=(HGr.out.below HB5.out).more hs7 hg7
     have d6 : w7.cell? ⟨gl,6,none⟩ = some (.slice au un cu):=Blk.cell hlm 6 rfl
     have f6 : w7.frozen? ⟨gl,6,none⟩ = false:=Blk.free hlm 6
     obtain ⟨a7,c7,hv7⟩:=hs7.val
     rw [List.length_append,HUN.out] at hv7
     simp only [List.length_cons,List.length_nil,Nat.zero_add] at hv7
     subst hv7
     obtain ⟨kb,rfl⟩:=hs7.some_ (by simp)
     have HGM : Hid (LrG (w7.setCell ⟨gl,6,none⟩ (.slice (some ⟨kb,0,none⟩) (un + 1) c7)) base r q sv wv2 SV1 WV2 D2 gl b m ag (V ++ [⟨p1,sq,0,0⟩]) (.slice (some ⟨kb,0,none⟩) (un + 1) c7) hi rl L (.slice ar rn cr)):=hgm
     have HOM : Hid (Oon w (.slice au un cu) (.slice (some ⟨kb,0,none⟩) (un + 1) c7)):=fun k hk => (ho7 k hk).imp id (fun h => Nat.le_trans (Nat.le_trans HMr.out.low.size HB5.out.size) h)
     have HMM : Hid (Mrx S1 w (w7.setCell ⟨gl,6,none⟩ (.slice (some ⟨kb,0,none⟩) (un + 1) c7)) base):=HMr.out.trans ((Mrx.of_below HB5.out HGr.out.sz).trans ((Mrx.of_frm hfm (Nat.le_trans HGr.out.sz HB5.out.size) (fun k hk => by
      rcases hk with rfl | hk
      ·exact HBD.out.2.1
      ·exact HS1.out.2.2.2.2.1 k (HS1.out.2.2.1 k hk))).mono (fun k _ hk => by
      rcases hk with rfl | hk
      ·exact HS1.out.2.1
      ·exact HS1.out.2.2.1 k hk)))
     have HLN : Hid ((V ++ [(⟨p1,sq,0,0⟩ : Sg)]).length = un + 1 ∧ 1 ≤ un + 1 ∧ un + 1 ≤ 17):=⟨by rw [List.length_append,HUN.out];rfl,by omega,by omega⟩
     clear hs7 hg7 ho7 hgm hfm hlm c6 c6b
     go_wp2
     go_meet
     exact ⟨kb,un + 1,c7,V ++ [⟨p1,sq,0,0⟩],HGM,(by (show _ = _);simp),HLN,HOM,HMM⟩
   case rest =>
   obtain ⟨kb,n1,c1,V1,HGC1,HV1,HLN,HOM,HMC1⟩:=hcut
   obtain ⟨w7,rfl⟩ : ∃ w7,w7 = wc:=⟨wc,rfl⟩
   obtain ⟨u1,HU1⟩ : ∃ u1,Hid (n1 = u1 + 1):=⟨n1 - 1,by have:=HLN.out;(show _ = _);omega⟩
   obtain ⟨E,HE⟩ : ∃ E,Hid (a1 + K = E):=⟨_,rfl⟩
   have q1 : IntKind.i64.wrap ((n1 : Int) - 1) = (u1 : Int):=by rw [IntKind.wrap_i64];have:=HU1.out;have:=HLN.out;omega
   have q2 : IntKind.i64.wrap ((a1 : Int) + (K : Int)) = (E : Int):=by rw [IntKind.wrap_i64];have:=HE.out;have:=HPA.out;omega
   have g0 : (0 : Int) ≤ (u1 : Int):=by omega
   have g1 : (u1 : Int) < (n1 : Int):=by have:=HU1.out;omega
   have HUL : Hid (u1 < V1.length):=by have:=HU1.out;have:=HLN.out;(show _ < _);omega
   have HKS : Hid (S1 kb ∧ base ≤ kb):=by
    have h1:=(HGC1.out.used.freeg 0).2.1
    refine ⟨?_,h1⟩
    rcases HOM.out kb rfl with h2 | h2
    ·exact HS1.out.2.2.1 kb h2.symm
    ·exact HS1.out.1 kb h2
   have c6 : w7.cell? ⟨gl,6,none⟩ = some (.slice (some ⟨kb,0,none⟩) n1 c1):=Blk.cell HGC1.out.log 6 rfl
   obtain ⟨x0,x1,x2,x3⟩:=HGC1.out.used.facts HUL.out rfl
   have f2 : w7.frozen? ⟨kb,u1 * 4 + 2,none⟩ = false:=(HGC1.out.used.freeg _).1
   obtain ⟨hg8,hf8⟩:=HGC1.out.last (HGC1.out.used.setEn HUL.out E)
   obtain ⟨W8,HW8⟩ : ∃ W8,Hid (W8 = (w7.setCell ⟨kb,u1 * 4 + 2,none⟩ (.int .i64 (E : Int))).drew):=⟨_,rfl⟩
   obtain ⟨V2,HV2⟩ : ∃ V2,Hid (V1.set u1 { V1.getD u1 zSg with en:=E } = V2):=⟨_,rfl⟩
   rw [HV2.out] at hg8
   have HG8 : Hid (LrG W8 base r q sv wv2 SV1 WV2 D2 gl b m ag V2 (.slice (some ⟨kb,0,none⟩) n1 c1) hi rl L (.slice ar rn cr)):=by (show LrG _ _ _ _ _ _ _ _ _ _ _ _ _ _ _ _ _ _ _);rw [HW8.out];exact hg8.below (Below.refl _ _).drew
   have HM8 : Hid (Mrx S1 w W8 base):=by
    (show Mrx _ _ _ _)
    rw [HW8.out]
    exact (HMC1.out.set HKS.out.1 HKS.out.2 _ _).trans (Mrx.of_below (Below.refl _ _).drew hg8.sz)
   clear hg8 hf8 x0 x1 x3
   go_upto_region 41 with fail
   go_region
   all_goals
    rw [← HW8.out]
    clear c6 x2 f2 q2
    have HUL2 : Hid (u1 < V2.length):=by (show _ < _);rw [← HV2.out,List.length_set];exact HUL.out
    have c6 : W8.cell? ⟨gl,6,none⟩ = some (.slice (some ⟨kb,0,none⟩) n1 c1):=Blk.cell HG8.out.log 6 rfl
    obtain ⟨x0,x1,x2,x3⟩:=HG8.out.used.facts HUL2.out rfl
    have f3 : W8.frozen? ⟨kb,u1 * 4 + 3,none⟩ = false:=(HG8.out.used.freeg _).1
    obtain ⟨hg9,hf9⟩:=HG8.out.last (HG8.out.used.setHigh HUL2.out T)
    obtain ⟨W9,HW9⟩ : ∃ W9,Hid (W9 = (W8.setCell ⟨kb,u1 * 4 + 3,none⟩ (.int .i64 (T : Int))).drew):=⟨_,rfl⟩
    obtain ⟨V3,HV3⟩ : ∃ V3,Hid (V2.set u1 { V2.getD u1 zSg with high:=T } = V3):=⟨_,rfl⟩
    rw [HV3.out] at hg9
    have HG9 : Hid (LrG W9 base r q sv wv2 SV1 WV2 D2 gl b m ag V3 (.slice (some ⟨kb,0,none⟩) n1 c1) hi rl L (.slice ar rn cr)):=by (show LrG _ _ _ _ _ _ _ _ _ _ _ _ _ _ _ _ _ _ _);rw [HW9.out];exact hg9.below (Below.refl _ _).drew
    have HM9 : Hid (Mrx S1 w W9 base):=by
     (show Mrx _ _ _ _)
     rw [HW9.out]
     exact (HM8.out.set HKS.out.1 HKS.out.2 _ _).trans (Mrx.of_below (Below.refl _ _).drew hg9.sz)
    clear hg9 hf9 x0 x1 x2
    go_upto_region 42 with fail
    go_region
    all_goals
     rw [← HW9.out]
     clear c6 x3 f3 q1
     have c4 : W9.cell? ⟨gl,4,none⟩ = some (.int .i64 (hi : Int)):=Blk.cell HG9.out.log 4 rfl
     have f4 : W9.frozen? ⟨gl,4,none⟩ = false:=Blk.free HG9.out.log 4
     obtain ⟨hgA,hfA⟩:=HG9.out.high T
     obtain ⟨WA,HWA⟩ : ∃ WA,Hid (WA = W9.setCell ⟨gl,4,none⟩ (.int .i64 (T : Int))):=⟨_,rfl⟩
     have HGA : Hid (LrG WA base r q sv wv2 SV1 WV2 D2 gl b m ag V3 (.slice (some ⟨kb,0,none⟩) n1 c1) T rl L (.slice ar rn cr)):=by (show LrG _ _ _ _ _ _ _ _ _ _ _ _ _ _ _ _ _ _ _);rw [HWA.out];exact hgA
     have HMA : Hid (Mrx S1 w WA base):=by (show Mrx _ _ _ _);rw [HWA.out];exact HM9.out.set HS1.out.2.1 HBD.out.2.1 _ _
     clear hgA hfA
     go_upto_region 44 with fail
     rw [← HWA.out]
     clear c4 f4
     have HRG : Hid (R = (0,D2,V3,T,true)):=by
      (show _ = _)
      rw [HRF.out,← HV3.out,← HV2.out,← HE.out,finR_is HV1.out (by have:=HLN.out.1;have:=HU1.out;omega) HVN.out]
     have c7 : WA.cell? ⟨gl,7,none⟩ = some (.slice ar rn cr):=Blk.cell HGA.out.log 7 rfl
     obtain ⟨WB,HWB⟩ : ∃ WB,Hid (WB = (WA.alloc (.cells #[] 5)).drew):=⟨_,rfl⟩
     have HXB : Hid (Below WA.heap.size WA WB):=by (show Below _ _ _);rw [HWB.out];exact (below_alloc _ _).drew
     have HGB : Hid (LrG WB base r q sv wv2 SV1 WV2 D2 gl b m ag V3 (.slice (some ⟨kb,0,none⟩) n1 c1) T rl L (.slice ar rn cr)):=HGA.out.below HXB.out
     have HMB : Hid (Mrx S1 w WB base):=HMA.out.trans (Mrx.of_below HXB.out HGA.out.sz)
     have HOB : Hid (Own WB WA.heap.size (some ⟨WA.heap.size,0,none⟩) 0 0 []):=by (show Own _ _ _ _ _ _);rw [HWB.out];exact (Own.empty WA).below (Below.refl _ _).drew
     have HDB : Hid (Rd WB ab nb bs):=HBODY.out WB HMB.out.low
     have d7 : WB.cell? ⟨gl,7,none⟩ = some (.slice ar rn cr):=Blk.cell HGB.out.log 7 rfl
     have d7' : (WA.alloc (.cells #[] 5)).cell? ⟨gl,7,none⟩ = some (.slice ar rn cr):=Blk.cell (HGA.out.log.stay (below_alloc _ _)) 7 rfl
     go_region_law (first
      | (guard_target =~ (if Region.wanted (Oper.mk (some 196) _ _ _ _ _) _ = true then _ else _);refine step_append_rcA rfl (.tmp 189) (.tmp 195) rfl base _ L rfl (by rw [← HWF_.out];exact HGF.out.recs) wE.heap.size 1 ⟨T,aE,nb,cE,bs⟩ rfl (by rw [← HWF_.out];exact HKF.out) (by rw [← HWF_.out];exact HDF.out) (by have:=HLL.out;omega) (by rw [← HWF_.out];exact HGF.out.sz) ?_;rw [← HWF_.out];intro vG wG hrG hgG hkG hoG;obtain ⟨hG,hF,hL⟩:=HGF.out.rec_ hrG hgG;have d8 : wG.cell? ⟨gl,7,none⟩ = some (.slice ar rn cr):=Blk.cell hL 7 rfl;have f8 : wG.frozen? ⟨gl,7,none⟩ = false:=Blk.free hL 7;have HFIN : Hid (POST (.returned (.int .i64 0)) (wG.setCell ⟨gl,7,none⟩ vG)):=HYES.out _ _ _ _ _ _ _ _ _ T rfl HRG.out hG (by rw [List.map_append];rfl) HOM.out (fun q hq => (hoG q hq).imp id (fun h => Nat.le_trans HMF.out.low.size h)) (HMF.out.trans ((Mrx.of_frm hF HGF.out.sz (fun k hk => by (rcases hk with rfl | hk;exact HBD.out.2.1;exact HS1.out.2.2.2.2.1 k (HS1.out.2.2.2.1 k hk)))).mono (fun k _ hk => by (rcases hk with rfl | hk;exact HS1.out.2.1;exact HS1.out.2.2.2.1 k hk)))) (fun x hx => (List.mem_append.1 hx).imp id (fun hx => by rw [List.mem_singleton.1 hx];exact (HDF2.out.kt hkG).stays fun k cs fr h1 => by rw [heap_setCell_other _ _ _ _ (by (rintro rfl;exact absurd (lr_type hL rfl h1) (by decide)))];exact h1));obtain ⟨aG,cG,hvG⟩:=hrG.val;rw [List.length_append] at hvG;simp only [List.length_cons,List.length_nil,Nat.zero_add,HRN.out] at hvG;subst hvG;clear hrG hgG hkG hG hF hL hoG)
      | (guard_target =~ (if Region.wanted (Oper.mk (some 193) _ _ _ _ _) _ = true then _ else _);refine step_append_rd rfl (.tmp 191) (.tmp 192) rfl WA.heap.size (some ⟨WA.heap.size,0,none⟩) 0 0 [] rfl (by rw [← HWB.out];exact HOB.out) ab nb cb bs rfl (by rw [← HWB.out];exact HDB.out) HNN.out (by have:=HT.out;omega) (by rw [← HWB.out];exact HXB.out.size) nb (Nat.zero_add _) bs rfl ?_;rw [← HWB.out];intro aE cE wE hoE hgE hbE;have HXE : Hid (Below WA.heap.size WA wE):=HXB.out.trans hbE;have HGE : Hid (LrG wE base r q sv wv2 SV1 WV2 D2 gl b m ag V3 (.slice (some ⟨kb,0,none⟩) n1 c1) T rl L (.slice ar rn cr)):=HGA.out.below HXE.out;have HDE : Hid (Bd wE base aE nb bs):=(hoE.bd (by have:=HT.out;omega)).lower HGA.out.sz;have HME : Hid (Mrx S1 w wE base):=HMA.out.trans (Mrx.of_below HXE.out HGA.out.sz);obtain ⟨WF,HWF_⟩ : ∃ WF,Hid (WF = wE.alloc (.cells #[.int .i64 (T : Int),.slice aE nb cE] 44)):=⟨_,rfl⟩;have HXF : Hid (Below wE.heap.size wE WF):=(by (show Below _ _ _);rw [HWF_.out];exact below_alloc _ _);have HGF : Hid (LrG WF base r q sv wv2 SV1 WV2 D2 gl b m ag V3 (.slice (some ⟨kb,0,none⟩) n1 c1) T rl L (.slice ar rn cr)):=HGE.out.below HXF.out;have HKF : Hid (Blk WF wE.heap.size #[.int .i64 (T : Int),.slice aE nb cE] 44):=(by (show Blk _ _ _ _);rw [HWF_.out];exact Blk.new _ _ _);have HDF : Hid (Bd WF base aE nb bs):=HDE.out.kt (Kt.of_below HXF.out);have HDF2 : Hid (Bd WF w.heap.size aE nb bs):=((hoE.bd (by have:=HT.out;omega)).lower HMA.out.low.size).kt (Kt.of_below HXF.out);have HMF : Hid (Mrx S1 w WF base):=HME.out.trans (Mrx.of_below HXF.out HGE.out.sz);have e8 : wE.cell? ⟨gl,7,none⟩ = some (.slice ar rn cr):=Blk.cell HGE.out.log 7 rfl;have g8 : (wE.alloc (.cells #[.int .i64 (T : Int),.slice aE nb cE] 44)).cell? ⟨gl,7,none⟩ = some (.slice ar rn cr):=Blk.cell (HGE.out.log.stay (below_alloc _ _)) 7 rfl;clear hoE hgE hbE))
     all_goals
      clear d8 f8 c7 d7 d7' e8 g8
      have HX:=HFIN.out
      go_wp2
      exact HX
end Go.Proofs.YtghajmcohdedlaaGreat
