import Derived.Test.YtghajmcohdedlaaGreatEvT16
namespace Go.Proofs.YtghajmcohdedlaaGreat
open Go.RowKit
set_option maxRecDepth 100000
def RecIs (w : World) (B : Nat) (r : Option (Int × List Nat × Nat)) (v : Int) (a : Option Addr) (n : Nat) (en : Int) (ok : Bool) : Prop :=
 (r = none ∧ ok = false) ∨ ∃ (bs : List Nat) (e : Nat),r = some (v,bs,e) ∧ en = (e : Int) ∧ ok = decide (v ≤ 1099511627776) ∧ Bd w B a n bs ∧ e ≤ 16
theorem RecTold.uni {w : World} {B : Nat} {e : Ending} {r : Option (Int × List Nat × Nat)} (h : RecTold w B e r) : ∃ v a n c en ok,e = .returned (.tuple #[.agg #[.int .i64 v,.slice a n c],.int .i64 en,.bool ok]) ∧ RecIs w B r v a n en ok:=by
 rcases h with ⟨h1,rfl⟩ | ⟨v,bs,en,a,n,c,h1,rfl,h2,h3,h4⟩
 ·exact ⟨0,none,0,0,0,false,rfl,.inl ⟨h1,rfl⟩⟩
 ·exact ⟨v,a,n,c,(en : Int),_,rfl,.inr ⟨bs,en,h1,rfl,rfl,h2,h4⟩⟩
theorem RecIs.stay {w w' : World} {B : Nat} {r : Option (Int × List Nat × Nat)} {v : Int} {a : Option Addr} {n : Nat} {en : Int} {ok : Bool} (h : RecIs w B r v a n en ok) (H : ∀ (k : Nat) cs fr,w.heap[k]? = some (.cells cs 5 fr) → w'.heap[k]? = some (.cells cs 5 fr)) {B' : Nat} (hB : B' ≤ B) : RecIs w' B' r v a n en ok :=
 h.imp id fun ⟨bs,e,h1,h2,h3,h4,h5⟩ => ⟨bs,e,h1,h2,h3,(h4.stays H).lower hB,h5⟩
theorem RecIs.next {w : World} {B : Nat} {D : Dk} {A en hi : Nat} {v : Int} {a : Option Addr} {n : Nat} {en3 : Int} {ok : Bool} (h : RecIs w B (recF D A en) v a n en3 ok) : (ok = true ∧ (hi : Int) < v ∧ ∃ (vn : Nat) (bs : List Nat) (e : Nat),v = (vn : Int) ∧ en3 = (e : Int) ∧ nextF D A en hi = some (vn,bs,e) ∧ Bd w B a n bs) ∨ ((ok = false ∨ (ok = true ∧ ¬ (hi : Int) < v)) ∧ nextF D A en hi = none):=by
 rw [next_rec]
 rcases h with ⟨h1,h2⟩ | ⟨bs,e,h1,h2,h3,h4,_⟩
 ·rw [h1]
  exact .inr ⟨.inl h2,rfl⟩
 ·rw [h1]
  simp only
  by_cases g1 : v ≤ 1099511627776
  ·rw [decide_eq_true g1] at h3
   by_cases g2 : (hi : Int) < v
   ·rw [if_neg (by omega)]
    exact .inl ⟨h3,g2,v.toNat,bs,e,by omega,h2,rfl,h4⟩
   ·rw [if_pos (.inl (by omega))]
    exact .inr ⟨.inr ⟨h3,g2⟩,rfl⟩
  ·rw [decide_eq_false g1] at h3
   rw [if_pos (.inr (by omega))]
   exact .inr ⟨.inl h3,rfl⟩
theorem Rcs.besideR {w w' : World} {B : Nat} {v v2 : Value} {L : List Rc} (h : Rcs w B v L) (hg : w.grownBy w' v2.ownBlock) (hk : Kt w w') (hne : ∀ k,v.ownBlock = some k → v2.ownBlock ≠ some k) : Rcs w' B v L:=⟨own_stay h.row fun k hk2 => hg.block k (h.row.lt k hk2).2 (fun e => hne k hk2 e.symm),fun r hr => (h.bd r hr).kt hk⟩
theorem keepP_snoc (t : Nat) (l : List (Nat × List Nat)) (p : Nat × List Nat) : keepP t (l ++ [p]) = keepP t l ++ if t < p.1 then [p] else []:=by
 unfold keepP
 rw [List.filter_append,List.filter_cons]
 by_cases h : t < p.1 <;> simp [h]
theorem set2_keep {w : World} {q : Nat} {cs : Array Value} (hq : Blk w q cs 44) (i j : Nat) (u v : Value) : ∀ (k : Nat) cs' fr,w.heap[k]? = some (.cells cs' 5 fr) → ((w.setCell ⟨q,i,none⟩ u).setCell ⟨q,j,none⟩ v).heap[k]? = some (.cells cs' 5 fr):=fun k cs' fr hk => by
 have hne : k ≠ q:=fun e => by
  subst e
  unfold Blk at hq
  rw [hk] at hq
  simp only [Option.some.injEq,Obj.cells.injEq] at hq
  exact absurd hq.2.1 (by decide)
 rw [heap_setCell_other _ ⟨q,j,none⟩ k v hne,heap_setCell_other _ ⟨q,i,none⟩ k u hne]
 exact hk
def ReadToldR (w w' : World) (RU : List Sg) (RH rr : Nat) (RA : List (Nat × List Nat)) (e : Ending) : Prop:=∃ uv' rv' L',e = .returned (.agg #[.int .i64 ((max RH rr : Nat) : Int),.int .i64 (rr : Int),uv',rv']) ∧ Rgs w' w.heap.size uv' RU ∧ Rcs w' w.heap.size rv' L' ∧ L'.map plR = keepP rr RA
set_option maxHeartbeats 64000000 in
theorem ref_ReadG (w : World) (base r q : Nat) (sv wv : Value) (SV WV : List Value) (D : Dk) (gl b m ag : Nat) (hi0 rl0 : Int) (uv0 rv0 : Value) (rr : Nat) (hd : Rk w base r q sv wv SV WV D) (h : Lr w gl r b m ag hi0 rl0 uv0 rv0) (hb : b ≤ 1000) (hm : m ≤ 16) (hup : D.down = false) (hsz : b + 2 + m * 16 ≤ D.sure.length) (hr : (getB D b 1 0).1 = (rr : Int)) :
  Calls Tryz.prog 84 #[.pointer (some ⟨gl,0,none⟩)] w fun e w' => Hid (ReadToldR w w' (readAllR D b (sortG (headsR D b m)) 0 []).1 (readAllR D b (sortG (headsR D b m)) 0 []).2.1 rr (readAllR D b (sortG (headsR D b m)) 0 []).2.2 e) ∧ Below w.heap.size w w':=by
 obtain ⟨⟨RU,RH,RA⟩,HR⟩ : ∃ R,Hid (readAllR D b (sortG (headsR D b m)) 0 [] = R):=⟨_,rfl⟩
 rw [HR.out]
 simp only
 have HD : Hid (Rk w base r q sv wv SV WV D):=hd
 have HL : Hid (Lr w gl r b m ag hi0 rl0 uv0 rv0):=h
 have hm16 : m ≤ 16:=hm
 have HBP : Hid (b ≤ 1000 ∧ D.down = false ∧ b + 2 + m * 16 ≤ D.sure.length ∧ (getB D b 1 0).1 = (rr : Int)):=⟨hb,hup,hsz,hr⟩
 have HRE : Hid (∀ k : Nat,k < b + 2 + m * 16 → readE D (k : Int) = 0 ∧ tellE D k = nowB D k):=fun k hk => by
  have h1 : readE D (k : Int) = 0:=by
   unfold readE
   rw [hup,if_neg (by simp),if_pos ((hasB_iff D _).2 ⟨by omega,by omega⟩)]
  exact ⟨h1,by unfold tellE;rw [if_pos h1]⟩
 obtain ⟨W1,HW1⟩ : ∃ W1,Hid (W1 = (w.alloc (.cells #[.int .i64 0,.int .i64 0,.slice none 0 0,.slice none 0 0] 58)).alloc (.cells #[.int .i64 0,.int .i64 0,.slice none 0 0,.slice none 0 0] 58)):=⟨_,rfl⟩
 have HR1 : Hid (Rdt w W1 0 0 [] (.slice none 0 0) (.slice none 0 0)):=by
  (show Rdt _ _ _ _ _ _ _)
  rw [HW1.out]
  refine ⟨?_,(Blk.new w _ _).stay (below_alloc _ _),Rgs.nil _ _,(below_alloc _ _).trans ((below_alloc _ _).mono (below_alloc _ _).size)⟩
  have:=Blk.new (w.alloc (.cells #[.int .i64 0,.int .i64 0,.slice none 0 0,.slice none 0 0] 58)) #[.int .i64 0,.int .i64 0,.slice none 0 0,.slice none 0 0] 58
  unfold Tl
  simpa using this
 clear hd h hb hm hup hsz hr
 go_enter Tryz.func84,Tryz.ntmps84
 go_upto_region 2 with fail
 rw [← HW1.out]
 go_wp2_with fail
 go_loopw [4] (fun t4 wr => ∃ (k : Nat) (V : List Sg) (a2 : Option Addr) (n2 c2 : Nat),k ≤ m ∧ t4 = .int .i64 (k : Int) ∧ Hid (V = sortG (headsR D b k)) ∧ Hid (Rdt w wr 0 0 V (.slice a2 n2 c2) (.slice none 0 0))) (fun t4 _ => m - (intOf t4).toNat)
 case atStart => exact ⟨0,[],none,0,0,Nat.zero_le _,rfl,rfl,HR1⟩
 case round =>
  obtain ⟨k,V,a2,n2,c2,hk,rfl,HV,HRD⟩:=hrel
  obtain ⟨w2,rfl⟩ : ∃ w2,w2 = wr:=⟨wr,rfl⟩
  have HLr : Hid (Lr w2 gl r b m ag hi0 rl0 uv0 rv0):=HL.out.stay HRD.out.low
  have HDr : Hid (Rk w2 base r q sv wv SV WV D):=HD.out.stay HRD.out.low
  have HN2 : Hid (V.length = n2):=by obtain ⟨a',c',e⟩:=HRD.out.used.val;cases e;rfl
  have HVK : Hid (V.length ≤ k):=by (show _ ≤ _);rw [HV.out,sortG_len];exact headsR_len D b k
  have l2 : w2.cell? ⟨gl,2,none⟩ = some (.int .i64 (m : Int)):=Blk.cell HLr.out 2 rfl
  by_cases hlt : k < m
  ·have hlt' : (k : Int) < (m : Int):=by omega
   have HH:=ref_header w2 base r q sv wv SV WV D gl b m ag hi0 rl0 uv0 rv0 k HDr.out HLr.out HBP.out.1 (by omega) (HRE.out _ (by omega)).1
   obtain ⟨⟨hn,ht,hk3⟩,HHE⟩ : ∃ x,Hid (headE (nowB D (b + 2 + 16 * k + 0)) = x):=⟨_,rfl⟩
   rw [HHE.out] at HH
   have HPO : Hid (headPos D b k = if hk3 = true then [⟨k,hn.toNat,ht.toNat,1⟩] else []):=by
    (show _ = _)
    unfold headPos
    rw [(HRE.out (b + 2 + 16 * k + 0) (by omega)).2,HHE.out]
   have HOK : Hid (hk3 = true → 1 ≤ hn ∧ hn ≤ 4611686018427387904 ∧ 0 ≤ ht ∧ ht ≤ 1099511627776):=fun hh => by
    have:=headE_ok (nowB D (b + 2 + 16 * k + 0)) (by rw [HHE.out];exact hh)
    rw [HHE.out] at this
    exact this
   go_wp2_with fail
   refine HH.mono ?_
   rintro e w3 ⟨ht3,hb3⟩
   obtain ⟨n3,t3,rfl,hnt⟩:=ht3.out
   simp only at hnt ⊢
   have HRD3 : Hid (Rdt w w3 0 0 V (.slice a2 n2 c2) (.slice none 0 0)):=HRD.out.below hb3
   have HNT : Hid (hk3 = true → n3 = hn ∧ t3 = ht):=hnt
   clear ht3 hb3 hnt HH l2
   cases hk3 with
   | false =>
    have HVN : Hid (V = sortG (headsR D b (k + 1))):=by (show _ = _);rw [headsR,HPO.out,if_neg (by simp),List.append_nil];exact HV.out
    go_wp2
    go_roundw
    case rel => exact ⟨k + 1,V,a2,n2,c2,by omega,by go_num,HVN,HRD3⟩
    case measure => (simp [intOf];omega)
   | true =>
    obtain ⟨rfl,rfl⟩:=HNT.out rfl
    obtain ⟨o1,o2,o3,o4⟩:=HOK.out rfl
    obtain ⟨hn',rfl⟩ : ∃ x : Nat,n3 = (x : Int):=⟨n3.toNat,by omega⟩
    obtain ⟨ht',rfl⟩ : ∃ x : Nat,t3 = (x : Int):=⟨t3.toNat,by omega⟩
    rw [Int.toNat_natCast,Int.toNat_natCast] at HPO
    clear o1 o2 o3 o4 HOK HNT
    have t2 : w3.cell? ⟨w.heap.size + 1,2,none⟩ = some (.slice a2 n2 c2):=Blk.cell HRD3.out.tb 2 rfl
    have HX5 : Hid (Blk (w3.alloc (.cells #[.int .i64 (k : Int),.int .i64 (hn' : Int),.int .i64 1,.int .i64 (ht' : Int)] 106)) w3.heap.size (rgc ⟨k,hn',ht',1⟩).toArray 106):=Blk.new _ _ _
    have HB5 : Hid (Below w3.heap.size w3 (w3.alloc (.cells #[.int .i64 (k : Int),.int .i64 (hn' : Int),.int .i64 1,.int .i64 (ht' : Int)] 106))):=below_alloc _ _
    have HRD5 : Hid (Rdt w (w3.alloc (.cells #[.int .i64 (k : Int),.int .i64 (hn' : Int),.int .i64 1,.int .i64 (ht' : Int)] 106)) 0 0 V (.slice a2 n2 c2) (.slice none 0 0)):=HRD3.out.below HB5.out
    have HVL : Hid (V.length ≤ 1000000):=by have:=HVK.out;(show _ ≤ _);omega
    go_wp2_with (guard_target =~ wpList _ _ _ (Oper.mk (some 44) _ _ _ _ _ :: _) _ _;refine wpList_append_rg rfl (.tmp 38) (.tmp 43) rfl w.heap.size _ V rfl HRD5.out.used w3.heap.size 1 ⟨k,hn',ht',1⟩ rfl HX5.out HVL.out HRD5.out.sz ?_;intro v7 w7 hs7 hg7 ho7;revert hs7 hg7 ho7)
    intro hs7 hg7 ho7
    obtain ⟨hgm,htm⟩:=HRD5.out.more hs7 hg7
    have d2 : w7.cell? ⟨w.heap.size + 1,2,none⟩ = some (.slice a2 n2 c2):=Blk.cell htm 2 rfl
    have f2 : w7.frozen? ⟨w.heap.size + 1,2,none⟩ = false:=Blk.free htm 2
    obtain ⟨a7,c7,hv7⟩:=hs7.val
    rw [List.length_append,HN2.out] at hv7
    simp only [List.length_cons,List.length_nil,Nat.zero_add] at hv7
    subst hv7
    obtain ⟨kb,rfl⟩:=hs7.some_ (by simp)
    obtain ⟨W8,HW8⟩ : ∃ W8,Hid (W8 = w7.setCell ⟨w.heap.size + 1,2,none⟩ (.slice (some ⟨kb,0,none⟩) (n2 + 1) c7)):=⟨_,rfl⟩
    rw [← HW8.out] at hgm
    have HRD8 : Hid (Rdt w W8 0 0 (V ++ [⟨k,hn',ht',1⟩]) (.slice (some ⟨kb,0,none⟩) (n2 + 1) c7) (.slice none 0 0)):=hgm
    clear hs7 hg7 ho7 hgm htm t2
    go_upto_region 8 with fail
    rw [← HW8.out]
    clear d2 f2
    obtain ⟨RV,HRV⟩ : ∃ RV,Hid (sortG (headsR D b (k + 1)) = RV):=⟨_,rfl⟩
    have HIN : Hid (insG n2 (V ++ [⟨k,hn',ht',1⟩]) = RV):=by
     (show _ = _)
     rw [← HRV.out,headsR,HPO.out,if_pos (by first | rfl | trivial),sortG_snoc,← HV.out]
     rw [show (headsR D b k).length = n2 from by rw [← HN2.out,HV.out,sortG_len]]
    have t2 : W8.cell? ⟨w.heap.size + 1,2,none⟩ = some (.slice (some ⟨kb,0,none⟩) (n2 + 1) c7):=Blk.cell HRD8.out.tb 2 rfl
    have q1 : IntKind.i64.wrap (((n2 + 1 : Nat) : Int) - 1) = (n2 : Int):=by rw [IntKind.wrap_i64];have:=HN2.out;have:=HVK.out;omega
    have q1' : wrap64 (n2 : Int) = (n2 : Int):=by unfold wrap64;have:=HN2.out;have:=HVK.out;omega
    have HQ1 : Hid (wrap64 (n2 : Int) = (n2 : Int)):=q1'
    have HN16 : Hid (n2 ≤ 16):=by have:=HN2.out;have:=HVK.out;(show _ ≤ _);omega
    go_wp2_with fail
    go_loopw [8] (fun t8 wq => ∃ (J : Nat) (V2 : List Sg),J ≤ n2 ∧ t8 = .int .i64 (J : Int) ∧ Hid (V2.length = n2 + 1) ∧ Hid (insG J V2 = RV) ∧ Hid (Rdt w wq 0 0 V2 (.slice (some ⟨kb,0,none⟩) (n2 + 1) c7) (.slice none 0 0))) (fun t8 _ => (intOf t8).toNat)
    case atStart => exact ⟨n2,V ++ [⟨k,hn',ht',1⟩],Nat.le_refl _,by first | rfl | (rw [HQ1.out]),by (show _ = _);rw [List.length_append,HN2.out];rfl,HIN,HRD8⟩
    case round =>
     clear HRD8 HIN t2 q1 q1'
     obtain ⟨J,V2,hJ,rfl,HV2,HIN,HRJ⟩:=hrel
     obtain ⟨w9,rfl⟩ : ∃ w9,w9 = wr:=⟨wr,rfl⟩
     have t2 : w9.cell? ⟨w.heap.size + 1,2,none⟩ = some (.slice (some ⟨kb,0,none⟩) (n2 + 1) c7):=Blk.cell HRJ.out.tb 2 rfl
     by_cases hJ0 : 0 < J
     ·have d1 : decide ((0 : Int) < (J : Int)) = true:=decide_eq_true (by omega)
      have d2 : decide (0 < J) = true:=decide_eq_true hJ0
      obtain ⟨J1,HJ1⟩ : ∃ J1,Hid (J = J1 + 1):=⟨J - 1,by (show _ = _);omega⟩
      have q2 : IntKind.i64.wrap ((J : Int) - 1) = (J1 : Int):=by rw [IntKind.wrap_i64];have:=HJ1.out;have:=HN16.out;omega
      obtain ⟨s,HS⟩ : ∃ s,Hid (V2.getD J zSg = s):=⟨_,rfl⟩
      obtain ⟨p,HP⟩ : ∃ p,Hid (V2.getD J1 zSg = p):=⟨_,rfl⟩
      obtain ⟨x0,x1,x2,x3⟩:=HRJ.out.used.facts (J:=J) (by have:=HV2.out;omega) HS.out
      obtain ⟨y0,y1,y2,y3⟩:=HRJ.out.used.facts (J:=J1) (by have:=HV2.out;have:=HJ1.out;omega) HP.out
      have g0 : (0 : Int) ≤ (J : Int):=by omega
      have g1 : (J : Int) < ((n2 + 1 : Nat) : Int):=by omega
      have g2 : (0 : Int) ≤ (J1 : Int):=by omega
      have g3 : (J1 : Int) < ((n2 + 1 : Nat) : Int):=by have:=HJ1.out;omega
      have HIX : Hid ((if s.num < p.num then insG J1 (swapG V2 J1) else V2) = RV):=by
       (show _ = _)
       have h1:=HIN.out
       rw [HJ1.out,insG_next] at h1
       rw [show V2.getD (J1 + 1) zSg = s from by rw [← HJ1.out];exact HS.out,HP.out] at h1
       exact h1
      have HSW : Hid (swapG V2 J1 = (V2.set J p).set J1 s):=by
       (show _ = _)
       unfold swapG
       rw [show J1 + 1 = J from HJ1.out.symm,HS.out,HP.out]
      obtain ⟨sa,sn,sh,se⟩:=s
      obtain ⟨pa,pn,ph,pe⟩:=p
      simp only at x0 x1 x2 x3 y0 y1 y2 y3 HIX
      clear hJ0
      by_cases hsn : sn < pn
      ·have d3 : decide ((sn : Int) < (pn : Int)) = true:=decide_eq_true (by omega)
       have d4 : decide (sn < pn) = true:=decide_eq_true hsn
       have HIN2 : Hid (insG J1 ((V2.set J ⟨pa,pn,ph,pe⟩).set J1 ⟨sa,sn,sh,se⟩) = RV):=by have h1:=HIX.out;rw [if_pos hsn,HSW.out] at h1;exact h1
       have HRGJ : Hid (w9.rangeAt kb (J * 4) [.int .i64 (sa : Int),.int .i64 (sn : Int),.int .i64 (se : Int),.int .i64 (sh : Int)]):=HRJ.out.used.range (J:=J) (by have:=HV2.out;omega) HS.out
       clear hsn
       go_upto_region 9 with fail
       go_quiet (fail)
       obtain ⟨wA,HWA⟩ : ∃ wA,Hid (wA = w9.drewN nq):=⟨_,rfl⟩
       have HXA : Hid (Below w9.heap.size w9 wA):=by (show Below _ _ _);rw [HWA.out];exact below_drewN (Below.refl _ _) _
       rw [← HWA.out]
       clear x0 x1 x2 x3 y0 y1 y2 y3 t2 d1 d2 d3 d4
       have HRA : Hid (Rdt w wA 0 0 V2 (.slice (some ⟨kb,0,none⟩) (n2 + 1) c7) (.slice none 0 0)):=HRJ.out.below HXA.out
       have HRGA : Hid (wA.rangeAt kb (J * 4) [.int .i64 (sa : Int),.int .i64 (sn : Int),.int .i64 (se : Int),.int .i64 (sh : Int)]):=HRA.out.used.range (J:=J) (by have:=HV2.out;omega) HS.out
       have t2 : wA.cell? ⟨w.heap.size + 1,2,none⟩ = some (.slice (some ⟨kb,0,none⟩) (n2 + 1) c7):=Blk.cell HRA.out.tb 2 rfl
       obtain ⟨WB,HWB⟩ : ∃ WB,Hid (WB = wA.alloc (.cells #[.int .i64 (sa : Int),.int .i64 (sn : Int),.int .i64 (se : Int),.int .i64 (sh : Int)] 106)):=⟨_,rfl⟩
       obtain ⟨vb,HVB⟩ : ∃ vb,Hid (vb = wA.heap.size):=⟨_,rfl⟩
       have HXB : Hid (Below wA.heap.size wA WB):=by (show Below _ _ _);rw [HWB.out];exact below_alloc _ _
       have HKB : Hid (Blk WB vb #[.int .i64 (sa : Int),.int .i64 (sn : Int),.int .i64 (se : Int),.int .i64 (sh : Int)] 106):=by (show Blk _ _ _ _);rw [HWB.out,HVB.out];exact Blk.new _ _ _
       have HRB : Hid (Rdt w WB 0 0 V2 (.slice (some ⟨kb,0,none⟩) (n2 + 1) c7) (.slice none 0 0)):=HRA.out.below HXB.out
       have HVN : Hid (vb ≠ kb):=by (show _ ≠ _);have:=(HRA.out.used.freeg 0).2.2;rw [HVB.out];omega
       go_upto_region 12 with (guard_target =~ wpList _ _ _ (Oper.mk (some 74) _ _ _ _ _ :: _) _ _;refine wpList_load_mid rfl 106 (.tmp 73) rfl kb (J * 4) rfl [.int .i64 (sa : Int),.int .i64 (sn : Int),.int .i64 (se : Int),.int .i64 (sh : Int)] _ HRGA.out Tryz.underlying106 rfl (by rfl) ?_)
       rw [← HWB.out,← HVB.out]
       clear t2
       have t2 : WB.cell? ⟨w.heap.size + 1,2,none⟩ = some (.slice (some ⟨kb,0,none⟩) (n2 + 1) c7):=Blk.cell HRB.out.tb 2 rfl
       obtain ⟨x0,x1,x2,x3⟩:=HRB.out.used.facts (J:=J) (by have:=HV2.out;omega) HS.out
       obtain ⟨y0,y1,y2,y3⟩:=HRB.out.used.facts (J:=J1) (by have:=HV2.out;have:=HJ1.out;omega) HP.out
       have z0 : WB.frozen? ⟨kb,J * 4,none⟩ = false:=(HRB.out.used.freeg _).1
       have z1 : WB.frozen? ⟨kb,J * 4 + 1,none⟩ = false:=(HRB.out.used.freeg _).1
       have z2 : WB.frozen? ⟨kb,J * 4 + 2,none⟩ = false:=(HRB.out.used.freeg _).1
       have z3 : WB.frozen? ⟨kb,J * 4 + 3,none⟩ = false:=(HRB.out.used.freeg _).1
       simp only at x0 x1 x2 x3 y0 y1 y2 y3
       go_region
       all_goals
        clear x0 x1 x2 x3 y0 y1 y2 y3 z0 z1 z2 z3 t2
        obtain ⟨WC,HWC⟩ : ∃ WC,Hid (WC = (set4R WB kb (J * 4) ⟨pa,pn,ph,pe⟩).drew):=⟨_,rfl⟩
        have HRC : Hid (Rdt w WC 0 0 (V2.set J ⟨pa,pn,ph,pe⟩) (.slice (some ⟨kb,0,none⟩) (n2 + 1) c7) (.slice none 0 0)):=by (show Rdt _ _ _ _ _ _ _);rw [HWC.out];exact (HRB.out.set4 (by have:=HV2.out;omega) _).below (Below.refl _ _).drew
        have HKC : Hid (Blk WC vb #[.int .i64 (sa : Int),.int .i64 (sn : Int),.int .i64 (se : Int),.int .i64 (sh : Int)] 106):=by
         (show Blk _ _ _ _)
         rw [HWC.out]
         exact ((((HKB.out.other _ _ HVN.out).other _ _ HVN.out).other _ _ HVN.out).other _ _ HVN.out).stay (Below.refl _ _).drew
        have HRGV : Hid (WC.rangeAt vb 0 [.int .i64 (sa : Int),.int .i64 (sn : Int),.int .i64 (se : Int),.int .i64 (sh : Int)]):=fun j v hj => by rw [Nat.zero_add];exact HKC.out.cell j (by simpa using hj)
        have hwc : (((((WB.setCell ⟨kb,J * 4,none⟩ (.int .i64 (pa : Int))).setCell ⟨kb,J * 4 + 1,none⟩ (.int .i64 (pn : Int))).setCell ⟨kb,J * 4 + 2,none⟩ (.int .i64 (pe : Int))).setCell ⟨kb,J * 4 + 3,none⟩ (.int .i64 (ph : Int))).drew) = WC:=HWC.out.symm
        rw [hwc]
        clear hwc
        have t2 : WC.cell? ⟨w.heap.size + 1,2,none⟩ = some (.slice (some ⟨kb,0,none⟩) (n2 + 1) c7):=Blk.cell HRC.out.tb 2 rfl
        obtain ⟨x,HX⟩ : ∃ x,Hid ((V2.set J ⟨pa,pn,ph,pe⟩).getD J1 zSg = x):=⟨_,rfl⟩
        have HJL : Hid (J1 < (V2.set J ⟨pa,pn,ph,pe⟩).length):=by (show _ < _);rw [List.length_set];have:=HV2.out;have:=HJ1.out;omega
        obtain ⟨y0,y1,y2,y3⟩:=HRC.out.used.facts (J:=J1) HJL.out HX.out
        have z0 : WC.frozen? ⟨kb,J1 * 4,none⟩ = false:=(HRC.out.used.freeg _).1
        have z1 : WC.frozen? ⟨kb,J1 * 4 + 1,none⟩ = false:=(HRC.out.used.freeg _).1
        have z2 : WC.frozen? ⟨kb,J1 * 4 + 2,none⟩ = false:=(HRC.out.used.freeg _).1
        have z3 : WC.frozen? ⟨kb,J1 * 4 + 3,none⟩ = false:=(HRC.out.used.freeg _).1
        have HFIN : Hid (Rdt w (set4R WC kb (J1 * 4) ⟨sa,sn,sh,se⟩) 0 0 ((V2.set J ⟨pa,pn,ph,pe⟩).set J1 ⟨sa,sn,sh,se⟩) (.slice (some ⟨kb,0,none⟩) (n2 + 1) c7) (.slice none 0 0)):=HRC.out.set4 HJL.out _
        go_wp2_with (guard_target =~ wpList _ _ _ (Oper.mk (some 89) _ _ _ _ _ :: _) _ _;refine wpList_load_mid rfl 106 (.tmp 9) rfl vb 0 rfl [.int .i64 (sa : Int),.int .i64 (sn : Int),.int .i64 (se : Int),.int .i64 (sh : Int)] _ HRGV.out Tryz.underlying106 rfl (by rfl) ?_)
        go_roundw
        case rel => exact ⟨J1,(V2.set J ⟨pa,pn,ph,pe⟩).set J1 ⟨sa,sn,sh,se⟩,by have:=HJ1.out;omega,rfl,by (show _ = _);rw [List.length_set,List.length_set];exact HV2.out,HIN2,HFIN⟩
        case measure => (simp [intOf];have:=HJ1.out;omega)
      ·have d3 : decide ((sn : Int) < (pn : Int)) = false:=decide_eq_false (by omega)
       have d4 : decide (sn < pn) = false:=decide_eq_false hsn
       have HFV : Hid (V2 = sortG (headsR D b (k + 1))):=by have h1:=HIX.out;rw [if_neg hsn] at h1;rw [HRV.out];exact h1
       have HRK : Hid (∀ x : Nat,Rdt w (w9.drewN x) 0 0 V2 (.slice (some ⟨kb,0,none⟩) (n2 + 1) c7) (.slice none 0 0)):=fun x => HRJ.out.below (below_drewN (Below.refl _ _) _)
       clear hsn
       go_upto_region 9 with fail
       go_quiet (fail)
       go_wp2
       go_roundw
       case rel => exact ⟨k + 1,V2,some ⟨kb,0,none⟩,n2 + 1,c7,by omega,by go_num,HFV,HRK.out _⟩
       case measure => (simp [intOf];omega)
     ·have d1 : decide ((0 : Int) < (J : Int)) = false:=decide_eq_false (by omega)
      have d2 : decide (0 < J) = false:=decide_eq_false hJ0
      have HFV : Hid (V2 = sortG (headsR D b (k + 1))):=by (show _ = _);have h1:=HIN.out;rw [show J = 0 from by omega,insG_zero] at h1;rw [HRV.out];exact h1
      have HRK : Hid (∀ x : Nat,Rdt w (w9.drewN x) 0 0 V2 (.slice (some ⟨kb,0,none⟩) (n2 + 1) c7) (.slice none 0 0)):=fun x => HRJ.out.below (below_drewN (Below.refl _ _) _)
      clear hJ0
      go_upto_region 9 with fail
      go_quiet (fail)
      go_wp2
      go_roundw
      case rel => exact ⟨k + 1,V2,some ⟨kb,0,none⟩,n2 + 1,c7,by omega,by go_num,HFV,HRK.out _⟩
      case measure => (simp [intOf];omega)
  ·have hnl : ¬ (k : Int) < (m : Int):=by omega
   obtain ⟨V0,HV0⟩ : ∃ V0,Hid (sortG (headsR D b m) = V0):=⟨_,rfl⟩
   have HVE : Hid (V = V0):=by (show _ = _);rw [HV.out,← HV0.out,show k = m from by omega]
   have HRA0 : Hid (readAllR D b V0 0 [] = (RU,RH,RA)):=by (show _ = _);rw [HV0.out.symm];exact HR.out
   have hVe:=HVE.out
   subst hVe
   have HVOK : Hid (∀ s ∈ V,s.at_ < m ∧ s.en ≤ 16 ∧ s.high ≤ 1099511627776):=fun s hs => by
    rw [← HV0.out] at hs
    have:=headsR_ok D b m s (sortG_mem _ s hs)
    exact ⟨this.1,by omega,this.2.2.2⟩
   have hn16 : n2 ≤ 16:=by have:=HN2.out;have:=HVK.out;omega
   obtain ⟨WE,HWE⟩ : ∃ WE,Hid (WE = w2.alloc (.cells #[] 44)):=⟨_,rfl⟩
   have HXE : Hid (Below w2.heap.size w2 WE):=by (show Below _ _ _);rw [HWE.out];exact below_alloc _ _
   have HRDE : Hid (Rdt w WE 0 0 V (.slice a2 n2 c2) (.slice none 0 0)):=HRD.out.below HXE.out
   have HRCE : Hid (Rcs WE w.heap.size (.slice (some ⟨w2.heap.size,0,none⟩) 0 0) []):=by (show Rcs _ _ _ _);rw [HWE.out];exact ⟨own_lower (own_emptyE w2 _ 2) HRD.out.sz,fun r hr => by cases hr⟩
   go_upto_region 15 with fail
   rw [← HWE.out]
   clear l2 hlt hnl HV HVE HVK HRD HLr HDr HV0
   go_wp2_with fail
   go_loopg [10,11] n2 (fun gk t10 t11 wr => ∃ (i : Nat) (done rest : List Sg) (hi1 : Nat) (L1 : List Rc) (a10 : Option Addr) (n10 c10 : Nat),gk + i = n2 ∧ t10 = .slice a10 n10 c10 ∧ t11 = .int .i64 (i : Int) ∧ Hid (i = done.length ∧ i + rest.length = n2) ∧ hi1 ≤ 1099511627776 ∧ Hid (V.drop i = rest) ∧ Hid (L1.length ≤ 17 * i) ∧ Hid (done ++ (readAllR D b rest hi1 (L1.map plR)).1 = RU ∧ (readAllR D b rest hi1 (L1.map plR)).2 = (RH,RA)) ∧ Hid (Rdt w wr (hi1 : Int) 0 (done ++ rest) (.slice a2 n2 c2) (.slice none 0 0)) ∧ Hid (Rcs wr w.heap.size (.slice a10 n10 c10) L1))
   case atStart => exact ⟨0,[],V,0,[],_,0,0,by omega,rfl,rfl,⟨rfl,by rw [Nat.zero_add];exact HN2.out⟩,by omega,rfl,Nat.le_refl _,by rw [List.map_nil,HRA0.out];exact ⟨rfl,rfl⟩,HRDE,HRCE⟩
   case round =>
    obtain ⟨i,done,rest,hi1,L1,a10,n10,c10,hgk,rfl,rfl,HIL,hhi1,HDR,HL1,HRR,HRi,HCi⟩:=hrel
    obtain ⟨w3,rfl⟩ : ∃ w3,w3 = wr:=⟨wr,rfl⟩
    have t2 : w3.cell? ⟨w.heap.size + 1,2,none⟩ = some (.slice a2 n2 c2):=Blk.cell HRi.out.tb 2 rfl
    by_cases hlt : i < n2
    ·have hlt' : (i : Int) < (n2 : Int):=by omega
     have g0 : (0 : Int) ≤ (i : Int):=by omega
     obtain ⟨s,rest',HRS⟩ : ∃ s r,Hid (rest = s :: r):=by
      cases rest with
      | nil => have:=HIL.out.2;simp at this;omega
      | cons s r => exact ⟨s,r,rfl⟩
     have hrs:=HRS.out
     subst hrs
     have HSV : Hid (s.at_ < m ∧ s.en ≤ 16 ∧ s.high ≤ 1099511627776):=HVOK.out s (List.mem_of_mem_drop (i:=i) (by rw [HDR.out];exact List.mem_cons_self))
     have HLD : Hid (∀ x : Sg,(done ++ x :: rest').getD i zSg = x ∧ i < (done ++ x :: rest').length):=fun x => by
      have h1:=HIL.out.1
      refine ⟨?_,by rw [List.length_append,List.length_cons];omega⟩
      rw [List.getD_eq_getElem?_getD,List.getElem?_append_right (by omega),h1,Nat.sub_self]
      rfl
     have HST : Hid (∀ x y : Sg,(done ++ x :: rest').set i y = done ++ y :: rest'):=fun x y => by
      have h1:=HIL.out.1
      rw [List.set_append_right _ _ (by omega),h1,Nat.sub_self]
      rfl
     obtain ⟨kb,rfl⟩:=HRi.out.used.some_ (by simp)
     obtain ⟨x0,x1,x2,x3⟩:=HRi.out.used.facts (J:=i) (HLD.out s).2 (HLD.out s).1
     have t0 : w3.cell? ⟨w.heap.size + 1,0,none⟩ = some (.int .i64 (hi1 : Int)):=Blk.cell HRi.out.tb 0 rfl
     have f0 : w3.frozen? ⟨w.heap.size + 1,0,none⟩ = false:=Blk.free HRi.out.tb 0
     obtain ⟨at_,num,sh,en⟩:=s
     simp only at x0 x1 x2 x3
     obtain ⟨h0,HH0⟩ : ∃ h0,Hid (max hi1 sh = h0):=⟨_,rfl⟩
     have HH1 : Hid (h0 ≤ 1099511627776):=by (show _ ≤ _);rw [← HH0.out];have:=HSV.out;simp only at this;omega
     have HR4 : Hid (done ++ (⟨at_,num,(readF D (b + 2 + 16 * at_ + 0) 17 h0 en (L1.map plR)).1,(readF D (b + 2 + 16 * at_ + 0) 17 h0 en (L1.map plR)).2.1⟩ :: (readAllR D b rest' (readF D (b + 2 + 16 * at_ + 0) 17 h0 en (L1.map plR)).1 (readF D (b + 2 + 16 * at_ + 0) 17 h0 en (L1.map plR)).2.2).1) = RU ∧ (readAllR D b rest' (readF D (b + 2 + 16 * at_ + 0) 17 h0 en (L1.map plR)).1 (readF D (b + 2 + 16 * at_ + 0) 17 h0 en (L1.map plR)).2.2).2 = (RH,RA)):=by
      (show _ ∧ _)
      have h1:=HRR.out
      rw [readAllR] at h1
      simp only [HH0.out] at h1
      exact h1
     obtain ⟨A,HA⟩ : ∃ A,Hid (b + 2 + 16 * at_ + 0 = A):=⟨_,rfl⟩
     rw [HA.out] at HR4
     obtain ⟨⟨F1,F2,F3⟩,HF⟩ : ∃ F,Hid (readF D A 17 h0 en (L1.map plR) = F):=⟨_,rfl⟩
     rw [HF.out] at HR4
     simp only at HR4
     have HFB : Hid (F1 ≤ 1099511627776 ∧ F2 ≤ 16 ∧ F3.length ≤ 17 * i + 17):=by
      have h1:=readF_ok D A 17 h0 en (L1.map plR) (by have:=HSV.out;simp only at this;omega) HH1.out
      have h2:=readF_len D A 17 h0 en (L1.map plR)
      rw [HF.out] at h1 h2
      simp only [List.length_map] at h1 h2
      have:=HL1.out
      exact ⟨h1.2.1,h1.2.2,by omega⟩
     clear HRR
     obtain ⟨bb,HBB⟩ : ∃ bb,Hid (decide (hi1 < sh) = bb):=⟨_,rfl⟩
     have e1 : decide ((hi1 : Int) < (sh : Int)) = bb:=by
      have h1:=HBB.out
      by_cases h2 : hi1 < sh
      ·rw [decide_eq_true h2] at h1
       rw [← h1]
       exact decide_eq_true (by omega)
      ·rw [decide_eq_false h2] at h1
       rw [← h1]
       exact decide_eq_false (by omega)
     have e2 : decide (hi1 < sh) = bb:=HBB.out
     go_upto_region 18 with fail
     go_quiet (fail)
     obtain ⟨w4,HW4⟩ : ∃ w4,Hid (w4 = w3.drewN nq):=⟨_,rfl⟩
     have HX4 : Hid (Below w3.heap.size w3 w4):=by (show Below _ _ _);rw [HW4.out];exact below_drewN (Below.refl _ _) _
     rw [← HW4.out]
     have HR5 : Hid (Rdt w w4 (hi1 : Int) 0 (done ++ ⟨at_,num,sh,en⟩ :: rest') (.slice (some ⟨kb,0,none⟩) n2 c2) (.slice none 0 0)):=HRi.out.below HX4.out
     have HC5 : Hid (Rcs w4 w.heap.size (.slice a10 n10 c10) L1):=HCi.out.below HX4.out
     clear x0 x1 x2 x3 t0 f0 t2
     go_upto_if 107 with fail
     go_cut [] from 92 to 162 (fun wx => Hid (Rdt w wx (h0 : Int) 0 (done ++ ⟨at_,num,sh,en⟩ :: rest') (.slice (some ⟨kb,0,none⟩) n2 c2) (.slice none 0 0)) ∧ Hid (Rcs wx w.heap.size (.slice a10 n10 c10) L1))
     case first =>
      cases bb with
      | true =>
       have hlt2 : hi1 < sh:=of_decide_eq_true HBB.out
       have HE : Hid (h0 = sh):=by (show _ = _);rw [← HH0.out];omega
       clear hlt2
       obtain ⟨x0,x1,x2,x3⟩:=HR5.out.used.facts (J:=i) (HLD.out _).2 (HLD.out _).1
       simp only at x0 x1 x2 x3
       have t2 : w4.cell? ⟨w.heap.size + 1,2,none⟩ = some (.slice (some ⟨kb,0,none⟩) n2 c2):=Blk.cell HR5.out.tb 2 rfl
       have t0 : w4.cell? ⟨w.heap.size + 1,0,none⟩ = some (.int .i64 (hi1 : Int)):=Blk.cell HR5.out.tb 0 rfl
       have f0 : w4.frozen? ⟨w.heap.size + 1,0,none⟩ = false:=Blk.free HR5.out.tb 0
       go_wp2
       go_meet
       exact ⟨by rw [HE.out];exact HR5.out.setHi _,HC5.out.cellX HR5.out.tb (by decide) (by decide)⟩
      | false =>
       have hlt2 : ¬ hi1 < sh:=of_decide_eq_false HBB.out
       have HE : Hid (h0 = hi1):=by (show _ = _);rw [← HH0.out];omega
       clear hlt2
       go_wp2
       go_meet
       exact ⟨by rw [HE.out];exact HR5.out,HC5.out⟩
     case rest =>
     obtain ⟨HR6,HC6⟩:=hcut
     obtain ⟨w5,rfl⟩ : ∃ w5,w5 = wc:=⟨wc,rfl⟩
     obtain ⟨G,rfl⟩ : ∃ G,G = gk:=⟨gk,rfl⟩
     clear e1 e2 HR5 HC5 HX4 HRi HCi HW4
     go_wp2_with fail
     go_loopg [10,12] 18 (fun gk2 t10 t12 wr => ∃ (on : Bool) (hi2 en2 : Nat) (L2 : List Rc) (xa : Option Addr) (xn xc : Nat),t10 = .slice xa xn xc ∧ t12 = .bool on ∧ Hid (hi2 ≤ 1099511627776 ∧ en2 ≤ 16) ∧ Hid (on = true → 17 < en2 + gk2 ∧ gk2 ≤ 18 ∧ L2.length + gk2 ≤ 17 * i + 18 ∧ readF D A (gk2 - 1) hi2 en2 (L2.map plR) = (F1,F2,F3)) ∧ Hid (on = false → hi2 = F1 ∧ en2 = F2 ∧ L2.map plR = F3) ∧ Hid (Rdt w wr (hi2 : Int) 0 (done ++ ⟨at_,num,sh,en2⟩ :: rest') (.slice (some ⟨kb,0,none⟩) n2 c2) (.slice none 0 0)) ∧ Hid (Rcs wr w.heap.size (.slice xa xn xc) L2))
     case atStart => exact ⟨true,h0,en,L1,a10,n10,c10,rfl,rfl,⟨HH1.out,HSV.out.2.1⟩,fun _ => ⟨by omega,by omega,by have:=HL1.out;omega,HF.out⟩,(fun h => by cases h),HR6,HC6⟩
     case round =>
      obtain ⟨on,hi2,en2,L2,xa,xn,xc,rfl,rfl,HB2,HON,HOF,HR7,HC7⟩:=hrel
      obtain ⟨w6,rfl⟩ : ∃ w6,w6 = wr:=⟨wr,rfl⟩
      obtain ⟨x0,x1,x2,x3⟩:=HR7.out.used.facts (J:=i) (HLD.out _).2 (HLD.out _).1
      simp only at x0 x1 x2 x3
      have t2 : w6.cell? ⟨w.heap.size + 1,2,none⟩ = some (.slice (some ⟨kb,0,none⟩) n2 c2):=Blk.cell HR7.out.tb 2 rfl
      cases on with
      | false =>
       obtain ⟨rfl,rfl,o3⟩:=HOF.out rfl
       have HO3 : Hid (L2.map plR = F3):=o3
       have t0 : w6.cell? ⟨w.heap.size + 1,0,none⟩ = some (.int .i64 (hi2 : Int)):=Blk.cell HR7.out.tb 0 rfl
       have f3 : w6.frozen? ⟨kb,i * 4 + 3,none⟩ = false:=(HR7.out.used.freeg _).1
       have hu:=HR7.out.used.setHigh (HLD.out ⟨at_,num,sh,en2⟩).2 hi2
       rw [(HLD.out ⟨at_,num,sh,en2⟩).1,HST.out] at hu
       have HR8 : Hid (Rdt w (w6.setCell ⟨kb,i * 4 + 3,none⟩ (.int .i64 (hi2 : Int))) (hi2 : Int) 0 ((done ++ [⟨at_,num,hi2,en2⟩]) ++ rest') (.slice (some ⟨kb,0,none⟩) n2 c2) (.slice none 0 0)):=by (show Rdt _ _ _ _ _ _ _);rw [List.append_assoc];exact HR7.out.row hu
       obtain ⟨curk,hkk⟩:=HR7.out.used.blk
       have HC8 : Hid (Rcs (w6.setCell ⟨kb,i * 4 + 3,none⟩ (.int .i64 (hi2 : Int))) w.heap.size (.slice xa xn xc) L2):=HC7.out.cellX hkk (by decide) (by decide)
       have HRN : Hid ((done ++ [⟨at_,num,hi2,en2⟩]) ++ (readAllR D b rest' hi2 (L2.map plR)).1 = RU ∧ (readAllR D b rest' hi2 (L2.map plR)).2 = (RH,RA)):=by
        (show _ ∧ _)
        rw [HO3.out,List.append_assoc]
        exact HR4.out
       have HILN : Hid (i + 1 = (done ++ [(⟨at_,num,hi2,en2⟩ : Sg)]).length ∧ i + 1 + rest'.length = n2):=by
        have h1:=HIL.out
        rw [List.length_cons] at h1
        refine ⟨?_,by omega⟩
        rw [List.length_append,List.length_singleton]
        omega
       have HDN : Hid (V.drop (i + 1) = rest'):=by (show _ = _);rw [← List.drop_drop,HDR.out];rfl
       have HLN : Hid (L2.length ≤ 17 * (i + 1)):=by
        (show _ ≤ _)
        have h1:=congrArg List.length HO3.out
        rw [List.length_map] at h1
        have:=HFB.out.2.2
        omega
       clear hu hkk o3 HOF HON
       go_wp2
       go_roundg (G - 1)
       case rel => exact ⟨i + 1,_,rest',hi2,L2,xa,xn,xc,by omega,rfl,by go_num,HILN,HFB.out.1,HDN,HLN,HRN,HR8,HC8⟩
       case measure => omega
      | true =>
       obtain ⟨o1,o2,o3,o4⟩:=HON.out rfl
       obtain ⟨j,rfl⟩ : ∃ j,gk = j + 2:=⟨gk - 2,by have:=HB2.out;omega⟩
       have HON2 : Hid (17 < en2 + (j + 2) ∧ j + 2 ≤ 18 ∧ L2.length + (j + 2) ≤ 17 * i + 18 ∧ readF D A (j + 1) hi2 en2 (L2.map plR) = (F1,F2,F3)):=⟨o1,o2,o3,o4⟩
       have HSK : Hid (∀ w',Below w6.heap.size w6 w' → w'.cell? ⟨w.heap.size + 1,2,none⟩ = some (.slice (some ⟨kb,0,none⟩) n2 c2) ∧ w'.cell? ⟨kb,i * 4,none⟩ = some (.int .i64 (at_ : Int)) ∧ w'.cell? ⟨kb,i * 4 + 2,none⟩ = some (.int .i64 (en2 : Int))):=fun w' hb' => by
        obtain ⟨y0,y1,y2,y3⟩:=(HR7.out.below hb').used.facts (J:=i) (HLD.out _).2 (HLD.out _).1
        exact ⟨Blk.cell (HR7.out.below hb').tb 2 rfl,y0,y2⟩
       have HRCD : Hid (∀ w',Below w6.heap.size w6 w' → Calls Tryz.prog 97 #[.pointer (some ⟨gl,0,none⟩),.int .i64 (at_ : Int),.int .i64 (en2 : Int)] w' fun e w'' => Hid (RecTold w'' w'.heap.size e (recF D A en2)) ∧ Below w'.heap.size w' w''):=fun w' hb' => by
        have h1:=HR7.out.low.trans (hb'.mono HR7.out.sz)
        have:=ref_record w' base r q sv wv SV WV D gl b m ag hi0 rl0 uv0 rv0 at_ en2 (HD.out.stay h1) (HL.out.stay h1) HBP.out.1 (by have:=HSV.out.1;omega) HB2.out.2 (fun j hj => (HRE.out _ (by have:=HSV.out.1;omega)).1)
        rw [show b + 2 + 16 * at_ = A from by have:=HA.out;omega] at this
        exact this
       clear o1 o2 o3 o4 HON HOF x0 x1 x2 x3 t2
       go_upto_region 22 with fail
       go_cut [13,14,15] from 115 to 155 (fun v13 v14 v15 wx => ∃ (qb : Nat) (v : Int) (ya : Option Addr) (yn yc : Nat) (en3 : Int) (ok : Bool),v13 = .pointer (some ⟨qb,0,none⟩) ∧ v14 = .int .i64 en3 ∧ v15 = .bool ok ∧ Hid (Blk wx qb #[.int .i64 v,.slice ya yn yc] 44 ∧ w6.heap.size ≤ qb) ∧ Hid (RecIs wx w6.heap.size (recF D A en2) v ya yn en3 ok) ∧ Hid (Below w6.heap.size w6 wx))
       case first =>
        rename_i hJ hM
        have HD0 : Hid (Below w6.heap.size w6 w6.drew):=(Below.refl _ _).drew
        have HD1 : Hid (Below w6.heap.size w6 (w6.alloc (.cells #[.int .i64 0,.slice none 0 0] 44)).drew):=(below_alloc _ _).drew
        have HDQ : Hid (Blk (w6.alloc (.cells #[.int .i64 0,.slice none 0 0] 44)).drew w6.heap.size #[.int .i64 0,.slice none 0 0] 44):=(Blk.new w6 _ _).stay (Below.refl _ _).drew
        have s0:=HSK.out w6.drew HD0.out
        have s1:=HSK.out (w6.alloc (.cells #[.int .i64 0,.slice none 0 0] 44)).drew HD1.out
        go_region_held3 (fun w' => w'.cell? ⟨w.heap.size + 1,2,none⟩ = some (.slice (some ⟨kb,0,none⟩) n2 c2) ∧ w'.cell? ⟨kb,i * 4,none⟩ = some (.int .i64 (at_ : Int)) ∧ w'.cell? ⟨kb,i * 4 + 2,none⟩ = some (.int .i64 (en2 : Int))) (first | with_reducible exact s0 | with_reducible exact s1 | with_reducible exact sa | with_reducible exact sb | with_reducible exact sz | with_reducible exact sc | fail)
         (first | (go_at_call 97;first
          | (refine (HRCD.out w6.drew HD0.out).mono ?_;rintro e w7 ⟨ht7,hb7⟩;obtain ⟨v,ya,yn,yc,en3,ok,rfl,hri⟩:=ht7.out.uni;have HX7 : Hid (Below w6.heap.size w6 w7):=HD0.out.trans (hb7.mono HD0.out.size);have HRI : Hid (RecIs w7 w6.heap.size (recF D A en2) v ya yn en3 ok):=hri.stay (fun _ _ _ h => h) HD0.out.size;have sa:=HSK.out w7 HX7.out;have sb:=HSK.out (w7.alloc (.cells #[.int .i64 v,.slice ya yn yc] 44)) (HX7.out.trans ((below_alloc _ _).mono HX7.out.size));have sz:=HSK.out (w7.alloc (.cells #[.int .i64 0,.slice none 0 0] 44)) (HX7.out.trans ((below_alloc _ _).mono HX7.out.size));clear ht7 hb7 hri)
          | (refine (HRCD.out (w6.alloc (.cells #[.int .i64 0,.slice none 0 0] 44)).drew HD1.out).mono ?_;rintro e w7 ⟨ht7,hb7⟩;obtain ⟨v,ya,yn,yc,en3,ok,rfl,hri⟩:=ht7.out.uni;have HX7 : Hid (Below w6.heap.size w6 w7):=HD1.out.trans (hb7.mono HD1.out.size);have HQ7 : Hid (Blk w7 w6.heap.size #[.int .i64 0,.slice none 0 0] 44):=HDQ.out.stay hb7;have HRI : Hid (RecIs w7 w6.heap.size (recF D A en2) v ya yn en3 ok):=hri.stay (fun _ _ _ h => h) HD1.out.size;have sa:=HSK.out w7 HX7.out;have k0 : w7.cell? ⟨w6.heap.size,0,none⟩ = some (.int .i64 0):=HQ7.out.cell 0 rfl;have k1 : w7.cell? ⟨w6.heap.size,1,none⟩ = some (.slice none 0 0):=HQ7.out.cell 1 rfl;have g0:=HQ7.out.free 0;have g1:=HQ7.out.free 1;have sc:=HSK.out ((w7.setCell ⟨w6.heap.size,0,none⟩ (.int .i64 v)).setCell ⟨w6.heap.size,1,none⟩ (.slice ya yn yc)) ((HX7.out.setCell (Nat.le_refl _) _).setCell (Nat.le_refl _) _);clear ht7 hb7 hri)))
        all_goals
         (try clear s0;try clear s1;try clear sa;try clear sb;try clear sc;try clear sz;try clear k0;try clear k1;try clear g0;try clear g1)
         refine hM _ _ ?_
         go_meet
         first
          | (refine ⟨w7.heap.size,v,ya,yn,yc,en3,ok,rfl,rfl,rfl,⟨?_,HX7.out.size⟩,?_,?_⟩;(with_reducible exact Blk.new w7 _ _);(exact HRI.out.stay (fun k cs fr hk => by rw [(below_alloc w7 _).block k (heap_lt hk)];exact hk) (Nat.le_refl _));(exact HX7.out.trans ((below_alloc w7 _).mono HX7.out.size)))
          | (refine ⟨w6.heap.size,v,ya,yn,yc,en3,ok,rfl,rfl,rfl,⟨(HQ7.out.set 0 _).set 1 _,Nat.le_refl _⟩,HRI.out.stay (set2_keep HQ7.out 0 1 _ _) (Nat.le_refl _),(HX7.out.setCell (Nat.le_refl _) _).setCell (Nat.le_refl _) _⟩)
       case rest =>
       obtain ⟨qb,v,ya,yn,yc,en3,ok,rfl,rfl,rfl,HQ,HRI,HXC⟩:=hcut
       obtain ⟨w7,rfl⟩ : ∃ w7,w7 = wc:=⟨wc,rfl⟩
       have HR8 : Hid (Rdt w w7 (hi2 : Int) 0 (done ++ ⟨at_,num,sh,en2⟩ :: rest') (.slice (some ⟨kb,0,none⟩) n2 c2) (.slice none 0 0)):=HR7.out.below HXC.out
       have HC8 : Hid (Rcs w7 w.heap.size (.slice xa xn xc) L2):=HC7.out.below HXC.out
       have HL2 : Hid (L2.length = xn):=by obtain ⟨a',c',e⟩:=HC8.out.val;cases e;rfl
       have t0 : w7.cell? ⟨w.heap.size + 1,0,none⟩ = some (.int .i64 (hi2 : Int)):=Blk.cell HR8.out.tb 0 rfl
       have y0 : w7.cell? ⟨qb,0,none⟩ = some (.int .i64 v):=HQ.out.1.cell 0 rfl
       have hnx:=RecIs.next (hi:=hi2) HRI.out
       rcases hnx with ⟨hok,hgt,vn,bs,e3,hv,he,hnf,hbd⟩ | ⟨hno,hnf⟩
       ·subst hok
        subst hv
        subst he
        have HNG : Hid (en2 < e3 ∧ e3 ≤ 16 ∧ hi2 < vn ∧ vn ≤ 1099511627776):=next_gt D A en2 hi2 vn e3 bs HB2.out.2 hnf
        have d1 : decide ((hi2 : Int) < (vn : Int)) = true:=decide_eq_true hgt
        have d2 : decide (hi2 < vn) = true:=decide_eq_true (by omega)
        have d3 : (hi2 : Int) < (vn : Int):=hgt
        have HRF : Hid (readF D A j vn e3 (L2.map plR ++ [(vn,bs)]) = (F1,F2,F3)):=by (show _ = _);have h1:=HON2.out.2.2.2;rw [readF_next,hnf] at h1;exact h1
        have HBD : Hid (Bd w7 w.heap.size ya yn bs):=hbd.lower HR7.out.sz
        have HRGQ : Hid (w7.rangeAt qb 0 [.int .i64 (vn : Int),.slice ya yn yc]):=fun jj u hj => by rw [Nat.zero_add];exact HQ.out.1.cell jj (by simpa using hj)
        have HX5 : Hid (Blk (w7.alloc (.cells #[.int .i64 (vn : Int),.slice ya yn yc] 44)) w7.heap.size (rcc ⟨vn,ya,yn,yc,bs⟩).toArray 44):=Blk.new _ _ _
        have HB5 : Hid (Below w7.heap.size w7 (w7.alloc (.cells #[.int .i64 (vn : Int),.slice ya yn yc] 44))):=below_alloc _ _
        have HLL : Hid (L2.length ≤ 1000000):=by have:=HON2.out;(show _ ≤ _);omega
        have HQB : Hid (w6.heap.size ≤ qb):=HQ.out.2
        have HQX : Hid (Blk w7 qb #[.int .i64 (vn : Int),.slice ya yn yc] 44):=HQ.out.1
        clear hgt hnf hbd HQ HRI
        go_wp2_with (first | (guard_target =~ wpList _ _ _ (Oper.mk (some 144) _ _ _ _ _ :: _) _ _;refine wpList_load_mid rfl 44 (.tmp 13) rfl qb 0 rfl [.int .i64 (vn : Int),.slice ya yn yc] _ HRGQ.out Tryz.underlying44 rfl (by rfl) ?_) | (guard_target =~ wpList _ _ _ (Oper.mk (some 146) _ _ _ _ _ :: _) _ _;refine wpList_append_rcA rfl (.tmp 143) (.tmp 145) rfl w.heap.size _ L2 rfl (HC8.out.below HB5.out) w7.heap.size 1 ⟨vn,ya,yn,yc,bs⟩ rfl HX5.out (HBD.out.kt (Kt.of_below HB5.out)) HLL.out (Nat.le_trans HR8.out.sz HB5.out.size) ?_;intro v9 w9 hs9 hg9 hk9 ho9;revert hs9 hg9 hk9 ho9))
        intro hs9 hg9 hk9 ho9
        have HR9 : Hid (Rdt w w9 (hi2 : Int) 0 (done ++ ⟨at_,num,sh,en2⟩ :: rest') (.slice (some ⟨kb,0,none⟩) n2 c2) (.slice none 0 0)):=(HR8.out.below HB5.out).recs (HC8.out.below HB5.out) (Nat.le_refl _) hg9
        have HQ9 : Hid (Blk w9 qb #[.int .i64 (vn : Int),.slice ya yn yc] 44):=(HQX.out.stay HB5.out).grown hg9 (fun e => by have h1:=(HC7.out.row.lt qb e.symm).2;have:=HQB.out;omega)
        obtain ⟨a9,c9,hv9⟩:=hs9.val
        rw [List.length_append,HL2.out] at hv9
        simp only [List.length_cons,List.length_nil,Nat.zero_add] at hv9
        subst hv9
        have HC9 : Hid (Rcs w9 w.heap.size (.slice a9 (xn + 1) c9) (L2 ++ [⟨vn,ya,yn,yc,bs⟩])):=hs9
        clear hs9 hg9 hk9 ho9 y0 t0
        have y0 : w9.cell? ⟨qb,0,none⟩ = some (.int .i64 (vn : Int)):=HQ9.out.cell 0 rfl
        have t0 : w9.cell? ⟨w.heap.size + 1,0,none⟩ = some (.int .i64 (hi2 : Int)):=Blk.cell HR9.out.tb 0 rfl
        have f0 : w9.frozen? ⟨w.heap.size + 1,0,none⟩ = false:=Blk.free HR9.out.tb 0
        obtain ⟨WX,HWX⟩ : ∃ WX,Hid (WX = w9.setCell ⟨w.heap.size + 1,0,none⟩ (.int .i64 (vn : Int))):=⟨_,rfl⟩
        have HRX : Hid (Rdt w WX (vn : Int) 0 (done ++ ⟨at_,num,sh,en2⟩ :: rest') (.slice (some ⟨kb,0,none⟩) n2 c2) (.slice none 0 0)):=by (show Rdt _ _ _ _ _ _ _);rw [HWX.out];exact HR9.out.setHi _
        have HCX : Hid (Rcs WX w.heap.size (.slice a9 (xn + 1) c9) (L2 ++ [⟨vn,ya,yn,yc,bs⟩])):=by (show Rcs _ _ _ _);rw [HWX.out];exact HC9.out.cellX HR9.out.tb (by decide) (by decide)
        go_upto_region 27 with fail
        rw [← HWX.out]
        clear y0 t0 f0
        have t2 : WX.cell? ⟨w.heap.size + 1,2,none⟩ = some (.slice (some ⟨kb,0,none⟩) n2 c2):=Blk.cell HRX.out.tb 2 rfl
        obtain ⟨x0,x1,x2,x3⟩:=HRX.out.used.facts (J:=i) (HLD.out _).2 (HLD.out _).1
        simp only at x0 x1 x2 x3
        have f2 : WX.frozen? ⟨kb,i * 4 + 2,none⟩ = false:=(HRX.out.used.freeg _).1
        have hu:=HRX.out.used.setEn (HLD.out ⟨at_,num,sh,en2⟩).2 e3
        rw [(HLD.out ⟨at_,num,sh,en2⟩).1,HST.out] at hu
        have HRY : Hid (Rdt w (WX.setCell ⟨kb,i * 4 + 2,none⟩ (.int .i64 (e3 : Int))) (vn : Int) 0 (done ++ ⟨at_,num,sh,e3⟩ :: rest') (.slice (some ⟨kb,0,none⟩) n2 c2) (.slice none 0 0)):=HRX.out.row hu
        obtain ⟨curk,hkk⟩:=HRX.out.used.blk
        have HCY : Hid (Rcs (WX.setCell ⟨kb,i * 4 + 2,none⟩ (.int .i64 (e3 : Int))) w.heap.size (.slice a9 (xn + 1) c9) (L2 ++ [⟨vn,ya,yn,yc,bs⟩])):=HCX.out.cellX hkk (by decide) (by decide)
        have HBN : Hid (vn ≤ 1099511627776 ∧ e3 ≤ 16):=⟨HNG.out.2.2.2,HNG.out.2.1⟩
        have HONN : Hid (true = true → 17 < e3 + (j + 1) ∧ j + 1 ≤ 18 ∧ (L2 ++ [(⟨vn,ya,yn,yc,bs⟩ : Rc)]).length + (j + 1) ≤ 17 * i + 18 ∧ readF D A (j + 1 - 1) vn e3 ((L2 ++ [(⟨vn,ya,yn,yc,bs⟩ : Rc)]).map plR) = (F1,F2,F3)):=fun _ => by
         have h1:=HON2.out
         have h2:=HNG.out
         refine ⟨by omega,by omega,by rw [List.length_append,List.length_singleton];omega,?_⟩
         rw [List.map_append,Nat.add_sub_cancel]
         exact HRF.out
        clear hu hkk
        go_wp2
        go_roundg (j + 1)
        case rel => exact ⟨true,vn,e3,_,a9,xn + 1,c9,rfl,rfl,HBN,(fun _ => HONN.out trivial),(fun h => by cases h),HRY,HCY⟩
        case measure => omega
       ·have HFN : Hid (false = false → hi2 = F1 ∧ en2 = F2 ∧ L2.map plR = F3):=fun _ => by have h1:=HON2.out.2.2.2;rw [readF_next,hnf] at h1;cases h1;exact ⟨rfl,rfl,rfl⟩
        clear hnf
        rcases hno with hok | ⟨hok,hle⟩
        ·subst hok
         go_wp2
         go_roundg (j + 1)
         case rel => exact ⟨false,hi2,en2,L2,xa,xn,xc,rfl,rfl,HB2,(fun h => by cases h),(fun _ => HFN.out trivial),HR8,HC8⟩
         case measure => omega
        ·subst hok
         have d1 : decide ((hi2 : Int) < v) = false:=decide_eq_false hle
         go_wp2
         go_roundg (j + 1)
         case rel => exact ⟨false,hi2,en2,L2,xa,xn,xc,rfl,rfl,HB2,(fun h => by cases h),(fun _ => HFN.out trivial),HR8,HC8⟩
         case measure => omega
    ·obtain rfl : i = n2:=by omega
     have hr0 : rest = []:=by have:=HIL.out.2;exact List.eq_nil_of_length_eq_zero (by omega)
     subst hr0
     have HFI : Hid (done = RU ∧ hi1 = RH ∧ L1.map plR = RA):=by
      (show _ ∧ _ ∧ _)
      have h1:=HRR.out
      rw [readAllR] at h1
      simp only [List.append_nil,Prod.mk.injEq] at h1
      exact ⟨h1.1,h1.2.1,h1.2.2⟩
     obtain ⟨hd1,hd2,hd3⟩:=HFI.out
     subst hd1
     subst hd2
     have HL3 : Hid (L1.map plR = RA):=hd3
     have HRi' : Hid (Rdt w w3 (hi1 : Int) 0 done (.slice a2 i c2) (.slice none 0 0)):=by have h1:=HRi.out;rw [List.append_nil] at h1;exact h1
     have HN10 : Hid (L1.length = n10):=by obtain ⟨a',c',e⟩:=HCi.out.val;cases e;rfl
     have hl10 : n10 ≤ 1000:=by have:=HN10.out;have:=HL1.out;omega
     clear hd3 HFI HRR HDR HIL HRi hlt hgk HL1
     have hnl : ¬ (i : Int) < (i : Int):=by omega
     have HDr : Hid (Rk w3 base r q sv wv SV WV D):=HD.out.stay HRi'.out.low
     have HLr : Hid (Lr w3 gl r b m ag hi0 rl0 uv0 rv0):=HL.out.stay HRi'.out.low
     go_upto_region 29 with fail
     clear t2
     have s0 : w3.cell? ⟨gl,0,none⟩ = some (.pointer (some ⟨r,0,none⟩)) ∧ w3.cell? ⟨gl,1,none⟩ = some (.int .i64 (b : Int)):=⟨Blk.cell HLr.out 0 rfl,Blk.cell HLr.out 1 rfl⟩
     have HXD : Hid (Below w3.heap.size w3 w3.drew):=(Below.refl _ _).drew
     have HOP:=ref_Open10 w3.drew base r q sv wv SV WV D b 1 (HDr.out.stay HXD.out) (by omega) HBP.out.1 (by have:=HBP.out;omega)
     go_region_held3 (fun w' => w'.cell? ⟨gl,0,none⟩ = some (.pointer (some ⟨r,0,none⟩)) ∧ w'.cell? ⟨gl,1,none⟩ = some (.int .i64 (b : Int))) (first | exact s0 | exact s3 | fail)
      (first
       | (go_at_call 65;refine HOP.mono ?_;rintro e w4 ⟨rfl,hc4,hb4⟩;have HX4 : Hid (Below w3.heap.size w3 w4):=HXD.out.trans (hb4.mono HXD.out.size);have HC4 : Hid (Cr w4 w3.drew.heap.size r b 1):=hc4;have HL4 : Hid (Lr w4 gl r b m ag hi0 rl0 uv0 rv0):=HLr.out.stay HX4.out;have s3 : w4.cell? ⟨gl,0,none⟩ = some (.pointer (some ⟨r,0,none⟩)) ∧ w4.cell? ⟨gl,1,none⟩ = some (.int .i64 (b : Int)):=⟨Blk.cell HL4.out 0 rfl,Blk.cell HL4.out 1 rfl⟩;clear hc4 hb4))
     clear s0 s3 HOP
     have HGT:=ref_Get w4 base r q sv wv SV WV D w3.drew.heap.size b 1 0 (HDr.out.stay HX4.out) HC4.out HBP.out.1 (by omega)
     rw [HBP.out.2.2.2] at HGT
     go_wp2_with fail
     refine HGT.mono ?_
     rintro e w5 ⟨rfl,hb5⟩
     have HX5 : Hid (Below w3.heap.size w3 w5):=HX4.out.trans (hb5.mono HX4.out.size)
     have HR5 : Hid (Rdt w w5 (hi1 : Int) 0 done (.slice a2 i c2) (.slice none 0 0)):=HRi'.out.below HX5.out
     have HC5 : Hid (Rcs w5 w.heap.size (.slice a10 n10 c10) L1):=HCi.out.below HX5.out
     clear hb5 HGT
     have t1 : w5.cell? ⟨w.heap.size + 1,1,none⟩ = some (.int .i64 0):=Blk.cell HR5.out.tb 1 rfl
     have f1 : w5.frozen? ⟨w.heap.size + 1,1,none⟩ = false:=Blk.free HR5.out.tb 1
     obtain ⟨W6,HW6⟩ : ∃ W6,Hid (W6 = w5.setCell ⟨w.heap.size + 1,1,none⟩ (.int .i64 (rr : Int))):=⟨_,rfl⟩
     have HR6 : Hid (Rdt w W6 (hi1 : Int) (rr : Int) done (.slice a2 i c2) (.slice none 0 0)):=by (show Rdt _ _ _ _ _ _ _);rw [HW6.out];exact HR5.out.setRel _
     have HC6 : Hid (Rcs W6 w.heap.size (.slice a10 n10 c10) L1):=by (show Rcs _ _ _ _);rw [HW6.out];exact HC5.out.cellX HR5.out.tb (by decide) (by decide)
     go_upto_region 31 with fail
     rw [← HW6.out]
     clear t1 f1
     have t0 : W6.cell? ⟨w.heap.size + 1,0,none⟩ = some (.int .i64 (hi1 : Int)):=Blk.cell HR6.out.tb 0 rfl
     have t1 : W6.cell? ⟨w.heap.size + 1,1,none⟩ = some (.int .i64 (rr : Int)):=Blk.cell HR6.out.tb 1 rfl
     have f0 : W6.frozen? ⟨w.heap.size + 1,0,none⟩ = false:=Blk.free HR6.out.tb 0
     obtain ⟨HM,HHM⟩ : ∃ x,Hid (max hi1 rr = x):=⟨_,rfl⟩
     go_upto_if 185 with fail
     go_cut [] from 181 to 188 (fun wx => Hid (Rdt w wx (HM : Int) (rr : Int) done (.slice a2 i c2) (.slice none 0 0)) ∧ Hid (Rcs wx w.heap.size (.slice a10 n10 c10) L1))
     case first =>
      by_cases hgt : hi1 < rr
      ·have d1 : decide ((hi1 : Int) < (rr : Int)) = true:=decide_eq_true (by omega)
       have d2 : (hi1 : Int) < (rr : Int):=by omega
       have d3 : decide (hi1 < rr) = true:=decide_eq_true hgt
       have HE : Hid (HM = rr):=by (show _ = _);rw [← HHM.out];omega
       clear hgt
       go_wp2
       go_meet
       exact ⟨by rw [HE.out];exact HR6.out.setHi _,HC6.out.cellX HR6.out.tb (by decide) (by decide)⟩
      ·have d1 : decide ((hi1 : Int) < (rr : Int)) = false:=decide_eq_false (by omega)
       have d2 : ¬ (hi1 : Int) < (rr : Int):=by omega
       have d3 : decide (hi1 < rr) = false:=decide_eq_false hgt
       have HE : Hid (HM = hi1):=by (show _ = _);rw [← HHM.out];omega
       clear hgt
       go_wp2
       go_meet
       exact ⟨by rw [HE.out];exact HR6.out,HC6.out⟩
     case rest =>
     obtain ⟨HR7,HC7⟩:=hcut
     obtain ⟨w7,rfl⟩ : ∃ w7,w7 = wc:=⟨wc,rfl⟩
     have HLT : Hid (∀ k,(Value.slice a10 n10 c10).ownBlock = some k → k < w7.heap.size):=fun k hk => (HC7.out.row.lt k hk).2
     clear t0 t1 f0 HR6 HC6
     go_wp2_with fail
     go_loopw [18] (fun t18 wr => ∃ (k : Nat) (L2 : List Rc) (ax : Option Addr) (nx cx : Nat),k ≤ n10 ∧ t18 = .int .i64 (k : Int) ∧ Hid (L2.map plR = keepP rr ((L1.take k).map plR)) ∧ Hid (L2.length ≤ k) ∧ Hid (Rdt w wr (HM : Int) (rr : Int) done (.slice a2 i c2) (.slice ax nx cx)) ∧ Hid (Rcs wr w.heap.size (.slice ax nx cx) L2) ∧ Hid (Rcs wr w.heap.size (.slice a10 n10 c10) L1) ∧ Hid (NewOwn w7 (.slice ax nx cx)) ∧ Hid (w7.heap.size ≤ wr.heap.size)) (fun t18 _ => 1001 - (intOf t18).toNat)
     case atStart => exact ⟨0,[],none,0,0,Nat.zero_le _,rfl,rfl,Nat.le_refl _,HR7,⟨World.ownsRow_nil _ _ _ _,fun r hr => by cases hr⟩,HC7,(fun k hk => by cases hk),Nat.le_refl _⟩
     case round =>
      obtain ⟨k,L2,ax,nx,cx,hk1,rfl,HKE,HKL,HRk,HCk,HAk,HNk,HSk⟩:=hrel
      obtain ⟨w8,rfl⟩ : ∃ w8,w8 = wr:=⟨wr,rfl⟩
      by_cases hlt : k < n10
      ·have hlt' : (k : Int) < (n10 : Int):=by omega
       have g0 : (0 : Int) ≤ (k : Int):=by omega
       obtain ⟨x,hx⟩ : ∃ x,L1[k]? = some x:=⟨_,List.getElem?_eq_getElem (by have:=HN10.out;omega)⟩
       obtain ⟨gr,c',hv',hgr,hrg⟩:=HAk.out.at_ hx
       have ha : a10 = some ⟨gr,0,none⟩:=by simp only [Value.slice.injEq] at hv';exact hv'.1
       subst ha
       have HBD : Hid (Bd w8 w.heap.size x.a x.n x.bs):=HAk.out.bd x (List.mem_of_getElem? hx)
       have HTK : Hid ((L1.take (k + 1)).map plR = (L1.take k).map plR ++ [(x.tick,x.bs)]):=by (show _ = _);rw [List.take_add_one,hx,List.map_append];rfl
       obtain ⟨tk,xa,xn,xc,xbs⟩:=x
       have HRG : Hid (∀ w',Below w8.heap.size w8 w' → w'.cell? ⟨gr,k * 2,none⟩ = some (.int .i64 (tk : Int)) ∧ w'.cell? ⟨gr,k * 2 + 1,none⟩ = some (.slice xa xn xc) ∧ w'.cell? ⟨w.heap.size + 1,1,none⟩ = some (.int .i64 (rr : Int)) ∧ w'.cell? ⟨w.heap.size + 1,3,none⟩ = some (.slice ax nx cx)):=fun w' hb' => by
        obtain ⟨gr2,c2',hv2,_,hrg2⟩:=(HAk.out.below hb').at_ hx
        have hg2 : gr2 = gr:=by simp only [Value.slice.injEq,Option.some.injEq,Addr.mk.injEq,and_true] at hv2;exact hv2.1.symm
        subst hg2
        exact ⟨by have:=hrg2 0 _ rfl;rwa [Nat.add_zero] at this,hrg2 1 _ rfl,Blk.cell (HRk.out.below hb').tb 1 rfl,Blk.cell (HRk.out.below hb').tb 3 rfl⟩
       clear hx hv' hgr hrg
       simp only at HBD HTK
       by_cases hth : rr < tk
       ·have e1 : decide ((rr : Int) < (tk : Int)) = true:=decide_eq_true (by omega)
        have e2 : decide (rr < tk) = true:=decide_eq_true hth
        have HMN : Hid ((L2 ++ [(⟨tk,xa,xn,xc,xbs⟩ : Rc)]).map plR = keepP rr ((L1.take (k + 1)).map plR)):=by (show _ = _);rw [HTK.out,keepP_snoc,if_pos hth,List.map_append,HKE.out];rfl
        obtain ⟨x0,x1,t1,t3⟩:=HRG.out w8 (Below.refl _ _)
        clear hth
        go_upto_region 36 with fail
        go_quiet (fail)
        obtain ⟨w9,HW9⟩ : ∃ w9,Hid (w9 = w8.drewN nq):=⟨_,rfl⟩
        have HX9 : Hid (Below w8.heap.size w8 w9):=by (show Below _ _ _);rw [HW9.out];exact below_drewN (Below.refl _ _) _
        rw [← HW9.out]
        clear x0 x1 t1 t3
        obtain ⟨x0,x1,t1,t3⟩:=HRG.out w9 HX9.out
        obtain ⟨WB,HWB⟩ : ∃ WB,Hid (WB = (w9.alloc (.cells #[.int .i64 (tk : Int),.slice xa xn xc] 44)).drew):=⟨_,rfl⟩
        have HXB : Hid (Below w9.heap.size w9 WB):=by (show Below _ _ _);rw [HWB.out];exact (below_alloc _ _).drew
        have HX8B : Hid (Below w8.heap.size w8 WB):=HX9.out.trans (HXB.out.mono HX9.out.size)
        obtain ⟨_,_,_,t3b⟩:=HRG.out WB HX8B.out
        obtain ⟨_,_,_,t3c⟩:=HRG.out (w9.alloc (.cells #[.int .i64 (tk : Int),.slice xa xn xc] 44)) (HX9.out.trans ((below_alloc _ _).mono HX9.out.size))
        have HKB : Hid (Blk WB w9.heap.size #[.int .i64 (tk : Int),.slice xa xn xc] 44):=by (show Blk _ _ _ _);rw [HWB.out];exact (Blk.new w9 _ _).stay (Below.refl _ _).drew
        have HCB : Hid (Rcs WB w.heap.size (.slice ax nx cx) L2):=HCk.out.below HX8B.out
        have HAB : Hid (Rcs WB w.heap.size (.slice (some ⟨gr,0,none⟩) n10 c10) L1):=HAk.out.below HX8B.out
        have HRB : Hid (Rdt w WB (HM : Int) (rr : Int) done (.slice a2 i c2) (.slice ax nx cx)):=HRk.out.below HX8B.out
        have HDB : Hid (Bd WB w.heap.size xa xn xbs):=HBD.out.kt (Kt.of_below HX8B.out)
        have HNX : Hid (L2.length = nx):=by obtain ⟨a',c',e⟩:=HCk.out.val;cases e;rfl
        have HLX : Hid (L2.length ≤ 1000000):=by have:=HKL.out;(show _ ≤ _);omega
        go_upto_region 37 with fail
        go_region_law (first
         | (guard_target =~ (if Region.wanted (Oper.mk (some 210) _ _ _ _ _) _ = true then _ else _);refine step_append_rcA rfl (.tmp 204) (.tmp 209) rfl w.heap.size _ L2 rfl (by rw [← HWB.out];exact HCB.out) w9.heap.size 1 ⟨tk,xa,xn,xc,xbs⟩ rfl (by rw [← HWB.out];exact HKB.out) (by rw [← HWB.out];exact HDB.out) HLX.out (by rw [← HWB.out];exact HRB.out.sz) ?_;rw [← HWB.out];intro vG wG hrG hgG hkG hoG;have HRG2 : Hid (Rdt w wG (HM : Int) (rr : Int) done (.slice a2 i c2) (.slice ax nx cx)):=HRB.out.recs HCB.out (Nat.le_refl _) hgG;have d8 : wG.cell? ⟨w.heap.size + 1,3,none⟩ = some (.slice ax nx cx):=Blk.cell HRG2.out.tb 3 rfl;have f8 : wG.frozen? ⟨w.heap.size + 1,3,none⟩ = false:=Blk.free HRG2.out.tb 3;have HAG : Hid (Rcs wG w.heap.size (.slice (some ⟨gr,0,none⟩) n10 c10) L1):=HAB.out.besideR hgG hkG (fun kk h1 h2 => by have h3:=HLT.out kk h1;have h4:=HNk.out kk h2;omega);have HNG : Hid (NewOwn w7 vG):=HNk.out.oon (Nat.le_trans HSk.out HX8B.out.size) hoG;have HSG : Hid (w7.heap.size ≤ wG.heap.size):=Nat.le_trans HSk.out (Nat.le_trans HX8B.out.size hgG.size);have HRF2 : Hid (Rdt w (wG.setCell ⟨w.heap.size + 1,3,none⟩ vG) (HM : Int) (rr : Int) done (.slice a2 i c2) vG):=HRG2.out.setRecs _;have HCF2 : Hid (Rcs (wG.setCell ⟨w.heap.size + 1,3,none⟩ vG) w.heap.size vG (L2 ++ [⟨tk,xa,xn,xc,xbs⟩])):=hrG.cellX HRG2.out.tb (by decide) (by decide);have HAF2 : Hid (Rcs (wG.setCell ⟨w.heap.size + 1,3,none⟩ vG) w.heap.size (.slice (some ⟨gr,0,none⟩) n10 c10) L1):=HAG.out.cellX HRG2.out.tb (by decide) (by decide);have HSF2 : Hid (w7.heap.size ≤ (wG.setCell ⟨w.heap.size + 1,3,none⟩ vG).heap.size):=(by rw [World.size_setCell];exact HSG.out);obtain ⟨aG,cG,hvG⟩:=hrG.val;rw [List.length_append] at hvG;simp only [List.length_cons,List.length_nil,Nat.zero_add,HNX.out] at hvG;subst hvG;clear hrG hgG hkG hoG))
        all_goals
         clear x0 x1 t1 t3 t3b t3c d8 f8
         have HLN : Hid ((L2 ++ [(⟨tk,xa,xn,xc,xbs⟩ : Rc)]).length ≤ k + 1):=by (show _ ≤ _);rw [List.length_append,List.length_singleton];have:=HKL.out;omega
         go_wp2
         go_roundw
         case rel => exact ⟨k + 1,_,aG,nx + 1,cG,by omega,by go_num,HMN,HLN,HRF2,HCF2,HAF2,HNG,HSF2⟩
         case measure => simp [intOf];omega
       ·have e1 : decide ((rr : Int) < (tk : Int)) = false:=decide_eq_false (by omega)
        have e2 : decide (rr < tk) = false:=decide_eq_false hth
        have HMN : Hid (L2.map plR = keepP rr ((L1.take (k + 1)).map plR)):=by (show _ = _);rw [HTK.out,keepP_snoc,if_neg hth,List.append_nil,HKE.out]
        obtain ⟨x0,x1,t1,t3⟩:=HRG.out w8 (Below.refl _ _)
        have HXN : Hid (∀ nn : Nat,Below w8.heap.size w8 (w8.drewN nn)):=fun nn => below_drewN (Below.refl _ _) _
        clear hth
        go_upto_region 36 with fail
        go_quiet (fail)
        go_wp2
        go_roundw
        case rel => exact ⟨k + 1,L2,ax,nx,cx,by omega,by go_num,HMN,by have:=HKL.out;(show _ ≤ _);omega,HRk.out.below (HXN.out _),HCk.out.below (HXN.out _),HAk.out.below (HXN.out _),HNk,Nat.le_trans HSk.out (HXN.out _).size⟩
        case measure => simp [intOf];omega
      ·have hlt' : ¬ (k : Int) < (n10 : Int):=by omega
       have HMN : Hid (L2.map plR = keepP rr RA):=by (show _ = _);rw [HKE.out,List.take_of_length_le (by have:=HN10.out;omega),HL3.out]
       have HRG : Hid (w8.rangeAt (w.heap.size + 1) 0 [.int .i64 (HM : Int),.int .i64 (rr : Int),.slice a2 i c2,.slice ax nx cx]):=fun jj u hj => by rw [Nat.zero_add];exact Blk.cell HRk.out.tb jj (by simpa using hj)
       have r0 : w8.cell? ⟨w.heap.size,0,none⟩ = some (.int .i64 0):=Blk.cell HRk.out.rb 0 rfl
       have r1 : w8.cell? ⟨w.heap.size,1,none⟩ = some (.int .i64 0):=Blk.cell HRk.out.rb 1 rfl
       have r2 : w8.cell? ⟨w.heap.size,2,none⟩ = some (.slice none 0 0):=Blk.cell HRk.out.rb 2 rfl
       have r3 : w8.cell? ⟨w.heap.size,3,none⟩ = some (.slice none 0 0):=Blk.cell HRk.out.rb 3 rfl
       have g0:=Blk.free HRk.out.rb 0
       have g1:=Blk.free HRk.out.rb 1
       have g2:=Blk.free HRk.out.rb 2
       have g3:=Blk.free HRk.out.rb 3
       go_wp2_with (guard_target =~ wpList _ _ _ (Oper.mk (some 212) _ _ _ _ _ :: _) _ _;refine wpList_load_mid rfl 58 (.tmp 3) rfl (w.heap.size + 1) 0 rfl [.int .i64 (HM : Int),.int .i64 (rr : Int),.slice a2 i c2,.slice ax nx cx] _ HRG.out Tryz.underlying58 rfl (by rfl) ?_)
       refine bodyPost_ret (results_Read11 (cs:=[.int .i64 (HM : Int),.int .i64 (rr : Int),.slice a2 i c2,.slice ax nx cx]) (by rfl) ((((show Blk w8 w.heap.size _ _ from HRk.out.rb).set 0 _).set 1 _ |>.set 2 _).set 3 _) rfl) rfl ?_
       have hb0:=HRk.out.rb
       refine ⟨⟨_,_,L2,by rw [HHM.out],?_,?_,HMN.out⟩,(((HRk.out.low.setCell (Nat.le_refl _) _).setCell (Nat.le_refl _) _).setCell (Nat.le_refl _) _).setCell (Nat.le_refl _) _⟩
       ·exact row_set (row_set (row_set (row_set HRk.out.used (own_ne HRk.out.used hb0 (by decide))) (own_ne HRk.out.used hb0 (by decide))) (own_ne HRk.out.used hb0 (by decide))) (own_ne HRk.out.used hb0 (by decide))
       ·have k1:=Blk.set hb0 0 (.int .i64 (HM : Int))
        have k2:=k1.set 1 (.int .i64 (rr : Int))
        have k3:=k2.set 2 (.slice a2 i c2)
        exact (((HCk.out.cellX hb0 (by decide) (by decide)).cellX k1 (by decide) (by decide)).cellX k2 (by decide) (by decide)).cellX k3 (by decide) (by decide)
end Go.Proofs.YtghajmcohdedlaaGreat
