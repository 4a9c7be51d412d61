import Derived.Test.YtghajmcohdedlaaGreatEvT17
namespace Go.Proofs.YtghajmcohdedlaaGreat
open Go.RowKit
set_option maxRecDepth 100000
def Calm (D : Dk) : Prop:=D.down = false ∧ D.trip = 0
theorem calm_trips {D : Dk} (h : Calm D) : tripsB D = false ∧ Calm (tripsD D):=by
 unfold tripsB tripsD
 refine ⟨?_,?_⟩
 ·rw [h.2];rfl
 ·rw [if_pos h.2]
  exact h
theorem calm_write {D : Dk} (h : Calm D) {i : Nat} {bs : List Nat} (hi : i < D.sure.length) (hl : bs.length ≤ 64) : writeE D (i : Int) bs = 0 ∧ Calm (writeD D (i : Int) bs) ∧ (writeD D (i : Int) bs).sure.length = D.sure.length ∧ (writeD D (i : Int) bs).age = D.age:=by
 have hh : hasB D (i : Int) = true:=(hasB_iff D _).2 ⟨by omega,by omega⟩
 obtain ⟨t1,t2⟩:=calm_trips h
 have g:=(write_grew D (i : Int) bs).sl
 have ga : (tripsD D).age = D.age:=trips_age D
 unfold writeE writeD
 rw [h.1,hh,t1]
 simp only [Bool.false_eq_true,if_false,reduceCtorEq]
 rw [if_neg (by omega),if_neg (by omega)]
 refine ⟨rfl,t2,?_,ga⟩
 unfold writeD at g
 rw [h.1,hh,t1] at g
 simp only [Bool.false_eq_true,if_false,reduceCtorEq] at g
 rw [if_neg (by omega)] at g
 exact g
theorem calm_sync {D : Dk} (h : Calm D) : syncE D = 0 ∧ Calm (syncD D) ∧ (syncD D).sure.length = D.sure.length ∧ (syncD D).age = D.age:=by
 obtain ⟨t1,t2⟩:=calm_trips h
 have g:=(sync_grew D).sl
 have ga : (tripsD D).age = D.age:=trips_age D
 unfold syncE syncD
 rw [h.1,t1]
 simp only [Bool.false_eq_true,if_false]
 refine ⟨trivial,t2,?_,ga⟩
 unfold syncD at g
 rw [h.1,t1] at g
 simpa using g
theorem calm_free (b rel : Nat) : ∀ (V : List Sg) (D : Dk) (n : Nat),Calm D → (∀ s ∈ V,b + 2 + 16 * s.at_ + 0 < D.sure.length) → (freeR b rel V D n).2.2 = 0 ∧ Calm (freeR b rel V D n).1 ∧ (freeR b rel V D n).1.sure.length = D.sure.length ∧ (freeR b rel V D n).1.age = D.age ∧ (freeR b rel V D n).1.waits.length ≤ D.waits.length + V.length ∧ (freeR b rel V D n).2.1 ≤ n + V.length
 | [],D,n,h,_ => ⟨rfl,h,rfl,rfl,Nat.le_refl _,Nat.le_refl _⟩
 | s :: r,D,n,h,hs => by
  rw [freeR]
  by_cases hk : r = [] ∨ rel < s.high
  ·rw [if_pos hk]
   have:=calm_free b rel r D n h (fun x hx => hs x (List.mem_cons_of_mem _ hx))
   simp only [List.length_cons]
   exact ⟨this.1,this.2.1,this.2.2.1,this.2.2.2.1,by omega,by omega⟩
  ·rw [if_neg hk]
   obtain ⟨w1,w2,w3,w4⟩:=@calm_write D h (b + 2 + 16 * s.at_ + 0) [] (hs s List.mem_cons_self) (by simp)
   rw [if_pos w1]
   have:=calm_free b rel r (writeD D ((b + 2 + 16 * s.at_ + 0 : Nat) : Int) []) (n + 1) w2 (fun x hx => by rw [w3];exact hs x (List.mem_cons_of_mem _ hx))
   have h5:=write_wl D ((b + 2 + 16 * s.at_ + 0 : Nat) : Int) []
   simp only [List.length_cons]
   exact ⟨this.1,this.2.1,by rw [this.2.2.1,w3],by rw [this.2.2.2.1,w4],by omega,by omega⟩
theorem calm_wipe : ∀ (cnt : Nat) (D : Dk) (i : Nat) (x : Bool),Calm D → i + cnt ≤ D.sure.length → (wipeL D cnt i x).2.2 = 0 ∧ Calm (wipeL D cnt i x).1 ∧ (wipeL D cnt i x).1.sure.length = D.sure.length ∧ (wipeL D cnt i x).1.age = D.age
 | 0,D,i,x,h,_ => ⟨rfl,h,rfl,rfl⟩
 | cnt + 1,D,i,x,h,hi => by
  rw [wipeL]
  have hr : readE D (i : Int) = 0:=by
   unfold readE
   rw [h.1,if_neg (by simp),if_pos ((hasB_iff D _).2 ⟨by omega,by omega⟩)]
  rw [if_neg (by rw [hr];simp)]
  by_cases hz : nowB D i = List.replicate 64 0
  ·rw [if_pos hz]
   exact calm_wipe cnt D (i + 1) x h (by omega)
  ·rw [if_neg hz]
   obtain ⟨w1,w2,w3,w4⟩:=@calm_write D h i [] (by omega) (by simp)
   rw [if_neg (by rw [w1];simp)]
   have:=calm_wipe cnt (writeD D (i : Int) []) (i + 1) true w2 (by rw [w3];omega)
   exact ⟨this.1,this.2.1,by rw [this.2.2.1,w3],by rw [this.2.2.2,w4]⟩
def openD (b : Nat) (D : Dk) (rr : Nat) (RU : List Sg) : Dk :=
 if RU = [] then D else
  if (wipeL (freeR b rr RU D 0).1 (16 - (lastG RU).en) (b + 2 + 16 * (lastG RU).at_ + (lastG RU).en) false).2.1 = true ∨ 0 < (freeR b rr RU D 0).2.1
  then syncD (wipeL (freeR b rr RU D 0).1 (16 - (lastG RU).en) (b + 2 + 16 * (lastG RU).at_ + (lastG RU).en) false).1
  else (wipeL (freeR b rr RU D 0).1 (16 - (lastG RU).en) (b + 2 + 16 * (lastG RU).at_ + (lastG RU).en) false).1
theorem keepP_keep (t : Nat) (l : List (Nat × List Nat)) : keepP t (keepP t l) = keepP t l:=by unfold keepP;rw [List.filter_filter];simp
theorem openD_calm {b m : Nat} {D : Dk} {rr : Nat} {RU : List Sg} (h : Calm D) (hsz : b + 2 + m * 16 ≤ D.sure.length) (hU : ∀ s ∈ RU,s.at_ < m ∧ s.en ≤ 16) : Calm (openD b D rr RU) ∧ (openD b D rr RU).sure.length = D.sure.length ∧ (openD b D rr RU).age = D.age:=by
 unfold openD
 by_cases h0 : RU = []
 ·rw [if_pos h0];exact ⟨h,rfl,rfl⟩
 ·rw [if_neg h0]
  obtain ⟨f1,f2,f3,f4,_⟩:=calm_free b rr RU D 0 h (fun s hs => by have:=(hU s hs).1;omega)
  have hl:=hU _ (lastG_mem h0)
  obtain ⟨g1,g2,g3,g4⟩:=calm_wipe (16 - (lastG RU).en) (freeR b rr RU D 0).1 (b + 2 + 16 * (lastG RU).at_ + (lastG RU).en) false f2 (by rw [f3];omega)
  split
  ·obtain ⟨s1,s2,s3,s4⟩:=calm_sync g2
   exact ⟨s2,by rw [s3,g3,f3],by rw [s4,g4,f4]⟩
  ·exact ⟨g2,by rw [g3,f3],by rw [g4,f4]⟩
theorem tidyC_is {b m : Nat} {D : Dk} {rr : Nat} {RU : List Sg} (h : Calm D) (hb : b ≤ 1000) (hm : m ≤ 16) (hsz : b + 2 + m * 16 ≤ D.sure.length) (hU : ∀ s ∈ RU,s.at_ < m ∧ s.en ≤ 16) (hl : RU.length ≤ 16) (hw : D.waits.length ≤ 900000000) : TidyC D (RU.map (plc b)) rr (openD b D rr RU) ((keptR rr RU).map (plc b)):=by
 unfold TidyC openD
 by_cases h0 : RU = []
 ·subst h0
  rw [if_pos rfl]
  exact .inl ⟨rfl,rfl,rfl⟩
 ·rw [if_neg h0]
  right
  obtain ⟨f1,f2,f3,f4,f5,f6⟩:=calm_free b rr RU D 0 h (fun s hs => by have:=(hU s hs).1;omega)
  have hlast:=hU _ (lastG_mem h0)
  obtain ⟨g1,g2,g3,g4⟩:=calm_wipe (16 - (lastG RU).en) (freeR b rr RU D 0).1 (b + 2 + 16 * (lastG RU).at_ + (lastG RU).en) false f2 (by rw [f3];omega)
  obtain ⟨i1,i2,i3⟩:=free_is b rr RU D [] 0
  have hk:=free_kept b rr RU D [] (by rw [i2];exact f1)
  rw [List.nil_append] at hk
  have hln:=i3 f1
  rw [hk,List.length_map] at hln
  obtain ⟨l1,l2⟩:=kept_last rr RU
  have hlg : lastG ((keptR rr RU).map (plc b)) = plc b (lastG RU):=by rw [lastG_map _ (l2 h0),l1]
  have hat : (lastG ((keptR rr RU).map (plc b))).at_ + (lastG ((keptR rr RU).map (plc b))).en = b + 2 + 16 * (lastG RU).at_ + (lastG RU).en:=by
   rw [hlg];unfold plc;simp only;omega
  have hen : (lastG ((keptR rr RU).map (plc b))).en = (lastG RU).en:=by rw [hlg];rfl
  have hsub : (keptR rr RU).length ≤ RU.length:=(kept_sub rr RU).length_le
  refine ⟨by rw [Ne,List.map_eq_nil_iff];exact h0,(freeR b rr RU D 0).1,(wipeL (freeR b rr RU D 0).1 (16 - (lastG RU).en) (b + 2 + 16 * (lastG RU).at_ + (lastG RU).en) false).1,(wipeL (freeR b rr RU D 0).1 (16 - (lastG RU).en) (b + 2 + 16 * (lastG RU).at_ + (lastG RU).en) false).2.1,?_,by rw [Ne,List.map_eq_nil_iff];exact l2 h0,by rw [List.length_map];omega,?_,by rw [hen];exact hlast.2,by omega,?_,(calm_sync g2).1,?_⟩
  ·rw [← i1,← hk]
   refine Prod.ext rfl (Prod.ext rfl ?_)
   rw [i2]
   exact f1
  ·rw [hlg]
   unfold plc
   simp only
   omega
  ·rw [hat,hen]
   refine Prod.ext rfl (Prod.ext rfl ?_)
   exact g1
  ·rw [List.length_map,List.length_map]
   have he : (0 < (freeR b rr RU D 0).2.1) ↔ (keptR rr RU).length < RU.length:=by
    simp only [List.length_nil,Nat.zero_add,Nat.add_zero] at hln
    omega
   by_cases hc : (wipeL (freeR b rr RU D 0).1 (16 - (lastG RU).en) (b + 2 + 16 * (lastG RU).at_ + (lastG RU).en) false).2.1 = true ∨ 0 < (freeR b rr RU D 0).2.1
   ·rw [if_pos hc,if_pos (hc.imp id he.1)]
   ·rw [if_neg hc,if_neg (fun h => hc (h.imp id he.2))]
end Go.Proofs.YtghajmcohdedlaaGreat

namespace Go.Proofs.YtghajmcohdedlaaGreat
open Go.RowKit
set_option maxRecDepth 100000
def OpenToldR (w w' : World) (base r q : Nat) (sv : Value) (D3 : Dk) (b m ag : Nat) (V : List Sg) (hi rel : Nat) (P : List (Nat × List Nat)) (e : Ending) : Prop:=∃ gl wv' SV' WV' uv' rv' L',e = .returned (.tuple #[.pointer (some ⟨gl,0,none⟩),.int .i64 0]) ∧ w.heap.size ≤ gl ∧ LrG w' base r q sv wv' SV' WV' D3 gl b m ag V uv' hi rel L' rv' ∧ L'.map plR = P ∧ NewOwn w uv' ∧ NewOwn w rv'
theorem Tl.mr {w w' : World} {base k : Nat} {hi rel : Int} {uv rv : Value} (h : Tl w k hi rel uv rv) (hm : Mr w w' base) : Tl w' k hi rel uv rv:=hm.keep h (by decide) (by decide) (by decide)
set_option maxHeartbeats 32000000 in
theorem ref_OpenG (w : World) (base r q : Nat) (sv wv : Value) (SV WV : List Value) (D : Dk) (b m rr : Nat) (h : Rk w base r q sv wv SV WV D) (hq : q < w.heap.size) (hc : Calm D) (hm2 : 2 ≤ m) (hm : m ≤ 16) (hb : b ≤ 1000) (hsz : b + 2 + m * 16 ≤ D.sure.length) (hw : D.waits.length ≤ 800000000) (hr : (getB D b 1 0).1 = (rr : Int)) :
  Calls Tryz.prog 57 #[.pointer (some ⟨r,0,none⟩),.int .i64 (b : Int),.int .i64 (m : Int)] w fun e w' => Hid (OpenToldR w w' base r q sv (openD b D rr (readAllR D b (sortG (headsR D b m)) 0 []).1) b m D.age (keptR rr (readAllR D b (sortG (headsR D b m)) 0 []).1) (max (readAllR D b (sortG (headsR D b m)) 0 []).2.1 rr) rr (keepP rr (readAllR D b (sortG (headsR D b m)) 0 []).2.2) e) ∧ Hid (Mr w w' base):=by
 have HROK:=readAllR_ok D b (sortG (headsR D b m)) 0 [] (fun s hs => by have:=headsR_ok D b m s (sortG_mem _ s hs);omega) (by omega)
 have hat:=readAllR_at D b (sortG (headsR D b m)) 0 []
 have hln2:=readAllR_len D b (sortG (headsR D b m)) 0 []
 have hhl:=headsR_len D b m
 have hsl:=sortG_len (headsR D b m)
 obtain ⟨⟨RU,RH,RA⟩,HR⟩ : ∃ R,Hid (readAllR D b (sortG (headsR D b m)) 0 [] = R):=⟨_,rfl⟩
 rw [HR.out] at hat HROK hln2
 simp only at hat HROK hln2
 have HUB : Hid (RU.length ≤ 16 ∧ RA.length ≤ 300 ∧ ∀ s ∈ RU,s.at_ < m ∧ s.en ≤ 16):=by
  have h1:=congrArg List.length hat.1
  rw [List.length_map,List.length_map] at h1
  refine ⟨by omega,by simp only [List.length_nil] at hln2;omega,fun s hs => ⟨?_,(HROK.2.2 s hs).1⟩⟩
  have h2 : s.at_ ∈ RU.map Sg.at_:=List.mem_map.2 ⟨s,hs,rfl⟩
  rw [hat.1] at h2
  obtain ⟨x,hx,hx2⟩:=List.mem_map.1 h2
  have:=(headsR_ok D b m x (sortG_mem _ x hx)).1
  omega
 clear hat HROK hln2 hhl hsl
 have HRD0 : Hid (∀ w' (gl : Nat),Rk w' base r q sv wv SV WV D → Lr w' gl r b m D.age 0 0 (.slice none 0 0) (.slice none 0 0) → Calls Tryz.prog 84 #[.pointer (some ⟨gl,0,none⟩)] w' fun e w'' => Hid (ReadToldR w' w'' RU RH rr RA e) ∧ Below w'.heap.size w' w''):=fun w' gl h1 h2 => by
  have:=ref_ReadG w' base r q sv wv SV WV D gl b m D.age 0 0 (.slice none 0 0) (.slice none 0 0) rr h1 h2 hb hm hc.1 hsz hr
  rw [HR.out] at this
  exact this
 rw [HR.out]
 simp only
 obtain ⟨POST,HPO⟩ : ∃ P0 : Ending → World → Prop,Hid (P0 = fun e w' => Hid (OpenToldR w w' base r q sv (openD b D rr RU) b m D.age (keptR rr RU) (max RH rr) rr (keepP rr RA) e) ∧ Hid (Mr w w' base)):=⟨_,rfl⟩
 have hpost : (fun e w' => Hid (OpenToldR w w' base r q sv (openD b D rr RU) b m D.age (keptR rr RU) (max RH rr) rr (keepP rr RA) e) ∧ Hid (Mr w w' base)) = fun e w' => POST e w':=HPO.out.symm
 rw [hpost]
 clear hpost
 obtain ⟨rs,cs,hsv,_⟩:=h.form
 have HD : Hid (Rk w base r q sv wv SV WV D):=h
 have HBP : Hid (base ≤ w.heap.size ∧ q < w.heap.size ∧ Calm D ∧ b ≤ 1000 ∧ m ≤ 16 ∧ b + 2 + m * 16 ≤ D.sure.length ∧ D.waits.length ≤ 800000000):=⟨Nat.le_trans h.br (Nat.le_of_lt h.blk.lt),hq,hc,hb,hm,hsz,hw⟩
 obtain ⟨n,hn⟩ : ∃ n,n = D.sure.length:=⟨_,rfl⟩
 have c0 : w.cell? ⟨r,0,none⟩ = some (.slice (some ⟨rs,0,none⟩) n cs):=by rw [hn,← hsv];exact h.blk.cell 0 rfl
 have c3 : w.cell? ⟨r,3,none⟩ = some (.bool false):=by rw [← hc.1];exact h.blk.cell 3 rfl
 have c4 : w.cell? ⟨r,4,none⟩ = some (.int .i64 (D.age : Int)):=h.blk.cell 4 rfl
 have hsz512:=h.sz
 rw [← hn] at hsz hsz512
 obtain ⟨P,hP⟩ : ∃ P,P = n - 2:=⟨_,rfl⟩
 obtain ⟨Q,hQ⟩ : ∃ Q,Q = 16 * m:=⟨_,rfl⟩
 obtain ⟨R,hR⟩ : ∃ R,R = P - Q:=⟨_,rfl⟩
 have a1 : ¬ (m : Int) < 2:=by omega
 have a2 : ¬ (16 : Int) < (m : Int):=by omega
 have a3 : ¬ (b : Int) < 0:=by omega
 have q1 : (n : Int) - 2 = (P : Int):=by omega
 have q2 : IntKind.i64.wrap (P : Int) = (P : Int):=by rw [IntKind.wrap_i64];omega
 have q3 : 16 * (m : Int) = (Q : Int):=by omega
 have q4 : IntKind.i64.wrap (Q : Int) = (Q : Int):=by rw [IntKind.wrap_i64];omega
 have q5 : (P : Int) - (Q : Int) = (R : Int):=by omega
 have q6 : IntKind.i64.wrap (R : Int) = (R : Int):=by rw [IntKind.wrap_i64];omega
 have a4 : ¬ (R : Int) < (b : Int):=by omega
 obtain ⟨gl,HGL⟩ : ∃ gl,Hid (gl = w.heap.size):=⟨_,rfl⟩
 obtain ⟨W1,HW1⟩ : ∃ W1,Hid (W1 = w.alloc (.cells #[.pointer (some ⟨r,0,none⟩),.int .i64 (b : Int),.int .i64 (m : Int),.int .i64 (D.age : Int),.int .i64 0,.int .i64 0,.slice none 0 0,.slice none 0 0] 60)):=⟨_,rfl⟩
 have HX1 : Hid (Below w.heap.size w W1):=by (show Below _ _ _);rw [HW1.out];exact below_alloc _ _
 have HL1 : Hid (Lr W1 gl r b m D.age 0 0 (.slice none 0 0) (.slice none 0 0)):=by (show Lr _ _ _ _ _ _ _ _ _ _);rw [HW1.out,HGL.out];exact Blk.new _ _ _
 have HRD:=HRD0.out W1 gl (HD.out.stay HX1.out) HL1.out
 clear h hP hQ hR hsz hsz512 hc hm2 hm hb hw hr hq hn hsv HRD0
 go_enter Tryz.func57,Tryz.ntmps57
 go_upto_region 8 with fail
 rw [← HW1.out,← HGL.out]
 clear c0 c3 c4 a1 a2 a3 a4 q1 q2 q3 q4 q5 q6
 go_wp2_with fail
 refine HRD.mono ?_
 rintro e w2 ⟨ht2,hb2⟩
 obtain ⟨uv2,rv2,L2,rfl,hu2,hr2,hl2⟩:=ht2.out
 have HX2 : Hid (Below w.heap.size w w2):=HX1.out.trans (hb2.mono HX1.out.size)
 have HU2 : Hid (Rgs w2 w.heap.size uv2 RU):=hu2.low HX1.out.size
 have HRC2 : Hid (Rcs w2 w.heap.size rv2 L2):=hr2.low HX1.out.size
 have HL2 : Hid (L2.map plR = keepP rr RA):=hl2
 have HLg2 : Hid (Lr w2 gl r b m D.age 0 0 (.slice none 0 0) (.slice none 0 0)):=HL1.out.stay hb2
 have HD2 : Hid (Rk w2 base r q sv wv SV WV D):=HD.out.stay HX2.out
 clear ht2 hb2 hu2 hr2 hl2 HRD
 obtain ⟨a2,c2,hv2⟩:=HU2.out.val
 obtain ⟨un,HUN⟩ : ∃ un,Hid (RU.length = un):=⟨_,rfl⟩
 rw [HUN.out] at hv2
 subst hv2
 have hun : un ≤ 16:=by rw [← HUN.out];exact HUB.out.1
 obtain ⟨ar,cr,hvr⟩:=HRC2.out.val
 obtain ⟨rn,HRN⟩ : ∃ rn,Hid (L2.length = rn):=⟨_,rfl⟩
 rw [HRN.out] at hvr
 subst hvr
 have HRNB : Hid (L2.length ≤ 100000):=by
  (show _ ≤ _)
  have h1:=congrArg List.length HL2.out
  rw [List.length_map] at h1
  have h2 : (keepP rr RA).length ≤ RA.length:=List.length_filter_le _ _
  have:=HUB.out.2.1
  omega
 obtain ⟨hm_,HHM⟩ : ∃ x,Hid (max RH rr = x):=⟨_,rfl⟩
 rw [HHM.out]
 obtain ⟨tk,HTK⟩ : ∃ tk,Hid (tk = w2.heap.size):=⟨_,rfl⟩
 obtain ⟨W3,HW3⟩ : ∃ W3,Hid (W3 = w2.alloc (.cells #[.int .i64 (hm_ : Int),.int .i64 (rr : Int),.slice a2 un c2,.slice ar rn cr] 58)):=⟨_,rfl⟩
 have HX3 : Hid (Below w2.heap.size w2 W3):=by (show Below _ _ _);rw [HW3.out];exact below_alloc _ _
 have HT3 : Hid (Tl W3 tk (hm_ : Int) (rr : Int) (.slice a2 un c2) (.slice ar rn cr)):=by (show Blk _ _ _ _);rw [HW3.out,HTK.out];exact Blk.new _ _ _
 have HU3 : Hid (Rgs W3 w.heap.size (.slice a2 un c2) RU):=HU2.out.below HX3.out
 have HRC3 : Hid (Rcs W3 w.heap.size (.slice ar rn cr) L2):=HRC2.out.below HX3.out
 have HLg3 : Hid (Lr W3 gl r b m D.age 0 0 (.slice none 0 0) (.slice none 0 0)):=HLg2.out.stay HX3.out
 have HD3 : Hid (Rk W3 base r q sv wv SV WV D):=HD2.out.stay HX3.out
 have HXW3 : Hid (Below w.heap.size w W3):=HX2.out.trans (HX3.out.mono HX2.out.size)
 go_upto_region 9 with fail
 rw [← HW3.out,← HTK.out]
 have t1 : W3.cell? ⟨tk,1,none⟩ = some (.int .i64 (rr : Int)):=Blk.cell HT3.out 1 rfl
 have t2 : W3.cell? ⟨tk,2,none⟩ = some (.slice a2 un c2):=Blk.cell HT3.out 2 rfl
 have HFR:=ref_free11 W3 base w.heap.size r q sv wv SV WV D gl b m D.age 0 0 (.slice none 0 0) (.slice none 0 0) RU (.slice a2 un c2) rr HD3.out (Nat.lt_of_lt_of_le HBP.out.2.1 HXW3.out.size) HLg3.out HU3.out (Nat.le_trans HBP.out.1 HXW3.out.size) HBP.out.2.2.2.1 (fun s hs => by have:=(HUB.out.2.2 s hs).1;have:=HBP.out.2.2.2.2.1;omega) HUB.out.1 (by have:=HBP.out;omega)
 have HCF:=calm_free b rr RU D 0 HBP.out.2.2.1 (fun s hs => by have:=(HUB.out.2.2 s hs).1;have:=HBP.out.2.2.2.2;omega)
 obtain ⟨⟨D1,nf,fe⟩,HF⟩ : ∃ F,Hid (freeR b rr RU D 0 = F):=⟨_,rfl⟩
 rw [HF.out] at HFR HCF
 simp only at HFR HCF
 obtain ⟨hf0,f2,f3,f4,f5,f6⟩:=HCF
 subst hf0
 have HC1 : Hid (Calm D1 ∧ D1.sure.length = D.sure.length ∧ D1.waits.length ≤ 800000016 ∧ nf ≤ 16):=⟨f2,f3,by have:=HBP.out;have:=HUB.out.1;omega,by have:=HUB.out.1;omega⟩
 clear f2 f3 f4 f5 f6
 go_wp2_with fail
 refine HFR.mono ?_
 rintro e w4 ⟨rfl,hh4,hm4⟩
 obtain ⟨wv4,WV4,hd4,hl4,hu4⟩:=hh4.out
 have HD4 : Hid (Rk w4 base r q sv wv4 SV WV4 D1):=hd4
 have HLg4 : Hid (Lr w4 gl r b m D.age 0 0 (.slice none 0 0) (.slice none 0 0)):=hl4
 have HU4 : Hid (Rgs w4 w.heap.size (.slice a2 un c2) RU):=hu4
 have HRC4 : Hid (Rcs w4 w.heap.size (.slice ar rn cr) L2):=HRC3.out.mr hm4.out
 have HT4 : Hid (Tl w4 tk (hm_ : Int) (rr : Int) (.slice a2 un c2) (.slice ar rn cr)):=HT3.out.mr hm4.out
 have HM4 : Hid (Mr w w4 base):=(Mr.of_below HXW3.out HBP.out.1).trans hm4.out
 clear hh4 hd4 hl4 hu4 hm4 HFR t1 t2
 have t2 : w4.cell? ⟨tk,2,none⟩ = some (.slice a2 un c2):=Blk.cell HT4.out 2 rfl
 obtain ⟨D3,HD3E⟩ : ∃ D3,Hid (openD b D rr RU = D3):=⟨_,rfl⟩
 go_upto_if 70 with fail
 go_cut [10,12,13,14] from 67 to 93 (fun v10 _v12 _v13 _v14 wx => ∃ (n5 : Nat) (D2 : Dk) (wv5 : Value) (SV5 WV5 : List Value),v10 = .int .i64 (n5 : Int) ∧ Hid (n5 ≤ 32 ∧ Calm D2 ∧ (if 0 < n5 then syncD D2 else D2) = D3) ∧ Hid (Rk wx base r q sv wv5 SV5 WV5 D2 ∧ Lr wx gl r b m D.age 0 0 (.slice none 0 0) (.slice none 0 0) ∧ Rgs wx w.heap.size (.slice a2 un c2) RU ∧ Rcs wx w.heap.size (.slice ar rn cr) L2 ∧ Tl wx tk (hm_ : Int) (rr : Int) (.slice a2 un c2) (.slice ar rn cr)) ∧ Hid (Mr w wx base))
 case first =>
  by_cases hu0 : 0 < un
  ·have d1 : decide ((0 : Int) < (un : Int)) = true:=decide_eq_true (by omega)
   have d2 : (0 : Int) < (un : Int):=by omega
   have d3 : decide (0 < un) = true:=decide_eq_true hu0
   have hVn : RU ≠ []:=fun e => by have:=HUN.out;rw [e] at this;simp at this;omega
   obtain ⟨kb,rfl⟩:=HU4.out.some_ hVn
   obtain ⟨u1,HU1⟩ : ∃ u1,Hid (un = u1 + 1):=⟨un - 1,by (show _ = _);omega⟩
   have q3 : IntKind.i64.wrap ((un : Int) - 1) = (u1 : Int):=by rw [IntKind.wrap_i64];have:=HU1.out;omega
   obtain ⟨s,HS⟩ : ∃ s,Hid (RU.getD u1 zSg = s ∧ lastG RU = s):=⟨_,rfl,by unfold lastG;rw [HUN.out,HU1.out];rfl⟩
   have HSB : Hid (s.at_ < m ∧ s.en ≤ 16):=HUB.out.2.2 s (by rw [← HS.out.2];exact lastG_mem hVn)
   have HOD : Hid ((if (wipeL D1 (16 - s.en) (b + 2 + 16 * s.at_ + s.en) false).2.1 = true ∨ 0 < nf then syncD (wipeL D1 (16 - s.en) (b + 2 + 16 * s.at_ + s.en) false).1 else (wipeL D1 (16 - s.en) (b + 2 + 16 * s.at_ + s.en) false).1) = D3):=by
    (show _ = _)
    have h1:=HD3E.out
    unfold openD at h1
    rw [if_neg hVn,HF.out,HS.out.2] at h1
    exact h1
   have HRG : Hid (∀ w',Below w4.heap.size w4 w' → w'.cell? ⟨tk,2,none⟩ = some (.slice (some ⟨kb,0,none⟩) un c2) ∧ w'.cell? ⟨kb,u1 * 4,none⟩ = some (.int .i64 (s.at_ : Int)) ∧ w'.cell? ⟨kb,u1 * 4 + 1,none⟩ = some (.int .i64 (s.num : Int)) ∧ w'.cell? ⟨kb,u1 * 4 + 2,none⟩ = some (.int .i64 (s.en : Int)) ∧ w'.cell? ⟨kb,u1 * 4 + 3,none⟩ = some (.int .i64 (s.high : Int))):=fun w' hb' => by
    obtain ⟨y0,y1,y2,y3⟩:=(HU4.out.below hb').facts (J:=u1) (by have:=HUN.out;have:=HU1.out;omega) HS.out.1
    exact ⟨Blk.cell (Blk.stay HT4.out hb') 2 rfl,y0,y1,y2,y3⟩
   have g0 : (0 : Int) ≤ (u1 : Int):=by omega
   have g1 : (u1 : Int) < (un : Int):=by have:=HU1.out;omega
   obtain ⟨at_,num,sh,en⟩:=s
   simp only at HOD HRG HSB
   have HRGS : Hid (w4.rangeAt kb (u1 * 4) [.int .i64 (at_ : Int),.int .i64 (num : Int),.int .i64 (en : Int),.int .i64 (sh : Int)]):=HU4.out.range (J:=u1) (by have:=HUN.out;have:=HU1.out;omega) HS.out.1
   clear hu0 hVn
   go_upto_region 14 with (guard_target =~ wpList _ _ _ (Oper.mk (some 78) _ _ _ _ _ :: _) _ _;refine wpList_load_mid rfl 106 (.tmp 77) rfl kb (u1 * 4) rfl [.int .i64 (at_ : Int),.int .i64 (num : Int),.int .i64 (en : Int),.int .i64 (sh : Int)] _ HRGS.out Tryz.underlying106 rfl (by rfl) ?_)
   all_goals
    clear t2
    obtain ⟨W5,HW5⟩ : ∃ W5,Hid (W5 = w4.alloc (.cells #[.int .i64 (at_ : Int),.int .i64 (num : Int),.int .i64 (en : Int),.int .i64 (sh : Int)] 106)):=⟨_,rfl⟩
    have HB5 : Hid (Below w4.heap.size w4 W5):=by (show Below _ _ _);rw [HW5.out];exact below_alloc _ _
    have HK5 : Hid (Blk W5 w4.heap.size #[.int .i64 (at_ : Int),.int .i64 (num : Int),.int .i64 (en : Int),.int .i64 (sh : Int)] 106):=by (show Blk _ _ _ _);rw [HW5.out];exact Blk.new w4 _ _
    rw [← HW5.out]
    have k0 : W5.cell? ⟨w4.heap.size,0,none⟩ = some (.int .i64 (at_ : Int)):=HK5.out.cell 0 rfl
    have k2 : W5.cell? ⟨w4.heap.size,2,none⟩ = some (.int .i64 (en : Int)):=HK5.out.cell 2 rfl
    have HWI:=ref_wipe11 W5 base r q sv wv4 SV WV4 D1 gl b m D.age 0 0 (.slice none 0 0) (.slice none 0 0) at_ en (HD4.out.stay HB5.out) (Nat.lt_of_lt_of_le HBP.out.2.1 (Nat.le_trans HM4.out.low.size HB5.out.size)) (HLg4.out.stay HB5.out) (Nat.le_trans HBP.out.1 (Nat.le_trans HM4.out.low.size HB5.out.size)) HBP.out.2.2.2.1 (by have:=HSB.out;have:=HBP.out;omega) HSB.out.2 (by have:=HC1.out;omega) HC1.out.1.1 (by have:=HSB.out;have:=HBP.out;have:=HC1.out.2.1;omega)
    have HCW:=calm_wipe (16 - en) D1 (b + 2 + 16 * at_ + en) false HC1.out.1 (by have:=HSB.out;have:=HBP.out;have:=HC1.out.2.1;omega)
    obtain ⟨⟨D2,wb,we⟩,HW⟩ : ∃ R,Hid (wipeL D1 (16 - en) (b + 2 + 16 * at_ + en) false = R):=⟨_,rfl⟩
    rw [HW.out] at HWI HCW HOD
    simp only at HWI HCW HOD
    obtain ⟨hw0,w2c,w3c,w4c⟩:=HCW
    subst hw0
    have HC2 : Hid (Calm D2):=w2c
    clear w2c w3c w4c
    go_wp2_with fail
    refine HWI.mono ?_
    rintro e w6 ⟨ht6,hh6,hm6⟩
    obtain ⟨n6,rfl,hn6,hn6b⟩:=ht6.out
    obtain ⟨wv6,WV6,hd6,hl6⟩:=hh6.out
    obtain ⟨n7,HN7⟩ : ∃ n7,Hid (nf + n6 = n7):=⟨_,rfl⟩
    have HREL : Hid (n7 ≤ 32 ∧ Calm D2 ∧ (if 0 < n7 then syncD D2 else D2) = D3):=by
     have h1:=HOD.out
     have h2:=hn6b (by first | rfl | trivial)
     have h3:=HC1.out.2.2.2
     have h4:=HN7.out
     refine ⟨by omega,HC2.out,?_⟩
     by_cases h5 : 0 < n7
     ·rw [if_pos h5]
      rw [if_pos (by
       by_cases h6 : n6 = 0
       ·right;omega
       ·exact .inl (h2.2 h6))] at h1
      exact h1
     ·rw [if_neg h5]
      rw [if_neg (by
       rintro (h6 | h6)
       ·exact (h2.1 h6) (by omega)
       ·omega)] at h1
      exact h1
    have q7 : IntKind.i64.wrap ((nf : Int) + (n6 : Int)) = (n7 : Int):=by rw [IntKind.wrap_i64];have:=HN7.out;have:=HREL.out.1;omega
    have HST : Hid (Rk w6 base r q sv wv6 SV WV6 D2 ∧ Lr w6 gl r b m D.age 0 0 (.slice none 0 0) (.slice none 0 0) ∧ Rgs w6 w.heap.size (.slice (some ⟨kb,0,none⟩) un c2) RU ∧ Rcs w6 w.heap.size (.slice ar rn cr) L2 ∧ Tl w6 tk (hm_ : Int) (rr : Int) (.slice (some ⟨kb,0,none⟩) un c2) (.slice ar rn cr)):=⟨hd6,hl6,(HU4.out.below HB5.out).mr hm6.out,(HRC4.out.below HB5.out).mr hm6.out,(show Tl W5 _ _ _ _ _ from Blk.stay HT4.out HB5.out).mr hm6.out⟩
    have HM6 : Hid (Mr w w6 base):=(HM4.out.trans (Mr.of_below HB5.out (Nat.le_trans HBP.out.1 HM4.out.low.size))).trans hm6.out
    clear ht6 hh6 hd6 hl6 hm6 hn6 hn6b HWI k0 k2
    go_wp2
    go_meet
    exact ⟨n7,D2,wv6,SV,WV6,rfl,HREL,HST,HM6⟩
  ·obtain rfl : un = 0:=by omega
   have hVn : RU = []:=List.eq_nil_of_length_eq_zero HUN.out
   have HREL : Hid (nf ≤ 32 ∧ Calm D1 ∧ (if 0 < nf then syncD D1 else D1) = D3):=by
    have h1:=HF.out
    rw [hVn,freeR] at h1
    cases h1
    refine ⟨by omega,HC1.out.1,?_⟩
    rw [if_neg (by omega),← HD3E.out]
    unfold openD
    rw [if_pos hVn]
   clear hu0 hVn
   go_wp2
   go_meet
   exact ⟨nf,D1,wv4,SV,WV4,rfl,HREL,⟨HD4.out,HLg4.out,HU4.out,HRC4.out,HT4.out⟩,HM4⟩
 case rest =>
 obtain ⟨n5,D2,wv5,SV5,WV5,rfl,HREL,HST,HM5⟩:=hcut
 obtain ⟨w5,rfl⟩ : ∃ w5,w5 = wc:=⟨wc,rfl⟩
 have hn32 : n5 ≤ 32:=HREL.out.1
 go_upto_if 95 with fail
 go_cut [11] from 94 to 100 (fun _v11 wx => ∃ (wv6 : Value) (SV6 WV6 : List Value),Hid (Rk wx base r q sv wv6 SV6 WV6 D3 ∧ Lr wx gl r b m D.age 0 0 (.slice none 0 0) (.slice none 0 0) ∧ Rgs wx w.heap.size (.slice a2 un c2) RU ∧ Rcs wx w.heap.size (.slice ar rn cr) L2 ∧ Tl wx tk (hm_ : Int) (rr : Int) (.slice a2 un c2) (.slice ar rn cr)) ∧ Hid (Mr w wx base))
 case first =>
  by_cases hn0 : 0 < n5
  ·have d1 : decide ((0 : Int) < (n5 : Int)) = true:=decide_eq_true (by omega)
   have d2 : (0 : Int) < (n5 : Int):=by omega
   have d3 : decide (0 < n5) = true:=decide_eq_true hn0
   have HE : Hid (syncD D2 = D3):=by have h1:=HREL.out.2.2;rw [if_pos hn0] at h1;exact h1
   have HSN:=ref_Sync w5 base r q sv wv5 SV5 WV5 D2 HST.out.1 (Nat.lt_of_lt_of_le HBP.out.2.1 HM5.out.low.size)
   rw [(calm_sync HREL.out.2.1).1,HE.out] at HSN
   clear hn0
   go_wp2_with fail
   refine HSN.mono ?_
   rintro e w6 ⟨rfl,hd6,hm6⟩
   obtain ⟨wv6,SV6,WV6,hd6⟩:=hd6.out
   have HST6 : Hid (Rk w6 base r q sv wv6 SV6 WV6 D3 ∧ Lr w6 gl r b m D.age 0 0 (.slice none 0 0) (.slice none 0 0) ∧ Rgs w6 w.heap.size (.slice a2 un c2) RU ∧ Rcs w6 w.heap.size (.slice ar rn cr) L2 ∧ Tl w6 tk (hm_ : Int) (rr : Int) (.slice a2 un c2) (.slice ar rn cr)):=⟨hd6,HST.out.2.1.mr hm6,HST.out.2.2.1.mr hm6,HST.out.2.2.2.1.mr hm6,HST.out.2.2.2.2.mr hm6⟩
   have HM6 : Hid (Mr w w6 base):=HM5.out.trans hm6
   clear hd6 hm6 HSN
   go_wp2
   go_meet
   exact ⟨wv6,SV6,WV6,HST6,HM6⟩
  ·have d1 : decide ((0 : Int) < (n5 : Int)) = false:=decide_eq_false (by omega)
   have d2 : ¬ (0 : Int) < (n5 : Int):=by omega
   have d3 : decide (0 < n5) = false:=decide_eq_false hn0
   have HE : Hid (D2 = D3):=by have h1:=HREL.out.2.2;rw [if_neg hn0] at h1;exact h1
   have HST6 : Hid (Rk w5 base r q sv wv5 SV5 WV5 D3 ∧ Lr w5 gl r b m D.age 0 0 (.slice none 0 0) (.slice none 0 0) ∧ Rgs w5 w.heap.size (.slice a2 un c2) RU ∧ Rcs w5 w.heap.size (.slice ar rn cr) L2 ∧ Tl w5 tk (hm_ : Int) (rr : Int) (.slice a2 un c2) (.slice ar rn cr)):=by rw [← HE.out];exact HST.out
   clear hn0
   go_wp2
   go_meet
   exact ⟨wv5,SV5,WV5,HST6,HM5⟩
 case rest =>
 obtain ⟨wv6,SV6,WV6,HST6,HM6⟩:=hcut
 obtain ⟨w6,rfl⟩ : ∃ w6,w6 = wc:=⟨wc,rfl⟩
 have HRG : Hid (w6.rangeAt tk 0 [.int .i64 (hm_ : Int),.int .i64 (rr : Int),.slice a2 un c2,.slice ar rn cr]):=fun jj u hj => by rw [Nat.zero_add];exact Blk.cell HST6.out.2.2.2.2 jj (by simpa using hj)
 have hlg:=HST6.out.2.1
 have c4 : w6.cell? ⟨gl,4,none⟩ = some (.int .i64 0):=Blk.cell hlg 4 rfl
 have c5 : w6.cell? ⟨gl,5,none⟩ = some (.int .i64 0):=Blk.cell hlg 5 rfl
 have c6 : w6.cell? ⟨gl,6,none⟩ = some (.slice none 0 0):=Blk.cell hlg 6 rfl
 have c7 : w6.cell? ⟨gl,7,none⟩ = some (.slice none 0 0):=Blk.cell hlg 7 rfl
 have f4 : w6.frozen? ⟨gl,4,none⟩ = false:=Blk.free hlg 4
 have f5 : w6.frozen? ⟨gl,5,none⟩ = false:=Blk.free hlg 5
 have f6 : w6.frozen? ⟨gl,6,none⟩ = false:=Blk.free hlg 6
 have f7 : w6.frozen? ⟨gl,7,none⟩ = false:=Blk.free hlg 7
 obtain ⟨hg7,hf7⟩:=lr_tells HST6.out.1 hlg (show base ≤ gl by rw [HGL.out];exact HBP.out.1) (HST6.out.2.2.1.low HBP.out.1) (HST6.out.2.2.2.1.low HBP.out.1) hm_ rr
 obtain ⟨W7,HW7⟩ : ∃ W7,Hid (W7 = (((w6.setCell ⟨gl,4,none⟩ (.int .i64 (hm_ : Int))).setCell ⟨gl,5,none⟩ (.int .i64 (rr : Int))).setCell ⟨gl,6,none⟩ (.slice a2 un c2)).setCell ⟨gl,7,none⟩ (.slice ar rn cr)):=⟨_,rfl⟩
 rw [← HW7.out] at hg7 hf7
 have HG7 : Hid (LrG W7 base r q sv wv6 SV6 WV6 D3 gl b m D.age RU (.slice a2 un c2) hm_ rr L2 (.slice ar rn cr)):=hg7
 have HF7 : Hid (Frm (fun k => k = gl) w6 W7):=hf7
 have HT7 : Hid (Tl W7 tk (hm_ : Int) (rr : Int) (.slice a2 un c2) (.slice ar rn cr)):=HF7.out.blk HST6.out.2.2.2.2 (blk_ne HST6.out.2.2.2.2 hlg (by decide))
 clear hg7 hf7 hlg t2
 go_upto_region 23 with (guard_target =~ wpList _ _ _ (Oper.mk (some 102) _ _ _ _ _ :: _) _ _;refine wpList_load_mid rfl 58 (.tmp 9) rfl tk 0 rfl [.int .i64 (hm_ : Int),.int .i64 (rr : Int),.slice a2 un c2,.slice ar rn cr] _ HRG.out Tryz.underlying58 rfl (by rfl) ?_)
 rw [← HW7.out]
 clear c4 c5 c6 c7 f4 f5 f6 f7
 have t1 : W7.cell? ⟨tk,1,none⟩ = some (.int .i64 (rr : Int)):=Blk.cell HT7.out 1 rfl
 have HKP:=ref_keepG W7 base r q sv wv6 SV6 WV6 D3 gl b m D.age RU (.slice a2 un c2) hm_ rr L2 (.slice ar rn cr) rr HG7.out HUB.out.1 HRNB.out
 go_wp2_with fail
 refine HKP.mono ?_
 rintro e w8 ⟨rfl,hh8,hf8⟩
 obtain ⟨uv8,rv8,hg8,hn8u,hn8r⟩:=hh8.out
 have hs7 : w.heap.size ≤ W7.heap.size:=Nat.le_trans HM6.out.low.size HF7.out.size
 have HFIN : Hid (POST (.returned (.tuple #[.pointer (some ⟨gl,0,none⟩),.int .i64 0])) w8):=by
  (show POST _ _)
  rw [HPO.out]
  refine ⟨⟨gl,wv6,SV6,WV6,uv8,rv8,keepR rr L2,rfl,by rw [HGL.out];exact Nat.le_refl _,?_,by rw [keepR_map,HL2.out,keepP_keep],fun k hk => Nat.le_trans hs7 (hn8u k hk),fun k hk => Nat.le_trans hs7 (hn8r k hk)⟩,?_⟩
  ·rw [HD3E.out,HHM.out]
   exact hg8
  ·have hfr : Frm (fun k => k = gl) w6 w8:=HF7.out.trans hf8.out
   refine ⟨HM6.out.low.trans (hfr.below (Nat.le_trans HBP.out.1 HM6.out.low.size) (fun k hk => by rw [hk,HGL.out];exact HBP.out.1)),fun k cs t fr h1 h2 h3 h4 => ?_⟩
   have h5:=HM6.out.block k cs t fr h1 h2 h3 h4
   rw [hfr.block k (heap_lt h5) (fun e => by have:=heap_lt h1;have:=HGL.out;omega)]
   exact h5
 clear hh8 hg8 hn8u hn8r hf8 t1 HKP hs7
 have HX:=HFIN.out
 go_wp2
 exact HX
end Go.Proofs.YtghajmcohdedlaaGreat
