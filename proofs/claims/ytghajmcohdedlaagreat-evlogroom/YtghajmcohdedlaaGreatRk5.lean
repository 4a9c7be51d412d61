import Derived.Test.YtghajmcohdedlaaGreatPk26
namespace Go.Proofs.YtghajmcohdedlaaGreat
open Go.RowKit
theorem Rk.sec {w : World} {base r q : Nat} {sv wv : Value} {SV WV : List Value} {D : Dk} (h : Rk w base r q sv wv SV WV D) : ∀ s ∈ D.sure,Sec s:=fun s hs => by
 obtain ⟨i,hi⟩:=List.getElem?_of_mem hs
 obtain ⟨_,_,hb⟩:=h.each i s hi
 exact hb.sec
theorem putD_whole {D : Dk} {pa : Nat} {L : List Nat} (hL : Sec L) (hp : pa < D.sure.length) (hs : ∀ s ∈ D.sure,Sec s) : putD D (pa,L) 64 = { D with sure:=D.sure.set pa L }:=by
 have e : D.sure.getD pa [] = D.sure[pa]:=by rw [List.getD_eq_getElem?_getD,List.getElem?_eq_getElem hp];rfl
 have h1:=(hs _ (List.getElem_mem hp)).len
 rw [putD,e,List.take_of_length_le (by rw [hL.len];omega),List.drop_of_length_le (by rw [h1];omega),List.append_nil]
theorem Rk.emptied {w : World} {base r q : Nat} {sv wv : Value} {SV WV : List Value} {D : Dk} (h : Rk w base r q sv wv SV WV D) :
  Rk (w.setCell ⟨r,1,none⟩ (.slice none 0 0)) base r q sv (.slice none 0 0) SV [] { D with waits:=[] } ∧ Mr w (w.setCell ⟨r,1,none⟩ (.slice none 0 0)) base:=by
 have hc:=grown_cell w r 1 (.slice none 0 0)
 have m:=Mr.of_cell h.blk h.br hc
 have hmv : ∀ (k : Nat) cur,w.heap[k]? = some (.cells cur 5 (0,0)) → k ≠ q → (w.setCell ⟨r,1,none⟩ (.slice none 0 0)).heap[k]? = some (.cells cur 5 (0,0)):=fun k cur hk _ => m.block k cur _ _ hk (by decide) (by decide) (by decide)
 refine ⟨⟨h.blk.set 1 (.slice none 0 0),own_type h.srow (fun k cs hk => ?_),World.ownsRow_nil _ _ _ _,h.br,h.s1,h.sz,fun i s hs => (h.each i s hs).imp fun _ hv => ⟨hv.1,hv.2.move hmv⟩,fun i p hp => by simp at hp,h.tr,h.ag,Nat.zero_le _⟩,m⟩
 rw [hc.block k (heap_lt hk) (fun e => by simp only [Option.some.injEq] at e;exact blk_ne hk h.blk (by decide) e)]
 exact hk
set_option maxRecDepth 100000 in
set_option maxHeartbeats 2000000 in
theorem ref_Sync (w : World) (base r q : Nat) (sv wv : Value) (SV WV : List Value) (D : Dk) (h : Rk w base r q sv wv SV WV D) (hq : q < w.heap.size) :
  Calls Tryz.prog 64 #[.pointer (some ⟨r,0,none⟩)] w fun e w' => e = .returned (.int .i64 (syncE D)) ∧ Hid (∃ wv' SV' WV',Rk w' base r q sv wv' SV' WV' (syncD D)) ∧ Mr w w' base:=by
 have HD : Hid (Rk w base r q sv wv SV WV D):=h
 have c3 : w.cell? ⟨r,3,none⟩ = some (.bool D.down):=h.blk.cell 3 rfl
 obtain ⟨E,HE⟩ : ∃ E,Hid (E = syncE D):=⟨_,rfl⟩
 obtain ⟨D',HY⟩ : ∃ D',Hid (D' = syncD D):=⟨_,rfl⟩
 rw [← HE.out,← HY.out]
 have HQ : Hid (q < w.heap.size):=hq
 clear h hq
 cases hd : D.down with
 | true =>
  rw [hd] at c3
  have HX : Hid (E = 10 ∧ D' = D):=⟨by rw [HE.out,syncE,if_pos hd],by rw [HY.out,syncD,if_pos hd]⟩
  clear hd
  go_enter Tryz.func64,Tryz.ntmps64
  go_wp2
  go_ret
  exact ⟨by rw [HX.out.1];rfl,⟨wv,SV,WV,by rw [HX.out.2];exact HD.out⟩,Mr.refl _ _⟩
 | false =>
  rw [hd] at c3
  have HDN : Hid (D.down = false):=hd
  clear hd
  go_enter Tryz.func64,Tryz.ntmps64
  go_wp2_with fail
  refine (ref_trips w base r q _ _ SV WV D HD.out HDN.out).mono ?_
  rintro e w1 ⟨rfl,hd1,hm1,hs1⟩
  have HD1 : Hid (Rk w1 base r q sv wv SV WV (tripsD D)):=hd1
  have HM1 : Hid (Mr w w1 base):=hm1
  have HS1 : Hid (w1.heap.size = w.heap.size):=hs1
  clear hd1 hm1 hs1
  cases ht : tripsB D with
  | true =>
   have HX : Hid (E = 10 ∧ D' = tripsD D):=⟨by rw [HE.out,syncE,HDN.out,if_neg (by decide),if_pos ht],by rw [HY.out,syncD,HDN.out,if_neg (by decide),if_pos ht]⟩
   clear ht
   go_wp2
   go_ret
   exact ⟨by rw [HX.out.1];rfl,⟨wv,SV,WV,by rw [HX.out.2];exact HD1.out⟩,HM1.out⟩
  | false =>
   have HX : Hid (E = 0 ∧ D' = { tripsD D with sure:=syncL (tripsD D).sure (tripsD D).waits,waits:=[] }):=⟨by rw [HE.out,syncE,HDN.out,if_neg (by decide),ht,if_neg (by decide)],by rw [HY.out,syncD,HDN.out,if_neg (by decide),ht,if_neg (by decide),trips_sure,trips_waits]⟩
   clear ht
   obtain ⟨T,hT⟩ : ∃ T,T = tripsD D:=⟨_,rfl⟩
   rw [← hT] at HX HD1
   clear hT
   obtain ⟨aw,cw,rfl,haw⟩:=HD1.out.wform
   have HAW : Hid (0 < T.waits.length → ∃ gw,aw = some ⟨gw,0,none⟩):=haw
   obtain ⟨nw,hnw⟩ : ∃ nw,nw = T.waits.length:=⟨_,rfl⟩
   rw [← hnw] at HD1
   have HNW : Hid (nw = T.waits.length):=hnw
   have hwl : nw ≤ 1000000000:=by rw [hnw];exact HD1.out.wl
   obtain ⟨R,HR⟩ : ∃ R,Hid (R = syncL T.sure T.waits):=⟨_,rfl⟩
   rw [← HR.out] at HX
   clear haw hnw
   go_wp2
   go_loopw [3] (fun t3 wr => ∃ (k : Nat) (S : List (List Nat)) (SV' : List Value),k ≤ nw ∧ t3 = .int .i64 (k : Int) ∧ Hid (R = syncL S (T.waits.drop k)) ∧ Hid (Rk wr base r q sv (.slice aw nw cw) SV' WV { T with sure:=S }) ∧ Hid (Mr w wr base)) (fun t3 _ => nw - (intOf t3).toNat)
   case atStart => exact ⟨0,T.sure,SV,by omega,rfl,HR,HD1,HM1⟩
   case round =>
    obtain ⟨k,S,SV',hk,rfl,HEE,HDr,HM⟩:=hrel
    have c1 : wr.cell? ⟨r,1,none⟩ = some (.slice aw nw cw):=HDr.out.blk.cell 1 rfl
    by_cases hlt : k < nw
    ·have hlt' : (k : Int) < (nw : Int):=by omega
     have hkw : k < T.waits.length:=by have:=HNW.out;omega
     obtain ⟨gw,rfl⟩:=HAW.out (by omega)
     obtain ⟨p,hp⟩ : ∃ p,T.waits[k]? = some p:=⟨T.waits[k],List.getElem?_eq_getElem hkw⟩
     have HPD : Hid (T.waits.drop k = p :: T.waits.drop (k + 1)):=by
      show _ = _
      rw [List.drop_eq_getElem_cons hkw]
      congr 1
      rw [List.getElem?_eq_getElem hkw] at hp
      exact Option.some.inj hp
     obtain ⟨hp1,ca,k2,c2,cb,_,_,hby,_,hsec,_⟩:=HDr.out.putAt hp
     obtain ⟨pa,L⟩:=p
     simp only at hp1 ca hby hsec
     have HP1 : Hid (pa < S.length):=hp1
     have HBY : Hid (Byt wr q (.slice (some ⟨k2,0,none⟩) 64 c2) L):=hby
     have HSE : Hid (Sec L):=hsec
     have hk0 : (0 : Int) ≤ (k : Int):=by omega
     have HQr : Hid (q < wr.heap.size):=Nat.lt_of_lt_of_le HQ.out HM.out.low.size
     clear hp hkw hp1 hby hsec
     go_wp2_with fail
     refine (ref_put wr base r q sv _ SV' WV { T with sure:=S } HDr.out HQr.out pa L k2 c2 HBY.out HP1.out 64 (Nat.le_refl _)).mono ?_
     rw [putD_whole HSE.out HP1.out HDr.out.sec]
     rintro e w4 ⟨rfl,hd4,hm4⟩
     obtain ⟨SV4,hd4⟩:=hd4.out
     have HD4 : Hid (Rk w4 base r q sv (.slice (some ⟨gw,0,none⟩) nw cw) SV4 WV { T with sure:=S.set pa L }):=hd4
     have HM4 : Hid (Mr w w4 base):=HM.out.trans hm4
     have HE4 : Hid (R = syncL (S.set pa L) (T.waits.drop (k + 1))):=by show _ = _;rw [HEE.out,HPD.out,syncL]
     clear hd4 hm4 c1 ca cb
     go_wp2
     go_roundw
     case rel => exact ⟨k + 1,_,SV4,by omega,by go_num,HE4,HD4,HM4⟩
     case measure => simp [intOf];omega
    ·obtain rfl : k = nw:=by omega
     have HRS : Hid (R = S):=by
      show _ = _
      rw [HEE.out,List.drop_of_length_le (by have:=HNW.out;omega)]
      rfl
     obtain ⟨HDF,HMF⟩:=HDr.out.emptied
     have HDF' : Hid (Rk _ base r q sv _ SV' [] _):=HDF
     have HMF' : Hid (Mr _ _ base):=HMF
     have f1:=HDr.out.blk.free 1
     clear HDF HMF HEE
     go_wp2
     go_ret
     exact ⟨by rw [HX.out.1];rfl,⟨_,_,_,by rw [HX.out.2,HRS.out];exact HDF'.out⟩,HM.out.trans HMF'.out⟩
theorem crashL_none : ∀ (S : List (List Nat)) (W : List (Nat × List Nat)),crashL S W [] = S
 | _,[] => rfl
 | _,_ :: _ => rfl
theorem set_self_getD {S : List (List Nat)} {i : Nat} (hi : i < S.length) : S.set i (S.getD i []) = S:=by
 apply List.ext_getElem?
 intro j
 by_cases hij : i = j
 ·subst hij
  rw [List.getElem?_set_self hi,List.getD_eq_getElem?_getD,List.getElem?_eq_getElem hi]
  rfl
 ·rw [List.getElem?_set_ne hij]
theorem Rk.fin {w : World} {base r q : Nat} {sv wv : Value} {SV WV : List Value} {D : Dk} {S : List (List Nat)} (h : Rk w base r q sv wv SV WV { D with sure:=S }) (ha : D.age < 1000000000) :
  Rk ((((w.setCell ⟨r,1,none⟩ (.slice none 0 0)).setCell ⟨r,2,none⟩ (.int .i64 0)).setCell ⟨r,3,none⟩ (.bool false)).setCell ⟨r,4,none⟩ (.int .i64 ((D.age : Int) + 1))) base r q sv (.slice none 0 0) SV [] ⟨S,[],0,false,D.age + 1⟩ ∧
  Mr w ((((w.setCell ⟨r,1,none⟩ (.slice none 0 0)).setCell ⟨r,2,none⟩ (.int .i64 0)).setCell ⟨r,3,none⟩ (.bool false)).setCell ⟨r,4,none⟩ (.int .i64 ((D.age : Int) + 1))) base:=by
 have hg:=grown_trans (grown_trans (grown_trans (grown_cell w r 1 (.slice none 0 0)) (grown_cell _ r 2 (.int .i64 0))) (grown_cell _ r 3 (.bool false))) (grown_cell _ r 4 (.int .i64 ((D.age : Int) + 1)))
 have hk:=(((h.blk.set 1 (.slice none 0 0)).set 2 (.int .i64 0)).set 3 (.bool false)).set 4 (.int .i64 ((D.age : Int) + 1))
 have m:=Mr.of_cell h.blk h.br hg
 have hmv : ∀ (k : Nat) cur,w.heap[k]? = some (.cells cur 5 (0,0)) → k ≠ q → ((((w.setCell ⟨r,1,none⟩ (.slice none 0 0)).setCell ⟨r,2,none⟩ (.int .i64 0)).setCell ⟨r,3,none⟩ (.bool false)).setCell ⟨r,4,none⟩ (.int .i64 ((D.age : Int) + 1))).heap[k]? = some (.cells cur 5 (0,0)):=fun k cur hk _ => m.block k cur _ _ hk (by decide) (by decide) (by decide)
 refine ⟨⟨hk,own_type h.srow (fun k cs hk => ?_),World.ownsRow_nil _ _ _ _,h.br,h.s1,h.sz,fun i s hs => (h.each i s hs).imp fun _ hv => ⟨hv.1,hv.2.move hmv⟩,fun i p hp => by simp at hp,Nat.zero_le _,ha,Nat.zero_le _⟩,m⟩
 rw [hg.block k (heap_lt hk) (fun e => by simp only [Option.some.injEq] at e;exact blk_ne hk h.blk (by decide) e)]
 exact hk
set_option maxRecDepth 100000 in
set_option maxHeartbeats 4000000 in
theorem ref_Crash (w : World) (base r q : Nat) (sv wv : Value) (SV WV : List Value) (D : Dk) (a : Option Addr) (n c : Nat) (F : List Int) (h : Rk w base r q sv wv SV WV D) (hq : q < w.heap.size) (hf : ∀ w',Mr w w' base → FtRd w' a n F) (hn : n ≤ 9223372036854775000) (ha : D.age < 1000000000) :
  Calls Tryz.prog 35 #[.pointer (some ⟨r,0,none⟩),.slice a n c] w fun e w' => e = .returned (.int .i64 0) ∧ Hid (∃ SV',Rk w' base r q sv (.slice none 0 0) SV' [] (crashD D F)) ∧ Mr w w' base:=by
 have HD : Hid (Rk w base r q sv wv SV WV D):=h
 have HF : Hid (∀ w',Mr w w' base → FtRd w' a n F):=hf
 have HFL : Hid (F.length = n):=(hf w (Mr.refl _ _)).size
 obtain ⟨aw,cw,rfl,haw⟩:=h.wform
 have HAW : Hid (0 < D.waits.length → ∃ gw,aw = some ⟨gw,0,none⟩):=haw
 obtain ⟨nw,hnw⟩ : ∃ nw,nw = D.waits.length:=⟨_,rfl⟩
 rw [← hnw] at HD
 have HNW : Hid (nw = D.waits.length):=hnw
 have hwl : nw ≤ 1000000000:=by rw [hnw];exact h.wl
 obtain ⟨R,HR⟩ : ∃ R,Hid (R = crashL D.sure D.waits F):=⟨_,rfl⟩
 have HCD : Hid (crashD D F = ⟨R,[],0,false,D.age + 1⟩):=by show _ = _;rw [crashD,HR.out]
 rw [HCD.out]
 have HQ : Hid (q < w.heap.size):=hq
 have hag : (D.age : Int) < 1000000000:=by omega
 clear h hf hnw haw hq
 go_enter Tryz.func35,Tryz.ntmps35
 go_wp2
 go_loopw [5] (fun t5 wr => ∃ (k : Nat) (S : List (List Nat)) (SV' : List Value),k ≤ nw ∧ t5 = .int .i64 (k : Int) ∧ Hid (R = crashL S (D.waits.drop k) (F.drop k)) ∧ Hid (Rk wr base r q sv (.slice aw nw cw) SV' WV { D with sure:=S }) ∧ Hid (Mr w wr base)) (fun t5 _ => nw - (intOf t5).toNat)
 case atStart => exact ⟨0,D.sure,SV,by omega,rfl,HR,HD,Mr.refl _ _⟩
 case round =>
  obtain ⟨k,S,SV',hk,rfl,HE,HDr,HM⟩:=hrel
  have c1 : wr.cell? ⟨r,1,none⟩ = some (.slice aw nw cw):=HDr.out.blk.cell 1 rfl
  by_cases hlt : k < nw
  ·have hlt' : (k : Int) < (nw : Int):=by omega
   have hkw : k < D.waits.length:=by have:=HNW.out;omega
   obtain ⟨gw,rfl⟩:=HAW.out (by omega)
   obtain ⟨p,hp⟩ : ∃ p,D.waits[k]? = some p:=⟨D.waits[k],List.getElem?_eq_getElem hkw⟩
   have HPD : Hid (D.waits.drop k = p :: D.waits.drop (k + 1)):=by
    show _ = _
    rw [List.drop_eq_getElem_cons hkw]
    congr 1
    rw [List.getElem?_eq_getElem hkw] at hp
    exact Option.some.inj hp
   obtain ⟨hp1,ca,k2,c2,cb,_,_,hby,_,hsec,_⟩:=HDr.out.putAt hp
   obtain ⟨pa,L⟩:=p
   simp only at hp1 ca hby hsec
   have HP1 : Hid (pa < S.length):=hp1
   have HBY : Hid (Byt wr q (.slice (some ⟨k2,0,none⟩) 64 c2) L):=hby
   have hk0 : (0 : Int) ≤ (k : Int):=by omega
   have HQr : Hid (q < wr.heap.size):=Nat.lt_of_lt_of_le HQ.out HM.out.low.size
   clear hp hkw hp1 hby hsec
   by_cases hkn : k < n
   ·have hkn' : (k : Int) < (n : Int):=by omega
    have hft:=HF.out wr HM.out
    obtain ⟨b,off,rfl,hfc⟩ : ∃ b off,a = some ⟨b,off,none⟩ ∧ ∀ i,i < n → wr.cell? ⟨b,off + i,none⟩ = some (.int .i64 (F.getD i 0)):=by
     rcases hft.cells with h0 | h0
     ·omega
     ·exact h0
    obtain ⟨f,hfe⟩ : ∃ f,f = F.getD k 0:=⟨_,rfl⟩
    have cf : wr.cell? ⟨b,off + k,none⟩ = some (.int .i64 f):=by rw [hfe];exact hfc k hkn
    have HFD : Hid (F.drop k = f :: F.drop (k + 1)):=by
     have hkF : k < F.length:=by rw [HFL.out];exact hkn
     show _ = _
     rw [List.drop_eq_getElem_cons hkF,hfe,List.getD_eq_getElem?_getD,List.getElem?_eq_getElem hkF]
     rfl
    clear hft hfc hfe
    obtain ⟨fu,hfu⟩ : ∃ fu,fu = fateU f:=⟨_,rfl⟩
    have hfl : fu < 18446744073709551616:=by rw [hfu];exact fateU_lt f
    have y1 : IntKind.u64.wrap f = (fu : Int):=by rw [IntKind.wrap_u64,hfu,fateU];omega
    have HST : Hid (R = crashL (putD { D with sure:=S } (pa,L) (doneN fu)).sure (D.waits.drop (k + 1)) (F.drop (k + 1))):=by
     show _ = _
     rw [HE.out,HPD.out,HFD.out,crashL,← hfu]
     rfl
    clear hfu
    by_cases h1 : fu % 3 = 1
    ·have h1' : (fu : Int) % 3 = 1:=by omega
     have HDN : Hid (doneN fu = 64):=by show _ = _;rw [doneN,if_pos h1]
     go_wp2_with fail
     refine (ref_put wr base r q sv _ SV' WV { D with sure:=S } HDr.out HQr.out pa L k2 c2 HBY.out HP1.out 64 (Nat.le_refl _)).mono ?_
     rintro e w4 ⟨rfl,hd4,hm4⟩
     obtain ⟨SV4,hd4⟩:=hd4.out
     have HD4 : Hid (Rk w4 base r q sv (.slice (some ⟨gw,0,none⟩) nw cw) SV4 WV (putD { D with sure:=S } (pa,L) 64)):=hd4
     have HM4 : Hid (Mr w w4 base):=HM.out.trans hm4
     have HE4 : Hid (R = crashL (putD { D with sure:=S } (pa,L) 64).sure (D.waits.drop (k + 1)) (F.drop (k + 1))):=by show _ = _;rw [HST.out,HDN.out]
     clear hd4 hm4 c1 ca cb cf
     go_wp2
     go_roundw
     case rel => exact ⟨k + 1,_,SV4,by omega,by go_num,HE4,HD4,HM4⟩
     case measure => simp [intOf];omega
    ·by_cases h2 : fu % 3 = 2
     ·have h2' : (fu : Int) % 3 = 2:=by omega
      obtain ⟨m,hm⟩ : ∃ m : Nat,m = fu / 3 % 64:=⟨_,rfl⟩
      have hm' : (fu : Int) / 3 % 64 = (m : Int):=by omega
      have hm64 : m ≤ 64:=by omega
      have hw1 : IntKind.i64.wrap (m : Int) = (m : Int):=by rw [IntKind.wrap_i64];omega
      have HDN : Hid (doneN fu = m):=by show _ = _;rw [doneN,if_neg h1,if_pos h2,hm]
      clear hm
      go_wp2_with fail
      refine (ref_put wr base r q sv _ SV' WV { D with sure:=S } HDr.out HQr.out pa L k2 c2 HBY.out HP1.out m hm64).mono ?_
      rintro e w4 ⟨rfl,hd4,hm4⟩
      obtain ⟨SV4,hd4⟩:=hd4.out
      have HD4 : Hid (Rk w4 base r q sv (.slice (some ⟨gw,0,none⟩) nw cw) SV4 WV (putD { D with sure:=S } (pa,L) m)):=hd4
      have HM4 : Hid (Mr w w4 base):=HM.out.trans hm4
      have HE4 : Hid (R = crashL (putD { D with sure:=S } (pa,L) m).sure (D.waits.drop (k + 1)) (F.drop (k + 1))):=by show _ = _;rw [HST.out,HDN.out]
      clear hd4 hm4 c1 ca cb cf
      go_wp2
      go_roundw
      case rel => exact ⟨k + 1,_,SV4,by omega,by go_num,HE4,HD4,HM4⟩
      case measure => simp [intOf];omega
     ·have h0' : (fu : Int) % 3 = 0:=by omega
      have HE4 : Hid (R = crashL S (D.waits.drop (k + 1)) (F.drop (k + 1))):=by
       show _ = _
       rw [HST.out,doneN,if_neg h1,if_neg h2,putD]
       simp only [List.take_zero,List.nil_append,List.drop_zero]
       rw [set_self_getD HP1.out]
      clear ca cb
      go_wp2
      go_roundw
      case rel => exact ⟨k + 1,_,SV',by omega,by go_num,HE4,HDr,HM⟩
      case measure => simp [intOf];omega
   ·have hkn' : ¬ (k : Int) < (n : Int):=by omega
    have HE4 : Hid (R = crashL S (D.waits.drop (k + 1)) (F.drop (k + 1))):=by
     show _ = _
     have e1 : F.drop k = []:=List.drop_of_length_le (by rw [HFL.out];omega)
     have e2 : F.drop (k + 1) = []:=List.drop_of_length_le (by rw [HFL.out];omega)
     rw [HE.out,e1,e2,crashL_none,crashL_none]
    clear ca cb
    go_wp2
    go_roundw
    case rel => exact ⟨k + 1,_,SV',by omega,by go_num,HE4,HDr,HM⟩
    case measure => simp [intOf];omega
  ·obtain rfl : k = nw:=by omega
   have HX : Hid (R = S):=by
    show _ = _
    rw [HE.out,List.drop_of_length_le (by have:=HNW.out;omega)]
    cases F.drop k <;> rfl
   obtain ⟨HDF,HMF⟩:=HDr.out.fin ha
   have HDF' : Hid (Rk _ base r q sv _ SV' [] _):=HDF
   have HMF' : Hid (Mr _ _ base):=HMF
   have d2 : wr.cell? ⟨r,2,none⟩ = some (.int .i64 (D.trip : Int)):=HDr.out.blk.cell 2 rfl
   have d3 : wr.cell? ⟨r,3,none⟩ = some (.bool D.down):=HDr.out.blk.cell 3 rfl
   have d4 : wr.cell? ⟨r,4,none⟩ = some (.int .i64 (D.age : Int)):=HDr.out.blk.cell 4 rfl
   have f1:=HDr.out.blk.free 1
   have f2:=HDr.out.blk.free 2
   have f3:=HDr.out.blk.free 3
   have f4:=HDr.out.blk.free 4
   clear HDF HMF
   go_wp2
   go_ret
   exact ⟨rfl,⟨SV',by rw [HX.out];exact HDF'.out⟩,HM.out.trans HMF'.out⟩
end Go.Proofs.YtghajmcohdedlaaGreat
