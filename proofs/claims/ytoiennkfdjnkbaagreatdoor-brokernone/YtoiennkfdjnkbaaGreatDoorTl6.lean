import Derived.Test.YtoiennkfdjnkbaaGreatDoorPk38
set_option maxRecDepth 100000
set_option maxHeartbeats 8000000
namespace Go.Proofs.YtoiennkfdjnkbaaGreatDoor
set_option maxRecDepth 100000
open Go.RowKit
variable {Z:Nat→Prop}
theorem Making.again {B0 tb:Nat} {w1 w7 w8:World} {v:Value} {l:List Pa} {q:Pa} {cs:Array Value} (ht:Bk w7 tb cs 116) (hr:w7.ownsRow B0 116 8 v l.length (l.flatMap pacel)) (he:∀ x∈l,PcR Z w7 B0 x∧PcLt w7.heap.size x) (tn:some tb≠v.ownBlock) (b0:w1.heap.size≤B0) (hB:B0≤w7.heap.size) (tl:w1.heap.size≤tb) (hk:Bk w8 tb (pacel q).toArray 116) (hs:∀ k,k≠tb→w8.heap[k]? = w7.heap[k]?) (hz:w8.heap.size=w7.heap.size) (hb:Below w1.heap.size w1 w8) (hq:q.sa=none∧q.sn=0∧q.sc=0∧q.ia=none∧q.im=0∧q.ic=0∧q.p.spans=[] ∧ q.p.items=[]):Making Z B0 tb w1 w8 v l q w7.heap.size:=by
 have hne:∀ (g:Nat) t c m,w7.heap[g]? = some (.cells c t m)→t≠116→w8.heap[g]? = w7.heap[g]?:=fun g t c m hc hp=>hs g (by rintro rfl;exact hp (bk_type ht hc))
 refine ⟨hk,row_frame hr fun g _ _ hg _=>hs g (by rintro rfl;exact tn hg.symm),fun x hx=>⟨(he x hx).1.frame (by omega) (fun g t c m h1 hc=>hne g t c m hc (by rcases h1 with ⟨_,rfl⟩ | ⟨_,rfl⟩ <;> decide)) (fun k cs m hc=>hne k _ cs m hc (by decide)),(he x hx).2⟩,?_,tn,b0,hB,by omega,hb,tl⟩
 obtain ⟨q1,q2,q3,q4,q5,q6,q7,q8⟩:=hq
 refine ⟨?_,[],?_,by rw [q8];rfl⟩
 ·rw [q1,q2,q3,q7]
  exact Sps.nil_ _ _
 ·rw [q4,q5,q6]
  exact Ros.nil_ _ _
theorem PcR.lens {w:World} {base:Nat} {q:Pa} (h:PcR Z w base q):q.p.spans.length=q.sn∧q.p.items.length=q.im:=by
 obtain ⟨a,c,hv,_⟩:=h.spans.form
 obtain ⟨R,hR,e⟩:=h.items
 obtain ⟨a',c',hv',_⟩:=hR.form
 simp only [Value.slice.injEq] at hv hv'
 rw [← e,List.length_map]
 exact ⟨hv.2.1.symm,hv'.2.1.symm⟩
structure CutUp (Z:Nat→Prop) (pub t:Int) (B0 tb:Nat) (w1 wr:World) (v:Value) (l:List Pa) (q:Pa) (B:Nat) (r:List Pce) (TOT:List Pc) (i:Nat):Prop where
 mk_:Making Z B0 tb w1 wr v l q B
 tot:l.map Pa.p++cutP pub t r q.p=TOT
 few:l.length≤i
set_option maxHeartbeats 16000000 in
theorem st_cut {w:World} {b0:Nat} {a:Option Addr} {n c:Nat} {P:List Pb} (h:Pcw w b0 (.slice a n c) P) (hR:RightP Sp.zr (P.map Prod.fst)) (hbo:BodsOk w P) (hz:∀ k,w.heap.size≤k→Z k) {pub f t:Int} :
  Calls Tryz.prog 253 #[.slice a n c,.agg #[.int .i64 1,.int .i64 pub,.int .i64 0,.int .i64 0,.int .i64 f,.int .i64 t,.slice none 0 0,.slice none 0 0]] w fun e w'=>(∃ va vn vc l,e=.returned (.slice va vn vc)∧Tells Z w' w.heap.size (.slice va vn vc) l∧l.map Pa.p=cutP pub t (P.map Prod.fst) ⟨1,pub,0,0,f,t,[],[]⟩)∧Below w.heap.size w w':=by
 have HP:Hid (Pcw w b0 (.slice a n c) P):=h
 have HBO:Hid (BodsOk w P):=hbo
 have HRP:Hid (RightP Sp.zr (P.map Prod.fst)):=hR
 have HZ:Hid (∀ k,w.heap.size≤k→Z k):=hz
 have HPN:Hid (P.length=n):=by
  obtain ⟨a',c',hv,_⟩:=h.form
  simp only [Value.slice.injEq] at hv
  exact hv.2.1.symm
 have hn:n≤1099511627776:=by
  have:=RightP_len _ _ hR (by decide)
  rw [List.length_map,HPN.out] at this
  have h0:Sp.zr.to=0:=rfl
  omega
 obtain ⟨TOT,HTOT⟩:∃ T,Hid (cutP pub t (P.map Prod.fst) ⟨1,pub,0,0,f,t,[],[]⟩=T):=⟨_,rfl⟩
 obtain ⟨W1,HW1⟩:∃ W1,Hid (W1=w.alloc (.cells #[.int .i64 1,.int .i64 pub,.int .i64 0,.int .i64 0,.int .i64 f,.int .i64 t,.slice none 0 0,.slice none 0 0] 116)):=⟨_,rfl⟩
 have HX1:Hid (Below w.heap.size w W1):=by (show Below _ _ _);rw [HW1.out];exact below_new w _
 have HK1:Hid (Bk W1 w.heap.size #[.int .i64 1,.int .i64 pub,.int .i64 0,.int .i64 0,.int .i64 f,.int .i64 t,.slice none 0 0,.slice none 0 0] 116):=by (show Bk _ _ _ _);rw [HW1.out];exact Bk.new w _ _
 obtain ⟨tb,HTB⟩:∃ tb,Hid (tb=w.heap.size):=⟨_,rfl⟩
 have HU0:Hid (CutUp Z pub t W1.heap.size tb w W1 (.slice none 0 0) [] (⟨⟨1,pub,0,0,f,t,[],[]⟩,none,0,0,none,0,0⟩:Pa) W1.heap.size (P.map Prod.fst) TOT 0):=by
  refine ⟨⟨?_,⟨rfl,.inl ⟨rfl,rfl⟩⟩,fun x hx=>(by cases hx),⟨Sps.nil_ _ _,[],Ros.nil_ _ _,rfl⟩,fun e=>(by cases e),HX1.out.size,Nat.le_refl _,Nat.le_refl _,HX1.out,?_⟩,HTOT.out,Nat.le_refl _⟩
  ·rw [HTB.out];exact HK1.out
  ·rw [HTB.out];exact Nat.le_refl _
 obtain ⟨POST,HPO⟩:∃ P0:Ending→World→Prop,Hid (P0=fun e w'=>(∃ va vn vc l,e=.returned (.slice va vn vc)∧Tells Z w' w.heap.size (.slice va vn vc) l∧l.map Pa.p=cutP pub t (P.map Prod.fst) ⟨1,pub,0,0,f,t,[],[]⟩)∧Below w.heap.size w w'):=⟨_,rfl⟩
 have hpost:(fun e w'=>(∃ va vn vc l,e=.returned (.slice va vn vc)∧Tells Z w' w.heap.size (.slice va vn vc) l∧l.map Pa.p=cutP pub t (P.map Prod.fst) ⟨1,pub,0,0,f,t,[],[]⟩)∧Below w.heap.size w w')=fun e w'=>POST e w':=HPO.out.symm
 rw [hpost]
 clear hpost h hR hbo hz
 go_enter Tryz.func253,Tryz.ntmps253
 go_upto_region 1 with fail
 rw [← HW1.out,← HTB.out]
 go_wp2
 go_loopw [5,8,11] (fun t5 _t8 t11 wr=>∃ (i:Nat) (va:Option Addr) (vn vc:Nat) (l:List Pa) (fr:Int) (sps:List Sp) (its:List It) (sa:Option Addr) (sn sc:Nat) (ia:Option Addr) (im ic:Nat) (B:Nat),t5=.slice va vn vc∧t11=.int .i64 (i:Int)∧i≤n∧sn≤32∧im≤8∧Hid (CutUp Z pub t W1.heap.size tb w wr (.slice va vn vc) l (⟨⟨1,pub,0,0,fr,t,sps,its⟩,sa,sn,sc,ia,im,ic⟩:Pa) B ((P.map Prod.fst).drop i) TOT i)) (fun _ _ t11 _=>n - (intOf t11).toNat)
 case atStart=>exact ⟨0,none,0,0,[],f,[],[],none,0,0,none,0,0,W1.heap.size,rfl,rfl,Nat.zero_le _,by omega,by omega,HU0⟩
 case round =>
  obtain ⟨i,va,vn,vc,l,fr,sps,its,sa,sn,sc,ia,im,ic,B,rfl,rfl,hi,hsn,him,HU⟩:=hrel
  obtain ⟨w2,rfl⟩:∃ w2,w2=wr:=⟨wr,rfl⟩
  have HLL:Hid (l.length≤1099511627776):=by (show _≤_);have:=HU.out.few;omega
  by_cases hlt:i<n
  ·have hlt':(i:Int)<(n:Int):=by omega
   have gi:(0:Int)≤(i:Int):=by omega
   obtain ⟨x,hx⟩:∃ x,P[i]? = some x:=⟨P[i]'(by rw [HPN.out];exact hlt),List.getElem?_eq_getElem _⟩
   obtain ⟨g,rfl,hgb,hgl,d0,d1,d2,d3,d4,d5⟩:=(HP.out.below HU.out.mk_.bel).at_ hx
   have HD:Hid ((P.map Prod.fst).drop i=x.1 :: (P.map Prod.fst).drop (i+1)):=by
    (show _=_)
    have hil:i<(P.map Prod.fst).length:=by rw [List.length_map,HPN.out];exact hlt
    rw [List.drop_eq_getElem_cons hil]
    congr 1
    have:=List.getElem?_eq_getElem hil
    rw [List.getElem?_map,hx] at this
    exact (Option.some.inj this).symm
   have HXB:Hid (x.1.1.is=1→x.2.2.1=x.1.2.body.length∧x.1.2.body.length≤400∧Rd w x.2.1 x.2.2.1 x.1.2.body∧(0≤x.1.2.for_∧x.1.2.for_≤4294967295)):=HBO.out x (List.mem_of_getElem? hx)
   have HXE:=RightP_each HRP.out x.1 (List.mem_map.2 ⟨x,List.mem_of_getElem? hx,rfl⟩)
   clear hx
   obtain ⟨⟨⟨cf,ct,ci⟩,⟨ck,co,cb⟩⟩,⟨ba,bl,bc⟩⟩:=x
   simp only at d0 d1 d2 d3 d4 d5 HXE HXB HD
   obtain ⟨x1,x2,x3,x4,x5,x6,x7⟩:=HXE
   have x1:(0:Int)<cf:=x1
   have HX6:Hid (ci=1→ct=cf∧ck=cf):=x6
   have HLN:=HU.out.mk_.cur.lens
   simp only at HLN
   have HLN:Hid (sps.length=sn∧its.length=im):=HLN
   have HCP:Hid (cutP pub t ((P.map Prod.fst).drop i) ⟨1,pub,0,0,fr,t,sps,its⟩=if fullB ⟨1,pub,0,0,fr,t,sps,its⟩ ((⟨cf,ct,ci⟩:Sp),(⟨ck,co,cb⟩:It))=true then shutP ⟨1,pub,0,0,fr,t,sps,its⟩ ((⟨cf,ct,ci⟩:Sp),(⟨ck,co,cb⟩:It)) :: cutP pub t ((P.map Prod.fst).drop (i+1)) (addP (restP pub t ((⟨cf,ct,ci⟩:Sp),(⟨ck,co,cb⟩:It))) ((⟨cf,ct,ci⟩:Sp),(⟨ck,co,cb⟩:It))) else cutP pub t ((P.map Prod.fst).drop (i+1)) (addP ⟨1,pub,0,0,fr,t,sps,its⟩ ((⟨cf,ct,ci⟩:Sp),(⟨ck,co,cb⟩:It)))):=by (show _=_);rw [HD.out,cutP]
   obtain ⟨W3,HW3⟩:∃ W3,Hid (W3=w2.alloc (.cells #[.int .i64 cf,.int .i64 ct,.int .i64 ci,.int .i64 ck,.int .u32 co,.slice ba bl bc] 400)):=⟨_,rfl⟩
   have HB3:Hid (Below w2.heap.size w2 W3):=by (show Below _ _ _);rw [HW3.out];exact below_new w2 _
   obtain ⟨pv,HPV⟩:∃ pv,Hid (pv=w2.heap.size):=⟨_,rfl⟩
   have HK3:Hid (Bk W3 pv #[.int .i64 cf,.int .i64 ct,.int .i64 ci,.int .i64 ck,.int .u32 co,.slice ba bl bc] 400):=by (show Bk _ _ _ _);rw [HW3.out,HPV.out];exact Bk.new w2 _ _
   have HM3:Hid (Making Z W1.heap.size tb w W3 (.slice va vn vc) l (⟨⟨1,pub,0,0,fr,t,sps,its⟩,sa,sn,sc,ia,im,ic⟩:Pa) B):=HU.out.mk_.below HB3.out
   clear x5 x6 x7
   go_upto_region 5 with fail
   rw [← HW3.out,← HPV.out]
   clear d0 d1 d2 d3 d4 d5
   have t0:W3.cell? ⟨tb,0,none⟩=some (.int .i64 1):=HM3.out.tbk.cell 0 rfl
   have t1:W3.cell? ⟨tb,1,none⟩=some (.int .i64 pub):=HM3.out.tbk.cell 1 rfl
   have t2:W3.cell? ⟨tb,2,none⟩=some (.int .i64 0):=HM3.out.tbk.cell 2 rfl
   have t3:W3.cell? ⟨tb,3,none⟩=some (.int .i64 0):=HM3.out.tbk.cell 3 rfl
   have t4:W3.cell? ⟨tb,4,none⟩=some (.int .i64 fr):=HM3.out.tbk.cell 4 rfl
   have t5:W3.cell? ⟨tb,5,none⟩=some (.int .i64 t):=HM3.out.tbk.cell 5 rfl
   have t6:W3.cell? ⟨tb,6,none⟩=some (.slice sa sn sc):=HM3.out.tbk.cell 6 rfl
   have t7:W3.cell? ⟨tb,7,none⟩=some (.slice ia im ic):=HM3.out.tbk.cell 7 rfl
   have e0:W3.cell? ⟨pv,0,none⟩=some (.int .i64 cf):=HK3.out.cell 0 rfl
   have e1:W3.cell? ⟨pv,1,none⟩=some (.int .i64 ct):=HK3.out.cell 1 rfl
   have e2:W3.cell? ⟨pv,2,none⟩=some (.int .i64 ci):=HK3.out.cell 2 rfl
   have e3:W3.cell? ⟨pv,3,none⟩=some (.int .i64 ck):=HK3.out.cell 3 rfl
   have e4:W3.cell? ⟨pv,4,none⟩=some (.int .u32 co):=HK3.out.cell 4 rfl
   have e5:W3.cell? ⟨pv,5,none⟩=some (.slice ba bl bc):=HK3.out.cell 5 rfl
   have HIF:Hid (Calls Tryz.prog 303 #[.agg #[.int .i64 1,.int .i64 pub,.int .i64 0,.int .i64 0,.int .i64 fr,.int .i64 t,.slice sa sn sc,.slice ia im ic],.agg #[.int .i64 cf,.int .i64 ct,.int .i64 ci,.int .i64 ck,.int .u32 co,.slice ba bl bc]] W3 fun e w'=>e=.returned (.bool (fullB ⟨1,pub,0,0,fr,t,sps,its⟩ ((⟨cf,ct,ci⟩:Sp),(⟨ck,co,cb⟩:It))))∧Below W3.heap.size W3 w'):=st_isFull _ _ _ _ _ _ sa sn sc ia im ic ⟨1,pub,0,0,fr,t,sps,its⟩ ((⟨cf,ct,ci⟩:Sp),(⟨ck,co,cb⟩:It)) (ba,bl,bc) W3 HLN.out.1 HLN.out.2
   go_wp2_with fail
   refine HIF.out.mono ?_
   rintro e w4 ⟨rfl,hb4⟩
   have HM4:Hid (Making Z W1.heap.size tb w w4 (.slice va vn vc) l (⟨⟨1,pub,0,0,fr,t,sps,its⟩,sa,sn,sc,ia,im,ic⟩:Pa) B):=HM3.out.below hb4
   have HK4:Hid (Bk w4 pv #[.int .i64 cf,.int .i64 ct,.int .i64 ci,.int .i64 ck,.int .u32 co,.slice ba bl bc] 400):=HK3.out.stay hb4
   clear hb4 HIF t0 t1 t2 t3 t4 t5 t6 t7 e0 e1 e2 e3 e4 e5
   generalize hfb:fullB ⟨1,pub,0,0,fr,t,sps,its⟩ ((⟨cf,ct,ci⟩:Sp),(⟨ck,co,cb⟩:It))=fb
   have HFB:Hid (fullB ⟨1,pub,0,0,fr,t,sps,its⟩ ((⟨cf,ct,ci⟩:Sp),(⟨ck,co,cb⟩:It))=fb):=hfb
   clear hfb
   go_upto_if 17 with fail
   go_cut [5,8] from 18 to 37 (fun v5 _v8 wx=>∃ (va:Option Addr) (vn vc:Nat) (l:List Pa) (fr:Int) (sps:List Sp) (its:List It) (sa:Option Addr) (sn sc:Nat) (ia:Option Addr) (im ic:Nat) (B:Nat),v5=.slice va vn vc∧sn≤32∧im≤8∧(ci=1→im≠8)∧(ci≠1→sn≠32)∧Hid (Making Z W1.heap.size tb w wx (.slice va vn vc) l (⟨⟨1,pub,0,0,fr,t,sps,its⟩,sa,sn,sc,ia,im,ic⟩:Pa) B)∧Hid (l.map Pa.p++cutP pub t ((P.map Prod.fst).drop (i+1)) (addP ⟨1,pub,0,0,fr,t,sps,its⟩ ((⟨cf,ct,ci⟩:Sp),(⟨ck,co,cb⟩:It)))=TOT)∧Hid (l.length≤i+1)∧Hid (Bk wx pv #[.int .i64 cf,.int .i64 ct,.int .i64 ci,.int .i64 ck,.int .u32 co,.slice ba bl bc] 400))
   case first =>
    cases fb with
    | false =>
     have HT:Hid (l.map Pa.p++cutP pub t ((P.map Prod.fst).drop (i+1)) (addP ⟨1,pub,0,0,fr,t,sps,its⟩ ((⟨cf,ct,ci⟩:Sp),(⟨ck,co,cb⟩:It)))=TOT):=by
      have h1:=HU.out.tot
      have h2:cutP pub t ((P.map Prod.fst).drop i) ⟨1,pub,0,0,fr,t,sps,its⟩=_:=HCP.out
      rw [HFB.out,if_neg (by decide)] at h2
      simp only at h1
      rw [h2] at h1
      exact h1
     have HNF:Hid ((ci=1→im≠8)∧(ci≠1→sn≠32)):=by
      have h1:=HFB.out
      unfold fullB at h1
      simp only at h1
      constructor
      ·intro hc e
       rw [if_pos hc,HLN.out.2,e] at h1
       cases h1
      ·intro hc e
       rw [if_neg hc,HLN.out.1,e] at h1
       cases h1
     go_wp2
     go_meet
     exact ⟨va,vn,vc,l,fr,sps,its,sa,sn,sc,ia,im,ic,B,rfl,hsn,him,HNF.out.1,HNF.out.2,HM4,HT,Nat.le_succ_of_le HU.out.few,HK4⟩
    | true =>
     have HT:Hid (l.map Pa.p++shutP ⟨1,pub,0,0,fr,t,sps,its⟩ ((⟨cf,ct,ci⟩:Sp),(⟨ck,co,cb⟩:It)) :: cutP pub t ((P.map Prod.fst).drop (i+1)) (addP (restP pub t ((⟨cf,ct,ci⟩:Sp),(⟨ck,co,cb⟩:It))) ((⟨cf,ct,ci⟩:Sp),(⟨ck,co,cb⟩:It)))=TOT):=by
      have h1:=HU.out.tot
      have h2:cutP pub t ((P.map Prod.fst).drop i) ⟨1,pub,0,0,fr,t,sps,its⟩=_:=HCP.out
      rw [HFB.out,if_pos rfl] at h2
      simp only at h1
      rw [h2] at h1
      exact h1
     obtain ⟨W5,HW5⟩:∃ W5,Hid (W5=w4.alloc (.cells #[.int .i64 1,.int .i64 pub,.int .i64 0,.int .i64 0,.int .i64 cf,.int .i64 t,.slice none 0 0,.slice none 0 0] 116)):=⟨_,rfl⟩
     have HB5:Hid (Below w4.heap.size w4 W5):=by (show Below _ _ _);rw [HW5.out];exact below_new w4 _
     obtain ⟨rv,HRV⟩:∃ rv,Hid (rv=w4.heap.size):=⟨_,rfl⟩
     have HR5:Hid (Bk W5 rv #[.int .i64 1,.int .i64 pub,.int .i64 0,.int .i64 0,.int .i64 cf,.int .i64 t,.slice none 0 0,.slice none 0 0] 116):=by (show Bk _ _ _ _);rw [HW5.out,HRV.out];exact Bk.new w4 _ _
     have HM5:Hid (Making Z W1.heap.size tb w W5 (.slice va vn vc) l (⟨⟨1,pub,0,0,fr,t,sps,its⟩,sa,sn,sc,ia,im,ic⟩:Pa) B):=HM4.out.below HB5.out
     have HK5:Hid (Bk W5 pv #[.int .i64 cf,.int .i64 ct,.int .i64 ci,.int .i64 ck,.int .u32 co,.slice ba bl bc] 400):=HK4.out.stay HB5.out
     have t0:w4.cell? ⟨tb,0,none⟩=some (.int .i64 1):=HM4.out.tbk.cell 0 rfl
     have t1:w4.cell? ⟨tb,1,none⟩=some (.int .i64 pub):=HM4.out.tbk.cell 1 rfl
     have t2:w4.cell? ⟨tb,2,none⟩=some (.int .i64 0):=HM4.out.tbk.cell 2 rfl
     have t3:w4.cell? ⟨tb,3,none⟩=some (.int .i64 0):=HM4.out.tbk.cell 3 rfl
     have t4:w4.cell? ⟨tb,4,none⟩=some (.int .i64 fr):=HM4.out.tbk.cell 4 rfl
     have t5:w4.cell? ⟨tb,5,none⟩=some (.int .i64 t):=HM4.out.tbk.cell 5 rfl
     have t6:w4.cell? ⟨tb,6,none⟩=some (.slice sa sn sc):=HM4.out.tbk.cell 6 rfl
     have t7:w4.cell? ⟨tb,7,none⟩=some (.slice ia im ic):=HM4.out.tbk.cell 7 rfl
     have e0:w4.cell? ⟨pv,0,none⟩=some (.int .i64 cf):=HK4.out.cell 0 rfl
     have e1:w4.cell? ⟨pv,1,none⟩=some (.int .i64 ct):=HK4.out.cell 1 rfl
     have e2:w4.cell? ⟨pv,2,none⟩=some (.int .i64 ci):=HK4.out.cell 2 rfl
     have e3:w4.cell? ⟨pv,3,none⟩=some (.int .i64 ck):=HK4.out.cell 3 rfl
     have e4:w4.cell? ⟨pv,4,none⟩=some (.int .u32 co):=HK4.out.cell 4 rfl
     have e5:w4.cell? ⟨pv,5,none⟩=some (.slice ba bl bc):=HK4.out.cell 5 rfl
     go_upto_region 7 with fail
     rw [← HW5.out,← HRV.out]
     clear t0 t1 t2 t3 t4 t5 t6 t7 e0 e1 e2 e3 e4 e5
     have t0:W5.cell? ⟨tb,0,none⟩=some (.int .i64 1):=HM5.out.tbk.cell 0 rfl
     have t1:W5.cell? ⟨tb,1,none⟩=some (.int .i64 pub):=HM5.out.tbk.cell 1 rfl
     have t2:W5.cell? ⟨tb,2,none⟩=some (.int .i64 0):=HM5.out.tbk.cell 2 rfl
     have t3:W5.cell? ⟨tb,3,none⟩=some (.int .i64 0):=HM5.out.tbk.cell 3 rfl
     have t4:W5.cell? ⟨tb,4,none⟩=some (.int .i64 fr):=HM5.out.tbk.cell 4 rfl
     have t5:W5.cell? ⟨tb,5,none⟩=some (.int .i64 t):=HM5.out.tbk.cell 5 rfl
     have t6:W5.cell? ⟨tb,6,none⟩=some (.slice sa sn sc):=HM5.out.tbk.cell 6 rfl
     have t7:W5.cell? ⟨tb,7,none⟩=some (.slice ia im ic):=HM5.out.tbk.cell 7 rfl
     have e0:W5.cell? ⟨pv,0,none⟩=some (.int .i64 cf):=HK5.out.cell 0 rfl
     have tf5:=HM5.out.tbk.free 5
     obtain ⟨W6,HW6⟩:∃ W6,Hid (W6=W5.setCell ⟨tb,5,none⟩ (.int .i64 (cf - 1))):=⟨_,rfl⟩
     have HM6:Hid (Making Z W1.heap.size tb w W6 (.slice va vn vc) l (⟨shutP ⟨1,pub,0,0,fr,t,sps,its⟩ ((⟨cf,ct,ci⟩:Sp),(⟨ck,co,cb⟩:It)),sa,sn,sc,ia,im,ic⟩:Pa) B):=by
      (show Making _ _ _ _ _ _ _ _ _)
      rw [HW6.out]
      exact HM5.out.cell 5 _ rfl ⟨HM5.out.cur.spans,HM5.out.cur.items⟩
     have HNT:Hid (rv≠tb):=by (show _≠_);have h1:=HM4.out.tbk.lt;have h2:=HRV.out;omega
     have HR6:Hid (Bk W6 rv #[.int .i64 1,.int .i64 pub,.int .i64 0,.int .i64 0,.int .i64 cf,.int .i64 t,.slice none 0 0,.slice none 0 0] 116):=by (show Bk _ _ _ _);rw [HW6.out];exact HR5.out.other _ _ HNT.out
     have HK6:Hid (Bk W6 pv #[.int .i64 cf,.int .i64 ct,.int .i64 ci,.int .i64 ck,.int .u32 co,.slice ba bl bc] 400):=by
      (show Bk _ _ _ _)
      rw [HW6.out]
      refine HK5.out.other _ _ ?_
      rintro rfl
      have:=bk_type HK5.out HM5.out.tbk
      exact absurd this (by decide)
     go_upto_region 8 with fail
     rw [← HW6.out]
     clear t0 t1 t2 t3 t4 t5 t6 t7 e0 tf5
     have t0:W6.cell? ⟨tb,0,none⟩=some (.int .i64 1):=HM6.out.tbk.cell 0 rfl
     have t1:W6.cell? ⟨tb,1,none⟩=some (.int .i64 pub):=HM6.out.tbk.cell 1 rfl
     have t2:W6.cell? ⟨tb,2,none⟩=some (.int .i64 0):=HM6.out.tbk.cell 2 rfl
     have t3:W6.cell? ⟨tb,3,none⟩=some (.int .i64 0):=HM6.out.tbk.cell 3 rfl
     have t4:W6.cell? ⟨tb,4,none⟩=some (.int .i64 fr):=HM6.out.tbk.cell 4 rfl
     have t5:W6.cell? ⟨tb,5,none⟩=some (.int .i64 (cf - 1)):=HM6.out.tbk.cell 5 rfl
     have t6:W6.cell? ⟨tb,6,none⟩=some (.slice sa sn sc):=HM6.out.tbk.cell 6 rfl
     have t7:W6.cell? ⟨tb,7,none⟩=some (.slice ia im ic):=HM6.out.tbk.cell 7 rfl
     have HB7:Hid (Below W6.heap.size W6 (W6.alloc (.cells #[.int .i64 1,.int .i64 pub,.int .i64 0,.int .i64 0,.int .i64 fr,.int .i64 (cf - 1),.slice sa sn sc,.slice ia im ic] 116))):=below_new _ _
     have HM7:=HM6.out.below HB7.out
     have HTD:Hid (∀ j u,(pacel (⟨shutP ⟨1,pub,0,0,fr,t,sps,its⟩ ((⟨cf,ct,ci⟩:Sp),(⟨ck,co,cb⟩:It)),sa,sn,sc,ia,im,ic⟩:Pa))[j]? = some u→(W6.alloc (.cells #[.int .i64 1,.int .i64 pub,.int .i64 0,.int .i64 0,.int .i64 fr,.int .i64 (cf - 1),.slice sa sn sc,.slice ia im ic] 116)).cell? ((⟨W6.heap.size,0,none⟩:Addr).add j)=some u):=tell_told (q:=(⟨shutP ⟨1,pub,0,0,fr,t,sps,its⟩ ((⟨cf,ct,ci⟩:Sp),(⟨ck,co,cb⟩:It)),sa,sn,sc,ia,im,ic⟩:Pa)) (Bk.new _ _ _)
     have HM7:Hid (Making Z W1.heap.size tb w (W6.alloc (.cells #[.int .i64 1,.int .i64 pub,.int .i64 0,.int .i64 0,.int .i64 fr,.int .i64 (cf - 1),.slice sa sn sc,.slice ia im ic] 116)) (.slice va vn vc) l (⟨shutP ⟨1,pub,0,0,fr,t,sps,its⟩ ((⟨cf,ct,ci⟩:Sp),(⟨ck,co,cb⟩:It)),sa,sn,sc,ia,im,ic⟩:Pa) B):=HM7
     go_wp2_with (at_builtin;refine wpList_append_tell rfl (.tmp 33) (.tmp 35) rfl W1.heap.size _ l rfl HM7.out.row ⟨W6.heap.size,0,none⟩ 1 (⟨shutP ⟨1,pub,0,0,fr,t,sps,its⟩ ((⟨cf,ct,ci⟩:Sp),(⟨ck,co,cb⟩:It)),sa,sn,sc,ia,im,ic⟩:Pa) rfl HTD.out HLL.out (Nat.le_trans HM7.out.h0 HM7.out.hB) ?_)
     intro v8 w8 hr8 hg8 hb8 hsn8
     have HSN8:Hid (some tb≠v8.ownBlock):=fun e=>by
      rcases hsn8 with h1 | ⟨k,h1,h2⟩
      ·exact HM7.out.tn (e.trans h1)
      ·rw [h1] at e
       have h3:=HM7.out.tbk.lt
       simp only [Option.some.injEq] at e
       omega
     obtain ⟨q1,q2,q3,q4⟩:=HM7.out.done hg8 hb8
     have HRW:Hid (w8.ownsRow W1.heap.size 116 8 v8 (l++[(⟨shutP ⟨1,pub,0,0,fr,t,sps,its⟩ ((⟨cf,ct,ci⟩:Sp),(⟨ck,co,cb⟩:It)),sa,sn,sc,ia,im,ic⟩:Pa)]).length ((l++[(⟨shutP ⟨1,pub,0,0,fr,t,sps,its⟩ ((⟨cf,ct,ci⟩:Sp),(⟨ck,co,cb⟩:It)),sa,sn,sc,ia,im,ic⟩:Pa)]).flatMap pacel)):=hr8.row
     have HTK:Hid (Bk w8 tb (pacel (⟨shutP ⟨1,pub,0,0,fr,t,sps,its⟩ ((⟨cf,ct,ci⟩:Sp),(⟨ck,co,cb⟩:It)),sa,sn,sc,ia,im,ic⟩:Pa)).toArray 116):=q1
     have HEA:Hid (∀ x∈l++[(⟨shutP ⟨1,pub,0,0,fr,t,sps,its⟩ ((⟨cf,ct,ci⟩:Sp),(⟨ck,co,cb⟩:It)),sa,sn,sc,ia,im,ic⟩:Pa)],PcR Z w8 W1.heap.size x∧PcLt w8.heap.size x):=q2
     have HBE:Hid (Below w.heap.size w w8∧W1.heap.size≤w8.heap.size):=⟨q3,q4⟩
     have HR8:Hid (Bk w8 rv #[.int .i64 1,.int .i64 pub,.int .i64 0,.int .i64 0,.int .i64 cf,.int .i64 t,.slice none 0 0,.slice none 0 0] 116):=(HR6.out.stay HB7.out).grown hg8 (fun e=>by have h1:=(HM4.out.row.lt rv e.symm).2;have h2:=HRV.out;omega)
     have HK8:Hid (Bk w8 pv #[.int .i64 cf,.int .i64 ct,.int .i64 ci,.int .i64 ck,.int .u32 co,.slice ba bl bc] 400):=(HK6.out.stay HB7.out).grown hg8 (fun e=>by
      obtain ⟨c',m',k⟩:=row_type HM7.out.row e.symm
      exact absurd (bk_type (HK6.out.stay HB7.out) k) (by decide))
     obtain ⟨v8a,v8n,v8c,hv8⟩:∃ a n c,v8=.slice a n c:=by
      rcases hr8.row.2 with ⟨hv,_⟩ | ⟨g8,c8,cur,hv,_⟩
      ·exact ⟨_,_,_,hv⟩
      ·exact ⟨_,_,_,hv⟩
     subst hv8
     clear q1 q2 q3 q4 hr8 hg8 hb8 hsn8 t0 t1 t2 t3 t4 t5 t6 t7
     have t0:w8.cell? ⟨tb,0,none⟩=some (.int .i64 1):=HTK.out.cell 0 rfl
     have t1:w8.cell? ⟨tb,1,none⟩=some (.int .i64 pub):=HTK.out.cell 1 rfl
     have t2:w8.cell? ⟨tb,2,none⟩=some (.int .i64 0):=HTK.out.cell 2 rfl
     have t3:w8.cell? ⟨tb,3,none⟩=some (.int .i64 0):=HTK.out.cell 3 rfl
     have t4:w8.cell? ⟨tb,4,none⟩=some (.int .i64 fr):=HTK.out.cell 4 rfl
     have t5:w8.cell? ⟨tb,5,none⟩=some (.int .i64 (cf - 1)):=HTK.out.cell 5 rfl
     have t6:w8.cell? ⟨tb,6,none⟩=some (.slice sa sn sc):=HTK.out.cell 6 rfl
     have t7:w8.cell? ⟨tb,7,none⟩=some (.slice ia im ic):=HTK.out.cell 7 rfl
     have tf0:=HTK.out.free 0
     have tf1:=HTK.out.free 1
     have tf2:=HTK.out.free 2
     have tf3:=HTK.out.free 3
     have tf4:=HTK.out.free 4
     have tf5:=HTK.out.free 5
     have tf6:=HTK.out.free 6
     have tf7:=HTK.out.free 7
     have r0:w8.cell? ⟨rv,0,none⟩=some (.int .i64 1):=HR8.out.cell 0 rfl
     have r1:w8.cell? ⟨rv,1,none⟩=some (.int .i64 pub):=HR8.out.cell 1 rfl
     have r2:w8.cell? ⟨rv,2,none⟩=some (.int .i64 0):=HR8.out.cell 2 rfl
     have r3:w8.cell? ⟨rv,3,none⟩=some (.int .i64 0):=HR8.out.cell 3 rfl
     have r4:w8.cell? ⟨rv,4,none⟩=some (.int .i64 cf):=HR8.out.cell 4 rfl
     have r5:w8.cell? ⟨rv,5,none⟩=some (.int .i64 t):=HR8.out.cell 5 rfl
     have r6:w8.cell? ⟨rv,6,none⟩=some (.slice none 0 0):=HR8.out.cell 6 rfl
     have r7:w8.cell? ⟨rv,7,none⟩=some (.slice none 0 0):=HR8.out.cell 7 rfl
     obtain ⟨w9,HW9⟩:∃ W,Hid (W=set8 w8 tb (.int .i64 1) (.int .i64 pub) (.int .i64 0) (.int .i64 0) (.int .i64 cf) (.int .i64 t) (.slice none 0 0) (.slice none 0 0)):=⟨_,rfl⟩
     have HM9:Hid (Making Z W1.heap.size tb w w9 (.slice v8a v8n v8c) (l++[(⟨shutP ⟨1,pub,0,0,fr,t,sps,its⟩ ((⟨cf,ct,ci⟩:Sp),(⟨ck,co,cb⟩:It)),sa,sn,sc,ia,im,ic⟩:Pa)]) (⟨⟨1,pub,0,0,cf,t,[],[]⟩,none,0,0,none,0,0⟩:Pa) w8.heap.size):=by
      (show Making _ _ _ _ _ _ _ _ _)
      refine Making.again HTK.out HRW.out HEA.out HSN8.out HM4.out.b0 HBE.out.2 HM4.out.tl ?_ ?_ ?_ ?_ ⟨rfl,rfl,rfl,rfl,rfl,rfl,rfl,rfl⟩
      ·rw [HW9.out];exact Bk.set8 HTK.out _ _ _ _ _ _ _ _
      ·intro k hk;rw [HW9.out];exact set8_other _ _ _ _ _ _ _ _ _ _ k hk
      ·rw [HW9.out];unfold set8;simp only [World.size_setCell]
      ·rw [HW9.out];exact set8_below HBE.out.1 tb HM4.out.tl _ _ _ _ _ _ _ _
     have HK9:Hid (Bk w9 pv #[.int .i64 cf,.int .i64 ct,.int .i64 ci,.int .i64 ck,.int .u32 co,.slice ba bl bc] 400):=by
      (show Bk _ _ _ _)
      rw [HW9.out]
      refine (set8_other _ _ _ _ _ _ _ _ _ _ pv ?_).trans HK8.out
      rintro rfl
      exact absurd (bk_type HK8.out HTK.out) (by decide)
     have HT9:Hid ((l++[(⟨shutP ⟨1,pub,0,0,fr,t,sps,its⟩ ((⟨cf,ct,ci⟩:Sp),(⟨ck,co,cb⟩:It)),sa,sn,sc,ia,im,ic⟩:Pa)]).map Pa.p++cutP pub t ((P.map Prod.fst).drop (i+1)) (addP ⟨1,pub,0,0,cf,t,[],[]⟩ ((⟨cf,ct,ci⟩:Sp),(⟨ck,co,cb⟩:It)))=TOT):=by
      (show _=_)
      rw [← HT.out,List.map_append,List.append_assoc]
      rfl
     have HL9:Hid ((l++[(⟨shutP ⟨1,pub,0,0,fr,t,sps,its⟩ ((⟨cf,ct,ci⟩:Sp),(⟨ck,co,cb⟩:It)),sa,sn,sc,ia,im,ic⟩:Pa)]).length≤i+1):=by (show _≤_);rw [List.length_append];have:=HU.out.few;simp;exact this
     go_wp2
     go_meet
     change ∃ (va:Option Addr) (vn vc:Nat) (l:List Pa) (fr:Int) (sps:List Sp) (its:List It) (sa:Option Addr) (sn sc:Nat) (ia:Option Addr) (im ic:Nat) (B:Nat),_=Value.slice va vn vc∧_∧_∧_∧_∧Hid (Making Z W1.heap.size tb w (set8 w8 tb (.int .i64 1) (.int .i64 pub) (.int .i64 0) (.int .i64 0) (.int .i64 cf) (.int .i64 t) (.slice none 0 0) (.slice none 0 0)) (.slice va vn vc) l (⟨⟨1,pub,0,0,fr,t,sps,its⟩,sa,sn,sc,ia,im,ic⟩:Pa) B)∧_∧_∧Hid (Bk (set8 w8 tb (.int .i64 1) (.int .i64 pub) (.int .i64 0) (.int .i64 0) (.int .i64 cf) (.int .i64 t) (.slice none 0 0) (.slice none 0 0)) pv #[.int .i64 cf,.int .i64 ct,.int .i64 ci,.int .i64 ck,.int .u32 co,.slice ba bl bc] 400)
     rw [← HW9.out]
     exact ⟨v8a,v8n,v8c,_,cf,[],[],none,0,0,none,0,0,w8.heap.size,rfl,by omega,by omega,fun _=>by omega,fun _=>by omega,HM9,HT9,HL9,HK9⟩
   case rest =>
   clear HM3 HM4 HK3 HK4 HU HLL HCP HFB HLN hsn him HB3 HW3
   obtain ⟨va,vn,vc,l,fr,sps,its,sa,sn,sc,ia,im,ic,B,hv5,hsn,him,hf1,hf2,HM,HT,HL,HK⟩:=hcut
   obtain ⟨w5,hwp⟩:∃ W,W=wc:=⟨_,rfl⟩
   subst hwp
   subst hv5
   have HLM:=HM.out.cur.lens
   simp only at HLM
   have HLM:Hid (sps.length=sn∧its.length=im):=HLM
   have e0:w5.cell? ⟨pv,0,none⟩=some (.int .i64 cf):=HK.out.cell 0 rfl
   have e1:w5.cell? ⟨pv,1,none⟩=some (.int .i64 ct):=HK.out.cell 1 rfl
   have e2:w5.cell? ⟨pv,2,none⟩=some (.int .i64 ci):=HK.out.cell 2 rfl
   have e3:w5.cell? ⟨pv,3,none⟩=some (.int .i64 ck):=HK.out.cell 3 rfl
   have e4:w5.cell? ⟨pv,4,none⟩=some (.int .u32 co):=HK.out.cell 4 rfl
   have e5:w5.cell? ⟨pv,5,none⟩=some (.slice ba bl bc):=HK.out.cell 5 rfl
   by_cases hc:ci=1
   ·have k1:(ci == 1)=true:=by rw [beq_iff_eq];exact hc
    have hc8:im≠8:=hf1 hc
    obtain ⟨y1,y2,y3,y4⟩:=HXB.out hc
    have hbl:bl≤400:=by omega
    have HRB:Hid (Rd w5 ba bl cb):=y3.below HM.out.bel
    have HII:Hid (ItIn ⟨ck,co,cb⟩):=⟨by have h1:=(HX6.out hc).2;have h2:=(HX6.out hc).1;show (-9223372036854775808:Int)≤ck∧ck≤9223372036854775807;omega,y4⟩
    have HTI:Hid (l.map Pa.p++cutP pub t ((P.map Prod.fst).drop (i+1)) ⟨1,pub,0,0,fr,t,sps,its++[⟨ck,co,cb⟩]⟩=TOT):=by have:=HT.out;unfold addP at this;rw [if_pos hc] at this;exact this
    clear y1 y2 y3 y4 hf1 hf2 HT hc
    go_upto_region 11 with fail
    refine wp_region_held_drew (S:=fun w'=>w'.cell? ⟨pv,3,none⟩=some (.int .i64 ck)∧w'.cell? ⟨pv,4,none⟩=some (.int .u32 co)∧w'.cell? ⟨pv,5,none⟩=some (.slice ba bl bc)) (by kernel_rfl) (⟨e3,e4,e5⟩) (fun hHeld => ?_)
    obtain ⟨wd,HWD⟩:∃ W,Hid (W=w5.drew):=⟨_,rfl⟩
    rw [← HWD.out] at hHeld ⊢
    have HBd:Hid (Below w5.heap.size w5 wd):=by (show Below _ _ _);rw [HWD.out];exact (Below.refl _ _).drew
    have HMd:Hid (Making Z W1.heap.size tb w wd (.slice va vn vc) l (⟨⟨1,pub,0,0,fr,t,sps,its⟩,sa,sn,sc,ia,im,ic⟩:Pa) B):=HM.out.below HBd.out
    have HKd:Hid (Bk wd pv #[.int .i64 cf,.int .i64 ct,.int .i64 ci,.int .i64 ck,.int .u32 co,.slice ba bl bc] 400):=HK.out.stay HBd.out
    have HRd:Hid (Rd wd ba bl cb):=HRB.out.below HBd.out
    clear e0 e1 e2 e3 e4 e5
    refine take_putH (i:=0) (v:=?_) (some 42) rfl (by kernel_rfl) (by kernel_rfl) (by kernel_rfl) (by kernel_rfl) (fun _ _ _ h=>h) (Or.inl ⟨by rfl,?_⟩) hHeld ?_
    rotate_left
    ·(intro wS hSw;obtain ⟨z0,z1,z2⟩:=hSw;go_simp;try with_reducible rfl)
    try simp only [Act.put,List.setIfInBounds_toArray,List.set_cons_zero,List.set_cons_succ]
    refine take_putH (i:=2) (v:=?_) (some 44) rfl (by kernel_rfl) (by kernel_rfl) (by kernel_rfl) (by kernel_rfl) (fun _ _ _ h=>h) (Or.inl ⟨by rfl,?_⟩) hHeld ?_
    rotate_left
    ·(intro wS hSw;obtain ⟨z0,z1,z2⟩:=hSw;go_simp;try with_reducible rfl)
    try simp only [Act.put,List.setIfInBounds_toArray,List.set_cons_zero,List.set_cons_succ]
    refine take_putH (i:=3) (v:=?_) (some 45) rfl (by kernel_rfl) (by kernel_rfl) (by kernel_rfl) (by kernel_rfl) (fun _ _ _ h=>h) (Or.inl ⟨by rfl,?_⟩) hHeld ?_
    rotate_left
    ·(intro wS hSw;obtain ⟨z0,z1,z2⟩:=hSw;go_simp;try with_reducible rfl)
    try simp only [Act.put,List.setIfInBounds_toArray,List.set_cons_zero,List.set_cons_succ]
    have hH0:Hid (wd.cell? ⟨pv,3,none⟩=some (.int .i64 ck)∧wd.cell? ⟨pv,4,none⟩=some (.int .u32 co)∧wd.cell? ⟨pv,5,none⟩=some (.slice ba bl bc)):=hHeld
    clear hHeld
    refine wpAnyH_ready (rs:=[1,4]) (by kernel_rfl) (by simp) ?_
    refine AllReadyH.cons rfl (fun K hK => ?_) (AllReadyH.cons rfl (fun K hK => ?_) AllReadyH.nil)
    ·have cl:wd.cell? ⟨tb,7,none⟩=some (.slice ia im ic):=HMd.out.tbk.cell 7 rfl
     go_simp
     clear cl
     refine hK.out _ _ hH0.out (fun _ => ?_)
     clear hK K
     try simp only [Act.put,List.getElem_toArray,List.getElem_cons_succ,List.getElem_cons_zero,List.setIfInBounds_toArray,List.set_cons_zero,List.set_cons_succ]
     refine wpAnyH_ready (rs:=[4]) (by kernel_rfl) (by simp) ?_
     refine AllReadyH.cons rfl (fun K hK => ?_) AllReadyH.nil
     go_simp
     refine (st_cloned ck co ba bl bc cb wd HRd.out (by omega)).mono ?_
     rintro e w6 ⟨a6,c6,rfl,ho6,hb6⟩
     have HO6:Hid (Own w6 wd.heap.size a6 bl c6 cb):=ho6
     have HB6:Hid (Below wd.heap.size wd w6):=hb6
     have hH6:Hid (w6.cell? ⟨pv,3,none⟩=some (.int .i64 ck)∧w6.cell? ⟨pv,4,none⟩=some (.int .u32 co)∧w6.cell? ⟨pv,5,none⟩=some (.slice ba bl bc)):=⟨(HKd.out.stay HB6.out).cell 3 rfl,(HKd.out.stay HB6.out).cell 4 rfl,(HKd.out.stay HB6.out).cell 5 rfl⟩
     clear ho6 hb6
     refine hK.out _ _ hH6.out (fun _ => ?_)
     clear hK K
     try simp only [Act.put,List.getElem_toArray,List.getElem_cons_succ,List.getElem_cons_zero,List.setIfInBounds_toArray,List.set_cons_zero,List.set_cons_succ]
     refine wpAnyH_ready (rs:=[5]) (by kernel_rfl) (by simp) ?_
     refine AllReadyH.cons rfl (fun K hK => ?_) AllReadyH.nil
     go_simp
     obtain ⟨W7,HW7⟩:∃ W7,Hid (W7=w6.alloc (.cells #[.int .i64 ck,.int .u32 co,.slice a6 bl c6] 51)):=⟨_,rfl⟩
     rw [← HW7.out]
     have HB7:Hid (Below w6.heap.size w6 W7):=by (show Below _ _ _);rw [HW7.out];exact below_new _ _
     have HN7:Hid (Bk W7 w6.heap.size #[.int .i64 ck,.int .u32 co,.slice a6 bl c6] 51):=by (show Bk _ _ _ _);rw [HW7.out];exact Bk.new _ _ _
     have HM7:Hid (Making Z W1.heap.size tb w W7 (.slice va vn vc) l (⟨⟨1,pub,0,0,fr,t,sps,its⟩,sa,sn,sc,ia,im,ic⟩:Pa) B):=(HMd.out.below HB6.out).below HB7.out
     have HK7:Hid (Bk W7 pv #[.int .i64 cf,.int .i64 ct,.int .i64 ci,.int .i64 ck,.int .u32 co,.slice ba bl bc] 400):=(HKd.out.stay HB6.out).stay HB7.out
     have hH7:Hid (W7.cell? ⟨pv,3,none⟩=some (.int .i64 ck)∧W7.cell? ⟨pv,4,none⟩=some (.int .u32 co)∧W7.cell? ⟨pv,5,none⟩=some (.slice ba bl bc)):=⟨HK7.out.cell 3 rfl,HK7.out.cell 4 rfl,HK7.out.cell 5 rfl⟩
     refine hK.out _ _ hH7.out (fun _ => ?_)
     clear hK K
     try simp only [Act.put,List.getElem_toArray,List.getElem_cons_succ,List.getElem_cons_zero,List.setIfInBounds_toArray,List.set_cons_zero,List.set_cons_succ]
     obtain ⟨R,hR,hRe⟩:=HM7.out.cur.items
     have HRO:Hid (Ros Z W7 B (.slice ia im ic) R):=hR
     have HRE:Hid (R.map Prod.fst=its):=hRe
     have HBT:Hid (BdT Z W7 (a6,bl,c6) cb):=(BdT.of_own HO6.out (fun k hk=>HZ.out k (Nat.le_trans (Nat.le_trans HM.out.bel.size HBd.out.size) hk))).frame HB7.out.size fun k hk _ _=>HB7.out.block k hk
     have HRL:Hid (R.length≤1000000000000):=by (show _≤_);have h1:=congrArg List.length HRE.out;rw [List.length_map] at h1;have h2:=HLM.out.2;omega
     clear hR hRe
     refine wpAnyH_ready (rs:=[6]) (by kernel_rfl) (by simp) ?_
     refine AllReadyH.cons rfl (fun K hK => ?_) AllReadyH.nil
     refine step_append_ro (Z:=Z) rfl (.tmp 43) (.tmp 47) rfl B (.slice ia im ic) R rfl HRO.out ⟨w6.heap.size,0,none⟩ 1 (⟨ck,co,cb⟩,a6,bl,c6) rfl (item_told HN7.out) HBT.out HII.out HRL.out HM7.out.hB ?_
     intro v8 w8 hr8 hg8 hb8 hn8
     obtain ⟨a8,c8,hv8,_⟩:=hr8.form
     obtain ⟨n8,hn8e⟩:∃ n,n=(R++[((⟨ck,co,cb⟩:It),((a6,bl,c6):Bd))]).length:=⟨_,rfl⟩
     rw [← hn8e] at hv8
     subst hv8
     have HN8:Hid (n8=im+1):=by (show _=_);rw [hn8e,List.length_append];have h1:=congrArg List.length HRE.out;rw [List.length_map] at h1;have h2:=HLM.out.2;simp;omega
     have HR8:Hid (Ros Z w8 B (.slice a8 n8 c8) (R++[(⟨ck,co,cb⟩,a6,bl,c6)])):=hr8
     have HG8:Hid (W7.grownBy w8 (Value.slice ia im ic).ownBlock):=hg8
     have HB8:Hid (Below B W7 w8):=hb8
     have HK8:Hid (Bk w8 pv #[.int .i64 cf,.int .i64 ct,.int .i64 ci,.int .i64 ck,.int .u32 co,.slice ba bl bc] 400):=HK7.out.grown hg8 (fun e=>by obtain ⟨c9,m9,k9⟩:=row_type HRO.out.row e.symm;exact absurd (bk_type HK7.out k9) (by decide))
     have HTK:Hid (Bk w8 tb #[.int .i64 1,.int .i64 pub,.int .i64 0,.int .i64 0,.int .i64 fr,.int .i64 t,.slice sa sn sc,.slice ia im ic] 116):=HM7.out.tbk.grown hg8 (fun e=>by obtain ⟨c9,m9,k9⟩:=row_type HRO.out.row e.symm;exact absurd (bk_type HM7.out.tbk k9) (by decide))
     have hH8:Hid (w8.cell? ⟨pv,3,none⟩=some (.int .i64 ck)∧w8.cell? ⟨pv,4,none⟩=some (.int .u32 co)∧w8.cell? ⟨pv,5,none⟩=some (.slice ba bl bc)):=⟨HK8.out.cell 3 rfl,HK8.out.cell 4 rfl,HK8.out.cell 5 rfl⟩
     clear hr8 hg8 hb8 hn8 hn8e
     refine hK.out _ _ hH8.out (fun _ => ?_)
     clear hK K
     try simp only [Act.put,List.getElem_toArray,List.getElem_cons_succ,List.getElem_cons_zero,List.setIfInBounds_toArray,List.set_cons_zero,List.set_cons_succ]
     refine take_putH (i:=7) (v:=?_) (some 49) rfl (by kernel_rfl) (by kernel_rfl) (by kernel_rfl) (by kernel_rfl) (fun _ _ _ h=>h) (Or.inl ⟨by rfl,?_⟩) hH8.out ?_
     rotate_left
     ·(intro wS hSw;obtain ⟨z0,z1,z2⟩:=hSw;go_simp;try with_reducible rfl)
     try simp only [Act.put,List.setIfInBounds_toArray,List.set_cons_zero,List.set_cons_succ]
     have m7:w8.cell? ⟨tb,7,none⟩=some (.slice ia im ic):=HTK.out.cell 7 rfl
     have mf:w8.frozen? ⟨tb,7,none⟩=false:=HTK.out.free 7
     obtain ⟨w9,HW9⟩:∃ W,Hid (W=w8.setCell ⟨tb,7,none⟩ (.slice a8 n8 c8)):=⟨_,rfl⟩
     have HM9:Hid (Making Z W1.heap.size tb w w9 (.slice va vn vc) l (⟨⟨1,pub,0,0,fr,t,sps,(its++[⟨ck,co,cb⟩])⟩,sa,sn,sc,a8,n8,c8⟩:Pa) B):=by
      (show Making _ _ _ _ _ _ _ _ _)
      rw [HW9.out]
      refine HM7.out.put HG8.out (row_own HRO.out.row (by decide) (by decide)) HB8.out 7 _ rfl ⟨⟨row_stays HM7.out.cur.spans.row HRO.out.row (by decide) HG8.out⟩,_,HR8.out,?_⟩
      rw [List.map_append,HRE.out]
      rfl
     have hkz:Bk w9 pv #[.int .i64 cf,.int .i64 ct,.int .i64 ci,.int .i64 ck,.int .u32 co,.slice ba bl bc] 400:=by
      rw [HW9.out]
      refine HK8.out.other _ _ ?_
      rintro rfl
      exact absurd (bk_type HK8.out HTK.out) (by decide)
     have hH9:Hid (w9.cell? ⟨pv,3,none⟩=some (.int .i64 ck)∧w9.cell? ⟨pv,4,none⟩=some (.int .u32 co)∧w9.cell? ⟨pv,5,none⟩=some (.slice ba bl bc)):=⟨hkz.cell 3 rfl,hkz.cell 4 rfl,hkz.cell 5 rfl⟩
     clear hkz
     refine wpAnyH_ready (rs:=[8]) (by kernel_rfl) (by simp) ?_
     refine AllReadyH.cons rfl (fun K hK => ?_) AllReadyH.nil
     go_simp
     rw [← HW9.out]
     refine hK.out _ _ hH9.out (fun _ => ?_)
     clear hK K
     try simp only [Act.put,List.getElem_toArray,List.getElem_cons_succ,List.getElem_cons_zero,List.setIfInBounds_toArray,List.set_cons_zero,List.set_cons_succ]
     refine wpAnyH_done (by kernel_rfl) ?_ _
     clear m7 mf
     have hnn:=HN8.out
     go_wp2
     go_roundw
     case rel=>exact ⟨i+1,va,vn,vc,l,fr,sps,its++[⟨ck,co,cb⟩],sa,sn,sc,a8,n8,c8,B,rfl,by go_num,by omega,by omega,by omega,⟨HM9.out,HTI.out,HL.out⟩⟩
     case measure=>simp [intOf];omega
    ·go_simp
     refine (st_cloned ck co ba bl bc cb wd HRd.out (by omega)).mono ?_
     rintro e w6 ⟨a6,c6,rfl,ho6,hb6⟩
     have HO6:Hid (Own w6 wd.heap.size a6 bl c6 cb):=ho6
     have HB6:Hid (Below wd.heap.size wd w6):=hb6
     have hH6:Hid (w6.cell? ⟨pv,3,none⟩=some (.int .i64 ck)∧w6.cell? ⟨pv,4,none⟩=some (.int .u32 co)∧w6.cell? ⟨pv,5,none⟩=some (.slice ba bl bc)):=⟨(HKd.out.stay HB6.out).cell 3 rfl,(HKd.out.stay HB6.out).cell 4 rfl,(HKd.out.stay HB6.out).cell 5 rfl⟩
     clear ho6 hb6
     refine hK.out _ _ hH6.out (fun _ => ?_)
     clear hK K
     try simp only [Act.put,List.getElem_toArray,List.getElem_cons_succ,List.getElem_cons_zero,List.setIfInBounds_toArray,List.set_cons_zero,List.set_cons_succ]
     refine wpAnyH_ready (rs:=[1,5]) (by kernel_rfl) (by simp) ?_
     refine AllReadyH.cons rfl (fun K hK => ?_) (AllReadyH.cons rfl (fun K hK => ?_) AllReadyH.nil)
     ·have cl:w6.cell? ⟨tb,7,none⟩=some (.slice ia im ic):=(HMd.out.below HB6.out).tbk.cell 7 rfl
      go_simp
      clear cl
      refine hK.out _ _ hH6.out (fun _ => ?_)
      clear hK K
      try simp only [Act.put,List.getElem_toArray,List.getElem_cons_succ,List.getElem_cons_zero,List.setIfInBounds_toArray,List.set_cons_zero,List.set_cons_succ]
      refine wpAnyH_ready (rs:=[5]) (by kernel_rfl) (by simp) ?_
      refine AllReadyH.cons rfl (fun K hK => ?_) AllReadyH.nil
      go_simp
      obtain ⟨W7,HW7⟩:∃ W7,Hid (W7=w6.alloc (.cells #[.int .i64 ck,.int .u32 co,.slice a6 bl c6] 51)):=⟨_,rfl⟩
      rw [← HW7.out]
      have HB7:Hid (Below w6.heap.size w6 W7):=by (show Below _ _ _);rw [HW7.out];exact below_new _ _
      have HN7:Hid (Bk W7 w6.heap.size #[.int .i64 ck,.int .u32 co,.slice a6 bl c6] 51):=by (show Bk _ _ _ _);rw [HW7.out];exact Bk.new _ _ _
      have HM7:Hid (Making Z W1.heap.size tb w W7 (.slice va vn vc) l (⟨⟨1,pub,0,0,fr,t,sps,its⟩,sa,sn,sc,ia,im,ic⟩:Pa) B):=(HMd.out.below HB6.out).below HB7.out
      have HK7:Hid (Bk W7 pv #[.int .i64 cf,.int .i64 ct,.int .i64 ci,.int .i64 ck,.int .u32 co,.slice ba bl bc] 400):=(HKd.out.stay HB6.out).stay HB7.out
      have hH7:Hid (W7.cell? ⟨pv,3,none⟩=some (.int .i64 ck)∧W7.cell? ⟨pv,4,none⟩=some (.int .u32 co)∧W7.cell? ⟨pv,5,none⟩=some (.slice ba bl bc)):=⟨HK7.out.cell 3 rfl,HK7.out.cell 4 rfl,HK7.out.cell 5 rfl⟩
      refine hK.out _ _ hH7.out (fun _ => ?_)
      clear hK K
      try simp only [Act.put,List.getElem_toArray,List.getElem_cons_succ,List.getElem_cons_zero,List.setIfInBounds_toArray,List.set_cons_zero,List.set_cons_succ]
      obtain ⟨R,hR,hRe⟩:=HM7.out.cur.items
      have HRO:Hid (Ros Z W7 B (.slice ia im ic) R):=hR
      have HRE:Hid (R.map Prod.fst=its):=hRe
      have HBT:Hid (BdT Z W7 (a6,bl,c6) cb):=(BdT.of_own HO6.out (fun k hk=>HZ.out k (Nat.le_trans (Nat.le_trans HM.out.bel.size HBd.out.size) hk))).frame HB7.out.size fun k hk _ _=>HB7.out.block k hk
      have HRL:Hid (R.length≤1000000000000):=by (show _≤_);have h1:=congrArg List.length HRE.out;rw [List.length_map] at h1;have h2:=HLM.out.2;omega
      clear hR hRe
      refine wpAnyH_ready (rs:=[6]) (by kernel_rfl) (by simp) ?_
      refine AllReadyH.cons rfl (fun K hK => ?_) AllReadyH.nil
      refine step_append_ro (Z:=Z) rfl (.tmp 43) (.tmp 47) rfl B (.slice ia im ic) R rfl HRO.out ⟨w6.heap.size,0,none⟩ 1 (⟨ck,co,cb⟩,a6,bl,c6) rfl (item_told HN7.out) HBT.out HII.out HRL.out HM7.out.hB ?_
      intro v8 w8 hr8 hg8 hb8 hn8
      obtain ⟨a8,c8,hv8,_⟩:=hr8.form
      obtain ⟨n8,hn8e⟩:∃ n,n=(R++[((⟨ck,co,cb⟩:It),((a6,bl,c6):Bd))]).length:=⟨_,rfl⟩
      rw [← hn8e] at hv8
      subst hv8
      have HN8:Hid (n8=im+1):=by (show _=_);rw [hn8e,List.length_append];have h1:=congrArg List.length HRE.out;rw [List.length_map] at h1;have h2:=HLM.out.2;simp;omega
      have HR8:Hid (Ros Z w8 B (.slice a8 n8 c8) (R++[(⟨ck,co,cb⟩,a6,bl,c6)])):=hr8
      have HG8:Hid (W7.grownBy w8 (Value.slice ia im ic).ownBlock):=hg8
      have HB8:Hid (Below B W7 w8):=hb8
      have HK8:Hid (Bk w8 pv #[.int .i64 cf,.int .i64 ct,.int .i64 ci,.int .i64 ck,.int .u32 co,.slice ba bl bc] 400):=HK7.out.grown hg8 (fun e=>by obtain ⟨c9,m9,k9⟩:=row_type HRO.out.row e.symm;exact absurd (bk_type HK7.out k9) (by decide))
      have HTK:Hid (Bk w8 tb #[.int .i64 1,.int .i64 pub,.int .i64 0,.int .i64 0,.int .i64 fr,.int .i64 t,.slice sa sn sc,.slice ia im ic] 116):=HM7.out.tbk.grown hg8 (fun e=>by obtain ⟨c9,m9,k9⟩:=row_type HRO.out.row e.symm;exact absurd (bk_type HM7.out.tbk k9) (by decide))
      have hH8:Hid (w8.cell? ⟨pv,3,none⟩=some (.int .i64 ck)∧w8.cell? ⟨pv,4,none⟩=some (.int .u32 co)∧w8.cell? ⟨pv,5,none⟩=some (.slice ba bl bc)):=⟨HK8.out.cell 3 rfl,HK8.out.cell 4 rfl,HK8.out.cell 5 rfl⟩
      clear hr8 hg8 hb8 hn8 hn8e
      refine hK.out _ _ hH8.out (fun _ => ?_)
      clear hK K
      try simp only [Act.put,List.getElem_toArray,List.getElem_cons_succ,List.getElem_cons_zero,List.setIfInBounds_toArray,List.set_cons_zero,List.set_cons_succ]
      refine take_putH (i:=7) (v:=?_) (some 49) rfl (by kernel_rfl) (by kernel_rfl) (by kernel_rfl) (by kernel_rfl) (fun _ _ _ h=>h) (Or.inl ⟨by rfl,?_⟩) hH8.out ?_
      rotate_left
      ·(intro wS hSw;obtain ⟨z0,z1,z2⟩:=hSw;go_simp;try with_reducible rfl)
      try simp only [Act.put,List.setIfInBounds_toArray,List.set_cons_zero,List.set_cons_succ]
      have m7:w8.cell? ⟨tb,7,none⟩=some (.slice ia im ic):=HTK.out.cell 7 rfl
      have mf:w8.frozen? ⟨tb,7,none⟩=false:=HTK.out.free 7
      obtain ⟨w9,HW9⟩:∃ W,Hid (W=w8.setCell ⟨tb,7,none⟩ (.slice a8 n8 c8)):=⟨_,rfl⟩
      have HM9:Hid (Making Z W1.heap.size tb w w9 (.slice va vn vc) l (⟨⟨1,pub,0,0,fr,t,sps,(its++[⟨ck,co,cb⟩])⟩,sa,sn,sc,a8,n8,c8⟩:Pa) B):=by
       (show Making _ _ _ _ _ _ _ _ _)
       rw [HW9.out]
       refine HM7.out.put HG8.out (row_own HRO.out.row (by decide) (by decide)) HB8.out 7 _ rfl ⟨⟨row_stays HM7.out.cur.spans.row HRO.out.row (by decide) HG8.out⟩,_,HR8.out,?_⟩
       rw [List.map_append,HRE.out]
       rfl
      have hkz:Bk w9 pv #[.int .i64 cf,.int .i64 ct,.int .i64 ci,.int .i64 ck,.int .u32 co,.slice ba bl bc] 400:=by
       rw [HW9.out]
       refine HK8.out.other _ _ ?_
       rintro rfl
       exact absurd (bk_type HK8.out HTK.out) (by decide)
      have hH9:Hid (w9.cell? ⟨pv,3,none⟩=some (.int .i64 ck)∧w9.cell? ⟨pv,4,none⟩=some (.int .u32 co)∧w9.cell? ⟨pv,5,none⟩=some (.slice ba bl bc)):=⟨hkz.cell 3 rfl,hkz.cell 4 rfl,hkz.cell 5 rfl⟩
      clear hkz
      refine wpAnyH_ready (rs:=[8]) (by kernel_rfl) (by simp) ?_
      refine AllReadyH.cons rfl (fun K hK => ?_) AllReadyH.nil
      go_simp
      rw [← HW9.out]
      refine hK.out _ _ hH9.out (fun _ => ?_)
      clear hK K
      try simp only [Act.put,List.getElem_toArray,List.getElem_cons_succ,List.getElem_cons_zero,List.setIfInBounds_toArray,List.set_cons_zero,List.set_cons_succ]
      refine wpAnyH_done (by kernel_rfl) ?_ _
      clear m7 mf
      have hnn:=HN8.out
      go_wp2
      go_roundw
      case rel=>exact ⟨i+1,va,vn,vc,l,fr,sps,its++[⟨ck,co,cb⟩],sa,sn,sc,a8,n8,c8,B,rfl,by go_num,by omega,by omega,by omega,⟨HM9.out,HTI.out,HL.out⟩⟩
      case measure=>simp [intOf];omega
     ·go_simp
      obtain ⟨W7,HW7⟩:∃ W7,Hid (W7=w6.alloc (.cells #[.int .i64 ck,.int .u32 co,.slice a6 bl c6] 51)):=⟨_,rfl⟩
      rw [← HW7.out]
      have HB7:Hid (Below w6.heap.size w6 W7):=by (show Below _ _ _);rw [HW7.out];exact below_new _ _
      have HN7:Hid (Bk W7 w6.heap.size #[.int .i64 ck,.int .u32 co,.slice a6 bl c6] 51):=by (show Bk _ _ _ _);rw [HW7.out];exact Bk.new _ _ _
      have HM7:Hid (Making Z W1.heap.size tb w W7 (.slice va vn vc) l (⟨⟨1,pub,0,0,fr,t,sps,its⟩,sa,sn,sc,ia,im,ic⟩:Pa) B):=(HMd.out.below HB6.out).below HB7.out
      have HK7:Hid (Bk W7 pv #[.int .i64 cf,.int .i64 ct,.int .i64 ci,.int .i64 ck,.int .u32 co,.slice ba bl bc] 400):=(HKd.out.stay HB6.out).stay HB7.out
      have hH7:Hid (W7.cell? ⟨pv,3,none⟩=some (.int .i64 ck)∧W7.cell? ⟨pv,4,none⟩=some (.int .u32 co)∧W7.cell? ⟨pv,5,none⟩=some (.slice ba bl bc)):=⟨HK7.out.cell 3 rfl,HK7.out.cell 4 rfl,HK7.out.cell 5 rfl⟩
      refine hK.out _ _ hH7.out (fun _ => ?_)
      clear hK K
      try simp only [Act.put,List.getElem_toArray,List.getElem_cons_succ,List.getElem_cons_zero,List.setIfInBounds_toArray,List.set_cons_zero,List.set_cons_succ]
      refine wpAnyH_ready (rs:=[1]) (by kernel_rfl) (by simp) ?_
      refine AllReadyH.cons rfl (fun K hK => ?_) AllReadyH.nil
      have cl:W7.cell? ⟨tb,7,none⟩=some (.slice ia im ic):=HM7.out.tbk.cell 7 rfl
      go_simp
      clear cl
      refine hK.out _ _ hH7.out (fun _ => ?_)
      clear hK K
      try simp only [Act.put,List.getElem_toArray,List.getElem_cons_succ,List.getElem_cons_zero,List.setIfInBounds_toArray,List.set_cons_zero,List.set_cons_succ]
      obtain ⟨R,hR,hRe⟩:=HM7.out.cur.items
      have HRO:Hid (Ros Z W7 B (.slice ia im ic) R):=hR
      have HRE:Hid (R.map Prod.fst=its):=hRe
      have HBT:Hid (BdT Z W7 (a6,bl,c6) cb):=(BdT.of_own HO6.out (fun k hk=>HZ.out k (Nat.le_trans (Nat.le_trans HM.out.bel.size HBd.out.size) hk))).frame HB7.out.size fun k hk _ _=>HB7.out.block k hk
      have HRL:Hid (R.length≤1000000000000):=by (show _≤_);have h1:=congrArg List.length HRE.out;rw [List.length_map] at h1;have h2:=HLM.out.2;omega
      clear hR hRe
      refine wpAnyH_ready (rs:=[6]) (by kernel_rfl) (by simp) ?_
      refine AllReadyH.cons rfl (fun K hK => ?_) AllReadyH.nil
      refine step_append_ro (Z:=Z) rfl (.tmp 43) (.tmp 47) rfl B (.slice ia im ic) R rfl HRO.out ⟨w6.heap.size,0,none⟩ 1 (⟨ck,co,cb⟩,a6,bl,c6) rfl (item_told HN7.out) HBT.out HII.out HRL.out HM7.out.hB ?_
      intro v8 w8 hr8 hg8 hb8 hn8
      obtain ⟨a8,c8,hv8,_⟩:=hr8.form
      obtain ⟨n8,hn8e⟩:∃ n,n=(R++[((⟨ck,co,cb⟩:It),((a6,bl,c6):Bd))]).length:=⟨_,rfl⟩
      rw [← hn8e] at hv8
      subst hv8
      have HN8:Hid (n8=im+1):=by (show _=_);rw [hn8e,List.length_append];have h1:=congrArg List.length HRE.out;rw [List.length_map] at h1;have h2:=HLM.out.2;simp;omega
      have HR8:Hid (Ros Z w8 B (.slice a8 n8 c8) (R++[(⟨ck,co,cb⟩,a6,bl,c6)])):=hr8
      have HG8:Hid (W7.grownBy w8 (Value.slice ia im ic).ownBlock):=hg8
      have HB8:Hid (Below B W7 w8):=hb8
      have HK8:Hid (Bk w8 pv #[.int .i64 cf,.int .i64 ct,.int .i64 ci,.int .i64 ck,.int .u32 co,.slice ba bl bc] 400):=HK7.out.grown hg8 (fun e=>by obtain ⟨c9,m9,k9⟩:=row_type HRO.out.row e.symm;exact absurd (bk_type HK7.out k9) (by decide))
      have HTK:Hid (Bk w8 tb #[.int .i64 1,.int .i64 pub,.int .i64 0,.int .i64 0,.int .i64 fr,.int .i64 t,.slice sa sn sc,.slice ia im ic] 116):=HM7.out.tbk.grown hg8 (fun e=>by obtain ⟨c9,m9,k9⟩:=row_type HRO.out.row e.symm;exact absurd (bk_type HM7.out.tbk k9) (by decide))
      have hH8:Hid (w8.cell? ⟨pv,3,none⟩=some (.int .i64 ck)∧w8.cell? ⟨pv,4,none⟩=some (.int .u32 co)∧w8.cell? ⟨pv,5,none⟩=some (.slice ba bl bc)):=⟨HK8.out.cell 3 rfl,HK8.out.cell 4 rfl,HK8.out.cell 5 rfl⟩
      clear hr8 hg8 hb8 hn8 hn8e
      refine hK.out _ _ hH8.out (fun _ => ?_)
      clear hK K
      try simp only [Act.put,List.getElem_toArray,List.getElem_cons_succ,List.getElem_cons_zero,List.setIfInBounds_toArray,List.set_cons_zero,List.set_cons_succ]
      refine take_putH (i:=7) (v:=?_) (some 49) rfl (by kernel_rfl) (by kernel_rfl) (by kernel_rfl) (by kernel_rfl) (fun _ _ _ h=>h) (Or.inl ⟨by rfl,?_⟩) hH8.out ?_
      rotate_left
      ·(intro wS hSw;obtain ⟨z0,z1,z2⟩:=hSw;go_simp;try with_reducible rfl)
      try simp only [Act.put,List.setIfInBounds_toArray,List.set_cons_zero,List.set_cons_succ]
      have m7:w8.cell? ⟨tb,7,none⟩=some (.slice ia im ic):=HTK.out.cell 7 rfl
      have mf:w8.frozen? ⟨tb,7,none⟩=false:=HTK.out.free 7
      obtain ⟨w9,HW9⟩:∃ W,Hid (W=w8.setCell ⟨tb,7,none⟩ (.slice a8 n8 c8)):=⟨_,rfl⟩
      have HM9:Hid (Making Z W1.heap.size tb w w9 (.slice va vn vc) l (⟨⟨1,pub,0,0,fr,t,sps,(its++[⟨ck,co,cb⟩])⟩,sa,sn,sc,a8,n8,c8⟩:Pa) B):=by
       (show Making _ _ _ _ _ _ _ _ _)
       rw [HW9.out]
       refine HM7.out.put HG8.out (row_own HRO.out.row (by decide) (by decide)) HB8.out 7 _ rfl ⟨⟨row_stays HM7.out.cur.spans.row HRO.out.row (by decide) HG8.out⟩,_,HR8.out,?_⟩
       rw [List.map_append,HRE.out]
       rfl
      have hkz:Bk w9 pv #[.int .i64 cf,.int .i64 ct,.int .i64 ci,.int .i64 ck,.int .u32 co,.slice ba bl bc] 400:=by
       rw [HW9.out]
       refine HK8.out.other _ _ ?_
       rintro rfl
       exact absurd (bk_type HK8.out HTK.out) (by decide)
      have hH9:Hid (w9.cell? ⟨pv,3,none⟩=some (.int .i64 ck)∧w9.cell? ⟨pv,4,none⟩=some (.int .u32 co)∧w9.cell? ⟨pv,5,none⟩=some (.slice ba bl bc)):=⟨hkz.cell 3 rfl,hkz.cell 4 rfl,hkz.cell 5 rfl⟩
      clear hkz
      refine wpAnyH_ready (rs:=[8]) (by kernel_rfl) (by simp) ?_
      refine AllReadyH.cons rfl (fun K hK => ?_) AllReadyH.nil
      go_simp
      rw [← HW9.out]
      refine hK.out _ _ hH9.out (fun _ => ?_)
      clear hK K
      try simp only [Act.put,List.getElem_toArray,List.getElem_cons_succ,List.getElem_cons_zero,List.setIfInBounds_toArray,List.set_cons_zero,List.set_cons_succ]
      refine wpAnyH_done (by kernel_rfl) ?_ _
      clear m7 mf
      have hnn:=HN8.out
      go_wp2
      go_roundw
      case rel=>exact ⟨i+1,va,vn,vc,l,fr,sps,its++[⟨ck,co,cb⟩],sa,sn,sc,a8,n8,c8,B,rfl,by go_num,by omega,by omega,by omega,⟨HM9.out,HTI.out,HL.out⟩⟩
      case measure=>simp [intOf];omega
   ·have k1:(ci == 1)=false:=by rw [beq_eq_false_iff_ne];exact hc
    have hc8:sn≠32:=hf2 hc
    have HTI:Hid (l.map Pa.p++cutP pub t ((P.map Prod.fst).drop (i+1)) ⟨1,pub,0,0,fr,t,sps++[⟨cf,ct,ci⟩],its⟩=TOT):=by have:=HT.out;unfold addP at this;rw [if_neg hc] at this;exact this
    have t0:w5.cell? ⟨tb,0,none⟩=some (.int .i64 1):=HM.out.tbk.cell 0 rfl
    have t1:w5.cell? ⟨tb,1,none⟩=some (.int .i64 pub):=HM.out.tbk.cell 1 rfl
    have t2:w5.cell? ⟨tb,2,none⟩=some (.int .i64 0):=HM.out.tbk.cell 2 rfl
    have t3:w5.cell? ⟨tb,3,none⟩=some (.int .i64 0):=HM.out.tbk.cell 3 rfl
    have t4:w5.cell? ⟨tb,4,none⟩=some (.int .i64 fr):=HM.out.tbk.cell 4 rfl
    have t5:w5.cell? ⟨tb,5,none⟩=some (.int .i64 t):=HM.out.tbk.cell 5 rfl
    have t6:w5.cell? ⟨tb,6,none⟩=some (.slice sa sn sc):=HM.out.tbk.cell 6 rfl
    have t7:w5.cell? ⟨tb,7,none⟩=some (.slice ia im ic):=HM.out.tbk.cell 7 rfl
    have HB6:Hid (Below w5.heap.size w5 (w5.alloc (.cells #[.int .i64 cf,.int .i64 ct,.int .i64 ci] 186))):=below_new _ _
    have HM6:Hid (Making Z W1.heap.size tb w (w5.alloc (.cells #[.int .i64 cf,.int .i64 ct,.int .i64 ci] 186)) (.slice va vn vc) l (⟨⟨1,pub,0,0,fr,t,sps,its⟩,sa,sn,sc,ia,im,ic⟩:Pa) B):=HM.out.below HB6.out
    have HT6:Hid (∀ j u,(⟨cf,ct,ci⟩:Sp).cells.toList[j]? = some u→(w5.alloc (.cells #[.int .i64 cf,.int .i64 ct,.int .i64 ci] 186)).cell? ((⟨w5.heap.size,0,none⟩:Addr).add j)=some u):=Sp.told (q:=⟨cf,ct,ci⟩) (Bk.new _ _ _)
    have HSL:Hid (sps.length≤3000000000000):=by (show _≤_);have:=HLM.out.1;omega
    clear hf1 hf2 HT hc
    go_wp2_with (at_builtin;refine wpList_append_sp rfl (.tmp 51) (.tmp 54) rfl B (.slice sa sn sc) sps rfl HM6.out.cur.spans ⟨w5.heap.size,0,none⟩ 1 ⟨cf,ct,ci⟩ rfl HT6.out HSL.out HM6.out.hB ?_)
    intro v8 w8 hs8 hg8
    obtain ⟨a8,c8,hv8,_⟩:=hs8.form
    obtain ⟨n8,hn8e⟩:∃ n,n=(sps++[(⟨cf,ct,ci⟩:Sp)]).length:=⟨_,rfl⟩
    rw [← hn8e] at hv8
    subst hv8
    have HNN:Hid (n8=sn+1):=by (show _=_);rw [hn8e,List.length_append,HLM.out.1];rfl
    have HTK:Hid (Bk w8 tb #[.int .i64 1,.int .i64 pub,.int .i64 0,.int .i64 0,.int .i64 fr,.int .i64 t,.slice sa sn sc,.slice ia im ic] 116):=HM6.out.tbk.grown hg8 (fun e=>by obtain ⟨c9,m9,k9⟩:=row_type HM6.out.cur.spans.row e.symm;exact absurd (bk_type HM6.out.tbk k9) (by decide))
    have m6:w8.cell? ⟨tb,6,none⟩=some (.slice sa sn sc):=HTK.out.cell 6 rfl
    have mf:w8.frozen? ⟨tb,6,none⟩=false:=HTK.out.free 6
    obtain ⟨R,hR,hRe⟩:=HM6.out.cur.items
    have HM9:Hid (Making Z W1.heap.size tb w (w8.setCell ⟨tb,6,none⟩ (.slice a8 n8 c8)) (.slice va vn vc) l (⟨⟨1,pub,0,0,fr,t,(sps++[⟨cf,ct,ci⟩]),its⟩,a8,n8,c8,ia,im,ic⟩:Pa) B):=HM6.out.put hg8 (row_own HM6.out.cur.spans.row (by decide) (by decide)) ((Below.refl _ _).grown hg8 HM6.out.hB (fun k hk=>(HM6.out.cur.spans.row.lt k hk).1)) 6 _ rfl ⟨hs8,R,⟨row_stays hR.row HM6.out.cur.spans.row (by decide) hg8,fun x hx=>(hR.bod x hx).typed hg8.size (fun k cs m hc=>hg8.block k (Array.getElem?_eq_some_iff.1 hc).1 (fun e=>by
     obtain ⟨c9,m9,k9⟩:=row_type HM6.out.cur.spans.row e.symm
     rw [hc] at k9
     simp only [Option.some.injEq,Obj.cells.injEq] at k9
     exact absurd k9.2.1 (by decide))),hR.each⟩,hRe⟩
    clear hs8 hg8 hR hRe hn8e
    go_wp2
    go_roundw
    case rel=>have hnn:=HNN.out;exact ⟨i+1,va,vn,vc,l,fr,sps++[⟨cf,ct,ci⟩],its,a8,n8,c8,ia,im,ic,B,rfl,by go_num,by omega,by omega,by omega,⟨HM9.out,HTI.out,HL.out⟩⟩
    case measure=>simp [intOf];omega
  ·have hnl:¬ (i:Int)<(n:Int):=by omega
   have HM:=HU.out.mk_
   have HM:Hid (Making Z W1.heap.size tb w w2 (.slice va vn vc) l (⟨⟨1,pub,0,0,fr,t,sps,its⟩,sa,sn,sc,ia,im,ic⟩:Pa) B):=HM
   have t0:w2.cell? ⟨tb,0,none⟩=some (.int .i64 1):=HM.out.tbk.cell 0 rfl
   have t1:w2.cell? ⟨tb,1,none⟩=some (.int .i64 pub):=HM.out.tbk.cell 1 rfl
   have t2:w2.cell? ⟨tb,2,none⟩=some (.int .i64 0):=HM.out.tbk.cell 2 rfl
   have t3:w2.cell? ⟨tb,3,none⟩=some (.int .i64 0):=HM.out.tbk.cell 3 rfl
   have t4:w2.cell? ⟨tb,4,none⟩=some (.int .i64 fr):=HM.out.tbk.cell 4 rfl
   have t5:w2.cell? ⟨tb,5,none⟩=some (.int .i64 t):=HM.out.tbk.cell 5 rfl
   have t6:w2.cell? ⟨tb,6,none⟩=some (.slice sa sn sc):=HM.out.tbk.cell 6 rfl
   have t7:w2.cell? ⟨tb,7,none⟩=some (.slice ia im ic):=HM.out.tbk.cell 7 rfl
   have HB3:Hid (Below w2.heap.size w2 (w2.alloc (.cells #[.int .i64 1,.int .i64 pub,.int .i64 0,.int .i64 0,.int .i64 fr,.int .i64 t,.slice sa sn sc,.slice ia im ic] 116))):=below_new _ _
   have HM3:Hid (Making Z W1.heap.size tb w (w2.alloc (.cells #[.int .i64 1,.int .i64 pub,.int .i64 0,.int .i64 0,.int .i64 fr,.int .i64 t,.slice sa sn sc,.slice ia im ic] 116)) (.slice va vn vc) l (⟨⟨1,pub,0,0,fr,t,sps,its⟩,sa,sn,sc,ia,im,ic⟩:Pa) B):=HM.out.below HB3.out
   have HTD:Hid (∀ j u,(pacel (⟨⟨1,pub,0,0,fr,t,sps,its⟩,sa,sn,sc,ia,im,ic⟩:Pa))[j]? = some u→(w2.alloc (.cells #[.int .i64 1,.int .i64 pub,.int .i64 0,.int .i64 0,.int .i64 fr,.int .i64 t,.slice sa sn sc,.slice ia im ic] 116)).cell? ((⟨w2.heap.size,0,none⟩:Addr).add j)=some u):=tell_told (q:=(⟨⟨1,pub,0,0,fr,t,sps,its⟩,sa,sn,sc,ia,im,ic⟩:Pa)) (Bk.new _ _ _)
   go_wp2_with (at_builtin;refine wpList_append_tell rfl (.tmp 58) (.tmp 60) rfl W1.heap.size _ l rfl HM3.out.row ⟨w2.heap.size,0,none⟩ 1 (⟨⟨1,pub,0,0,fr,t,sps,its⟩,sa,sn,sc,ia,im,ic⟩:Pa) rfl HTD.out HLL.out (Nat.le_trans HM3.out.h0 HM3.out.hB) ?_)
   intro v8 w8 hr8 hg8 hb8 _
   obtain ⟨q1,q2,q3,q4⟩:=HM3.out.done hg8 hb8
   have HEA:Hid (∀ x∈l++[(⟨⟨1,pub,0,0,fr,t,sps,its⟩,sa,sn,sc,ia,im,ic⟩:Pa)],PcR Z w8 W1.heap.size x∧PcLt w8.heap.size x):=q2
   have HRW:Hid (PRow w8 W1.heap.size v8 (l++[(⟨⟨1,pub,0,0,fr,t,sps,its⟩,sa,sn,sc,ia,im,ic⟩:Pa)])):=hr8
   have HBE:Hid (Below w.heap.size w w8):=q3
   have HTT:Hid ((l++[(⟨⟨1,pub,0,0,fr,t,sps,its⟩,sa,sn,sc,ia,im,ic⟩:Pa)]).map Pa.p=TOT):=by
    have h1:=HU.out.tot
    rw [List.drop_of_length_le (by rw [List.length_map,HPN.out];omega)] at h1
    (show _=_)
    rw [List.map_append]
    exact h1
   obtain ⟨v8a,v8n,v8c,hv8⟩:∃ a n c,v8=.slice a n c:=by
    rcases hr8.row.2 with ⟨hv,_⟩ | ⟨g8,c8,cur,hv,_⟩
    ·exact ⟨_,_,_,hv⟩
    ·exact ⟨_,_,_,hv⟩
   subst hv8
   clear q1 q2 q3 q4 hr8 hg8 hb8 t0 t1 t2 t3 t4 t5 t6 t7
   go_wp2
   rw [HPO.out]
   refine ⟨⟨v8a,v8n,v8c,_,rfl,⟨?_,fun x hx=>(HEA.out x hx).1.lower HX1.out.size⟩,by rw [HTT.out,HTOT.out]⟩,HBE.out⟩
   refine ⟨HRW.out.row.1,?_⟩
   rcases HRW.out.row.2 with hn | ⟨g8,c8,cur,hv,hbg,r⟩
   ·exact .inl hn
   ·exact .inr ⟨g8,c8,cur,hv,Nat.le_trans HX1.out.size hbg,r⟩
end Go.Proofs.YtoiennkfdjnkbaaGreatDoor
