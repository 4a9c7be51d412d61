import Derived.Test.YtoiennkfdjnkbaaGreatDoorPk23
import Derived.WalkMore
import Derived.Test.YtoiennkfdjnkbaaGreatDoorPk24
set_option maxRecDepth 100000
set_option maxHeartbeats 8000000
namespace Go.Proofs.YtoiennkfdjnkbaaGreatDoor
section
open Go.RowKit
theorem pc_usedBy (k:Int) (w:World):Calls Tryz.prog 209 #[.int .i64 k] w fun e w'=>e=.returned (.tuple #[.agg #[.bool (subB k),.bool (fromB k),.bool (toB k),.bool (newsB k)],.bool (isB k)])∧Below w.heap.size w w':=by
 have HB:∀ o o',Hid (Below w.heap.size w ((w.alloc o).alloc o')):=fun o o'=>((below_new w _).alloc (by simp) _)
 by_cases h1:k=1
 ·subst h1
  go_enter Tryz.func209,Tryz.ntmps209
  go_wp2
  go_returns
  exact ⟨rfl,(HB _ _).out⟩
 by_cases h2:k=2
 ·subst h2
  go_enter Tryz.func209,Tryz.ntmps209
  go_wp2
  go_returns
  exact ⟨rfl,(HB _ _).out⟩
 by_cases h3:k=3
 ·subst h3
  go_enter Tryz.func209,Tryz.ntmps209
  go_wp2
  go_returns
  exact ⟨rfl,(HB _ _).out⟩
 by_cases h4:k=4
 ·subst h4
  go_enter Tryz.func209,Tryz.ntmps209
  go_wp2
  go_returns
  exact ⟨rfl,(HB _ _).out⟩
 by_cases h5:k=5
 ·subst h5
  go_enter Tryz.func209,Tryz.ntmps209
  go_wp2
  go_returns
  exact ⟨rfl,(HB _ _).out⟩
 by_cases h6:k=6
 ·subst h6
  go_enter Tryz.func209,Tryz.ntmps209
  go_wp2
  go_returns
  exact ⟨rfl,(HB _ _).out⟩
 have e1:subB k=false:=by simp [subB, *]
 have e2:fromB k=false:=by simp [fromB, *]
 have e3:toB k=false:=by simp [toB, *]
 have e4:newsB k=false:=by simp [newsB, *]
 have e5:isB k=false:=by simp only [isB,decide_eq_false_iff_not];omega
 rw [e1,e2,e3,e4,e5]
 clear e1 e2 e3 e4 e5
 go_enter Tryz.func209,Tryz.ntmps209
 go_wp2
 go_returns
 exact ⟨rfl,(HB _ _).out⟩
theorem pc_numbers (p:Pc) (sa:Option Addr) (sn sc:Nat) (ia:Option Addr) (im ic:Nat) (su fr to_ nw:Bool) (w:World):Calls Tryz.prog 254 #[p.val sa sn sc ia im ic,.agg #[.bool su,.bool fr,.bool to_,.bool nw]] w fun e w'=>e=.returned (.bool (numB p su fr to_))∧Below w.heap.size w w':=by
 have HB:∀ o o',Hid (Below w.heap.size w ((w.alloc o).alloc o')):=fun o o'=>((below_new w _).alloc (by simp) _)
 obtain ⟨b,HF⟩:∃ b,Hid (b=numB p su fr to_):=⟨_,rfl⟩
 rw [← HF.out]
 obtain ⟨pk,pp,ps,pn,pf,pt,pl,pi⟩:=p
 unfold Pc.val
 simp only [numB,pubB,namB,rngB,froB] at HF
 simp only
 by_cases h1:0≤pp
 ·by_cases h2:pp<3
  ·cases su with
   | true =>
    by_cases h3:1≤ps
    ·by_cases h4:ps≤32
     ·by_cases h5:1≤pn
      ·by_cases h6:pn≤1073741824
       ·cases to_ with
        | true =>
         by_cases h7:1≤pf
         ·by_cases h8:pf≤pt
          ·by_cases h9:pt≤1099511627776
           ·have HX:Hid (b=true):=by show _=_;rw [HF.out];simp <;> omega
            clear HF
            go_enter Tryz.func254,Tryz.ntmps254
            go_wp2
            go_ret
            exact ⟨by rw [HX.out];rfl,(HB _ _).out⟩
           ·have HX:Hid (b=false):=by show _=_;rw [HF.out];simp <;> omega
            clear HF
            go_enter Tryz.func254,Tryz.ntmps254
            go_wp2
            go_ret
            exact ⟨by rw [HX.out];rfl,(HB _ _).out⟩
          ·have HX:Hid (b=false):=by show _=_;rw [HF.out];simp <;> omega
           clear HF
           go_enter Tryz.func254,Tryz.ntmps254
           go_wp2
           go_ret
           exact ⟨by rw [HX.out];rfl,(HB _ _).out⟩
         ·have HX:Hid (b=false):=by show _=_;rw [HF.out];simp <;> omega
          clear HF
          go_enter Tryz.func254,Tryz.ntmps254
          go_wp2
          go_ret
          exact ⟨by rw [HX.out];rfl,(HB _ _).out⟩
        | false =>
         cases fr with
         | true =>
          by_cases h7:0≤pf
          ·by_cases h8:pf≤1099511627776
           ·have HX:Hid (b=true):=by show _=_;rw [HF.out];simp <;> omega
            clear HF
            go_enter Tryz.func254,Tryz.ntmps254
            go_wp2
            go_ret
            exact ⟨by rw [HX.out];rfl,(HB _ _).out⟩
           ·have HX:Hid (b=false):=by show _=_;rw [HF.out];simp <;> omega
            clear HF
            go_enter Tryz.func254,Tryz.ntmps254
            go_wp2
            go_ret
            exact ⟨by rw [HX.out];rfl,(HB _ _).out⟩
          ·have HX:Hid (b=false):=by show _=_;rw [HF.out];simp <;> omega
           clear HF
           go_enter Tryz.func254,Tryz.ntmps254
           go_wp2
           go_ret
           exact ⟨by rw [HX.out];rfl,(HB _ _).out⟩
         | false =>
          have HX:Hid (b=true):=by show _=_;rw [HF.out];simp <;> omega
          clear HF
          go_enter Tryz.func254,Tryz.ntmps254
          go_wp2
          go_ret
          exact ⟨by rw [HX.out];rfl,(HB _ _).out⟩
       ·have HX:Hid (b=false):=by show _=_;rw [HF.out];simp <;> omega
        clear HF
        go_enter Tryz.func254,Tryz.ntmps254
        go_wp2
        go_ret
        exact ⟨by rw [HX.out];rfl,(HB _ _).out⟩
      ·have HX:Hid (b=false):=by show _=_;rw [HF.out];simp <;> omega
       clear HF
       go_enter Tryz.func254,Tryz.ntmps254
       go_wp2
       go_ret
       exact ⟨by rw [HX.out];rfl,(HB _ _).out⟩
     ·have HX:Hid (b=false):=by show _=_;rw [HF.out];simp <;> omega
      clear HF
      go_enter Tryz.func254,Tryz.ntmps254
      go_wp2
      go_ret
      exact ⟨by rw [HX.out];rfl,(HB _ _).out⟩
    ·have HX:Hid (b=false):=by show _=_;rw [HF.out];simp <;> omega
     clear HF
     go_enter Tryz.func254,Tryz.ntmps254
     go_wp2
     go_ret
     exact ⟨by rw [HX.out];rfl,(HB _ _).out⟩
   | false =>
    cases to_ with
    | true =>
     by_cases h3:1≤pf
     ·by_cases h4:pf≤pt
      ·by_cases h5:pt≤1099511627776
       ·have HX:Hid (b=true):=by show _=_;rw [HF.out];simp <;> omega
        clear HF
        go_enter Tryz.func254,Tryz.ntmps254
        go_wp2
        go_ret
        exact ⟨by rw [HX.out];rfl,(HB _ _).out⟩
       ·have HX:Hid (b=false):=by show _=_;rw [HF.out];simp <;> omega
        clear HF
        go_enter Tryz.func254,Tryz.ntmps254
        go_wp2
        go_ret
        exact ⟨by rw [HX.out];rfl,(HB _ _).out⟩
      ·have HX:Hid (b=false):=by show _=_;rw [HF.out];simp <;> omega
       clear HF
       go_enter Tryz.func254,Tryz.ntmps254
       go_wp2
       go_ret
       exact ⟨by rw [HX.out];rfl,(HB _ _).out⟩
     ·have HX:Hid (b=false):=by show _=_;rw [HF.out];simp <;> omega
      clear HF
      go_enter Tryz.func254,Tryz.ntmps254
      go_wp2
      go_ret
      exact ⟨by rw [HX.out];rfl,(HB _ _).out⟩
    | false =>
     cases fr with
     | true =>
      by_cases h3:0≤pf
      ·by_cases h4:pf≤1099511627776
       ·have HX:Hid (b=true):=by show _=_;rw [HF.out];simp <;> omega
        clear HF
        go_enter Tryz.func254,Tryz.ntmps254
        go_wp2
        go_ret
        exact ⟨by rw [HX.out];rfl,(HB _ _).out⟩
       ·have HX:Hid (b=false):=by show _=_;rw [HF.out];simp <;> omega
        clear HF
        go_enter Tryz.func254,Tryz.ntmps254
        go_wp2
        go_ret
        exact ⟨by rw [HX.out];rfl,(HB _ _).out⟩
      ·have HX:Hid (b=false):=by show _=_;rw [HF.out];simp <;> omega
       clear HF
       go_enter Tryz.func254,Tryz.ntmps254
       go_wp2
       go_ret
       exact ⟨by rw [HX.out];rfl,(HB _ _).out⟩
     | false =>
      have HX:Hid (b=true):=by show _=_;rw [HF.out];simp <;> omega
      clear HF
      go_enter Tryz.func254,Tryz.ntmps254
      go_wp2
      go_ret
      exact ⟨by rw [HX.out];rfl,(HB _ _).out⟩
  ·have HX:Hid (b=false):=by show _=_;rw [HF.out];simp <;> omega
   clear HF
   go_enter Tryz.func254,Tryz.ntmps254
   go_wp2
   go_ret
   exact ⟨by rw [HX.out];rfl,(HB _ _).out⟩
 ·have HX:Hid (b=false):=by show _=_;rw [HF.out];simp <;> omega
  clear HF
  go_enter Tryz.func254,Tryz.ntmps254
  go_wp2
  go_ret
  exact ⟨by rw [HX.out];rfl,(HB _ _).out⟩
-- end numbers
end
section
open Go.RowKit
theorem inB_not {p:Pc} {s:Sp} (h:¬ ((s.is=2∨s.is=3)∧p.fr≤s.fr∧s.to≤p.to_)):inB p s=false:=decide_eq_false h
theorem inB_ok {p:Pc} {s:Sp} (h:(s.is=2∨s.is=3)∧p.fr≤s.fr∧s.to≤p.to_):inB p s=true:=decide_eq_true h
theorem pc_spans (p:Pc) (sa:Option Addr) (sn sc:Nat) (ia:Option Addr) (im ic:Nat) (w:World) (hp:SpsRd w sa sn p.spans) (hn:sn≤maxLen):Calls Tryz.prog 255 #[p.val sa sn sc ia im ic] w fun e w'=>e=.returned (.bool (spB p))∧Below w.heap.size w w':=by
 have HR:Hid (SpsRd w sa sn p.spans):=hp
 have HN:Hid (sn≤maxLen):=hn
 obtain ⟨b,HF⟩:∃ b,Hid (b=spB p):=⟨_,rfl⟩
 rw [← HF.out]
 obtain ⟨l,HL⟩:∃ l,Hid (l=p.spans):=⟨_,rfl⟩
 rw [← HL.out] at HR
 have HF:Hid (b=(l.all (inB p) && rightB Sp.zr l)):=by show _=_;rw [HF.out,spB,← HL.out]
 unfold maxLen at hn
 clear hp HL
 unfold Pc.val
 obtain ⟨pk,pp,ps,pn,pf,pt,pl,pi⟩:=p
 simp only
 go_enter Tryz.func255,Tryz.ntmps255
 go_wp2
 go_loopw [8] (fun t8 wr=>∃ (k:Nat),k≤sn∧t8=.int .i64 (k:Int)∧Hid (((l.drop k).all (inB ⟨pk,pp,ps,pn,pf,pt,pl,pi⟩) && rightB Sp.zr l)=b)∧Hid (Bk wr w.heap.size #[.int .i64 pk,.int .i64 pp,.int .i64 ps,.int .i64 pn,.int .i64 pf,.int .i64 pt,.slice sa sn sc,.slice ia im ic] 116)∧Hid (Below w.heap.size w wr)) (fun t8 _=>sn - (intOf t8).toNat)
 case atStart=>exact ⟨0,by omega,rfl,HF.out.symm,Bk.new _ _ _,below_new _ _⟩
 case round =>
  obtain ⟨k,hk,rfl,HE,HK,HB⟩:=hrel
  by_cases hlt:k<sn
  ·have hlt':(k:Int)<(sn:Int):=by omega
   obtain ⟨g,o,rfl,hg,q,hq,c0,c1,c2⟩:=(HR.out.below HB.out).at_ k hlt
   have HD:Hid (l.drop k=q :: l.drop (k+1)):=drop_at hq
   clear hq hg
   obtain ⟨qf,qt,qi⟩:=q
   simp only at c0 c1 c2
   have HK1:Hid (Bk (wr.alloc (.cells #[.int .i64 qf,.int .i64 qt,.int .i64 qi] 186)) w.heap.size #[.int .i64 pk,.int .i64 pp,.int .i64 ps,.int .i64 pn,.int .i64 pf,.int .i64 pt,.slice (some ⟨g,o,none⟩) sn sc,.slice ia im ic] 116):=HK.out.stay (below_new _ _)
   have HB1:Hid (Below w.heap.size w (wr.alloc (.cells #[.int .i64 qf,.int .i64 qt,.int .i64 qi] 186))):=HB.out.alloc HB.out.size _
   have HLT:Hid (w.heap.size<wr.heap.size):=HK.out.lt
   have a4:(wr.alloc (.cells #[.int .i64 qf,.int .i64 qt,.int .i64 qi] 186)).cell? ⟨w.heap.size,4,none⟩=some (.int .i64 pf):=HK1.out.cell 4 rfl
   have a5:(wr.alloc (.cells #[.int .i64 qf,.int .i64 qt,.int .i64 qi] 186)).cell? ⟨w.heap.size,5,none⟩=some (.int .i64 pt):=HK1.out.cell 5 rfl
   by_cases h1:qi=2∨qi=3
   ·by_cases h2:pf≤qf
    ·by_cases h3:qt≤pt
     ·have HX:Hid (((l.drop (k+1)).all (inB ⟨pk,pp,ps,pn,pf,pt,pl,pi⟩) && rightB Sp.zr l)=b):=by
       show _=_
       rw [← HE.out,HD.out,List.all_cons,inB_ok ⟨h1,h2,h3⟩,Bool.true_and]
      clear HE HK
      rcases h1 with rfl | rfl
      ·go_wp2
       go_roundw
       case rel=>exact ⟨k+1,by omega,by go_num,HX,HK1,HB1⟩
       case measure=>simp [intOf];omega
      ·go_wp2
       go_roundw
       case rel=>exact ⟨k+1,by omega,by go_num,HX,HK1,HB1⟩
       case measure=>simp [intOf];omega
     ·have HX:Hid (b=false):=by
       show _=_
       rw [← HE.out,HD.out,List.all_cons,inB_not (by simp only;omega),Bool.false_and,Bool.false_and]
      clear HE HK
      rcases h1 with rfl | rfl
      ·go_wp2
       go_ret
       exact ⟨by rw [HX.out];rfl,HB1.out⟩
      ·go_wp2
       go_ret
       exact ⟨by rw [HX.out];rfl,HB1.out⟩
    ·have HX:Hid (b=false):=by
      show _=_
      rw [← HE.out,HD.out,List.all_cons,inB_not (by simp only;omega),Bool.false_and,Bool.false_and]
     clear HE HK
     rcases h1 with rfl | rfl
     ·go_wp2
      go_ret
      exact ⟨by rw [HX.out];rfl,HB1.out⟩
     ·go_wp2
      go_ret
      exact ⟨by rw [HX.out];rfl,HB1.out⟩
   ·have HX:Hid (b=false):=by
     show _=_
     rw [← HE.out,HD.out,List.all_cons,inB_not (by simp only;omega),Bool.false_and,Bool.false_and]
    clear HE HK
    have n2:¬ qi=2:=fun h=>h1 (.inl h)
    have n3:¬ qi=3:=fun h=>h1 (.inr h)
    have n2':(qi == 2)=false:=by simpa using n2
    have n3':(qi == 3)=false:=by simpa using n3
    clear h1
    go_wp2
    go_ret
    exact ⟨by rw [HX.out];rfl,HB1.out⟩
  ·have hnl:¬ (k:Int)<(sn:Int):=by omega
   have HX:Hid (rightB Sp.zr l=b):=by
    show _=_
    rw [← HE.out,List.drop_of_length_le (by rw [HR.out.size];omega)]
    rfl
   have a6:wr.cell? ⟨w.heap.size,6,none⟩=some (.slice sa sn sc):=HK.out.cell 6 rfl
   clear HE HK
   go_wp2_with fail
   refine (span_Right sa sn sc l wr (HR.out.below HB.out) HN.out).mono ?_
   rintro e w2 ⟨rfl,hb2⟩
   have HB2:Hid (Below w.heap.size w w2):=HB.out.trans (hb2.mono HB.out.size)
   clear hb2
   rw [HX.out]
   go_wp2
   go_ret
   exact ⟨rfl,HB2.out⟩
end
section
open Go.RowKit
theorem pc_items (p:Pc) (sa:Option Addr) (sn sc:Nat) (ia:Option Addr) (im ic:Nat) (w:World) (hp:SpsRd w sa sn p.spans) (hn:sn≤maxLen) (hi:ItsRd w ia im p.items) (hm:im≤maxLen) (ht:p.to_≤1099511627776):Calls Tryz.prog 256 #[p.val sa sn sc ia im ic] w fun e w'=>e=.returned (.int .i64 (itE p p.fr p.items))∧Below w.heap.size w w':=by
 have HR:Hid (SpsRd w sa sn p.spans∧sn≤maxLen):=⟨hp,hn⟩
 have HI:Hid (ItsRd w ia im p.items):=hi
 have HT:Hid (p.to_≤1099511627776):=ht
 obtain ⟨b,HF⟩:∃ b,Hid (b=itE p p.fr p.items):=⟨_,rfl⟩
 rw [← HF.out]
 unfold maxLen at hm
 clear hp hn hi ht
 unfold Pc.val
 obtain ⟨pk,pp,ps,pn,pf,pt,pl,pi⟩:=p
 simp only at HR HI HT
 simp only
 go_enter Tryz.func256,Tryz.ntmps256
 go_wp2
 go_loopw [3,11] (fun t3 t11 wr=>∃ (k:Nat) (le:Int),k≤im∧t3=.int .i64 le∧t11=.int .i64 (k:Int)∧Hid (itE ⟨pk,pp,ps,pn,pf,pt,pl,pi⟩ le (pi.drop k)=b)∧Hid (Bk wr w.heap.size #[.int .i64 pk,.int .i64 pp,.int .i64 ps,.int .i64 pn,.int .i64 pf,.int .i64 pt,.slice sa sn sc,.slice ia im ic] 116)∧Hid (Below w.heap.size w wr)) (fun _ t11 _=>im - (intOf t11).toNat)
 case atStart=>exact ⟨0,pf,by omega,rfl,rfl,HF.out.symm,Bk.new _ _ _,below_new _ _⟩
 case round =>
  obtain ⟨k,le,hk,rfl,rfl,HE,HK,HB⟩:=hrel
  by_cases hlt:k<im
  ·have hlt':(k:Int)<(im:Int):=by omega
   obtain ⟨g,o,rfl,hg,q,hq,c0,c1,ba,bl,bc,c2,hrd,hnc,hbl,hbc⟩:=(HI.out.below HB.out).at_ k hlt
   have HD:Hid (pi.drop k=q :: pi.drop (k+1)):=it_at hq
   have HT2:Hid ((-9223372036854775808:Int)≤q.tick∧q.tick≤9223372036854775807):=(HI.out.each q (List.mem_of_getElem? hq)).1
   have HLB:Hid (q.body.length=bl):=hrd.size
   clear hq hg hrd
   obtain ⟨qt,qf,qb⟩:=q
   simp only at c0 c1 c2
   have HK1:Hid (Bk (wr.alloc (.cells #[.int .i64 qt,.int .u32 qf,.slice ba bl bc] 51)) w.heap.size #[.int .i64 pk,.int .i64 pp,.int .i64 ps,.int .i64 pn,.int .i64 pf,.int .i64 pt,.slice sa sn sc,.slice (some ⟨g,o,none⟩) im ic] 116):=HK.out.stay (below_new _ _)
   have HB1:Hid (Below w.heap.size w (wr.alloc (.cells #[.int .i64 qt,.int .u32 qf,.slice ba bl bc] 51))):=HB.out.alloc HB.out.size _
   have HN1:Hid (Bk (wr.alloc (.cells #[.int .i64 qt,.int .u32 qf,.slice ba bl bc] 51)) wr.heap.size #[.int .i64 qt,.int .u32 qf,.slice ba bl bc] 51):=Bk.new _ _ _
   have HLT:Hid (w.heap.size<wr.heap.size):=HK.out.lt
   have a5:(wr.alloc (.cells #[.int .i64 qt,.int .u32 qf,.slice ba bl bc] 51)).cell? ⟨w.heap.size,5,none⟩=some (.int .i64 pt):=HK1.out.cell 5 rfl
   have a6:(wr.alloc (.cells #[.int .i64 qt,.int .u32 qf,.slice ba bl bc] 51)).cell? ⟨w.heap.size,6,none⟩=some (.slice sa sn sc):=HK1.out.cell 6 rfl
   by_cases h1:qt<le
   ·have HX:Hid (b=14):=by show _=_;rw [← HE.out,HD.out,itE_tick (.inl h1)]
    clear HE HK
    go_wp2
    go_ret
    exact ⟨by rw [HX.out];rfl,HB1.out⟩
   ·by_cases h2:pt<qt
    ·have HX:Hid (b=14):=by show _=_;rw [← HE.out,HD.out,itE_tick (.inr (.inl h2))]
     clear HE HK
     go_wp2
     go_ret
     exact ⟨by rw [HX.out];rfl,HB1.out⟩
    ·clear HK
     go_wp2_with fail
     refine (span_At sa sn sc pl qt _ (HR.out.1.below HB1.out) HR.out.2).mono ?_
     rintro e w2 ⟨rfl,hb2⟩
     have HB2:Hid (Below w.heap.size w w2):=HB1.out.trans (hb2.mono HB1.out.size)
     have HK2:=HK1.out.stay hb2
     have HN2:=HN1.out.stay hb2
     have HK2:Hid (Bk w2 w.heap.size #[.int .i64 pk,.int .i64 pp,.int .i64 ps,.int .i64 pn,.int .i64 pf,.int .i64 pt,.slice sa sn sc,.slice (some ⟨g,o,none⟩) im ic] 116):=HK2
     have b0:w2.cell? ⟨wr.heap.size,0,none⟩=some (.int .i64 qt):=HN2.cell 0 rfl
     have b2:w2.cell? ⟨wr.heap.size,2,none⟩=some (.slice ba bl bc):=HN2.cell 2 rfl
     clear hb2 a5 a6 c0 c1 c2 HN2 HK1 HN1
     by_cases h3:atS pl qt=0
     ·have h3':(atS pl qt == 0)=true:=by simpa using h3
      by_cases h4:400<bl
      ·have h4':(400:Int)<(bl:Int):=by omega
       have HX:Hid (b=6):=by show _=_;rw [← HE.out,HD.out,itE_long (by simp only;omega) (by rw [HLB.out];exact h4)]
       clear HE
       go_wp2
       go_ret
       exact ⟨by rw [HX.out];rfl,HB2.out⟩
      ·have h4':¬ (400:Int)<(bl:Int):=by omega
       have HX:Hid (itE ⟨pk,pp,ps,pn,pf,pt,pl,pi⟩ (qt+1) (pi.drop (k+1))=b):=by show _=_;rw [← HE.out,HD.out,itE_next (by simp only;omega) (by rw [HLB.out];exact h4)]
       have hp1:qt<9223372036854775807:=by have:=HT.out;omega
       have hp2:(-9223372036854775808:Int)≤qt:=HT2.out.1
       clear HE
       go_wp2
       go_roundw
       case rel=>exact ⟨k+1,qt+1,by omega,rfl,by go_num,HX,HK2,HB2⟩
       case measure=>simp [intOf];omega
     ·have h3':(atS pl qt == 0)=false:=by simpa using h3
      have HX:Hid (b=14):=by show _=_;rw [← HE.out,HD.out,itE_tick (.inr (.inr h3))]
      clear HE
      go_wp2
      go_ret
      exact ⟨by rw [HX.out];rfl,HB2.out⟩
  ·have hnl:¬ (k:Int)<(im:Int):=by omega
   have HX:Hid (b=0):=by
    show _=_
    rw [← HE.out,List.drop_of_length_le (by rw [HI.out.size];omega)]
    rfl
   clear HE HK
   go_wp2
   go_ret
   exact ⟨by rw [HX.out];rfl,HB.out⟩
end
section
open Go.RowKit
theorem pc_Check (p:Pc) (sa:Option Addr) (sn sc:Nat) (ia:Option Addr) (im ic:Nat) (w:World) (hp:PcRd w p sa sn sc ia im ic):Calls Tryz.prog 194 #[p.val sa sn sc ia im ic] w fun e w'=>e=.returned (.int .i64 (chk p))∧Below w.heap.size w w':=by
 have HP:Hid (PcRd w p sa sn sc ia im ic):=hp
 have HSZ:Hid (p.spans.length=sn∧p.items.length=im):=⟨hp.spans.size,hp.items.size⟩
 have hb1:sn≤9223372036854775807:=by have h1:=hp.sl;have h2:=hp.sm;unfold maxLen at h2;omega
 have hb2:im≤9223372036854775807:=by have h1:=hp.il;have h2:=hp.im_;unfold maxLen at h2;omega
 obtain ⟨b,HF⟩:∃ b,Hid (b=chk p):=⟨_,rfl⟩
 rw [← HF.out]
 obtain ⟨p0,HP0⟩:∃ p0,Hid (p0=p):=⟨_,rfl⟩
 have HV:Hid (p0.val sa sn sc ia im ic=p.val sa sn sc ia im ic):=by show _=_;rw [HP0.out]
 have hsz:=HSZ.out
 rw [← HP0.out] at HP HF hsz
 clear hp HSZ
 obtain ⟨pk,pp,ps,pn,pf,pt,pl,pi⟩:=p
 unfold Pc.val
 simp only
 have HBx:Hid (Below w.heap.size w (w.alloc (.cells #[.int .i64 pk,.int .i64 pp,.int .i64 ps,.int .i64 pn,.int .i64 pf,.int .i64 pt,.slice sa sn sc,.slice ia im ic] 116))):=below_new _ _
 have HKx:Hid (Bk (w.alloc (.cells #[.int .i64 pk,.int .i64 pp,.int .i64 ps,.int .i64 pn,.int .i64 pf,.int .i64 pt,.slice sa sn sc,.slice ia im ic] 116)) w.heap.size #[.int .i64 pk,.int .i64 pp,.int .i64 ps,.int .i64 pn,.int .i64 pf,.int .i64 pt,.slice sa sn sc,.slice ia im ic] 116):=Bk.new _ _ _
 have HKI:Hid (p0.kind=pk):=by show _=_;rw [HP0.out]
 go_enter Tryz.func194,Tryz.ntmps194
 go_wp2_with fail
 refine (pc_usedBy pk _).mono ?_
 rintro e w1 ⟨rfl,hb1'⟩
 have HB1:Hid (Below w.heap.size w w1):=HBx.out.trans (hb1'.mono HBx.out.size)
 have HK1:=HKx.out.stay hb1'
 have HK1:Hid (Bk w1 w.heap.size #[.int .i64 pk,.int .i64 pp,.int .i64 ps,.int .i64 pn,.int .i64 pf,.int .i64 pt,.slice sa sn sc,.slice ia im ic] 116):=HK1
 clear hb1' HKx HBx
 generalize hsu:subB pk=su
 generalize hfr:fromB pk=fr
 generalize hto:toB pk=to_
 generalize hnw:newsB pk=nw
 have HBX:Hid (Below w.heap.size w (w1.alloc (.cells #[.bool su,.bool fr,.bool to_,.bool nw] 314))):=HB1.out.alloc HB1.out.size _
 have HKX:=HK1.out.stay (below_new w1 (.cells #[.bool su,.bool fr,.bool to_,.bool nw] 314))
 have HKX:Hid (Bk (w1.alloc (.cells #[.bool su,.bool fr,.bool to_,.bool nw] 314)) w.heap.size #[.int .i64 pk,.int .i64 pp,.int .i64 ps,.int .i64 pn,.int .i64 pf,.int .i64 pt,.slice sa sn sc,.slice ia im ic] 116):=HKX
 have HUX:Hid (Bk (w1.alloc (.cells #[.bool su,.bool fr,.bool to_,.bool nw] 314)) w1.heap.size #[.bool su,.bool fr,.bool to_,.bool nw] 314):=Bk.new _ _ _
 have HLT:Hid (w.heap.size<w1.heap.size):=HK1.out.lt
 cases his:isB pk with
 | false =>
  have HX:Hid (b=12):=by show _=_;rw [HF.out,chk_type (by rw [HKI.out];exact his)]
  clear HF hsu hfr hto hnw his
  go_wp2
  go_ret
  exact ⟨by rw [HX.out];rfl,HBX.out⟩
 | true =>
  have HIS:Hid (isB p0.kind=true):=by show _=_;rw [HKI.out];exact his
  have HUS:Hid (subB p0.kind=su∧fromB p0.kind=fr∧toB p0.kind=to_∧newsB p0.kind=nw):=by rw [HKI.out];exact ⟨hsu,hfr,hto,hnw⟩
  have d0:(w1.alloc (.cells #[.bool su,.bool fr,.bool to_,.bool nw] 314)).cell? ⟨w.heap.size,0,none⟩=some (.int .i64 pk):=HKX.out.cell 0 rfl
  have d1:(w1.alloc (.cells #[.bool su,.bool fr,.bool to_,.bool nw] 314)).cell? ⟨w.heap.size,1,none⟩=some (.int .i64 pp):=HKX.out.cell 1 rfl
  have d2:(w1.alloc (.cells #[.bool su,.bool fr,.bool to_,.bool nw] 314)).cell? ⟨w.heap.size,2,none⟩=some (.int .i64 ps):=HKX.out.cell 2 rfl
  have d3:(w1.alloc (.cells #[.bool su,.bool fr,.bool to_,.bool nw] 314)).cell? ⟨w.heap.size,3,none⟩=some (.int .i64 pn):=HKX.out.cell 3 rfl
  have d4:(w1.alloc (.cells #[.bool su,.bool fr,.bool to_,.bool nw] 314)).cell? ⟨w.heap.size,4,none⟩=some (.int .i64 pf):=HKX.out.cell 4 rfl
  have d5:(w1.alloc (.cells #[.bool su,.bool fr,.bool to_,.bool nw] 314)).cell? ⟨w.heap.size,5,none⟩=some (.int .i64 pt):=HKX.out.cell 5 rfl
  have d6:(w1.alloc (.cells #[.bool su,.bool fr,.bool to_,.bool nw] 314)).cell? ⟨w.heap.size,6,none⟩=some (.slice sa sn sc):=HKX.out.cell 6 rfl
  have d7:(w1.alloc (.cells #[.bool su,.bool fr,.bool to_,.bool nw] 314)).cell? ⟨w.heap.size,7,none⟩=some (.slice ia im ic):=HKX.out.cell 7 rfl
  clear hsu hfr hto hnw his
  go_wp2_with fail
  have hc:=pc_numbers p0 sa sn sc ia im ic su fr to_ nw (w1.alloc (.cells #[.bool su,.bool fr,.bool to_,.bool nw] 314))
  rw [HV.out] at hc
  refine hc.mono ?_
  clear hc d0 d1 d2 d3 d4 d5 d6 d7
  rintro e w2 ⟨rfl,hb2'⟩
  have HB2:Hid (Below w.heap.size w w2):=HBX.out.trans (hb2'.mono HBX.out.size)
  have HK2:=HKX.out.stay hb2'
  have HK2:Hid (Bk w2 w.heap.size #[.int .i64 pk,.int .i64 pp,.int .i64 ps,.int .i64 pn,.int .i64 pf,.int .i64 pt,.slice sa sn sc,.slice ia im ic] 116):=HK2
  have HU2:=HUX.out.stay hb2'
  have u3:w2.cell? ⟨w1.heap.size,3,none⟩=some (.bool nw):=HU2.cell 3 rfl
  clear hb2' HKX HBX HUX HU2
  cases hnu:numB p0 su fr to_ with
  | false =>
   have HX:Hid (b=2):=by show _=_;obtain ⟨e1,e2,e3,e4⟩:=HUS.out;rw [HF.out,chk_arg HIS.out (by rw [e1,e2,e3];exact hnu)]
   clear HF hnu
   go_wp2
   go_ret
   exact ⟨by rw [HX.out];rfl,HB2.out⟩
  | true =>
   have HNU:Hid (numB p0 (subB p0.kind) (fromB p0.kind) (toB p0.kind)=true):=by show _=_;obtain ⟨e1,e2,e3,e4⟩:=HUS.out;rw [e1,e2,e3];exact hnu
   clear hnu
   cases nw with
   | false =>
    have HX:Hid (b=0):=by show _=_;obtain ⟨e1,e2,e3,e4⟩:=HUS.out;rw [HF.out,chk_plain HIS.out HNU.out e4]
    clear HF
    go_wp2
    go_ret
    exact ⟨by rw [HX.out];rfl,HB2.out⟩
   | true =>
    have HNW:Hid (newsB p0.kind=true):=HUS.out.2.2.2
    have HTO:Hid (p0.to_≤1099511627776):=by
     have h1:=HNU.out
     have h2:toB p0.kind=true:=by have:=HNW.out;simp only [newsB,decide_eq_true_eq] at this;rw [this];rfl
     rw [h2] at h1
     have h3:=num_to h1
     simp only [rngB,decide_eq_true_eq] at h3
     exact h3.2.2
    have a0:w2.cell? ⟨w.heap.size,0,none⟩=some (.int .i64 pk):=HK2.out.cell 0 rfl
    have a1:w2.cell? ⟨w.heap.size,1,none⟩=some (.int .i64 pp):=HK2.out.cell 1 rfl
    have a2:w2.cell? ⟨w.heap.size,2,none⟩=some (.int .i64 ps):=HK2.out.cell 2 rfl
    have a3:w2.cell? ⟨w.heap.size,3,none⟩=some (.int .i64 pn):=HK2.out.cell 3 rfl
    have a4:w2.cell? ⟨w.heap.size,4,none⟩=some (.int .i64 pf):=HK2.out.cell 4 rfl
    have a5:w2.cell? ⟨w.heap.size,5,none⟩=some (.int .i64 pt):=HK2.out.cell 5 rfl
    have a6:w2.cell? ⟨w.heap.size,6,none⟩=some (.slice sa sn sc):=HK2.out.cell 6 rfl
    have a7:w2.cell? ⟨w.heap.size,7,none⟩=some (.slice ia im ic):=HK2.out.cell 7 rfl
    by_cases h1:32<sn
    ·have h1':(32:Int)<(sn:Int):=by omega
     have HX:Hid (b=6):=by show _=_;rw [HF.out,chk_many HIS.out HNU.out HNW.out (.inl (by rw [hsz.1];exact h1))]
     clear HF
     go_wp2
     go_ret
     exact ⟨by rw [HX.out];rfl,HB2.out⟩
    have h1':¬ (32:Int)<(sn:Int):=by omega
    by_cases h2:8<im
    ·have h2':(8:Int)<(im:Int):=by omega
     have HX:Hid (b=6):=by show _=_;rw [HF.out,chk_many HIS.out HNU.out HNW.out (.inr (by rw [hsz.2];exact h2))]
     clear HF
     go_wp2
     go_ret
     exact ⟨by rw [HX.out];rfl,HB2.out⟩
    have h2':¬ (8:Int)<(im:Int):=by omega
    have HNM:Hid (¬ (32<p0.spans.length∨8<p0.items.length)):=by rw [hsz.1,hsz.2];exact not_or.2 ⟨h1,h2⟩
    have hcs:=pc_spans p0 sa sn sc ia im ic w2 (HP.out.spans.below HB2.out) (Nat.le_trans HP.out.sl HP.out.sm)
    rw [HV.out] at hcs
    have HCS:Hid (Calls Tryz.prog 255 #[Pc.val ⟨pk,pp,ps,pn,pf,pt,pl,pi⟩ sa sn sc ia im ic] w2 fun e w'=>e=.returned (.bool (spB p0))∧Below w2.heap.size w2 w'):=hcs
    clear hcs hsz
    go_wp2_with fail
    refine HCS.out.mono ?_
    clear HCS a0 a1 a2 a3 a4 a5 a6 a7
    rintro e w3 ⟨rfl,hb3⟩
    have HB3:Hid (Below w.heap.size w w3):=HB2.out.trans (hb3.mono HB2.out.size)
    have HK3:=HK2.out.stay hb3
    have HK3:Hid (Bk w3 w.heap.size #[.int .i64 pk,.int .i64 pp,.int .i64 ps,.int .i64 pn,.int .i64 pf,.int .i64 pt,.slice sa sn sc,.slice ia im ic] 116):=HK3
    clear hb3 HK2
    cases hsp:spB p0 with
    | false =>
     have HX:Hid (b=4):=by show _=_;rw [HF.out,chk_form HIS.out HNU.out HNW.out HNM.out hsp]
     clear HF hsp
     go_wp2
     go_ret
     exact ⟨by rw [HX.out];rfl,HB3.out⟩
    | true =>
     have HX:Hid (itE p0 p0.fr p0.items=b):=by show _=_;rw [HF.out,chk_items HIS.out HNU.out HNW.out HNM.out hsp]
     clear HF hsp
     have a0:w3.cell? ⟨w.heap.size,0,none⟩=some (.int .i64 pk):=HK3.out.cell 0 rfl
     have a1:w3.cell? ⟨w.heap.size,1,none⟩=some (.int .i64 pp):=HK3.out.cell 1 rfl
     have a2:w3.cell? ⟨w.heap.size,2,none⟩=some (.int .i64 ps):=HK3.out.cell 2 rfl
     have a3:w3.cell? ⟨w.heap.size,3,none⟩=some (.int .i64 pn):=HK3.out.cell 3 rfl
     have a4:w3.cell? ⟨w.heap.size,4,none⟩=some (.int .i64 pf):=HK3.out.cell 4 rfl
     have a5:w3.cell? ⟨w.heap.size,5,none⟩=some (.int .i64 pt):=HK3.out.cell 5 rfl
     have a6:w3.cell? ⟨w.heap.size,6,none⟩=some (.slice sa sn sc):=HK3.out.cell 6 rfl
     have a7:w3.cell? ⟨w.heap.size,7,none⟩=some (.slice ia im ic):=HK3.out.cell 7 rfl
     have hci:=pc_items p0 sa sn sc ia im ic w3 (HP.out.spans.below HB3.out) (Nat.le_trans HP.out.sl HP.out.sm) (HP.out.items.below HB3.out) (Nat.le_trans HP.out.il HP.out.im_) HTO.out
     rw [HV.out,HX.out] at hci
     have HCI:Hid (Calls Tryz.prog 256 #[Pc.val ⟨pk,pp,ps,pn,pf,pt,pl,pi⟩ sa sn sc ia im ic] w3 fun e w'=>e=.returned (.int .i64 b)∧Below w3.heap.size w3 w'):=hci
     clear hci
     go_wp2_with fail
     refine HCI.out.mono ?_
     clear HCI a0 a1 a2 a3 a4 a5 a6 a7
     rintro e w4 ⟨rfl,hb4⟩
     have HB4:Hid (Below w.heap.size w w4):=HB3.out.trans (hb4.mono HB3.out.size)
     clear hb4
     go_wp2
     go_ret
     exact ⟨rfl,HB4.out⟩
end
section
set_option maxRecDepth 100000
open Go.RowKit Go.Maps Go.Sort Go.Shelf
variable {Z:Nat→Prop}
def itemZ:Value:=.agg #[.int .i64 0,.int .u32 0,.slice none 0 0]
theorem Stm.look {w:World} {s m:Nat} {a:Option Addr} {n c:Nat} {l:List Sp} {X:List (Int×Value)} (h:Stm Z w s m a n c l X) {t:Int} (ht : -9223372036854775808≤t∧t≤9223372036854775807):(Instr.lookup 182 (.map (some m)) (.int .i64 t) false).run Tryz.prog w=.ok ((getX X t).getD itemZ) w:=by
 obtain ⟨v,ps,hrun,hv⟩:=h.items.lookup tkeyed Tryz.underlying182 (z:=itemZ) (Tryz.zeroValue51 w) (zd:=.held itemZ) (zp:=[]) rfl (tkey_of ht)
 rw [mapD_at] at hv
 rw [hrun]
 have hv:some (DataW.held v,([] : List MemPlace))=_:=hv
 simp only [Option.some.injEq,Prod.mk.injEq] at hv
 cases hg:getX X t with
 | none =>
  rw [hg] at hv
  have:=hv.1
  simp only [DataW.held.injEq] at this
  rw [this]
  rfl
 | some x =>
  rw [hg] at hv
  have:=hv.1
  simp only [DataW.held.injEq] at this
  rw [this]
  rfl
theorem results_first {w:World} {tmps:Array Value} {g:Nat} {c0 c1 c2 b:Value} (h8:tmps[8]?.getD undef=.pointer (some ⟨g,0,none⟩)) (h9:tmps[9]?.getD undef=b) (k:Bk w g #[c0,c1,c2] 51):(results Tryz.f104 tmps).run Tryz.prog w=.ok (.tuple #[.agg #[c0,c1,c2],b]) w:=by
 have k0:w.cell? ⟨g,0,none⟩=some c0:=k.cell 0 rfl
 have k1:w.cell? ⟨g,1,none⟩=some c1:=k.cell 1 rfl
 have k2:w.cell? ⟨g,2,none⟩=some c2:=k.cell 2 rfl
 simp [results,Tryz.results104,go_sem,h8,h9,k0,k1,k2]
end
end Go.Proofs.YtoiennkfdjnkbaaGreatDoor
