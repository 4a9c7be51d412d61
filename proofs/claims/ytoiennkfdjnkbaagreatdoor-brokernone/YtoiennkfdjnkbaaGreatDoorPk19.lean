import Derived.Test.YtoiennkfdjnkbaaGreatDoorPk18
import Derived.LoopN
import Derived.Handy
import Derived.Laws.Cover3
import Derived.Deep.QuietTactic
import Derived.BigQuiet
import Derived.Lib.MinMaxS
import Derived.Deep.RegionHeld3
set_option maxRecDepth 100000
set_option maxHeartbeats 8000000
namespace Go.Proofs.YtoiennkfdjnkbaaGreatDoor
section
open Go.RowKit
def knownB (k:Int):Bool:=decide (1≤k∧k≤3)
def goesB (p s:Sp):Bool:=decide (s.fr=p.to+1∧s.is=p.is)
theorem knownB_iff (k:Int):knownB k=true↔1≤k∧k≤3:=by simp [knownB]
theorem knownB_not (k:Int):knownB k=false↔¬ (1≤k∧k≤3):=by simp [knownB]
theorem goesB_iff (p s:Sp):goesB p s=true↔s.fr=p.to+1∧s.is=p.is:=by simp [goesB]
theorem goesB_not (p s:Sp):goesB p s=false↔¬ (s.fr=p.to+1∧s.is=p.is):=by simp [goesB]
def rightB (p:Sp):List Sp→Bool
 | [] => true
 | s :: l=>decide (p.to<s.fr∧s.fr≤s.to∧s.to≤1099511627776∧1≤s.is∧s.is≤3∧¬ (s.fr=p.to+1∧s.is=p.is)) && rightB s l
theorem rightB_iff:∀ (l:List Sp) (p:Sp),rightB p l=true↔RightS p l
 | [],_=>by simp [rightB,RightS]
 | s :: l,p=>by
  rw [rightB,RightS,Bool.and_eq_true,decide_eq_true_eq,rightB_iff l s]
  constructor
  ·rintro ⟨⟨h1,h2,h3,h4,h5,h6⟩,h7⟩
   exact ⟨h1,h2,h3,h4,h5,h6,h7⟩
  ·rintro ⟨h1,h2,h3,h4,h5,h6,h7⟩
   exact ⟨⟨h1,h2,h3,h4,h5,h6⟩,h7⟩
theorem rightB_bad {p s:Sp} {l:List Sp} (h:¬ (p.to<s.fr∧s.fr≤s.to∧s.to≤1099511627776∧1≤s.is∧s.is≤3∧¬ (s.fr=p.to+1∧s.is=p.is))):rightB p (s :: l)=false:=by
 rw [rightB,decide_eq_false h,Bool.false_and]
theorem rightB_good {p s:Sp} {l:List Sp} (h:p.to<s.fr∧s.fr≤s.to∧s.to≤1099511627776∧1≤s.is∧s.is≤3∧¬ (s.fr=p.to+1∧s.is=p.is)):rightB p (s :: l)=rightB s l:=by
 rw [rightB,decide_eq_true h,Bool.true_and]
theorem span_isKnown (k:Int) (w:World):Calls Tryz.prog 273 #[.int .i64 k] w fun e w'=>e=.returned (.bool (knownB k))∧w'=w:=by
 go_enter Tryz.func273,Tryz.ntmps273
 by_cases h1:1≤k
 ·by_cases h3:k≤3
  ·have HK:Hid (knownB k=true):=(knownB_iff k).2 ⟨h1,h3⟩
   go_wp2
   go_ret
   exact ⟨by rw [HK.out];rfl,rfl⟩
  ·have HK:Hid (knownB k=false):=(knownB_not k).2 (by omega)
   go_wp2
   go_ret
   exact ⟨by rw [HK.out];rfl,rfl⟩
 ·have HK:Hid (knownB k=false):=(knownB_not k).2 (by omega)
  go_wp2
  go_ret
  exact ⟨by rw [HK.out];rfl,rfl⟩
theorem span_goesOn (pf pt pi sf st si:Int) (h1 : -9223372036854775808≤pt) (h2:pt<9223372036854775807) (w:World):Calls Tryz.prog 274 #[.agg #[.int .i64 pf,.int .i64 pt,.int .i64 pi],.agg #[.int .i64 sf,.int .i64 st,.int .i64 si]] w fun e w'=>e=.returned (.bool (goesB ⟨pf,pt,pi⟩ ⟨sf,st,si⟩))∧Below w.heap.size w w':=by
 have HB:∀ c c',Hid (Below w.heap.size w ((w.alloc (.cells c 186)).alloc (.cells c' 186))):=fun c c'=>(below_new w _).alloc (by simp) _
 obtain ⟨b,hb⟩:∃ b,b=goesB ⟨pf,pt,pi⟩ ⟨sf,st,si⟩:=⟨_,rfl⟩
 have HG:Hid (b=goesB ⟨pf,pt,pi⟩ ⟨sf,st,si⟩):=hb
 rw [← hb]
 clear hb
 go_enter Tryz.func274,Tryz.ntmps274
 go_wp2
 ·rename_i e1 e2
  go_ret
  refine ⟨?_,(HB _ _).out⟩
  rw [HG.out,(goesB_iff _ _).2 ⟨e1,e2⟩]
  rfl
 ·rename_i e1 e2
  go_ret
  refine ⟨?_,(HB _ _).out⟩
  rw [HG.out,(goesB_not _ _).2 (fun h=>e2 h.2)]
  rfl
 ·rename_i e1
  go_ret
  refine ⟨?_,(HB _ _).out⟩
  rw [HG.out,(goesB_not _ _).2 (fun h=>e1 h.1)]
  rfl
theorem span_Right (a:Option Addr) (n cap:Nat) (l:List Sp) (w:World) (hr:SpsRd w a n l) (hn:n≤maxLen):Calls Tryz.prog 218 #[.slice a n cap] w fun e w'=>e=.returned (.bool (rightB Sp.zr l))∧Below w.heap.size w w':=by
 have HR:Hid (SpsRd w a n l):=hr
 obtain ⟨b,HF⟩:∃ b,Hid (b=rightB Sp.zr l):=⟨_,rfl⟩
 rw [← HF.out]
 unfold maxLen at hn
 clear hr
 go_enter Tryz.func218,Tryz.ntmps218
 go_wp2
 go_loopw [8] (fun t8 wr=>∃ (k:Nat) (p:Sp),k≤n∧t8=.int .i64 (k:Int)∧Hid (rightB p (l.drop k)=b)∧Hid (0≤p.to∧p.to≤1099511627776)∧Hid (Bk wr w.heap.size p.cells 186)∧Hid (Below w.heap.size w wr)) (fun t8 _=>n - (intOf t8).toNat)
 case atStart=>exact ⟨0,Sp.zr,by omega,rfl,HF.out.symm,⟨by decide,by decide⟩,Bk.new _ _ _,below_new _ _⟩
 case round =>
  obtain ⟨k,p,hk,rfl,HE,HP,HK,HB⟩:=hrel
  by_cases hlt:k<n
  ·have hlt':(k:Int)<(n:Int):=by omega
   obtain ⟨g,o,rfl,hg,q,hq,c0,c1,c2⟩:=(HR.out.below HB.out).at_ k hlt
   have HD:Hid (l.drop k=q :: l.drop (k+1)):=by
    show _=_
    obtain ⟨h1,h2⟩:=List.getElem?_eq_some_iff.1 hq
    rw [List.drop_eq_getElem_cons h1,h2]
   clear hq hg
   obtain ⟨qf,qt,qi⟩:=q
   obtain ⟨pf,pt,pi⟩:=p
   simp only at c0 c1 c2
   have HK1:Hid (Bk (wr.alloc (.cells #[.int .i64 qf,.int .i64 qt,.int .i64 qi] 186)) w.heap.size #[.int .i64 pf,.int .i64 pt,.int .i64 pi] 186):=HK.out.stay (below_new _ _)
   have HB1:Hid (Below w.heap.size w (wr.alloc (.cells #[.int .i64 qf,.int .i64 qt,.int .i64 qi] 186))):=HB.out.alloc HB.out.size _
   have a0:(wr.alloc (.cells #[.int .i64 qf,.int .i64 qt,.int .i64 qi] 186)).cell? ⟨w.heap.size,0,none⟩=some (.int .i64 pf):=HK1.out.cell 0 rfl
   have a1:(wr.alloc (.cells #[.int .i64 qf,.int .i64 qt,.int .i64 qi] 186)).cell? ⟨w.heap.size,1,none⟩=some (.int .i64 pt):=HK1.out.cell 1 rfl
   have a2:(wr.alloc (.cells #[.int .i64 qf,.int .i64 qt,.int .i64 qi] 186)).cell? ⟨w.heap.size,2,none⟩=some (.int .i64 pi):=HK1.out.cell 2 rfl
   have HP':Hid (0≤pt∧pt≤1099511627776):=HP.out
   have HLT:Hid (w.heap.size<wr.heap.size):=HK.out.lt
   clear HP HK
   by_cases h1:qf≤pt
   ·have HBAD:Hid (b=false):=by show _=_;rw [← HE.out,HD.out,rightB_bad (by simp only;omega)]
    clear HE
    go_wp2
    go_ret
    exact ⟨by rw [HBAD.out];rfl,HB1.out⟩
   ·by_cases h2:qt<qf
    ·have HBAD:Hid (b=false):=by show _=_;rw [← HE.out,HD.out,rightB_bad (by simp only;omega)]
     clear HE
     go_wp2
     go_ret
     exact ⟨by rw [HBAD.out];rfl,HB1.out⟩
    ·by_cases h3:1099511627776<qt
     ·have HBAD:Hid (b=false):=by show _=_;rw [← HE.out,HD.out,rightB_bad (by simp only;omega)]
      clear HE
      go_wp2
      go_ret
      exact ⟨by rw [HBAD.out];rfl,HB1.out⟩
     ·go_wp2_with fail
      refine (span_isKnown qi _).mono ?_
      rintro e w1 ⟨rfl,rfl⟩
      cases hk3:knownB qi with
      | false =>
       have HBAD:Hid (b=false):=by
        show _=_
        have:=(knownB_not qi).1 hk3
        rw [← HE.out,HD.out,rightB_bad (by simp only;omega)]
       clear HE hk3
       go_wp2
       go_ret
       exact ⟨by rw [HBAD.out];rfl,HB1.out⟩
      | true =>
       have HKN:Hid (1≤qi∧qi≤3):=(knownB_iff qi).1 hk3
       clear hk3
       go_wp2_with fail
       refine (span_goesOn pf pt pi qf qt qi (by have:=HP'.out;omega) (by have:=HP'.out;omega) _).mono ?_
       rintro e w2 ⟨rfl,hb2⟩
       have HB2:Hid (Below w.heap.size w w2):=HB1.out.trans (hb2.mono HB1.out.size)
       have HK2:Hid (Bk w2 w.heap.size #[.int .i64 pf,.int .i64 pt,.int .i64 pi] 186):=HK1.out.stay hb2
       have HN2:Hid (Bk w2 wr.heap.size #[.int .i64 qf,.int .i64 qt,.int .i64 qi] 186):=(Bk.new wr _ _).stay hb2
       clear hb2 a0 a1 a2 c0 c1 c2
       cases hk4:goesB ⟨pf,pt,pi⟩ ⟨qf,qt,qi⟩ with
       | true =>
        have HBAD:Hid (b=false):=by
         show _=_
         have:=(goesB_iff _ _).1 hk4
         rw [← HE.out,HD.out,rightB_bad (fun h=>h.2.2.2.2.2 this)]
        clear HE hk4
        go_wp2
        go_ret
        exact ⟨by rw [HBAD.out];rfl,HB2.out⟩
       | false =>
        have HNX:Hid (rightB ⟨qf,qt,qi⟩ (l.drop (k+1))=b):=by
         show _=_
         have h4:=(goesB_not _ _).1 hk4
         have h5:=HKN.out
         rw [← HE.out,HD.out,rightB_good ⟨by simp only;omega,by simp only;omega,by simp only;omega,h5.1,h5.2,h4⟩]
        have HPX:Hid (0≤qt∧qt≤1099511627776):=by have:=HP'.out;exact ⟨by omega,by omega⟩
        clear HE hk4 h1 h2 h3
        have d0:w2.cell? ⟨wr.heap.size,0,none⟩=some (.int .i64 qf):=HN2.out.cell 0 rfl
        have d1:w2.cell? ⟨wr.heap.size,1,none⟩=some (.int .i64 qt):=HN2.out.cell 1 rfl
        have d2:w2.cell? ⟨wr.heap.size,2,none⟩=some (.int .i64 qi):=HN2.out.cell 2 rfl
        have f0:=HK2.out.free 0
        have f1:=HK2.out.free 1
        have f2:=HK2.out.free 2
        have e0:w2.cell? ⟨w.heap.size,0,none⟩=some (.int .i64 pf):=HK2.out.cell 0 rfl
        have e1:w2.cell? ⟨w.heap.size,1,none⟩=some (.int .i64 pt):=HK2.out.cell 1 rfl
        have e2:w2.cell? ⟨w.heap.size,2,none⟩=some (.int .i64 pi):=HK2.out.cell 2 rfl
        have HNXT:Hid (Bk (((w2.setCell ⟨w.heap.size,0,none⟩ (.int .i64 qf)).setCell ⟨w.heap.size,1,none⟩ (.int .i64 qt)).setCell ⟨w.heap.size,2,none⟩ (.int .i64 qi)) w.heap.size #[.int .i64 qf,.int .i64 qt,.int .i64 qi] 186):=((HK2.out.set 0 _).set 1 _).set 2 _
        have HBX:Hid (Below w.heap.size w (((w2.setCell ⟨w.heap.size,0,none⟩ (.int .i64 qf)).setCell ⟨w.heap.size,1,none⟩ (.int .i64 qt)).setCell ⟨w.heap.size,2,none⟩ (.int .i64 qi))):=((HB2.out.setCell (by simp) _).setCell (by simp) _).setCell (by simp) _
        go_wp2
        go_roundw
        case rel=>exact ⟨k+1,⟨qf,qt,qi⟩,by omega,by go_num,HNX,HPX,HNXT,HBX⟩
        case measure=>simp [intOf];omega
  ·have hnl:¬ (k:Int)<(n:Int):=by omega
   have HOK:Hid (b=true):=by
    show _=_
    rw [← HE.out,List.drop_of_length_le (by rw [HR.out.size];omega)]
    rfl
   clear HE HP HK
   go_wp2
   go_ret
   exact ⟨by rw [HOK.out];rfl,HB.out⟩
end
section
open Go.RowKit
theorem atS_in {s:Sp} {l:List Sp} {t:Int} (h1:s.fr≤t) (h2:t≤s.to):atS (s :: l) t=s.is:=by rw [atS,if_pos ⟨h1,h2⟩]
theorem atS_out {s:Sp} {l:List Sp} {t:Int} (h:¬ (s.fr≤t∧t≤s.to)):atS (s :: l) t=atS l t:=by rw [atS,if_neg h]
theorem drop_at {l:List Sp} {k:Nat} {q:Sp} (hq:l[k]? = some q):l.drop k=q :: l.drop (k+1):=by
 obtain ⟨h1,h2⟩:=List.getElem?_eq_some_iff.1 hq
 rw [List.drop_eq_getElem_cons h1,h2]
theorem span_At (a:Option Addr) (n cap:Nat) (l:List Sp) (t:Int) (w:World) (hr:SpsRd w a n l) (hn:n≤maxLen):Calls Tryz.prog 260 #[.slice a n cap,.int .i64 t] w fun e w'=>e=.returned (.int .i64 (atS l t))∧Below w.heap.size w w':=by
 have HR:Hid (SpsRd w a n l):=hr
 obtain ⟨b,HF⟩:∃ b,Hid (b=atS l t):=⟨_,rfl⟩
 rw [← HF.out]
 unfold maxLen at hn
 clear hr
 go_enter Tryz.func260,Tryz.ntmps260
 go_wp2
 go_loopw [9] (fun t9 wr=>∃ (k:Nat),k≤n∧t9=.int .i64 (k:Int)∧Hid (atS (l.drop k) t=b)∧Hid (Below w.heap.size w wr)) (fun t9 _=>n - (intOf t9).toNat)
 case atStart=>exact ⟨0,by omega,rfl,HF.out.symm,Below.refl _ _⟩
 case round =>
  obtain ⟨k,hk,rfl,HE,HB⟩:=hrel
  by_cases hlt:k<n
  ·have hlt':(k:Int)<(n:Int):=by omega
   obtain ⟨g,o,rfl,hg,q,hq,c0,c1,c2⟩:=(HR.out.below HB.out).at_ k hlt
   have HD:Hid (l.drop k=q :: l.drop (k+1)):=drop_at hq
   clear hq hg
   obtain ⟨qf,qt,qi⟩:=q
   simp only at c0 c1 c2
   have HB1:Hid (Below w.heap.size w (wr.alloc (.cells #[.int .i64 qf,.int .i64 qt,.int .i64 qi] 186))):=HB.out.alloc HB.out.size _
   by_cases h1:qf≤t
   ·by_cases h2:t≤qt
    ·have HX:Hid (b=qi):=by show _=_;rw [← HE.out,HD.out,atS_in h1 h2]
     clear HE
     go_wp2
     go_ret
     exact ⟨by rw [HX.out];rfl,HB1.out⟩
    ·have HX:Hid (atS (l.drop (k+1)) t=b):=by show _=_;rw [← HE.out,HD.out,atS_out (by simp only;omega)]
     clear HE
     go_wp2
     go_roundw
     case rel=>exact ⟨k+1,by omega,by go_num,HX,HB1⟩
     case measure=>simp [intOf];omega
   ·have HX:Hid (atS (l.drop (k+1)) t=b):=by show _=_;rw [← HE.out,HD.out,atS_out (by simp only;omega)]
    clear HE
    go_wp2
    go_roundw
    case rel=>exact ⟨k+1,by omega,by go_num,HX,HB1⟩
    case measure=>simp [intOf];omega
  ·have hnl:¬ (k:Int)<(n:Int):=by omega
   have HX:Hid (b=0):=by
    show _=_
    rw [← HE.out,List.drop_of_length_le (by rw [HR.out.size];omega)]
    rfl
   clear HE
   go_wp2
   go_ret
   exact ⟨by rw [HX.out];rfl,HB.out⟩
end
section
open Go.RowKit
theorem span_behind (a:Option Addr) (n cap:Nat) (l:List Sp) (t:Int) (w W:World) (hr:SpsRd w a n l) (hW:SpsRd W a n l) (hc:n≤cap) (hcm:cap≤maxLen):Calls Tryz.prog 305 #[.slice a n cap,.int .i64 t] w fun e w'=>(∃ a' n' c',e=.returned (.slice a' n' c')∧Hid (SpsRd w a' n' (behindS l t))∧Hid (SpsRd W a' n' (behindS l t))∧Hid (n'≤c'∧c'≤maxLen))∧w'=w:=by
 have HR:Hid (SpsRd w a n l):=hr
 have HW:Hid (SpsRd W a n l):=hW
 have HC:Hid (n≤cap∧cap≤maxLen):=⟨hc,hcm⟩
 clear hr hW hc hcm
 obtain ⟨m,HM⟩:∃ m,Hid (behindS l t=m):=⟨_,rfl⟩
 rw [HM.out]
 go_enter Tryz.func305,Tryz.ntmps305
 go_wp2
 go_loopw [0] (fun t0 wr=>∃ (a':Option Addr) (n' c':Nat) (l':List Sp),t0=.slice a' n' c'∧Hid (SpsRd w a' n' l')∧Hid (SpsRd W a' n' l')∧Hid (behindS l' t=m)∧Hid (n'≤c'∧c'≤maxLen)∧wr=w) (fun t0 _=>match t0 with | .slice _ n _=>n | _=>0)
 case atStart=>exact ⟨a,n,cap,l,rfl,HR,HW,HM,HC,rfl⟩
 case round =>
  obtain ⟨a',n',c',l',rfl,HR',HW',HM',HC',rfl⟩:=hrel
  cases l' with
  | nil =>
   have hs:=HR'.out.size
   simp only [List.length_nil] at hs
   subst hs
   have HX:Hid (m=[]):=HM'.out.symm
   clear HM'
   go_wp2
   go_ret
   exact ⟨⟨a',0,c',rfl,by show SpsRd _ _ _ _;rw [HX.out];exact HR'.out,by show SpsRd _ _ _ _;rw [HX.out];exact HW'.out,HC'⟩,rfl⟩
  | cons q l' =>
   have hs:=HR'.out.size
   simp only [List.length_cons] at hs
   have hpos:(0:Int)<(n':Int):=by omega
   obtain ⟨g,o,rfl,hg,q',hq,c0,c1,c2⟩:=HR'.out.at_ 0 (by omega)
   simp only [List.getElem?_cons_zero,Option.some.injEq] at hq
   subst hq
   simp only [Nat.zero_mul,Nat.add_zero] at c0 c1 c2
   have hcc:=HC'.out
   unfold maxLen at hcc
   obtain ⟨hc1,hc2⟩:=hcc
   by_cases h1:q.to<t
   ·have HX:Hid (behindS l' t=m):=by show _=_;rw [← HM'.out,behindS,if_pos h1]
    have HT:Hid (SpsRd wr (if c'=1 then some ⟨g,o,none⟩ else some ⟨g,o+3,none⟩) (n' - 1) l'):=by
     show SpsRd _ _ _ _
     split
     ·have:l'=[]:=List.length_eq_zero_iff.1 (by omega)
      exact ⟨by omega,.inl this⟩
     ·exact HR'.out.tail
    have HT2:Hid (SpsRd W (if c'=1 then some ⟨g,o,none⟩ else some ⟨g,o+3,none⟩) (n' - 1) l'):=by
     show SpsRd _ _ _ _
     split
     ·have:l'=[]:=List.length_eq_zero_iff.1 (by omega)
      exact ⟨by omega,.inl this⟩
     ·exact HW'.out.tail
    have HC2:Hid (n' - 1≤c' - 1∧c' - 1≤maxLen):=⟨by omega,by unfold maxLen;omega⟩
    clear HM' c0 c2
    go_wp2
    go_roundw
    case rel=>exact ⟨_,n' - 1,c' - 1,l',rfl,HT,HT2,HX,HC2,trivial⟩
    case measure=>simp only;omega
   ·have HX:Hid (m=q :: l'):=by show _=_;rw [← HM'.out,behindS,if_neg h1]
    clear HM' c0 c2
    go_wp2
    go_ret
    exact ⟨⟨_,n',c',rfl,by show SpsRd _ _ _ _;rw [HX.out];exact HR'.out,by show SpsRd _ _ _ _;rw [HX.out];exact HW'.out,HC'⟩,rfl⟩
theorem span_run (a:Option Addr) (n cap:Nat) (l:List Sp) (t:Int) (w:World) (hr:SpsRd w a n l) (hn:n≤maxLen) (hs:∀ q∈l,1≤q.fr∧q.fr≤1099511627776):Calls Tryz.prog 306 #[.slice a n cap,.int .i64 t] w fun e w'=>(∃ r,e=.returned (.agg #[.int .i64 t,.int .i64 r.to,.int .i64 r.is])∧Hid (r=runS l t))∧Below w.heap.size w w':=by
 unfold maxLen at hn
 cases l with
 | nil =>
  have h0:=hr.size
  simp only [List.length_nil] at h0
  subst h0
  have HBX:Hid (Below w.heap.size w (w.alloc (.cells #[.int .i64 t,.int .i64 1099511627776,.int .i64 0] 186))):=below_new _ _
  clear hr hn hs
  go_enter Tryz.func306,Tryz.ntmps306
  go_wp2
  go_returns
  exact ⟨⟨⟨t,1099511627776,0⟩,rfl,rfl⟩,HBX.out⟩
 | cons q l =>
  have h0:=hr.size
  simp only [List.length_cons] at h0
  obtain ⟨g,o,rfl,hg,q',hq,c0,c1,c2⟩:=hr.at_ 0 (by omega)
  simp only [List.getElem?_cons_zero,Option.some.injEq] at hq
  subst hq
  obtain ⟨s1,s2⟩:=hs q (List.mem_cons_self ..)
  obtain ⟨qf,qt,qi⟩:=q
  simp only [Nat.zero_mul,Nat.add_zero] at c0 c1 c2 s1 s2
  have hz:¬ ((n:Int)=0):=by omega
  by_cases h1:t<qf
  ·have HBX:Hid (Below w.heap.size w (w.alloc (.cells #[.int .i64 t,.int .i64 (qf - 1),.int .i64 0] 186))):=below_new _ _
   have HX:Hid ((⟨t,qf - 1,0⟩:Sp)=runS (⟨qf,qt,qi⟩ :: l) t):=by
    show _=_
    rw [runS,if_pos h1]
   clear hr hs
   go_enter Tryz.func306,Tryz.ntmps306
   go_wp2
   go_returns
   exact ⟨⟨⟨t,qf - 1,0⟩,rfl,HX⟩,HBX.out⟩
  ·have HBX:Hid (Below w.heap.size w (w.alloc (.cells #[.int .i64 t,.int .i64 qt,.int .i64 qi] 186))):=below_new _ _
   have HX:Hid ((⟨t,qt,qi⟩:Sp)=runS (⟨qf,qt,qi⟩ :: l) t):=by
    show _=_
    rw [runS,if_neg h1]
   clear hr hs
   go_enter Tryz.func306,Tryz.ntmps306
   go_wp2
   go_region
   all_goals go_wp2
   all_goals go_returns
   all_goals exact ⟨⟨⟨t,qt,qi⟩,rfl,HX⟩,below_drew HBX.out⟩
end
section
open Go.RowKit
theorem Sps.grown {w w':World} {base:Nat} {v:Value} {l:List Sp} (h:Sps w base v l) (hb:base≤w.heap.size) (hg:w.grownBy w' v.ownBlock):Below base w w' :=
 ⟨hg.os,hg.tape,hg.output,hg.size,fun k hk=>hg.block k (by omega) fun e=>by have:=h.at_ e.symm;omega⟩
theorem grown_after {w w1 w':World} {row:Option Nat} (hb:Below w.heap.size w w1) (hg:w1.grownBy w' row):w.grownBy w' row :=
 ⟨hg.os.trans hb.os,hg.tape.trans hb.tape,hg.output.trans hb.output,Nat.le_trans hb.size hg.size,fun k hk hn=>(hg.block k (Nat.lt_of_lt_of_le hk hb.size) hn).trans (hb.block k hk)⟩
theorem grown_below {w w':World} {row:Option Nat} (hb:Below w.heap.size w w'):w.grownBy w' row:=⟨hb.os,hb.tape,hb.output,hb.size,fun k hk _=>hb.block k hk⟩
theorem grown_set {w w':World} {a:Addr} {v:Value} (hb:Below w.heap.size w w'):w.grownBy (w'.setCell a v) (some a.block):=by
 have h0:Below 0 w (w'.setCell a v):=(hb.mono (Nat.zero_le _)).setCell (Nat.zero_le _) v
 refine ⟨h0.os,h0.tape,h0.output,h0.size,fun k hk hn => ?_⟩
 rw [heap_setCell_other w' a k v (fun e=>hn (by rw [e]))]
 exact hb.block k hk
theorem Sps.spot {w:World} {base:Nat} {v:Value} {i:List Sp} {q:Sp} (h:Sps w base v (i++[q])):∃ g c,v=.slice (some ⟨g,0,none⟩) (i.length+1) c∧base≤g∧g<w.heap.size∧i.length+1≤c∧w.cell? ⟨g,i.length * 3,none⟩=some (.int .i64 q.fr)∧w.cell? ⟨g,i.length * 3+1,none⟩=some (.int .i64 q.to)∧w.cell? ⟨g,i.length * 3+2,none⟩=some (.int .i64 q.is)∧w.frozen? ⟨g,i.length * 3+1,none⟩=false:=by
 obtain ⟨a,c,hv,hc⟩:=h.form
 rw [hv] at h
 have hr:=h.rd
 obtain ⟨g,o,ha,hg,q',hq,c0,c1,c2⟩:=hr.at_ i.length (by simp)
 rw [List.getElem?_append_right (Nat.le_refl _),Nat.sub_self] at hq
 simp only [List.getElem?_cons_zero,Option.some.injEq] at hq
 subst hq
 rcases h.row.2 with ⟨h1,_⟩ | ⟨g',c',cur,h1,h2,h3,h4,h5,h6,h7⟩
 ·simp only [Value.slice.injEq] at h1
  rw [h1.1] at ha
  cases ha
 ·simp only [Value.slice.injEq] at h1
  obtain ⟨e1,_,e3⟩:=h1
  rw [e1] at ha
  simp only [Option.some.injEq,Addr.mk.injEq] at ha
  obtain ⟨rfl,rfl,_⟩:=ha
  simp only [Nat.zero_add] at c0 c1 c2
  refine ⟨g',c,by rw [hv,e1];simp,h2,hg,by simpa using hc,c0,c1,c2,frozen_of_row w g' _ cur _ h3⟩
theorem Bk.new2 (w:World) (o:Obj) (m:Nat) (c:Array Value) (t:TypeId):Bk (((w.alloc o).drewN m).alloc (.cells c t)) (w.heap.size+1) c t:=by
 have h:=Bk.new ((w.alloc o).drewN m) c t
 rwa [show ((w.alloc o).drewN m).heap.size=w.heap.size+1 from by simp [World.drewN]] at h
theorem span_lay (B:Nat) (v:Value) (l:List Sp) (sf st si:Int) (w:World) (hv:Sps w B v l) (hB:B≤w.heap.size) (hl:l.length≤2000000000000) (hs:∀ i q,l=i++[q] → -9223372036854775808≤q.to∧q.to<9223372036854775807) :
  Calls Tryz.prog 307 #[v,.agg #[.int .i64 sf,.int .i64 st,.int .i64 si]] w fun e w'=>(∃ v' l',e=.returned v'∧Hid (Sps w' B v' l')∧Hid (layS l ⟨sf,st,si⟩ l'))∧w.grownBy w' v.ownBlock:=by
 have HB0:Hid (Below w.heap.size w (w.alloc (.cells #[.int .i64 sf,.int .i64 st,.int .i64 si] 186))):=below_new _ _
 by_cases h0:si=0
 ·obtain ⟨a,c,rfl,hlc⟩:=hv.form
  have HV:Hid (Sps w B (.slice a l.length c) l):=hv
  subst h0
  clear hv
  go_enter Tryz.func307,Tryz.ntmps307
  go_wp2
  go_ret
  exact ⟨⟨_,l,rfl,HV.out.below (below_new _ _),.inl ⟨rfl,rfl⟩⟩,grown_below HB0.out⟩
 ·rcases snocS l with rfl | ⟨i,q,rfl⟩
  ·obtain ⟨a,c,rfl,hlc⟩:=hv.form
   have HV:Hid (Sps w B (.slice a 0 c) []):=hv
   clear hv
   go_enter Tryz.func307,Tryz.ntmps307
   go_wp2
   go_quiet (fail)
   have HBX:∀ m o',Hid (Below w.heap.size w (((w.alloc (.cells #[.int .i64 sf,.int .i64 st,.int .i64 si] 186)).drewN m).alloc o')):=fun m o'=>(below_drews (below_new w _) m).alloc (by simp [World.drewN]) _
   go_wp2_with (at_builtin;refine wpList_append_sp rfl (.tmp 30) (.tmp 32) rfl B _ [] rfl (HV.out.below (HBX _ _).out) ⟨w.heap.size+1,0,none⟩ 1 ⟨sf,st,si⟩ rfl (Sp.told (q:=⟨sf,st,si⟩) (Bk.new2 _ _ _ _ _)) (by simp) (Nat.le_trans hB (HBX _ _).out.size) ?_)
   intro v' w' ho hg
   have HO:Hid (Sps w' B v' [⟨sf,st,si⟩]):=ho
   have HG:=grown_after (HBX _ _).out hg
   have HG:Hid (w.grownBy w' _):=HG
   clear ho hg
   go_wp2
   go_ret
   exact ⟨⟨v',_,rfl,HO,.inr (.inr ⟨h0,fun i q e=>by simp at e,rfl⟩)⟩,HG.out⟩
  ·obtain ⟨g,c,rfl,hBg,hgl,hc,c0,c1,c2,fz⟩:=hv.spot
   have HV:Hid (Sps w B (.slice (some ⟨g,0,none⟩) (i.length+1) c) (i++[q])):=hv
   have hk:i.length≤2000000000000:=by simp at hl;omega
   obtain ⟨z1,z2⟩:=hs i q rfl
   obtain ⟨k,hki⟩:∃ k,k=i.length:=⟨_,rfl⟩
   have HK:Hid (k=i.length):=hki
   rw [← hki] at hc c0 c1 c2 fz HV hk ⊢
   obtain ⟨qf,qt,qi⟩:=q
   simp only at c0 c1 c2 z1 z2
   clear hv hl hs hki
   obtain ⟨W0,HW0⟩:∃ W0,Hid (W0=w.alloc (.cells #[.int .i64 sf,.int .i64 st,.int .i64 si] 186)):=⟨_,rfl⟩
   have HSK:Hid (∀ w',Below W0.heap.size W0 w'→(w'.cell? ⟨g,k * 3,none⟩=some (.int .i64 qf)∧w'.cell? ⟨g,k * 3+1,none⟩=some (.int .i64 qt)∧w'.cell? ⟨g,k * 3+2,none⟩=some (.int .i64 qi)∧w'.cell? ⟨w.heap.size,0,none⟩=some (.int .i64 sf)∧w'.cell? ⟨w.heap.size,1,none⟩=some (.int .i64 st)∧w'.cell? ⟨w.heap.size,2,none⟩=some (.int .i64 si))):=by
    intro w' hb
    rw [HW0.out] at hb
    have k2:=(Bk.new w #[.int .i64 sf,.int .i64 st,.int .i64 si] 186).stay hb
    have hbb:=(below_new w _).trans (hb.mono (by simp))
    exact ⟨(hbb.cell (p:=⟨g,k * 3,none⟩) hgl).trans c0,(hbb.cell (p:=⟨g,k * 3+1,none⟩) hgl).trans c1,(hbb.cell (p:=⟨g,k * 3+2,none⟩) hgl).trans c2,k2.cell 0 rfl,k2.cell 1 rfl,k2.cell 2 rfl⟩
   have HFZ:Hid (∀ w',Below W0.heap.size W0 w'→w'.frozen? ⟨g,k * 3+1,none⟩=false):=by
    intro w' hb
    rw [HW0.out] at hb
    have hbb:=(below_new w _).trans (hb.mono (by simp))
    rw [World.frozen?_of_block (a:=⟨g,k * 3+1,none⟩) (hbb.block g hgl)]
    exact fz
   have HBW:Hid (Below w.heap.size w W0):=by show Below _ _ _;rw [HW0.out];exact HB0.out
   have HV0:Hid (Sps W0 B (.slice (some ⟨g,0,none⟩) (k+1) c) (i++[⟨qf,qt,qi⟩])):=by show Sps _ _ _ _;rw [HW0.out];exact HV.out.below (below_new _ _)
   have HGW:Hid (g<W0.heap.size∧B≤W0.heap.size):=by rw [HW0.out];constructor <;> simp <;> omega
   clear c0 c1 c2 fz HB0 HV
   have hkk:((k:Int)+1 - 1)=k:=by omega
   have hk0:¬ ((k:Int)<0):=by omega
   have hk2:(k:Int)<(k:Int)+1:=by omega
   go_enter Tryz.func307,Tryz.ntmps307
   go_wp2
   rw [← HW0.out]
   have HB:Hid (Below W0.heap.size W0 W0.drew):=(Below.refl _ _).drew
   go_region_held3 (fun w'=>w'.cell? ⟨g,k * 3,none⟩=some (.int .i64 qf)∧w'.cell? ⟨g,k * 3+1,none⟩=some (.int .i64 qt)∧w'.cell? ⟨g,k * 3+2,none⟩=some (.int .i64 qi)∧w'.cell? ⟨w.heap.size,0,none⟩=some (.int .i64 sf)∧w'.cell? ⟨w.heap.size,1,none⟩=some (.int .i64 st)∧w'.cell? ⟨w.heap.size,2,none⟩=some (.int .i64 si)) (first | exact HSK.out _ HB.out | exact HSK.out _ (Below.refl _ _).drew | exact HSK.out _ (Below.refl _ _) | fail)
    (first | (go_at_call 274;refine (span_goesOn qf qt qi sf st si z1 z2 _).mono ?_;rintro e w3 ⟨rfl,hb3⟩;have HB':Hid (Below W0.heap.size W0 w3):=HB.out.trans (hb3.mono HB.out.size);clear hb3 HB;have HB:=HB';clear HB'))
   cases hgo:goesB ⟨qf,qt,qi⟩ ⟨sf,st,si⟩ with
   | true =>
    have HGO:Hid (sf=qt+1∧si=qi):=(goesB_iff _ _).1 hgo
    clear hgo
    have HRES:Hid (Sps (w3.setCell ⟨g,k * 3+1,none⟩ (.int .i64 st)) B (.slice (some ⟨g,0,none⟩) (k+1) c) (i++[⟨qf,st,qi⟩])):=by
     have:=(HV0.out.below HB.out).setTo st
     rw [← HK.out] at this
     exact this
    have HBR:Hid (w.grownBy (w3.setCell ⟨g,k * 3+1,none⟩ (.int .i64 st)) (some g)):=grown_set (a:=⟨g,k * 3+1,none⟩) (HBW.out.trans (HB.out.mono HBW.out.size))
    have fz:=HFZ.out w3 HB.out
    go_wp2
    go_ret
    exact ⟨⟨_,_,rfl,HRES,.inr (.inl ⟨h0,i,⟨qf,qt,qi⟩,rfl,HGO.out.1,HGO.out.2,rfl⟩)⟩,HBR.out⟩
   | false =>
    have HGO:Hid (¬ (sf=qt+1∧si=qi)):=(goesB_not _ _).1 hgo
    clear hgo
    have HB4:Hid (Below W0.heap.size W0 (w3.alloc (.cells #[.int .i64 sf,.int .i64 st,.int .i64 si] 186))):=HB.out.alloc HB.out.size _
    have HS4:Hid (B≤(w3.alloc (.cells #[.int .i64 sf,.int .i64 st,.int .i64 si] 186)).heap.size):=Nat.le_trans HGW.out.2 HB4.out.size
    have HV4:Hid (Sps (w3.alloc (.cells #[.int .i64 sf,.int .i64 st,.int .i64 si] 186)) B (.slice (some ⟨g,0,none⟩) (k+1) c) (i++[⟨qf,qt,qi⟩])):=HV0.out.below HB4.out
    have HT4:Hid (∀ j u,(Sp.cells ⟨sf,st,si⟩).toList[j]? = some u→(w3.alloc (.cells #[.int .i64 sf,.int .i64 st,.int .i64 si] 186)).cell? ((⟨w3.heap.size,0,none⟩:Addr).add j)=some u):=Sp.told (Bk.new w3 _ _)
    have HL:Hid ((i++[(⟨qf,qt,qi⟩:Sp)]).length≤3000000000000):=by show _≤_;rw [List.length_append,← HK.out];simp;omega
    go_wp2_with (at_builtin;refine wpList_append_sp rfl (.tmp 30) (.tmp 32) rfl B (.slice (some ⟨g,0,none⟩) (k+1) c) (i++[⟨qf,qt,qi⟩]) rfl HV4.out ⟨w3.heap.size,0,none⟩ 1 ⟨sf,st,si⟩ rfl HT4.out HL.out HS4.out ?_)
    intro v' w' ho hg
    have HO:Hid (Sps w' B v' (i++[⟨qf,qt,qi⟩] ++ [⟨sf,st,si⟩])):=by show Sps _ _ _ _;simpa using ho
    have HG:Hid (w.grownBy w' (some g)):=grown_after (HBW.out.trans (HB4.out.mono HBW.out.size)) hg
    clear ho hg
    go_wp2
    go_ret
    exact ⟨⟨v',_,rfl,HO,.inr (.inr ⟨h0,fun j q e=>by
     obtain ⟨rfl,e2⟩:=List.append_inj' e rfl
     simp only [List.cons.injEq,and_true] at e2
     subst e2
     exact HGO.out,rfl⟩)⟩,HG.out⟩
end
end Go.Proofs.YtoiennkfdjnkbaaGreatDoor
