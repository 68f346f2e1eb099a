/- Squeezed: the texts as they are written lie in wip/tpl. -/
import Derived.Test.YtgkddhncfaeidaaGreatPart01
set_option maxRecDepth 100000
set_option maxHeartbeats 4000000
set_option linter.unusedSimpArgs false
set_option linter.unusedVariables false
namespace Go.Proofs.YtgkddhncfaeidaaGreat
open Go.ChangeShapes Go.WideShapes Go.ChangeAt Go.RowKit CrcM PageM
def okStepK (es:List KeyD) (i:Nat):Prop:=∃ e,es[i]?=some e∧okKey e.se∧(i=0∨∃ p,es[i - 1]?=some p∧lessB p e=true)
def okKeys (es:List KeyD):Prop:=1≤es.length∧es.length≤16∧∀ i,i<es.length→okStepK es i
theorem okStepK_not_key {es:List KeyD} {k:Nat} {e:KeyD} (he:es[k]?=some e) (h:¬ okKey e.se):¬ okStepK es k:=fun ⟨e',h1,h2,_⟩=>by rw [he] at h1;cases h1;exact h h2
theorem okStepK_not_less {es:List KeyD} {k q:Nat} {e p:KeyD} (hk:k=q+1) (he:es[k]?=some e) (hp:es[q]?=some p) (h:lessB p e=false):¬ okStepK es k:=fun ⟨e',h1,_,h3⟩=>by
 rw [he] at h1
 cases h1
 rcases h3 with h3 | ⟨p',h3,h4⟩
 ·omega
 ·subst hk
  rw [Nat.add_sub_cancel,hp] at h3
  cases h3
  rw [h] at h4
  cases h4
theorem less_r (a b:KeyD) (r:Bool) (hr:lessB a b=r) (w:World) :
 Calls Tryz.prog 111 #[.agg #[.int .i64 a.se,.int .i64 a.st],.agg #[.int .i64 b.se,.int .i64 b.st]] w fun e w'=>e=.returned (.bool r)∧Below w.heap.size w w':=by subst hr;exact less_any a b w
theorem rightKey_d (e:KeyD) (r:Bool) (hr:decide (okKey e.se)=r) (w:World) :
 Calls Tryz.prog 110 #[.agg #[.int .i64 e.se,.int .i64 e.st]] w fun e' w'=>e'=.returned (.bool r)∧Below w.heap.size w w':=by subst hr;exact rightKey_any e.se e.st w
theorem rightKeys_any (A:Option Addr) (n c:Nat) (es:List KeyD) (hn:es.length=n) (hm:n≤maxLen) (r:Bool) (hr:r=true ↔ okKeys es) (w:World) (hx:KyAt w A es) :
 Calls Tryz.prog 72 #[.slice A n c] w fun e w'=>e=.returned (.bool r)∧Below w.heap.size w w':=by
 unfold maxLen at hm
 have HN:=Lib.hid hn
 have HR:=Lib.hid hr
 have HX:=Lib.hid hx
 have HF:Hid (¬ okKeys es→r=false):=Lib.hid (fun h=>by cases r;rfl;exact absurd (hr.1 rfl) h)
 clear hr hx hn
 by_cases h1:n<1
 ·have d1:decide ((n:Int)<1)=true:=by simp;omega
  have d1':decide (n<1)=true:=by simp;omega
  have hf:=HF.out (fun h=>by have:=h.1;have:=HN.out;omega)
  subst hf
  go_enter Tryz.func72,Tryz.ntmps72
  go_wp2_with fail
  go_ret
  exact ⟨rfl,Below.refl _ _⟩
 ·have d1:decide ((n:Int)<1)=false:=by simp;omega
  have d1':decide (n<1)=false:=by simp;omega
  by_cases h2:16<n
  ·have d2:decide ((16:Int)<(n:Int))=true:=by simp;omega
   have d2':decide (16<n)=true:=by simp;omega
   have hf:=HF.out (fun h=>by have:=h.2.1;have:=HN.out;omega)
   subst hf
   go_enter Tryz.func72,Tryz.ntmps72
   go_wp2_with fail
   go_ret
   exact ⟨rfl,Below.refl _ _⟩
  ·have d2:decide ((16:Int)<(n:Int))=false:=by simp;omega
   have d2':decide (16<n)=false:=by simp;omega
   obtain ⟨b,off,rfl,hcell⟩:=HX.out (by intro e;have:=HN.out;rw [e] at this;simp at this;omega)
   have HC:=Lib.hid hcell
   clear hcell
   go_enter Tryz.func72,Tryz.ntmps72
   go_upto_region 4 with fail
   clear d1 d1' d2 d2'
   go_loopw [15] (fun i wr=>∃ k:Nat,k≤n∧i=.int .i64 k∧Hid (∀ j,j<k→okStepK es j)∧Below w.heap.size w wr) (fun i _=>n - (intOf i).toNat)
   case atStart=>exact ⟨0,by omega,rfl,Lib.hid (fun j hj=>by omega),Below.refl _ _⟩
   case round =>
    obtain ⟨k,hk,rfl,HS,hb⟩:=hrel
    by_cases hlt:k<n
    ·obtain ⟨e,he⟩:∃ e,es[k]?=some e:=⟨_,List.getElem?_eq_getElem (by rw [HN.out];exact hlt)⟩
     obtain ⟨c0,c1⟩:=(HC.out k e he).below hb
     have HE:=Lib.hid he
     have HB:=Lib.hid hb
     clear he hb
     go_upto_region 6 with fail
     obtain ⟨W,eW⟩:∃ W,W=wr.alloc (.cells #[.int .i64 e.se,.int .i64 e.st] 38):=⟨_,rfl⟩
     have hrow:W.heap[wr.heap.size]?=some (.cells #[.int .i64 e.se,.int .i64 e.st] 38 (0,0)):=by rw [eW];exact heap_alloc_new _ _
     have hbW:Below w.heap.size w W:=by rw [eW];exact HB.out.alloc HB.out.size _
     rw [← eW]
     clear eW c0 c1
     obtain ⟨g,hg⟩:∃ g,g=wr.heap.size:=⟨_,rfl⟩
     rw [← hg] at hrow ⊢
     clear hg
     have G0:∀ y:SubW W.heap.size W,y.at_.cell? ⟨g,0,none⟩=some (.int .i64 e.se):=fun y=>nd_cell ((y.ok_.block _ (Array.getElem?_eq_some_iff.1 hrow).1).trans hrow) 0 _ rfl
     have G1:∀ y:SubW W.heap.size W,y.at_.cell? ⟨g,1,none⟩=some (.int .i64 e.st):=fun y=>nd_cell ((y.ok_.block _ (Array.getElem?_eq_some_iff.1 hrow).1).trans hrow) 1 _ rfl
     have HBW:=Lib.hid hbW
     clear hrow hbW HB
     by_cases hE:okKey e.se
     ·have HD:Hid (decide (okKey e.se)=true):=Lib.hid (decide_eq_true hE)
      have HOE:=Lib.hid hE
      clear hE
      by_cases hk0:k=0
      ·have d0:decide ((0:Int)<(k:Int))=false:=by simp;omega
       have d0':decide (0<k)=false:=by simp;omega
       refine region_below W.heap.size W (Below.refl _ _) (by kernel_rfl) (by kernel_rfl) ?_
       repeat (go_big_quiet_step ((go_at_call 110;exact calls_sub (Nat.le_refl _) (rightKey_d e true HD.out _))))
       refine wpQuiet_nil ?_
       rintro w' ⟨y,rfl⟩
       have HY:=Lib.hid (HBW.out.trans (y.ok_.mono HBW.out.size))
       clear G0 G1
       go_wp2_with fail
       go_roundw
       case rel=>exact ⟨k+1,by omega,by go_num,Lib.hid (fun j hj=>by rcases Nat.lt_succ_iff_lt_or_eq.1 hj with h | rfl;exact HS.out j h;exact ⟨e,HE.out,HOE.out,.inl hk0⟩),HY.out⟩
       case measure=>first | (simp [intOf];done) | (simp [intOf];omega)
      ·obtain ⟨m,hm1⟩:∃ m,k=m+1:=⟨k - 1,by omega⟩
       have d0:decide ((0:Int)<(k:Int))=true:=by simp;omega
       have d0':decide (0<k)=true:=by simp;omega
       have hwm:(k:Int) - 1=(m:Int):=by omega
       have hmn:m<n:=by omega
       obtain ⟨p,hp⟩:∃ p,es[m]?=some p:=⟨_,List.getElem?_eq_getElem (by have:=HN.out;omega)⟩
       obtain ⟨x0,x1⟩:=(HC.out m p hp).below HBW.out
       have hlt0:=World.block_lt_of_cell? _ _ x0
       have P0:∀ y:SubW W.heap.size W,y.at_.cell? ⟨b,off+m*2,none⟩=some (.int .i64 p.se):=fun y=>(y.ok_.cell (p:=⟨b,off+m*2,none⟩) hlt0).trans x0
       have P1:∀ y:SubW W.heap.size W,y.at_.cell? ⟨b,off+m*2+1,none⟩=some (.int .i64 p.st):=fun y=>(y.ok_.cell (p:=⟨b,off+m*2+1,none⟩) hlt0).trans x1
       have HPP:=Lib.hid hp
       have HM1:=Lib.hid hm1
       clear x0 x1 hlt0 hp hm1 hk0
       obtain ⟨a,ha⟩:∃ a,lessB p e=a:=⟨_,rfl⟩
       have HA:=Lib.hid ha
       clear ha
       cases a
       ·have HRF:Hid (r=false):=Lib.hid (HF.out (fun h=>okStepK_not_less HM1.out HE.out HPP.out HA.out (h.2.2 k (by have:=HN.out;omega))))
        refine region_below W.heap.size W (Below.refl _ _) (by kernel_rfl) (by kernel_rfl) ?_
        repeat (go_big_quiet_step (first | (go_at_call 110;exact calls_sub (Nat.le_refl _) (rightKey_d e true HD.out _)) | (go_at_call 111;exact calls_sub (Nat.le_refl _) (less_r p e _ HA.out _))))
        refine wpQuiet_nil ?_
        rintro w' ⟨y,rfl⟩
        have HY:=Lib.hid (HBW.out.trans (y.ok_.mono HBW.out.size))
        clear G0 G1 P0 P1
        go_wp2_with fail
        go_ret
        exact ⟨nd_retB HRF.out.symm,HY.out⟩
       ·skip
        refine region_below W.heap.size W (Below.refl _ _) (by kernel_rfl) (by kernel_rfl) ?_
        repeat (go_big_quiet_step (first | (go_at_call 110;exact calls_sub (Nat.le_refl _) (rightKey_d e true HD.out _)) | (go_at_call 111;exact calls_sub (Nat.le_refl _) (less_r p e _ HA.out _))))
        refine wpQuiet_nil ?_
        rintro w' ⟨y,rfl⟩
        have HY:=Lib.hid (HBW.out.trans (y.ok_.mono HBW.out.size))
        clear G0 G1 P0 P1
        go_wp2_with fail
        go_roundw
        case rel=>exact ⟨k+1,by omega,by go_num,Lib.hid (fun j hj=>by rcases Nat.lt_succ_iff_lt_or_eq.1 hj with h | rfl;exact HS.out j h;exact ⟨e,HE.out,HOE.out,.inr ⟨p,by have:=HM1.out;subst this;exact HPP.out,HA.out⟩⟩),HY.out⟩
        case measure=>have:=HM1.out;simp [intOf];omega
     ·have HD:Hid (decide (okKey e.se)=false):=Lib.hid (decide_eq_false hE)
      have HRF:Hid (r=false):=Lib.hid (HF.out (fun h=>okStepK_not_key HE.out hE (h.2.2 k (by have:=HN.out;omega))))
      clear hE
      refine region_below W.heap.size W (Below.refl _ _) (by kernel_rfl) (by kernel_rfl) ?_
      repeat (go_big_quiet_step ((go_at_call 110;exact calls_sub (Nat.le_refl _) (rightKey_d e false HD.out _))))
      refine wpQuiet_nil ?_
      rintro w' ⟨y,rfl⟩
      have HY:=Lib.hid (HBW.out.trans (y.ok_.mono HBW.out.size))
      clear G0 G1
      go_wp2_with fail
      go_ret
      exact ⟨nd_retB HRF.out.symm,HY.out⟩
    ·obtain rfl:k=n:=by omega
     have hf:r=true:=HR.out.2 ⟨by have:=HN.out;omega,by have:=HN.out;omega,fun i hi=>HS.out i (by have:=HN.out;omega)⟩
     subst hf
     go_wp2_with fail
     go_ret
     exact ⟨rfl,hb⟩
theorem okStep_not_ent {es:List EntD} {k:Nat} {e:EntD} (he:es[k]?=some e) (h:¬ okEnt e):¬ okStep es k:=fun ⟨e',h1,h2,_⟩=>by rw [he] at h1;cases h1;exact h h2
theorem okStep_not_apart {es:List EntD} {k q:Nat} {e p:EntD} (hk:k=q+1) (he:es[k]?=some e) (hp:es[q]?=some p) (h:apartB p e=false):¬ okStep es k:=fun ⟨e',h1,_,h3⟩=>by
 rw [he] at h1
 cases h1
 rcases h3 with h3 | ⟨p',h3,h4⟩
 ·omega
 ·subst hk
  rw [Nat.add_sub_cancel,hp] at h3
  cases h3
  rw [h] at h4
  cases h4
theorem rightEntries_any (A:Option Addr) (n c:Nat) (es:List EntD) (hn:es.length=n) (hm:n≤maxLen) (r:Bool) (hr:r=true ↔ okEnts es) (w:World) (hx:EnAt w A es) :
 Calls Tryz.prog 71 #[.slice A n c] w fun e w'=>e=.returned (.bool r)∧Below w.heap.size w w':=by
 unfold maxLen at hm
 have HN:=Lib.hid hn
 have HR:=Lib.hid hr
 have HX:=Lib.hid hx
 have HF:Hid (¬ okEnts es→r=false):=Lib.hid (fun h=>by cases r;rfl;exact absurd (hr.1 rfl) h)
 clear hr hx hn
 by_cases h1:n<1
 ·have d1:decide ((n:Int)<1)=true:=by simp;omega
  have d1':decide (n<1)=true:=by simp;omega
  have hf:=HF.out (fun h=>by have:=h.1;have:=HN.out;omega)
  subst hf
  go_enter Tryz.func71,Tryz.ntmps71
  go_wp2_with fail
  go_ret
  exact ⟨rfl,Below.refl _ _⟩
 ·have d1:decide ((n:Int)<1)=false:=by simp;omega
  have d1':decide (n<1)=false:=by simp;omega
  by_cases h2:7<n
  ·have d2:decide ((7:Int)<(n:Int))=true:=by simp;omega
   have d2':decide (7<n)=true:=by simp;omega
   have hf:=HF.out (fun h=>by have:=h.2.1;have:=HN.out;omega)
   subst hf
   go_enter Tryz.func71,Tryz.ntmps71
   go_wp2_with fail
   go_ret
   exact ⟨rfl,Below.refl _ _⟩
  ·have d2:decide ((7:Int)<(n:Int))=false:=by simp;omega
   have d2':decide (7<n)=false:=by simp;omega
   obtain ⟨b,off,rfl,hcell⟩:=HX.out (by intro e;have:=HN.out;rw [e] at this;simp at this;omega)
   have HC:=Lib.hid hcell
   clear hcell
   go_enter Tryz.func71,Tryz.ntmps71
   go_upto_region 4 with fail
   clear d1 d1' d2 d2'
   go_loopw [15] (fun i wr=>∃ k:Nat,k≤n∧i=.int .i64 k∧Hid (∀ j,j<k→okStep es j)∧Below w.heap.size w wr) (fun i _=>n - (intOf i).toNat)
   case atStart=>exact ⟨0,by omega,rfl,Lib.hid (fun j hj=>by omega),Below.refl _ _⟩
   case round =>
    obtain ⟨k,hk,rfl,HS,hb⟩:=hrel
    by_cases hlt:k<n
    ·obtain ⟨e,he⟩:∃ e,es[k]?=some e:=⟨_,List.getElem?_eq_getElem (by rw [HN.out];exact hlt)⟩
     obtain ⟨c0,c1,c2,c3,c4,c5,c6,c7⟩:=(HC.out k e he).below hb
     have HE:=Lib.hid he
     have HB:=Lib.hid hb
     clear he hb
     go_upto_region 6 with fail
     obtain ⟨W,eW⟩:∃ W,W=wr.alloc (.cells #[.int .i64 e.se,.int .i64 e.st,.int .i64 e.en,.int .i64 e.ad,.int .i64 e.le,.int .i64 e.cn,.int .i64 e.co,.int .u32 e.cr] 40):=⟨_,rfl⟩
     have hrow:W.heap[wr.heap.size]?=some (.cells #[.int .i64 e.se,.int .i64 e.st,.int .i64 e.en,.int .i64 e.ad,.int .i64 e.le,.int .i64 e.cn,.int .i64 e.co,.int .u32 e.cr] 40 (0,0)):=by rw [eW];exact heap_alloc_new _ _
     have hbW:Below w.heap.size w W:=by rw [eW];exact HB.out.alloc HB.out.size _
     rw [← eW]
     clear eW c0 c1 c2 c3 c4 c5 c6 c7
     obtain ⟨g,hg⟩:∃ g,g=wr.heap.size:=⟨_,rfl⟩
     rw [← hg] at hrow ⊢
     clear hg
     have G0:∀ y:SubW W.heap.size W,y.at_.cell? ⟨g,0,none⟩=some (.int .i64 e.se):=fun y=>nd_cell ((y.ok_.block _ (Array.getElem?_eq_some_iff.1 hrow).1).trans hrow) 0 _ rfl
     have G1:∀ y:SubW W.heap.size W,y.at_.cell? ⟨g,1,none⟩=some (.int .i64 e.st):=fun y=>nd_cell ((y.ok_.block _ (Array.getElem?_eq_some_iff.1 hrow).1).trans hrow) 1 _ rfl
     have G2:∀ y:SubW W.heap.size W,y.at_.cell? ⟨g,2,none⟩=some (.int .i64 e.en):=fun y=>nd_cell ((y.ok_.block _ (Array.getElem?_eq_some_iff.1 hrow).1).trans hrow) 2 _ rfl
     have G3:∀ y:SubW W.heap.size W,y.at_.cell? ⟨g,3,none⟩=some (.int .i64 e.ad):=fun y=>nd_cell ((y.ok_.block _ (Array.getElem?_eq_some_iff.1 hrow).1).trans hrow) 3 _ rfl
     have G4:∀ y:SubW W.heap.size W,y.at_.cell? ⟨g,4,none⟩=some (.int .i64 e.le):=fun y=>nd_cell ((y.ok_.block _ (Array.getElem?_eq_some_iff.1 hrow).1).trans hrow) 4 _ rfl
     have G5:∀ y:SubW W.heap.size W,y.at_.cell? ⟨g,5,none⟩=some (.int .i64 e.cn):=fun y=>nd_cell ((y.ok_.block _ (Array.getElem?_eq_some_iff.1 hrow).1).trans hrow) 5 _ rfl
     have G6:∀ y:SubW W.heap.size W,y.at_.cell? ⟨g,6,none⟩=some (.int .i64 e.co):=fun y=>nd_cell ((y.ok_.block _ (Array.getElem?_eq_some_iff.1 hrow).1).trans hrow) 6 _ rfl
     have G7:∀ y:SubW W.heap.size W,y.at_.cell? ⟨g,7,none⟩=some (.int .u32 e.cr):=fun y=>nd_cell ((y.ok_.block _ (Array.getElem?_eq_some_iff.1 hrow).1).trans hrow) 7 _ rfl
     have HBW:=Lib.hid hbW
     clear hrow hbW HB
     by_cases hE:okEnt e
     ·have HD:Hid (decide (okEnt e)=true):=Lib.hid (decide_eq_true hE)
      have HOE:=Lib.hid hE
      clear hE
      by_cases hk0:k=0
      ·have d0:decide ((0:Int)<(k:Int))=false:=by simp;omega
       have d0':decide (0<k)=false:=by simp;omega
       refine region_below W.heap.size W (Below.refl _ _) (by kernel_rfl) (by kernel_rfl) ?_
       repeat (go_big_quiet_step ((go_at_call 108;exact calls_sub (Nat.le_refl _) (rightEntry_any e true HD.out _))))
       refine wpQuiet_nil ?_
       rintro w' ⟨y,rfl⟩
       have HY:=Lib.hid (HBW.out.trans (y.ok_.mono HBW.out.size))
       clear G0 G1 G2 G3 G4 G5 G6 G7
       go_wp2_with fail
       go_roundw
       case rel=>exact ⟨k+1,by omega,by go_num,Lib.hid (fun j hj=>by rcases Nat.lt_succ_iff_lt_or_eq.1 hj with h | rfl;exact HS.out j h;exact ⟨e,HE.out,HOE.out,.inl hk0⟩),HY.out⟩
       case measure=>first | (simp [intOf];done) | (simp [intOf];omega)
      ·obtain ⟨m,hm1⟩:∃ m,k=m+1:=⟨k - 1,by omega⟩
       have d0:decide ((0:Int)<(k:Int))=true:=by simp;omega
       have d0':decide (0<k)=true:=by simp;omega
       have hwm:(k:Int) - 1=(m:Int):=by omega
       have hmn:m<n:=by omega
       obtain ⟨p,hp⟩:∃ p,es[m]?=some p:=⟨_,List.getElem?_eq_getElem (by have:=HN.out;omega)⟩
       obtain ⟨x0,x1,x2,x3,x4,x5,x6,x7⟩:=(HC.out m p hp).below HBW.out
       have hlt0:=World.block_lt_of_cell? _ _ x0
       have P0:∀ y:SubW W.heap.size W,y.at_.cell? ⟨b,off+m*8,none⟩=some (.int .i64 p.se):=fun y=>(y.ok_.cell (p:=⟨b,off+m*8,none⟩) hlt0).trans x0
       have P1:∀ y:SubW W.heap.size W,y.at_.cell? ⟨b,off+m*8+1,none⟩=some (.int .i64 p.st):=fun y=>(y.ok_.cell (p:=⟨b,off+m*8+1,none⟩) hlt0).trans x1
       have P2:∀ y:SubW W.heap.size W,y.at_.cell? ⟨b,off+m*8+2,none⟩=some (.int .i64 p.en):=fun y=>(y.ok_.cell (p:=⟨b,off+m*8+2,none⟩) hlt0).trans x2
       have P3:∀ y:SubW W.heap.size W,y.at_.cell? ⟨b,off+m*8+3,none⟩=some (.int .i64 p.ad):=fun y=>(y.ok_.cell (p:=⟨b,off+m*8+3,none⟩) hlt0).trans x3
       have P4:∀ y:SubW W.heap.size W,y.at_.cell? ⟨b,off+m*8+4,none⟩=some (.int .i64 p.le):=fun y=>(y.ok_.cell (p:=⟨b,off+m*8+4,none⟩) hlt0).trans x4
       have P5:∀ y:SubW W.heap.size W,y.at_.cell? ⟨b,off+m*8+5,none⟩=some (.int .i64 p.cn):=fun y=>(y.ok_.cell (p:=⟨b,off+m*8+5,none⟩) hlt0).trans x5
       have P6:∀ y:SubW W.heap.size W,y.at_.cell? ⟨b,off+m*8+6,none⟩=some (.int .i64 p.co):=fun y=>(y.ok_.cell (p:=⟨b,off+m*8+6,none⟩) hlt0).trans x6
       have P7:∀ y:SubW W.heap.size W,y.at_.cell? ⟨b,off+m*8+7,none⟩=some (.int .u32 p.cr):=fun y=>(y.ok_.cell (p:=⟨b,off+m*8+7,none⟩) hlt0).trans x7
       have HPP:=Lib.hid hp
       have HM1:=Lib.hid hm1
       clear x0 x1 x2 x3 x4 x5 x6 x7 hlt0 hp hm1 hk0
       obtain ⟨a,ha⟩:∃ a,apartB p e=a:=⟨_,rfl⟩
       have HA:=Lib.hid ha
       clear ha
       cases a
       ·have HRF:Hid (r=false):=Lib.hid (HF.out (fun h=>okStep_not_apart HM1.out HE.out HPP.out HA.out (h.2.2 k (by have:=HN.out;omega))))
        refine region_below W.heap.size W (Below.refl _ _) (by kernel_rfl) (by kernel_rfl) ?_
        repeat (go_big_quiet_step (first | (go_at_call 108;exact calls_sub (Nat.le_refl _) (rightEntry_any e true HD.out _)) | (go_at_call 109;exact calls_sub (Nat.le_refl _) (apart_any p e _ HA.out _))))
        refine wpQuiet_nil ?_
        rintro w' ⟨y,rfl⟩
        have HY:=Lib.hid (HBW.out.trans (y.ok_.mono HBW.out.size))
        clear G0 G1 G2 G3 G4 G5 G6 G7 P0 P1 P2 P3 P4 P5 P6 P7
        go_wp2_with fail
        go_ret
        exact ⟨nd_retB HRF.out.symm,HY.out⟩
       ·skip
        refine region_below W.heap.size W (Below.refl _ _) (by kernel_rfl) (by kernel_rfl) ?_
        repeat (go_big_quiet_step (first | (go_at_call 108;exact calls_sub (Nat.le_refl _) (rightEntry_any e true HD.out _)) | (go_at_call 109;exact calls_sub (Nat.le_refl _) (apart_any p e _ HA.out _))))
        refine wpQuiet_nil ?_
        rintro w' ⟨y,rfl⟩
        have HY:=Lib.hid (HBW.out.trans (y.ok_.mono HBW.out.size))
        clear G0 G1 G2 G3 G4 G5 G6 G7 P0 P1 P2 P3 P4 P5 P6 P7
        go_wp2_with fail
        go_roundw
        case rel=>exact ⟨k+1,by omega,by go_num,Lib.hid (fun j hj=>by rcases Nat.lt_succ_iff_lt_or_eq.1 hj with h | rfl;exact HS.out j h;exact ⟨e,HE.out,HOE.out,.inr ⟨p,by have:=HM1.out;subst this;exact HPP.out,HA.out⟩⟩),HY.out⟩
        case measure=>have:=HM1.out;simp [intOf];omega
     ·have HD:Hid (decide (okEnt e)=false):=Lib.hid (decide_eq_false hE)
      have HRF:Hid (r=false):=Lib.hid (HF.out (fun h=>okStep_not_ent HE.out hE (h.2.2 k (by have:=HN.out;omega))))
      clear hE
      refine region_below W.heap.size W (Below.refl _ _) (by kernel_rfl) (by kernel_rfl) ?_
      repeat (go_big_quiet_step ((go_at_call 108;exact calls_sub (Nat.le_refl _) (rightEntry_any e false HD.out _))))
      refine wpQuiet_nil ?_
      rintro w' ⟨y,rfl⟩
      have HY:=Lib.hid (HBW.out.trans (y.ok_.mono HBW.out.size))
      clear G0 G1 G2 G3 G4 G5 G6 G7
      go_wp2_with fail
      go_ret
      exact ⟨nd_retB HRF.out.symm,HY.out⟩
    ·obtain rfl:k=n:=by omega
     have hf:r=true:=HR.out.2 ⟨by have:=HN.out;omega,by have:=HN.out;omega,fun i hi=>HS.out i (by have:=HN.out;omega)⟩
     subst hf
     go_wp2_with fail
     go_ret
     exact ⟨rfl,hb⟩
def IsB (r:Bool) (P:Prop):Prop:=r=true ↔ P
theorem IsB.ex (P:Prop):∃ r,IsB r P:=by
 unfold IsB
 by_cases h:P
 ·exact ⟨true,by simp [h]⟩
 ·exact ⟨false,by simp [h]⟩
theorem IsB.yes {P:Prop} (h:IsB true P):P:=Iff.mp h rfl
theorem IsB.no {P:Prop} (h:IsB false P):¬ P:=fun p=>by cases Iff.mpr h p
theorem IsB.isF {r:Bool} {P:Prop} (h:IsB r P) (p:¬ P):r=false:=by cases r;rfl;exact absurd h.yes p
theorem slice_to (t:TypeId) (hu:Tryz.prog.underlying t=some (.slice (Tryz.prog.elem t))) (hsz:(Tryz.prog.info? (Tryz.prog.elem t)).map (·.size)=some 1) (A:Option Addr) (n c j:Nat) (hj:j≤c) (w:World) :
 (Instr.sliceAt t (.slice A n c) none (some (.int .i64 (j:Int))) none).run Tryz.prog w=.ok (.slice A j c) w:=by
 have hz:(sizeOf (Tryz.prog.elem t)).run Tryz.prog w=.ok 1 w:=by
  cases hq:Tryz.prog.info? (Tryz.prog.elem t) with
  | none=>rw [hq] at hsz;cases hsz
  | some i=>rw [hq] at hsz;simp at hsz;simp [sizeOf,typeInfo,hq,hsz]
 rw [run_sliceAt_slice (t:=t) (h:=hu),run_slice_h (t:=t) (ht:=hu) (h0:=by omega) (h2:=by omega),hz]
 have ha:∀ a:Addr,a.add 0=a:=fun a=>by unfold Addr.add;split <;> simp_all
 have hm:A.map (fun x=>x.add (0*1))=A:=by cases A <;> simp [ha]
 simp only [Result.andThen_ok,sliced,Int.toNat_natCast,Nat.sub_zero,hm,ite_self]
theorem KdAt.take {w:World} {A:Option Addr} {zs:List Int} (h:KdAt w A zs) (k:Nat):KdAt w A (zs.take k):=fun hne=>by
 obtain ⟨b,off,hA,hc⟩:=h (fun e=>hne (by rw [e];simp))
 exact ⟨b,off,hA,fun i z hi=>hc i z (by rw [List.getElem?_take] at hi;split at hi;exact hi;cases hi)⟩
theorem index_any (A:Option Addr) (n c:Nat) (zs:List Int) (hn:zs.length=n) (hm:n≤maxLen) (v:Int) (w:World) (hx:KdAt w A zs) :
 Calls Tryz.prog 147 #[.slice A n c,.int .i64 v] w fun e w'=>(∃ z:Int,e=.returned (.int .i64 z)∧(v ∈ zs→0≤z)∧(v ∉ zs→z=-1))∧w=w':=by
 unfold maxLen at hm
 have HN:=Lib.hid hn
 have HX:=Lib.hid hx
 clear hx hn
 go_enter Tryz.func147,Tryz.ntmps147
 go_wp2_with fail
 go_loopw [8] (fun i wr=>∃ k:Nat,k≤n∧i=.int .i64 k∧Hid (∀ j z,j<k→zs[j]?=some z→z≠v)∧w=wr) (fun i _=>n - (intOf i).toNat)
 case atStart=>exact ⟨0,by omega,rfl,Lib.hid (fun j z hj=>by omega),rfl⟩
 case round =>
  obtain ⟨k,hk,rfl,HS,rfl⟩:=hrel
  by_cases hlt:k<n
  ·obtain ⟨z,hz⟩:∃ z,zs[k]?=some z:=⟨_,List.getElem?_eq_getElem (by rw [HN.out];exact hlt)⟩
   obtain ⟨b,off,rfl,hc⟩:=HX.out (by intro e;have:=HN.out;rw [e] at this;simp at this;omega)
   have c0:=hc k z hz
   have HZ:=Lib.hid hz
   clear hc hz
   by_cases hv:v=z
   ·have d0:(v == z)=true:=by simp [hv]
    have HV:=Lib.hid hv
    clear hv
    go_wp2_with fail
    go_ret
    exact ⟨⟨k,rfl,fun _=>by omega,fun h=>absurd (List.mem_of_getElem? (HV.out ▸ HZ.out)) h⟩,rfl⟩
   ·have d0:(v == z)=false:=by simp [hv]
    have HV:=Lib.hid hv
    clear hv
    go_wp2_with fail
    go_roundw
    case rel=>exact ⟨k+1,by omega,by go_num,Lib.hid (fun j y hj hy=>by rcases Nat.lt_succ_iff_lt_or_eq.1 hj with h | rfl;exact HS.out j y h hy;rw [HZ.out] at hy;cases hy;exact fun e=>HV.out e.symm),by first | rfl | trivial⟩
    case measure=>first | (simp [intOf];done) | (simp [intOf];omega)
  ·obtain rfl:k=n:=by omega
   go_wp2_with fail
   go_ret
   refine ⟨⟨-1,rfl,fun h=>?_,fun _=>rfl⟩,rfl⟩
   obtain ⟨j,hj⟩:=List.getElem?_of_mem h
   exact absurd rfl (HS.out j v (by have:=(List.getElem?_eq_some_iff.1 hj).1;have:=HN.out;omega) hj)
theorem contains_any (A:Option Addr) (n c:Nat) (zs:List Int) (hn:zs.length=n) (hm:n≤maxLen) (v:Int) (r:Bool) (hr:r=true ↔ v ∈ zs) (w:World) (hx:KdAt w A zs) :
 Calls Tryz.prog 113 #[.slice A n c,.int .i64 v] w fun e w'=>e=.returned (.bool r)∧w=w':=by
 have HI:=Lib.hid (index_any A n c zs hn hm v w hx)
 have HR:=Lib.hid hr
 clear hr hx hn
 by_cases h:v ∈ zs
 ·have hf:=HR.out.2 h
  subst hf
  go_enter Tryz.func113,Tryz.ntmps113
  go_wp2_with (go_at_call 147;refine (HI.out).mono ?_;rintro e w1 ⟨⟨z,rfl,hz,_⟩,rfl⟩;have d0:decide (0≤z)=true:=by (simpa using hz h))
  go_ret
  exact ⟨rfl,rfl⟩
 ·have hf:r=false:=by cases r;rfl;exact absurd (HR.out.1 rfl) h
  subst hf
  go_enter Tryz.func113,Tryz.ntmps113
  go_wp2_with (go_at_call 147;refine (HI.out).mono ?_;rintro e w1 ⟨⟨z,rfl,_,hz⟩,rfl⟩;obtain rfl:=hz h)
  go_ret
  exact ⟨rfl,rfl⟩
def okKidStep (zs:List Int) (i:Nat):Prop:=∃ z,zs[i]?=some z∧okAddr z∧z ∉ zs.take i
def okKids (zs:List Int):Prop:=∀ i,i<zs.length→okKidStep zs i
theorem isAddr_d (a:Int) (r:Bool) (hr:decide (okAddr a)=r) (w:World) :
 Calls Tryz.prog 112 #[.int .i64 a] w fun e w'=>e=.returned (.bool r)∧Below w.heap.size w w':=by subst hr;exact isAddr_any a w
theorem rightKids_any (A:Option Addr) (n c:Nat) (zs:List Int) (hn:zs.length=n) (hm:n≤maxLen) (hc:n≤c) (r:Bool) (hr:r=true ↔ okKids zs) (w:World) (hx:KdAt w A zs) :
 Calls Tryz.prog 73 #[.slice A n c] w fun e w'=>e=.returned (.bool r)∧Below w.heap.size w w':=by
 have HM:=Lib.hid hm
 unfold maxLen at hm
 have HN:=Lib.hid hn
 have HR:=Lib.hid hr
 have HX:=Lib.hid hx
 have HF:Hid (¬ okKids zs→r=false):=Lib.hid (fun h=>by cases r;rfl;exact absurd (hr.1 rfl) h)
 clear hr hx hn
 go_enter Tryz.func73,Tryz.ntmps73
 go_wp2_with fail
 go_loopw [7] (fun i wr=>∃ k:Nat,k≤n∧i=.int .i64 k∧Hid (∀ j,j<k→okKidStep zs j)∧Below w.heap.size w wr) (fun i _=>n - (intOf i).toNat)
 case atStart=>exact ⟨0,by omega,rfl,Lib.hid (fun j hj=>by omega),Below.refl _ _⟩
 case round =>
  obtain ⟨k,hk,rfl,HS,hb⟩:=hrel
  by_cases hlt:k<n
  ·obtain ⟨z,hz⟩:∃ z,zs[k]?=some z:=⟨_,List.getElem?_eq_getElem (by rw [HN.out];exact hlt)⟩
   have HXr:=Lib.hid (HX.out.below hb)
   obtain ⟨b,off,rfl,hcc⟩:=HXr.out (by intro e;have:=HN.out;rw [e] at this;simp at this;omega)
   have c0:=hcc k z hz
   have HZ:=Lib.hid hz
   have HB:=Lib.hid hb
   clear hcc hz hb
   by_cases ha:okAddr z
   ·have HD:Hid (decide (okAddr z)=true):=Lib.hid (decide_eq_true ha)
    have HOA:=Lib.hid ha
    clear ha
    have HSL:=fun W=>slice_to 59 (by kernel_rfl) (by kernel_rfl) (some ⟨b,off,none⟩) n c k (by omega) W
    obtain ⟨q,hq⟩:=IsB.ex (z ∈ zs.take k)
    have HQ:=Lib.hid hq
    clear hq
    cases q
    ·go_wp2_with (first
      | (go_at_call 112;(refine (isAddr_d z true HD.out _).mono ?_);rintro e w1 ⟨rfl,hb1⟩;have HB1:=Lib.hid hb1;clear hb1)
      | (go_at_call 113;(refine (contains_any _ k c (zs.take k) (by rw [List.length_take];have:=HN.out;omega) (by have:=HM.out;omega) z false HQ.out _ ((HXr.out.take k).below HB1.out)).mono ?_);rintro e w2 ⟨rfl,rfl⟩))
     go_roundw
     case rel=>exact ⟨k+1,by omega,by go_num,Lib.hid (fun j hj=>by rcases Nat.lt_succ_iff_lt_or_eq.1 hj with h | rfl;exact HS.out j h;exact ⟨z,HZ.out,HOA.out,fun h=>by cases HQ.out.2 h⟩),HB.out.trans (HB1.out.mono HB.out.size)⟩
     case measure=>first | (simp [intOf];done) | (simp [intOf];omega)
    ·have hf:=HF.out (fun h=>by obtain ⟨y,h1,_,h3⟩:=h k (by have:=HN.out;omega);rw [HZ.out] at h1;cases h1;exact h3 (HQ.out.1 rfl))
     subst hf
     go_wp2_with (first
      | (go_at_call 112;(refine (isAddr_d z true HD.out _).mono ?_);rintro e w1 ⟨rfl,hb1⟩;have HB1:=Lib.hid hb1;clear hb1)
      | (go_at_call 113;(refine (contains_any _ k c (zs.take k) (by rw [List.length_take];have:=HN.out;omega) (by have:=HM.out;omega) z true HQ.out _ ((HXr.out.take k).below HB1.out)).mono ?_);rintro e w2 ⟨rfl,rfl⟩))
     go_ret
     exact ⟨rfl,HB.out.trans (HB1.out.mono HB.out.size)⟩
   ·have HD:Hid (decide (okAddr z)=false):=Lib.hid (decide_eq_false ha)
    have hf:=HF.out (fun h=>by obtain ⟨y,h1,h2,_⟩:=h k (by have:=HN.out;omega);rw [HZ.out] at h1;cases h1;exact ha h2)
    subst hf
    clear ha
    go_wp2_with (go_at_call 112;(refine (isAddr_d z false HD.out _).mono ?_);rintro e w1 ⟨rfl,hb1⟩;have HB1:=Lib.hid hb1;clear hb1)
    go_ret
    exact ⟨rfl,HB.out.trans (HB1.out.mono HB.out.size)⟩
  ·obtain rfl:k=n:=by omega
   have hf:r=true:=HR.out.2 (fun i hi=>HS.out i (by have:=HN.out;omega))
   subst hf
   go_wp2_with fail
   go_ret
   exact ⟨rfl,hb⟩
structure NodeD where
 leaf:Bool
 es:List EntD
 ks:List KeyD
 ds:List Int
def okNode (n:NodeD):Prop:=if n.leaf=true then n.ks=[]∧n.ds=[]∧okEnts n.es else n.es=[]∧n.ks.length=n.ds.length∧okKeys n.ks∧okKids n.ds
structure NdL where
 EA:Option Addr
 ec:Nat
 KA:Option Addr
 kc:Nat
 DA:Option Addr
 dc:Nat
structure NodeAt (w:World) (n:NodeD) (l:NdL):Prop where
 e:EnAt w l.EA n.es
 k:KyAt w l.KA n.ks
 d:KdAt w l.DA n.ds
 ec:n.es.length≤l.ec
 kc:n.ks.length≤l.kc
 dc:n.ds.length≤l.dc
 em:l.ec≤maxLen
 km:l.kc≤maxLen
 dm:l.dc≤maxLen
theorem NodeAt.below {w w':World} {n:NodeD} {l:NdL} (h:NodeAt w n l) (hb:Below w.heap.size w w'):NodeAt w' n l:={ h with e:=h.e.below hb,k:=h.k.below hb,d:=h.d.below hb }
theorem right_any (n:NodeD) (l:NdL) (r:Bool) (hr:IsB r (okNode n)) (w:World) (h:NodeAt w n l) :
 Calls Tryz.prog 49 #[.agg #[.bool n.leaf,.slice l.EA n.es.length l.ec,.slice l.KA n.ks.length l.kc,.slice l.DA n.ds.length l.dc]] w fun e w'=>e=.returned (.bool r)∧Below w.heap.size w w':=by
 have H:=Lib.hid h
 have HR:=Lib.hid hr
 obtain ⟨lf,es,ks,ds⟩:=n
 obtain ⟨EA,ec,KA,kc,DA,dc⟩:=l
 dsimp only at *
 obtain ⟨ne,hne⟩:∃ x,es.length=x:=⟨_,rfl⟩
 obtain ⟨nk,hnk⟩:∃ x,ks.length=x:=⟨_,rfl⟩
 obtain ⟨nd,hnd⟩:∃ x,ds.length=x:=⟨_,rfl⟩
 have hem:ne≤maxLen:=by rw [← hne];exact Nat.le_trans h.ec h.em
 have hkm:nk≤maxLen:=by rw [← hnk];exact Nat.le_trans h.kc h.km
 have hdm:nd≤maxLen:=by rw [← hnd];exact Nat.le_trans h.dc h.dm
 have hdc:nd≤dc:=by rw [← hnd];exact h.dc
 rw [hne,hnk,hnd]
 have HNE:=Lib.hid hne
 have HNK:=Lib.hid hnk
 have HND:=Lib.hid hnd
 have HEM:=Lib.hid hem
 have HKM:=Lib.hid hkm
 have HDM:=Lib.hid hdm
 have HDC:=Lib.hid hdc
 obtain ⟨W,eW⟩:∃ W,W=w.alloc (.cells #[.bool lf,.slice EA ne ec,.slice KA nk kc,.slice DA nd dc] 86):=⟨_,rfl⟩
 have hrow:W.heap[w.heap.size]?=some (.cells #[.bool lf,.slice EA ne ec,.slice KA nk kc,.slice DA nd dc] 86 (0,0)):=by rw [eW];exact heap_alloc_new _ _
 have hbel:Below w.heap.size w W:=by rw [eW];exact (Below.refl _ _).alloc (Nat.le_refl _) _
 have EW:=Lib.hid eW.symm
 have HB:=Lib.hid hbel
 have HROW:=Lib.hid hrow
 have k0:=nd_cell hrow 0 _ rfl
 have k1:=nd_cell hrow 1 _ rfl
 have k2:=nd_cell hrow 2 _ rfl
 have k3:=nd_cell hrow 3 _ rfl
 clear h hr hne hnk hnd hem hkm hdm hdc eW hrow hbel
 cases lf with
 | true =>
   by_cases h1:nk=0
   ·have d1:((nk:Int) == 0)=true:=by simp [h1]
    have H1:=Lib.hid h1
    clear h1
    by_cases h2:nd=0
    ·have d2:((nd:Int) == 0)=true:=by simp [h2]
     have H2:=Lib.hid h2
     clear h2
     have hq:IsB r (okEnts es):=by
      have a:=HR.out
      unfold okNode at a
      simp only [if_true] at a
      have e1:ks=[]:=List.eq_nil_of_length_eq_zero (by rw [HNK.out,H1.out])
      have e2:ds=[]:=List.eq_nil_of_length_eq_zero (by rw [HND.out,H2.out])
      unfold IsB at a ⊢
      simpa [e1,e2] using a
     have HQ:=Lib.hid hq
     clear hq
     go_enter Tryz.func49,Tryz.ntmps49
     go_upto_region 1 with fail
     rw [EW.out]
     go_wp2_with (go_at_call 71;(refine (rightEntries_any EA ne ec es HNE.out HEM.out r HQ.out _ ((H.out.below HB.out).e)).mono ?_);rintro e w1 ⟨rfl,hb1⟩)
     go_ret
     exact ⟨rfl,HB.out.trans (hb1.mono HB.out.size)⟩
    ·have d2:((nd:Int) == 0)=false:=by simp [h2]
     have hf:=HR.out.isF (by unfold okNode;simp only [if_true];intro hx;exact h2 (by rw [← HND.out,hx.2.1];rfl))
     subst hf
     go_enter Tryz.func49,Tryz.ntmps49
     go_upto_region 1 with fail
     rw [EW.out]
     go_wp2_with fail
     go_ret
     exact ⟨rfl,HB.out⟩
   ·have d1:((nk:Int) == 0)=false:=by simp [h1]
    have hf:=HR.out.isF (by unfold okNode;simp only [if_true];intro hx;exact h1 (by rw [← HNK.out,hx.1];rfl))
    subst hf
    go_enter Tryz.func49,Tryz.ntmps49
    go_upto_region 1 with fail
    rw [EW.out]
    go_wp2_with fail
    go_ret
    exact ⟨rfl,HB.out⟩
 | false =>
   by_cases h1:ne=0
   ·have d1:((ne:Int) == 0)=true:=by simp [h1]
    have H1:=Lib.hid h1
    clear h1
    by_cases h2:nk=nd
    ·have d2:((nk:Int) == (nd:Int))=true:=by simp [h2]
     have d2':(nk == nd)=true:=by simp [h2]
     have H2:=Lib.hid h2
     clear h2
     obtain ⟨q,hq⟩:=IsB.ex (okKeys ks)
     have HQ:=Lib.hid hq
     clear hq
     have hes:es=[]:=List.eq_nil_of_length_eq_zero (by rw [HNE.out,H1.out])
     have HES:=Lib.hid hes
     clear hes
     cases q with
     | true =>
       have hq2:IsB r (okKids ds):=by
        have a:=HR.out
        unfold okNode at a
        unfold IsB at a ⊢
        rw [a]
        simp only [Bool.false_eq_true,if_false]
        exact ⟨fun x=>x.2.2.2,fun x=>⟨HES.out,by rw [HNK.out,HND.out,H2.out],HQ.out.yes,x⟩⟩
       have HQ2:=Lib.hid hq2
       clear hq2
       go_enter Tryz.func49,Tryz.ntmps49
       go_upto_region 3 with fail
       rw [EW.out]
       go_wp2_with (first
        | (go_at_call 72;(refine (rightKeys_any KA nk kc ks HNK.out HKM.out true HQ.out _ ((H.out.below HB.out).k)).mono ?_);rintro e w1 ⟨rfl,hb1⟩;have b3:=nd_cell ((hb1.block _ (Array.getElem?_eq_some_iff.1 HROW.out).1).trans HROW.out) 3 _ rfl;have HB1:=Lib.hid hb1;clear hb1)
        | (go_at_call 73;(refine (rightKids_any DA nd dc ds HND.out HDM.out HDC.out r HQ2.out _ (((H.out.below HB.out).below HB1.out).d)).mono ?_);rintro e w2 ⟨rfl,hb2⟩))
       go_ret
       exact ⟨rfl,HB.out.trans (HB1.out.trans (hb2.mono HB1.out.size) |>.mono HB.out.size)⟩
     | false =>
       have hf:=HR.out.isF (by unfold okNode;simp only [Bool.false_eq_true,if_false];intro hx;exact HQ.out.no hx.2.2.1)
       subst hf
       go_enter Tryz.func49,Tryz.ntmps49
       go_upto_region 3 with fail
       rw [EW.out]
       go_wp2_with (go_at_call 72;(refine (rightKeys_any KA nk kc ks HNK.out HKM.out false HQ.out _ ((H.out.below HB.out).k)).mono ?_);rintro e w1 ⟨rfl,hb1⟩)
       go_ret
       exact ⟨rfl,HB.out.trans (hb1.mono HB.out.size)⟩
    ·have d2:((nk:Int) == (nd:Int))=false:=by simp;omega
     have d2':(nk == nd)=false:=by simp;omega
     have hf:=HR.out.isF (by unfold okNode;simp only [Bool.false_eq_true,if_false];intro hx;exact h2 (by rw [← HNK.out,← HND.out,hx.2.1]))
     subst hf
     go_enter Tryz.func49,Tryz.ntmps49
     go_upto_region 3 with fail
     rw [EW.out]
     go_wp2_with fail
     go_ret
     exact ⟨rfl,HB.out⟩
   ·have d1:((ne:Int) == 0)=false:=by simp [h1]
    have hf:=HR.out.isF (by unfold okNode;simp only [Bool.false_eq_true,if_false];intro hx;exact h1 (by rw [← HNE.out,hx.1];rfl))
    subst hf
    go_enter Tryz.func49,Tryz.ntmps49
    go_upto_region 3 with fail
    rw [EW.out]
    go_wp2_with fail
    go_ret
    exact ⟨rfl,HB.out⟩
end Go.Proofs.YtgkddhncfaeidaaGreat
