/- Squeezed: the texts as they are written lie in wip/tpl. -/
import Derived.Test.YtgkddhncfaeidaaGreatPart01
import Derived.Deep.DeepCutAuto
set_option maxRecDepth 100000
set_option maxHeartbeats 4000000
set_option linter.unusedSimpArgs false
set_option linter.unusedVariables false
namespace Go.Proofs.YtgkddhncfaeidaaGreat
open Go.ChangeShapes Go.WideShapes Go.ChangeAt Go.RowKit CrcM PageM
def entAt (w:World) (b o:Nat) (e:EntD):Prop:=w.cell? ⟨b,o,none⟩=some (.int .i64 e.se)∧w.cell? ⟨b,o+1,none⟩=some (.int .i64 e.st)∧w.cell? ⟨b,o+2,none⟩=some (.int .i64 e.en)∧w.cell? ⟨b,o+3,none⟩=some (.int .i64 e.ad) ∧
 w.cell? ⟨b,o+4,none⟩=some (.int .i64 e.le)∧w.cell? ⟨b,o+5,none⟩=some (.int .i64 e.cn)∧w.cell? ⟨b,o+6,none⟩=some (.int .i64 e.co)∧w.cell? ⟨b,o+7,none⟩=some (.int .u32 e.cr)
def keyAt (w:World) (b o:Nat) (k:KeyD):Prop:=w.cell? ⟨b,o,none⟩=some (.int .i64 k.se)∧w.cell? ⟨b,o+1,none⟩=some (.int .i64 k.st)
def EnAt (w:World) (A:Option Addr) (es:List EntD):Prop:=es≠[]→∃ b off,A=some ⟨b,off,none⟩∧∀ i e,es[i]?=some e→entAt w b (off+i*8) e
def KyAt (w:World) (A:Option Addr) (ks:List KeyD):Prop:=ks≠[]→∃ b off,A=some ⟨b,off,none⟩∧∀ i k,ks[i]?=some k→keyAt w b (off+i*2) k
def KdAt (w:World) (A:Option Addr) (zs:List Int):Prop:=zs≠[]→∃ b off,A=some ⟨b,off,none⟩∧∀ i z,zs[i]?=some z→w.cell? ⟨b,off+i,none⟩=some (.int .i64 z)
theorem entAt.lt {w:World} {b o:Nat} {e:EntD} (h:entAt w b o e):b<w.heap.size:=World.block_lt_of_cell? _ _ h.1
theorem entAt.below {w w':World} {b o:Nat} {e:EntD} (h:entAt w b o e) (hb:Below w.heap.size w w'):entAt w' b o e:=by
 have hl:=h.lt
 obtain ⟨h0,h1,h2,h3,h4,h5,h6,h7⟩:=h
 exact ⟨(hb.cell hl).trans h0,(hb.cell hl).trans h1,(hb.cell hl).trans h2,(hb.cell hl).trans h3,(hb.cell hl).trans h4,(hb.cell hl).trans h5,(hb.cell hl).trans h6,(hb.cell hl).trans h7⟩
theorem keyAt.lt {w:World} {b o:Nat} {k:KeyD} (h:keyAt w b o k):b<w.heap.size:=World.block_lt_of_cell? _ _ h.1
theorem keyAt.below {w w':World} {b o:Nat} {k:KeyD} (h:keyAt w b o k) (hb:Below w.heap.size w w'):keyAt w' b o k:=by
 have hl:=h.lt
 exact ⟨(hb.cell hl).trans h.1,(hb.cell hl).trans h.2⟩
theorem EnAt.below {w w':World} {A:Option Addr} {es:List EntD} (h:EnAt w A es) (hb:Below w.heap.size w w'):EnAt w' A es:=fun hne=>by
 obtain ⟨b,off,hA,hc⟩:=h hne
 exact ⟨b,off,hA,fun i e hi=>(hc i e hi).below hb⟩
theorem KyAt.below {w w':World} {A:Option Addr} {ks:List KeyD} (h:KyAt w A ks) (hb:Below w.heap.size w w'):KyAt w' A ks:=fun hne=>by
 obtain ⟨b,off,hA,hc⟩:=h hne
 exact ⟨b,off,hA,fun i e hi=>(hc i e hi).below hb⟩
theorem KdAt.below {w w':World} {A:Option Addr} {zs:List Int} (h:KdAt w A zs) (hb:Below w.heap.size w w'):KdAt w' A zs:=fun hne=>by
 obtain ⟨b,off,hA,hc⟩:=h hne
 exact ⟨b,off,hA,fun i z hi=>(hb.cell (World.block_lt_of_cell? _ _ (hc i z hi))).trans (hc i z hi)⟩
def okStep (es:List EntD) (i:Nat):Prop:=∃ e,es[i]?=some e∧okEnt e∧(i=0∨∃ p,es[i - 1]?=some p∧apartB p e=true)
def okEnts (es:List EntD):Prop:=1≤es.length∧es.length≤7∧∀ i,i<es.length→okStep es i
theorem below_two {w w1:World} {A B:Obj} (h:Below ((w.alloc A).alloc B).heap.size ((w.alloc A).alloc B) w1):Below w.heap.size w w1 :=
 (((Below.refl _ w).alloc (Nat.le_refl _) A).alloc (by simp) B).trans (h.mono (by simp;omega))
theorem apart_any (a b:EntD) (r:Bool) (hr:apartB a b=r) (w:World) :
 Calls Tryz.prog 109 #[.agg #[.int .i64 a.se,.int .i64 a.st,.int .i64 a.en,.int .i64 a.ad,.int .i64 a.le,.int .i64 a.cn,.int .i64 a.co,.int .u32 a.cr],.agg #[.int .i64 b.se,.int .i64 b.st,.int .i64 b.en,.int .i64 b.ad,.int .i64 b.le,.int .i64 b.cn,.int .i64 b.co,.int .u32 b.cr]] w fun e w'=>e=.returned (.bool r)∧Below w.heap.size w w':=by
 obtain ⟨l,hl⟩:∃ l:Bool,lessB a.key b.key=l:=⟨_,rfl⟩
 have HL:Hid (∀ w',Calls Tryz.prog 111 #[.agg #[.int .i64 a.se,.int .i64 a.st],.agg #[.int .i64 b.se,.int .i64 b.st]] w' fun e w1=>e=.returned (.bool l)∧Below w'.heap.size w' w1):=Lib.hid (fun w'=>hl ▸ less_any a.key b.key w')
 unfold apartB at hr
 rw [hl] at hr
 have HR:=Lib.hid hr
 clear hl hr
 cases l with
 | false =>
   go_enter Tryz.func109,Tryz.ntmps109
   go_wp2_with (go_at_call 111;refine (HL.out _).mono ?_;rintro e w1 ⟨rfl,hb1⟩)
   go_ret
   have HF:Hid (false=r):=Lib.hid (by have:=HR.out;simpa using this)
   exact ⟨nd_retB HF.out,below_two hb1⟩
 | true =>
   by_cases h:a.se=b.se
   ·have hb:(a.se != b.se)=false:=by simp [h]
    have HF:Hid (decide (a.en<b.st)=r):=Lib.hid (by rw [← HR.out];simp [h])
    clear HR h
    go_enter Tryz.func109,Tryz.ntmps109
    go_wp2_with (go_at_call 111;refine (HL.out _).mono ?_;rintro e w1 ⟨rfl,hb1⟩;have hk1:=(hb1.block w.heap.size (by simp;omega)).trans (heap_alloc2_old w _ _);have hk2:=(hb1.block (w.heap.size+1) (by simp)).trans (heap_alloc2_new w _ _);have c1:=(cell_of_row _ _ 0 _ _ _ hk1).trans rfl;have c2:=(cell_of_row _ _ 0 _ _ _ hk2).trans rfl;have c3:=(cell_of_row _ _ 2 _ _ _ hk1).trans rfl;have c4:=(cell_of_row _ _ 1 _ _ _ hk2).trans rfl;clear hk1 hk2)
    go_ret
    exact ⟨nd_retB HF.out,below_two hb1⟩
   ·have hb:(a.se != b.se)=true:=by simp [h]
    have HF:Hid (true=r):=Lib.hid (by rw [← HR.out];simp [h])
    clear HR h
    go_enter Tryz.func109,Tryz.ntmps109
    go_wp2_with (go_at_call 111;refine (HL.out _).mono ?_;rintro e w1 ⟨rfl,hb1⟩;have hk1:=(hb1.block w.heap.size (by simp;omega)).trans (heap_alloc2_old w _ _);have hk2:=(hb1.block (w.heap.size+1) (by simp)).trans (heap_alloc2_new w _ _);have c1:=(cell_of_row _ _ 0 _ _ _ hk1).trans rfl;have c2:=(cell_of_row _ _ 0 _ _ _ hk2).trans rfl;clear hk1 hk2)
    go_ret
    exact ⟨nd_retB HF.out,below_two hb1⟩
def okStepK (es:List KeyD) (i:Nat):Prop:=∃ e,es[i]?=some e∧okKey e.se∧(i=0∨∃ p,es[i - 1]?=some p∧lessB p e=true)
def okKeys (es:List KeyD):Prop:=1≤es.length∧es.length≤16∧∀ i,i<es.length→okStepK es i
theorem okStepK_not_key {es:List KeyD} {k:Nat} {e:KeyD} (he:es[k]?=some e) (h:¬ okKey e.se):¬ okStepK es k:=fun ⟨e',h1,h2,_⟩=>by rw [he] at h1;cases h1;exact h h2
theorem okStepK_not_less {es:List KeyD} {k q:Nat} {e p:KeyD} (hk:k=q+1) (he:es[k]?=some e) (hp:es[q]?=some p) (h:lessB p e=false):¬ okStepK es k:=fun ⟨e',h1,_,h3⟩=>by
 rw [he] at h1
 cases h1
 rcases h3 with h3 | ⟨p',h3,h4⟩
 ·omega
 ·subst hk
  rw [Nat.add_sub_cancel,hp] at h3
  cases h3
  rw [h] at h4
  cases h4
theorem less_r (a b:KeyD) (r:Bool) (hr:lessB a b=r) (w:World) :
 Calls Tryz.prog 111 #[.agg #[.int .i64 a.se,.int .i64 a.st],.agg #[.int .i64 b.se,.int .i64 b.st]] w fun e w'=>e=.returned (.bool r)∧Below w.heap.size w w':=by subst hr;exact less_any a b w
theorem rightKey_d (e:KeyD) (r:Bool) (hr:decide (okKey e.se)=r) (w:World) :
 Calls Tryz.prog 110 #[.agg #[.int .i64 e.se,.int .i64 e.st]] w fun e' w'=>e'=.returned (.bool r)∧Below w.heap.size w w':=by subst hr;exact rightKey_any e.se e.st w
theorem rightKeys_any (A:Option Addr) (n c:Nat) (es:List KeyD) (hn:es.length=n) (hm:n≤maxLen) (r:Bool) (hr:r=true ↔ okKeys es) (w:World) (hx:KyAt w A es) :
 Calls Tryz.prog 72 #[.slice A n c] w fun e w'=>e=.returned (.bool r)∧Below w.heap.size w w':=by
 unfold maxLen at hm
 have HN:=Lib.hid hn
 have HR:=Lib.hid hr
 have HX:=Lib.hid hx
 have HF:Hid (¬ okKeys es→r=false):=Lib.hid (fun h=>by cases r;rfl;exact absurd (hr.1 rfl) h)
 clear hr hx hn
 by_cases h1:n<1
 ·have d1:decide ((n:Int)<1)=true:=by simp;omega
  have d1':decide (n<1)=true:=by simp;omega
  have hf:=HF.out (fun h=>by have:=h.1;have:=HN.out;omega)
  subst hf
  go_enter Tryz.func72,Tryz.ntmps72
  go_wp2_with fail
  go_ret
  exact ⟨rfl,Below.refl _ _⟩
 ·have d1:decide ((n:Int)<1)=false:=by simp;omega
  have d1':decide (n<1)=false:=by simp;omega
  by_cases h2:16<n
  ·have d2:decide ((16:Int)<(n:Int))=true:=by simp;omega
   have d2':decide (16<n)=true:=by simp;omega
   have hf:=HF.out (fun h=>by have:=h.2.1;have:=HN.out;omega)
   subst hf
   go_enter Tryz.func72,Tryz.ntmps72
   go_wp2_with fail
   go_ret
   exact ⟨rfl,Below.refl _ _⟩
  ·have d2:decide ((16:Int)<(n:Int))=false:=by simp;omega
   have d2':decide (16<n)=false:=by simp;omega
   obtain ⟨b,off,rfl,hcell⟩:=HX.out (by intro e;have:=HN.out;rw [e] at this;simp at this;omega)
   have HC:=Lib.hid hcell
   clear hcell
   go_enter Tryz.func72,Tryz.ntmps72
   go_upto_region 4 with fail
   clear d1 d1' d2 d2'
   go_loopw [15] (fun i wr=>∃ k:Nat,k≤n∧i=.int .i64 k∧Hid (∀ j,j<k→okStepK es j)∧Below w.heap.size w wr) (fun i _=>n - (intOf i).toNat)
   case atStart=>exact ⟨0,by omega,rfl,Lib.hid (fun j hj=>by omega),Below.refl _ _⟩
   case round =>
    obtain ⟨k,hk,rfl,HS,hb⟩:=hrel
    by_cases hlt:k<n
    ·obtain ⟨e,he⟩:∃ e,es[k]?=some e:=⟨_,List.getElem?_eq_getElem (by rw [HN.out];exact hlt)⟩
     obtain ⟨c0,c1⟩:=(HC.out k e he).below hb
     have HE:=Lib.hid he
     have HB:=Lib.hid hb
     clear he hb
     go_upto_region 6 with fail
     obtain ⟨W,eW⟩:∃ W,W=wr.alloc (.cells #[.int .i64 e.se,.int .i64 e.st] 38):=⟨_,rfl⟩
     have hrow:W.heap[wr.heap.size]?=some (.cells #[.int .i64 e.se,.int .i64 e.st] 38 (0,0)):=by rw [eW];exact heap_alloc_new _ _
     have hbW:Below w.heap.size w W:=by rw [eW];exact HB.out.alloc HB.out.size _
     rw [← eW]
     clear eW c0 c1
     obtain ⟨g,hg⟩:∃ g,g=wr.heap.size:=⟨_,rfl⟩
     rw [← hg] at hrow ⊢
     clear hg
     have G0:∀ y:SubW W.heap.size W,y.at_.cell? ⟨g,0,none⟩=some (.int .i64 e.se):=fun y=>nd_cell ((y.ok_.block _ (Array.getElem?_eq_some_iff.1 hrow).1).trans hrow) 0 _ rfl
     have G1:∀ y:SubW W.heap.size W,y.at_.cell? ⟨g,1,none⟩=some (.int .i64 e.st):=fun y=>nd_cell ((y.ok_.block _ (Array.getElem?_eq_some_iff.1 hrow).1).trans hrow) 1 _ rfl
     have HBW:=Lib.hid hbW
     clear hrow hbW HB
     by_cases hE:okKey e.se
     ·have HD:Hid (decide (okKey e.se)=true):=Lib.hid (decide_eq_true hE)
      have HOE:=Lib.hid hE
      clear hE
      by_cases hk0:k=0
      ·have d0:decide ((0:Int)<(k:Int))=false:=by simp;omega
       have d0':decide (0<k)=false:=by simp;omega
       refine region_below W.heap.size W (Below.refl _ _) (by kernel_rfl) (by kernel_rfl) ?_
       repeat (go_big_quiet_step ((go_at_call 110;exact calls_sub (Nat.le_refl _) (rightKey_d e true HD.out _))))
       refine wpQuiet_nil ?_
       rintro w' ⟨y,rfl⟩
       have HY:=Lib.hid (HBW.out.trans (y.ok_.mono HBW.out.size))
       clear G0 G1
       go_wp2_with fail
       go_roundw
       case rel=>exact ⟨k+1,by omega,by go_num,Lib.hid (fun j hj=>by rcases Nat.lt_succ_iff_lt_or_eq.1 hj with h | rfl;exact HS.out j h;exact ⟨e,HE.out,HOE.out,.inl hk0⟩),HY.out⟩
       case measure=>first | (simp [intOf];done) | (simp [intOf];omega)
      ·obtain ⟨m,hm1⟩:∃ m,k=m+1:=⟨k - 1,by omega⟩
       have d0:decide ((0:Int)<(k:Int))=true:=by simp;omega
       have d0':decide (0<k)=true:=by simp;omega
       have hwm:(k:Int) - 1=(m:Int):=by omega
       have hmn:m<n:=by omega
       obtain ⟨p,hp⟩:∃ p,es[m]?=some p:=⟨_,List.getElem?_eq_getElem (by have:=HN.out;omega)⟩
       obtain ⟨x0,x1⟩:=(HC.out m p hp).below HBW.out
       have hlt0:=World.block_lt_of_cell? _ _ x0
       have P0:∀ y:SubW W.heap.size W,y.at_.cell? ⟨b,off+m*2,none⟩=some (.int .i64 p.se):=fun y=>(y.ok_.cell (p:=⟨b,off+m*2,none⟩) hlt0).trans x0
       have P1:∀ y:SubW W.heap.size W,y.at_.cell? ⟨b,off+m*2+1,none⟩=some (.int .i64 p.st):=fun y=>(y.ok_.cell (p:=⟨b,off+m*2+1,none⟩) hlt0).trans x1
       have HPP:=Lib.hid hp
       have HM1:=Lib.hid hm1
       clear x0 x1 hlt0 hp hm1 hk0
       obtain ⟨a,ha⟩:∃ a,lessB p e=a:=⟨_,rfl⟩
       have HA:=Lib.hid ha
       clear ha
       cases a
       ·have HRF:Hid (r=false):=Lib.hid (HF.out (fun h=>okStepK_not_less HM1.out HE.out HPP.out HA.out (h.2.2 k (by have:=HN.out;omega))))
        refine region_below W.heap.size W (Below.refl _ _) (by kernel_rfl) (by kernel_rfl) ?_
        repeat (go_big_quiet_step (first | (go_at_call 110;exact calls_sub (Nat.le_refl _) (rightKey_d e true HD.out _)) | (go_at_call 111;exact calls_sub (Nat.le_refl _) (less_r p e _ HA.out _))))
        refine wpQuiet_nil ?_
        rintro w' ⟨y,rfl⟩
        have HY:=Lib.hid (HBW.out.trans (y.ok_.mono HBW.out.size))
        clear G0 G1 P0 P1
        go_wp2_with fail
        go_ret
        exact ⟨nd_retB HRF.out.symm,HY.out⟩
       ·skip
        refine region_below W.heap.size W (Below.refl _ _) (by kernel_rfl) (by kernel_rfl) ?_
        repeat (go_big_quiet_step (first | (go_at_call 110;exact calls_sub (Nat.le_refl _) (rightKey_d e true HD.out _)) | (go_at_call 111;exact calls_sub (Nat.le_refl _) (less_r p e _ HA.out _))))
        refine wpQuiet_nil ?_
        rintro w' ⟨y,rfl⟩
        have HY:=Lib.hid (HBW.out.trans (y.ok_.mono HBW.out.size))
        clear G0 G1 P0 P1
        go_wp2_with fail
        go_roundw
        case rel=>exact ⟨k+1,by omega,by go_num,Lib.hid (fun j hj=>by rcases Nat.lt_succ_iff_lt_or_eq.1 hj with h | rfl;exact HS.out j h;exact ⟨e,HE.out,HOE.out,.inr ⟨p,by have:=HM1.out;subst this;exact HPP.out,HA.out⟩⟩),HY.out⟩
        case measure=>have:=HM1.out;simp [intOf];omega
     ·have HD:Hid (decide (okKey e.se)=false):=Lib.hid (decide_eq_false hE)
      have HRF:Hid (r=false):=Lib.hid (HF.out (fun h=>okStepK_not_key HE.out hE (h.2.2 k (by have:=HN.out;omega))))
      clear hE
      refine region_below W.heap.size W (Below.refl _ _) (by kernel_rfl) (by kernel_rfl) ?_
      repeat (go_big_quiet_step ((go_at_call 110;exact calls_sub (Nat.le_refl _) (rightKey_d e false HD.out _))))
      refine wpQuiet_nil ?_
      rintro w' ⟨y,rfl⟩
      have HY:=Lib.hid (HBW.out.trans (y.ok_.mono HBW.out.size))
      clear G0 G1
      go_wp2_with fail
      go_ret
      exact ⟨nd_retB HRF.out.symm,HY.out⟩
    ·obtain rfl:k=n:=by omega
     have hf:r=true:=HR.out.2 ⟨by have:=HN.out;omega,by have:=HN.out;omega,fun i hi=>HS.out i (by have:=HN.out;omega)⟩
     subst hf
     go_wp2_with fail
     go_ret
     exact ⟨rfl,hb⟩
theorem okStep_not_ent {es:List EntD} {k:Nat} {e:EntD} (he:es[k]?=some e) (h:¬ okEnt e):¬ okStep es k:=fun ⟨e',h1,h2,_⟩=>by rw [he] at h1;cases h1;exact h h2
theorem okStep_not_apart {es:List EntD} {k q:Nat} {e p:EntD} (hk:k=q+1) (he:es[k]?=some e) (hp:es[q]?=some p) (h:apartB p e=false):¬ okStep es k:=fun ⟨e',h1,_,h3⟩=>by
 rw [he] at h1
 cases h1
 rcases h3 with h3 | ⟨p',h3,h4⟩
 ·omega
 ·subst hk
  rw [Nat.add_sub_cancel,hp] at h3
  cases h3
  rw [h] at h4
  cases h4
theorem rightEntries_any (A:Option Addr) (n c:Nat) (es:List EntD) (hn:es.length=n) (hm:n≤maxLen) (r:Bool) (hr:r=true ↔ okEnts es) (w:World) (hx:EnAt w A es) :
 Calls Tryz.prog 71 #[.slice A n c] w fun e w'=>e=.returned (.bool r)∧Below w.heap.size w w':=by
 unfold maxLen at hm
 have HN:=Lib.hid hn
 have HR:=Lib.hid hr
 have HX:=Lib.hid hx
 have HF:Hid (¬ okEnts es→r=false):=Lib.hid (fun h=>by cases r;rfl;exact absurd (hr.1 rfl) h)
 clear hr hx hn
 by_cases h1:n<1
 ·have d1:decide ((n:Int)<1)=true:=by simp;omega
  have d1':decide (n<1)=true:=by simp;omega
  have hf:=HF.out (fun h=>by have:=h.1;have:=HN.out;omega)
  subst hf
  go_enter Tryz.func71,Tryz.ntmps71
  go_wp2_with fail
  go_ret
  exact ⟨rfl,Below.refl _ _⟩
 ·have d1:decide ((n:Int)<1)=false:=by simp;omega
  have d1':decide (n<1)=false:=by simp;omega
  by_cases h2:7<n
  ·have d2:decide ((7:Int)<(n:Int))=true:=by simp;omega
   have d2':decide (7<n)=true:=by simp;omega
   have hf:=HF.out (fun h=>by have:=h.2.1;have:=HN.out;omega)
   subst hf
   go_enter Tryz.func71,Tryz.ntmps71
   go_wp2_with fail
   go_ret
   exact ⟨rfl,Below.refl _ _⟩
  ·have d2:decide ((7:Int)<(n:Int))=false:=by simp;omega
   have d2':decide (7<n)=false:=by simp;omega
   obtain ⟨b,off,rfl,hcell⟩:=HX.out (by intro e;have:=HN.out;rw [e] at this;simp at this;omega)
   have HC:=Lib.hid hcell
   clear hcell
   go_enter Tryz.func71,Tryz.ntmps71
   go_upto_region 4 with fail
   clear d1 d1' d2 d2'
   go_loopw [15] (fun i wr=>∃ k:Nat,k≤n∧i=.int .i64 k∧Hid (∀ j,j<k→okStep es j)∧Below w.heap.size w wr) (fun i _=>n - (intOf i).toNat)
   case atStart=>exact ⟨0,by omega,rfl,Lib.hid (fun j hj=>by omega),Below.refl _ _⟩
   case round =>
    obtain ⟨k,hk,rfl,HS,hb⟩:=hrel
    by_cases hlt:k<n
    ·obtain ⟨e,he⟩:∃ e,es[k]?=some e:=⟨_,List.getElem?_eq_getElem (by rw [HN.out];exact hlt)⟩
     obtain ⟨c0,c1,c2,c3,c4,c5,c6,c7⟩:=(HC.out k e he).below hb
     have HE:=Lib.hid he
     have HB:=Lib.hid hb
     clear he hb
     go_upto_region 6 with fail
     obtain ⟨W,eW⟩:∃ W,W=wr.alloc (.cells #[.int .i64 e.se,.int .i64 e.st,.int .i64 e.en,.int .i64 e.ad,.int .i64 e.le,.int .i64 e.cn,.int .i64 e.co,.int .u32 e.cr] 40):=⟨_,rfl⟩
     have hrow:W.heap[wr.heap.size]?=some (.cells #[.int .i64 e.se,.int .i64 e.st,.int .i64 e.en,.int .i64 e.ad,.int .i64 e.le,.int .i64 e.cn,.int .i64 e.co,.int .u32 e.cr] 40 (0,0)):=by rw [eW];exact heap_alloc_new _ _
     have hbW:Below w.heap.size w W:=by rw [eW];exact HB.out.alloc HB.out.size _
     rw [← eW]
     clear eW c0 c1 c2 c3 c4 c5 c6 c7
     obtain ⟨g,hg⟩:∃ g,g=wr.heap.size:=⟨_,rfl⟩
     rw [← hg] at hrow ⊢
     clear hg
     have G0:∀ y:SubW W.heap.size W,y.at_.cell? ⟨g,0,none⟩=some (.int .i64 e.se):=fun y=>nd_cell ((y.ok_.block _ (Array.getElem?_eq_some_iff.1 hrow).1).trans hrow) 0 _ rfl
     have G1:∀ y:SubW W.heap.size W,y.at_.cell? ⟨g,1,none⟩=some (.int .i64 e.st):=fun y=>nd_cell ((y.ok_.block _ (Array.getElem?_eq_some_iff.1 hrow).1).trans hrow) 1 _ rfl
     have G2:∀ y:SubW W.heap.size W,y.at_.cell? ⟨g,2,none⟩=some (.int .i64 e.en):=fun y=>nd_cell ((y.ok_.block _ (Array.getElem?_eq_some_iff.1 hrow).1).trans hrow) 2 _ rfl
     have G3:∀ y:SubW W.heap.size W,y.at_.cell? ⟨g,3,none⟩=some (.int .i64 e.ad):=fun y=>nd_cell ((y.ok_.block _ (Array.getElem?_eq_some_iff.1 hrow).1).trans hrow) 3 _ rfl
     have G4:∀ y:SubW W.heap.size W,y.at_.cell? ⟨g,4,none⟩=some (.int .i64 e.le):=fun y=>nd_cell ((y.ok_.block _ (Array.getElem?_eq_some_iff.1 hrow).1).trans hrow) 4 _ rfl
     have G5:∀ y:SubW W.heap.size W,y.at_.cell? ⟨g,5,none⟩=some (.int .i64 e.cn):=fun y=>nd_cell ((y.ok_.block _ (Array.getElem?_eq_some_iff.1 hrow).1).trans hrow) 5 _ rfl
     have G6:∀ y:SubW W.heap.size W,y.at_.cell? ⟨g,6,none⟩=some (.int .i64 e.co):=fun y=>nd_cell ((y.ok_.block _ (Array.getElem?_eq_some_iff.1 hrow).1).trans hrow) 6 _ rfl
     have G7:∀ y:SubW W.heap.size W,y.at_.cell? ⟨g,7,none⟩=some (.int .u32 e.cr):=fun y=>nd_cell ((y.ok_.block _ (Array.getElem?_eq_some_iff.1 hrow).1).trans hrow) 7 _ rfl
     have HBW:=Lib.hid hbW
     clear hrow hbW HB
     by_cases hE:okEnt e
     ·have HD:Hid (decide (okEnt e)=true):=Lib.hid (decide_eq_true hE)
      have HOE:=Lib.hid hE
      clear hE
      by_cases hk0:k=0
      ·have d0:decide ((0:Int)<(k:Int))=false:=by simp;omega
       have d0':decide (0<k)=false:=by simp;omega
       refine region_below W.heap.size W (Below.refl _ _) (by kernel_rfl) (by kernel_rfl) ?_
       repeat (go_big_quiet_step ((go_at_call 108;exact calls_sub (Nat.le_refl _) (rightEntry_any e true HD.out _))))
       refine wpQuiet_nil ?_
       rintro w' ⟨y,rfl⟩
       have HY:=Lib.hid (HBW.out.trans (y.ok_.mono HBW.out.size))
       clear G0 G1 G2 G3 G4 G5 G6 G7
       go_wp2_with fail
       go_roundw
       case rel=>exact ⟨k+1,by omega,by go_num,Lib.hid (fun j hj=>by rcases Nat.lt_succ_iff_lt_or_eq.1 hj with h | rfl;exact HS.out j h;exact ⟨e,HE.out,HOE.out,.inl hk0⟩),HY.out⟩
       case measure=>first | (simp [intOf];done) | (simp [intOf];omega)
      ·obtain ⟨m,hm1⟩:∃ m,k=m+1:=⟨k - 1,by omega⟩
       have d0:decide ((0:Int)<(k:Int))=true:=by simp;omega
       have d0':decide (0<k)=true:=by simp;omega
       have hwm:(k:Int) - 1=(m:Int):=by omega
       have hmn:m<n:=by omega
       obtain ⟨p,hp⟩:∃ p,es[m]?=some p:=⟨_,List.getElem?_eq_getElem (by have:=HN.out;omega)⟩
       obtain ⟨x0,x1,x2,x3,x4,x5,x6,x7⟩:=(HC.out m p hp).below HBW.out
       have hlt0:=World.block_lt_of_cell? _ _ x0
       have P0:∀ y:SubW W.heap.size W,y.at_.cell? ⟨b,off+m*8,none⟩=some (.int .i64 p.se):=fun y=>(y.ok_.cell (p:=⟨b,off+m*8,none⟩) hlt0).trans x0
       have P1:∀ y:SubW W.heap.size W,y.at_.cell? ⟨b,off+m*8+1,none⟩=some (.int .i64 p.st):=fun y=>(y.ok_.cell (p:=⟨b,off+m*8+1,none⟩) hlt0).trans x1
       have P2:∀ y:SubW W.heap.size W,y.at_.cell? ⟨b,off+m*8+2,none⟩=some (.int .i64 p.en):=fun y=>(y.ok_.cell (p:=⟨b,off+m*8+2,none⟩) hlt0).trans x2
       have P3:∀ y:SubW W.heap.size W,y.at_.cell? ⟨b,off+m*8+3,none⟩=some (.int .i64 p.ad):=fun y=>(y.ok_.cell (p:=⟨b,off+m*8+3,none⟩) hlt0).trans x3
       have P4:∀ y:SubW W.heap.size W,y.at_.cell? ⟨b,off+m*8+4,none⟩=some (.int .i64 p.le):=fun y=>(y.ok_.cell (p:=⟨b,off+m*8+4,none⟩) hlt0).trans x4
       have P5:∀ y:SubW W.heap.size W,y.at_.cell? ⟨b,off+m*8+5,none⟩=some (.int .i64 p.cn):=fun y=>(y.ok_.cell (p:=⟨b,off+m*8+5,none⟩) hlt0).trans x5
       have P6:∀ y:SubW W.heap.size W,y.at_.cell? ⟨b,off+m*8+6,none⟩=some (.int .i64 p.co):=fun y=>(y.ok_.cell (p:=⟨b,off+m*8+6,none⟩) hlt0).trans x6
       have P7:∀ y:SubW W.heap.size W,y.at_.cell? ⟨b,off+m*8+7,none⟩=some (.int .u32 p.cr):=fun y=>(y.ok_.cell (p:=⟨b,off+m*8+7,none⟩) hlt0).trans x7
       have HPP:=Lib.hid hp
       have HM1:=Lib.hid hm1
       clear x0 x1 x2 x3 x4 x5 x6 x7 hlt0 hp hm1 hk0
       obtain ⟨a,ha⟩:∃ a,apartB p e=a:=⟨_,rfl⟩
       have HA:=Lib.hid ha
       clear ha
       cases a
       ·have HRF:Hid (r=false):=Lib.hid (HF.out (fun h=>okStep_not_apart HM1.out HE.out HPP.out HA.out (h.2.2 k (by have:=HN.out;omega))))
        refine region_below W.heap.size W (Below.refl _ _) (by kernel_rfl) (by kernel_rfl) ?_
        repeat (go_big_quiet_step (first | (go_at_call 108;exact calls_sub (Nat.le_refl _) (rightEntry_any e true HD.out _)) | (go_at_call 109;exact calls_sub (Nat.le_refl _) (apart_any p e _ HA.out _))))
        refine wpQuiet_nil ?_
        rintro w' ⟨y,rfl⟩
        have HY:=Lib.hid (HBW.out.trans (y.ok_.mono HBW.out.size))
        clear G0 G1 G2 G3 G4 G5 G6 G7 P0 P1 P2 P3 P4 P5 P6 P7
        go_wp2_with fail
        go_ret
        exact ⟨nd_retB HRF.out.symm,HY.out⟩
       ·skip
        refine region_below W.heap.size W (Below.refl _ _) (by kernel_rfl) (by kernel_rfl) ?_
        repeat (go_big_quiet_step (first | (go_at_call 108;exact calls_sub (Nat.le_refl _) (rightEntry_any e true HD.out _)) | (go_at_call 109;exact calls_sub (Nat.le_refl _) (apart_any p e _ HA.out _))))
        refine wpQuiet_nil ?_
        rintro w' ⟨y,rfl⟩
        have HY:=Lib.hid (HBW.out.trans (y.ok_.mono HBW.out.size))
        clear G0 G1 G2 G3 G4 G5 G6 G7 P0 P1 P2 P3 P4 P5 P6 P7
        go_wp2_with fail
        go_roundw
        case rel=>exact ⟨k+1,by omega,by go_num,Lib.hid (fun j hj=>by rcases Nat.lt_succ_iff_lt_or_eq.1 hj with h | rfl;exact HS.out j h;exact ⟨e,HE.out,HOE.out,.inr ⟨p,by have:=HM1.out;subst this;exact HPP.out,HA.out⟩⟩),HY.out⟩
        case measure=>have:=HM1.out;simp [intOf];omega
     ·have HD:Hid (decide (okEnt e)=false):=Lib.hid (decide_eq_false hE)
      have HRF:Hid (r=false):=Lib.hid (HF.out (fun h=>okStep_not_ent HE.out hE (h.2.2 k (by have:=HN.out;omega))))
      clear hE
      refine region_below W.heap.size W (Below.refl _ _) (by kernel_rfl) (by kernel_rfl) ?_
      repeat (go_big_quiet_step ((go_at_call 108;exact calls_sub (Nat.le_refl _) (rightEntry_any e false HD.out _))))
      refine wpQuiet_nil ?_
      rintro w' ⟨y,rfl⟩
      have HY:=Lib.hid (HBW.out.trans (y.ok_.mono HBW.out.size))
      clear G0 G1 G2 G3 G4 G5 G6 G7
      go_wp2_with fail
      go_ret
      exact ⟨nd_retB HRF.out.symm,HY.out⟩
    ·obtain rfl:k=n:=by omega
     have hf:r=true:=HR.out.2 ⟨by have:=HN.out;omega,by have:=HN.out;omega,fun i hi=>HS.out i (by have:=HN.out;omega)⟩
     subst hf
     go_wp2_with fail
     go_ret
     exact ⟨rfl,hb⟩
end Go.Proofs.YtgkddhncfaeidaaGreat
