/- Squeezed: the texts as they are written lie in wip/tpl. -/
import Derived.Test.YtgkddhncfaeidaaGreatPart13
import Derived.Test.YtgkddhncfaeidaaGreatPart00
import Derived.Deep.MidRow
set_option maxRecDepth 100000
set_option maxHeartbeats 4000000
set_option linter.unusedSimpArgs false
set_option linter.unusedVariables false
namespace Go.Proofs.YtgkddhncfaeidaaGreat
open Go.ChangeShapes Go.WideShapes Go.ChangeAt Go.RowKit CrcM PageM
theorem lessB_trans {a b c:KeyD} (h1:lessB a b=true) (h2:lessB b c=true):lessB a c=true:=by
 rw [lessB_iff] at h1 h2 ⊢
 omega
def UpK (ks:List KeyD) (k:KeyD):Prop:=∀ (a b:Nat) (x y:KeyD),a<b→ks[a]?=some x→ks[b]?=some y→lessB x y=true
structure LbOf (ks:List KeyD) (k:KeyD) (at_:Nat):Prop where
 le:at_≤ks.length
 lo:∀ (a:Nat) (x:KeyD),a<at_→ks[a]?=some x→lessB x k=true
 hi:∀ (a:Nat) (x:KeyD),at_≤a→ks[a]?=some x→lessB x k=false
theorem bsE_any (es:List EntD) (A:Option Addr) (n c:Nat) (k:KeyD) (hn:es.length=n) (hm:n≤1000000) (hu:UpK (es.map EntD.key) k) (w:World) (h:EnAt w A es) :
 Calls Tryz.prog 85 #[.slice A n c,.agg #[.int .i64 k.se,.int .i64 k.st],.func (.func 86) #[] #[]] w fun e w'=>∃ (at_:Nat) (f:Bool),e=.returned (.tuple #[.int .i64 (at_:Int),.bool f])∧LbOf (es.map EntD.key) k at_∧(f=true ↔ (es.map EntD.key)[at_]?=some k)∧Below w.heap.size w w':=by
 have HN:=Lib.hid hn
 have H:=Lib.hid h
 have HU:=Lib.hid hu
 obtain ⟨w1,hw1⟩:∃ w1,w1=w.alloc (.cells #[.int .i64 k.se,.int .i64 k.st] 38):=⟨_,rfl⟩
 have G1:Hid (w1.heap[w.heap.size]?=some (.cells #[.int .i64 k.se,.int .i64 k.st] 38 (0,0))):=Lib.hid (by rw [hw1];exact heap_alloc_new _ _)
 have B1:=Lib.hid (alloc_bel hw1)
 have HW1:=Lib.hid hw1
 clear hn h hu hw1
 go_enter Tryz.func85,Tryz.ntmps85
 go_upto_region 3 with fail
 rw [← HW1.out]
 clear HW1
 go_loopw [9,10] (fun iv jv wr=>∃ i j:Nat,i≤j∧j≤n∧iv=.int .i64 (i:Int)∧jv=.int .i64 (j:Int)∧Hid (∀ (a:Nat) (x:KeyD),a<i→(es.map EntD.key)[a]?=some x→lessB x k=true)∧Hid (∀ (a:Nat) (x:KeyD),j≤a→(es.map EntD.key)[a]?=some x→lessB x k=false)∧Hid (Below w1.heap.size w1 wr)) (fun iv jv _=>(intOf jv).toNat - (intOf iv).toNat)
 case atStart=>exact ⟨0,n,Nat.zero_le _,Nat.le_refl _,rfl,rfl,Lib.hid (fun a x ha _=>absurd ha (Nat.not_lt_zero _)),Lib.hid (fun a x ha hx=>by
  have h1:=(List.getElem?_eq_some_iff.1 hx).1
  have h2:=HN.out
  try simp only [List.length_map] at h1
  omega),Lib.hid (Below.refl _ _)⟩
 case round =>
  obtain ⟨i,j,hij,hjn,rfl,rfl,HL,HH,HB⟩:=hrel
  obtain ⟨W0,rfl⟩:∃ W0,W0=wr:=⟨_,rfl⟩
  have G0:=Lib.hid (row_stays G1.out HB.out)
  have gk:∀ y:SubW W0.heap.size W0,y.at_.heap[w.heap.size]?=some (.cells #[.int .i64 k.se,.int .i64 k.st] 38 (0,0)):=fun y=>row_stays G0.out y.ok_
  by_cases hlt:i<j
  ·obtain ⟨h,hh⟩:∃ h,h=(i+j) / 2:=⟨_,rfl⟩
   have hi:i≤h:=by omega
   have hj:h<j:=by omega
   have HHH:=Lib.hid hh
   obtain ⟨x,hx⟩:∃ x,es[h]?=some x:=⟨_,List.getElem?_eq_getElem (by rw [HN.out];omega)⟩
   obtain ⟨b,off,rfl,hc⟩:=((H.out.below B1.out).below HB.out) (by intro e';have h':=HN.out;rw [e'] at h';simp at h';omega)
   obtain ⟨c0,c1,c2,c3,c4,c5,c6,c7⟩:=hc h x hx
   have hl0:=World.block_lt_of_cell? _ _ c0
   have P0:∀ y:SubW W0.heap.size W0,y.at_.cell? ⟨b,off+h*8,none⟩=some (.int .i64 x.se):=fun y=>(y.ok_.cell (p:=⟨b,off+h*8,none⟩) hl0).trans c0
   have P1:∀ y:SubW W0.heap.size W0,y.at_.cell? ⟨b,off+h*8+1,none⟩=some (.int .i64 x.st):=fun y=>(y.ok_.cell (p:=⟨b,off+h*8+1,none⟩) hl0).trans c1
   have P2:∀ y:SubW W0.heap.size W0,y.at_.cell? ⟨b,off+h*8+2,none⟩=some (.int .i64 x.en):=fun y=>(y.ok_.cell (p:=⟨b,off+h*8+2,none⟩) hl0).trans c2
   have P3:∀ y:SubW W0.heap.size W0,y.at_.cell? ⟨b,off+h*8+3,none⟩=some (.int .i64 x.ad):=fun y=>(y.ok_.cell (p:=⟨b,off+h*8+3,none⟩) hl0).trans c3
   have P4:∀ y:SubW W0.heap.size W0,y.at_.cell? ⟨b,off+h*8+4,none⟩=some (.int .i64 x.le):=fun y=>(y.ok_.cell (p:=⟨b,off+h*8+4,none⟩) hl0).trans c4
   have P5:∀ y:SubW W0.heap.size W0,y.at_.cell? ⟨b,off+h*8+5,none⟩=some (.int .i64 x.cn):=fun y=>(y.ok_.cell (p:=⟨b,off+h*8+5,none⟩) hl0).trans c5
   have P6:∀ y:SubW W0.heap.size W0,y.at_.cell? ⟨b,off+h*8+6,none⟩=some (.int .i64 x.co):=fun y=>(y.ok_.cell (p:=⟨b,off+h*8+6,none⟩) hl0).trans c6
   have P7:∀ y:SubW W0.heap.size W0,y.at_.cell? ⟨b,off+h*8+7,none⟩=some (.int .u32 x.cr):=fun y=>(y.ok_.cell (p:=⟨b,off+h*8+7,none⟩) hl0).trans c7
   have HX:Hid ((es.map EntD.key)[h]?=some x.key):=Lib.hid (by rw [List.getElem?_map,hx];rfl)
   clear hc c0 c1 c2 c3 c4 c5 c6 c7 hl0 hx
   have hhe:((i:Int)+(j:Int)) / 2=(h:Int):=by omega
   have hhn:(h:Int)<(n:Int):=by omega
   clear hh
   go_upto_region 5 with fail
   obtain ⟨lt,hlt2⟩:∃ lt,lt=lessB x.key k:=⟨_,rfl⟩
   have d:decide (ordI (x.key) k<0)=lt:=by
    rw [hlt2]
    by_cases hb:lessB (x.key) k=true
    ·rw [hb];exact decide_eq_true (ordI_neg.2 hb)
    ·rw [Bool.not_eq_true] at hb
     rw [hb]
     exact decide_eq_false (fun hc=>by rw [ordI_neg,hb] at hc;cases hc)
   have HLT:=Lib.hid hlt2
   obtain ⟨oi,hoi⟩:∃ oi,oi=ordI (x.key) k:=⟨_,rfl⟩
   have HCM:Hid (∀ W,Calls Tryz.prog 86 #[.agg #[.int .i64 x.se,.int .i64 x.st,.int .i64 x.en,.int .i64 x.ad,.int .i64 x.le,.int .i64 x.cn,.int .i64 x.co,.int .u32 x.cr],.agg #[.int .i64 k.se,.int .i64 k.st]] W fun e w'=>e=.returned (.int .i64 oi)∧Below W.heap.size W w'):=Lib.hid (fun W=>by rw [hoi];exact place1_any x k W)
   rw [← hoi] at d
   clear hoi hlt2
   refine region_below W0.heap.size W0 (Below.refl _ _) (by kernel_rfl) (by kernel_rfl) ?_
   repeat (first
    | (go_big_quiet_want;refine quiet_load_row 38 (.tmp 4) rfl w.heap.size rfl 38 _ (0,0) _ gk Tryz.underlying38 rfl (by kernel_rfl) ?_;simp only [Act.put,List.setIfInBounds_toArray,List.set_cons_zero,List.set_cons_succ];go_big_quiet_on)
    | go_big_quiet_step (first | (go_at_call 86;exact calls_sub (Nat.le_refl _) (HCM.out _))))
   refine wpQuiet_nil ?_
   rintro w' ⟨y,rfl⟩
   have HBY:Hid (Below w1.heap.size w1 y.at_):=Lib.hid (HB.out.trans (y.ok_.mono HB.out.size))
   clear P0 P1 P2 P3 P4 P5 P6 P7 gk hhe
   cases lt
   ·go_wp2_with fail
    go_roundw
    case rel=>exact ⟨i,h,by omega,by omega,rfl,rfl,HL,Lib.hid (fun a z ha hz=>by
     by_cases hah:a=h
     ·subst hah
      rw [HX.out] at hz
      cases hz
      exact HLT.out.symm
     ·have h1:=HU.out h a _ _ (by omega) HX.out hz
      by_cases h2:lessB z k=true
      ·have h3:=lessB_trans h1 h2
       rw [← HLT.out] at h3
       cases h3
      ·exact Bool.eq_false_iff.2 h2),HBY⟩
    case measure=>first | (simp [intOf];done) | (simp [intOf];omega)
   ·go_wp2_with fail
    go_roundw
    case rel=>exact ⟨h+1,j,by omega,by omega,by go_num,rfl,Lib.hid (fun a z ha hz=>by
     by_cases hah:a=h
     ·subst hah
      rw [HX.out] at hz
      cases hz
      exact HLT.out.symm
     ·exact lessB_trans (HU.out a h _ _ (by omega) hz HX.out) HLT.out.symm),HH,HBY⟩
    case measure=>first | (simp [intOf];done) | (simp [intOf];omega)
  ·obtain rfl:i=j:=by omega
   have hii:decide ((i:Int)<(i:Int))=false:=by simp
   have HLB:Hid (LbOf (es.map EntD.key) k i):=Lib.hid ⟨by rw [List.length_map];have:=HN.out;omega,HL.out,HH.out⟩
   by_cases hin:i<n
   ·obtain ⟨x,hx⟩:∃ x,es[i]?=some x:=⟨_,List.getElem?_eq_getElem (by rw [HN.out];omega)⟩
    obtain ⟨b,off,rfl,hc⟩:=((H.out.below B1.out).below HB.out) (by intro e';have h':=HN.out;rw [e'] at h';simp at h';omega)
    obtain ⟨c0,c1,c2,c3,c4,c5,c6,c7⟩:=hc i x hx
    have hl0:=World.block_lt_of_cell? _ _ c0
    have P0:∀ y:SubW W0.heap.size W0,y.at_.cell? ⟨b,off+i*8,none⟩=some (.int .i64 x.se):=fun y=>(y.ok_.cell (p:=⟨b,off+i*8,none⟩) hl0).trans c0
    have P1:∀ y:SubW W0.heap.size W0,y.at_.cell? ⟨b,off+i*8+1,none⟩=some (.int .i64 x.st):=fun y=>(y.ok_.cell (p:=⟨b,off+i*8+1,none⟩) hl0).trans c1
    have P2:∀ y:SubW W0.heap.size W0,y.at_.cell? ⟨b,off+i*8+2,none⟩=some (.int .i64 x.en):=fun y=>(y.ok_.cell (p:=⟨b,off+i*8+2,none⟩) hl0).trans c2
    have P3:∀ y:SubW W0.heap.size W0,y.at_.cell? ⟨b,off+i*8+3,none⟩=some (.int .i64 x.ad):=fun y=>(y.ok_.cell (p:=⟨b,off+i*8+3,none⟩) hl0).trans c3
    have P4:∀ y:SubW W0.heap.size W0,y.at_.cell? ⟨b,off+i*8+4,none⟩=some (.int .i64 x.le):=fun y=>(y.ok_.cell (p:=⟨b,off+i*8+4,none⟩) hl0).trans c4
    have P5:∀ y:SubW W0.heap.size W0,y.at_.cell? ⟨b,off+i*8+5,none⟩=some (.int .i64 x.cn):=fun y=>(y.ok_.cell (p:=⟨b,off+i*8+5,none⟩) hl0).trans c5
    have P6:∀ y:SubW W0.heap.size W0,y.at_.cell? ⟨b,off+i*8+6,none⟩=some (.int .i64 x.co):=fun y=>(y.ok_.cell (p:=⟨b,off+i*8+6,none⟩) hl0).trans c6
    have P7:∀ y:SubW W0.heap.size W0,y.at_.cell? ⟨b,off+i*8+7,none⟩=some (.int .u32 x.cr):=fun y=>(y.ok_.cell (p:=⟨b,off+i*8+7,none⟩) hl0).trans c7
    have HX:Hid ((es.map EntD.key)[i]?=some (x.key)):=Lib.hid (by rw [List.getElem?_map,hx];rfl)
    clear hc c0 c1 c2 c3 c4 c5 c6 c7 hl0 hx
    obtain ⟨oi,hoi⟩:∃ oi,oi=ordI (x.key) k:=⟨_,rfl⟩
    have HCM:Hid (∀ W,Calls Tryz.prog 86 #[.agg #[.int .i64 x.se,.int .i64 x.st,.int .i64 x.en,.int .i64 x.ad,.int .i64 x.le,.int .i64 x.cn,.int .i64 x.co,.int .u32 x.cr],.agg #[.int .i64 k.se,.int .i64 k.st]] W fun e w'=>e=.returned (.int .i64 oi)∧Below W.heap.size W w'):=Lib.hid (fun W=>by rw [hoi];exact place1_any x k W)
    have HOI:=Lib.hid hoi
    have hin2:(i:Int)<(n:Int):=by omega
    clear hoi
    go_upto_region 8 with fail
    refine region_below W0.heap.size W0 (Below.refl _ _) (by kernel_rfl) (by kernel_rfl) ?_
    repeat (first
     | (go_big_quiet_want;refine quiet_load_row 38 (.tmp 4) rfl w.heap.size rfl 38 _ (0,0) _ gk Tryz.underlying38 rfl (by kernel_rfl) ?_;simp only [Act.put,List.setIfInBounds_toArray,List.set_cons_zero,List.set_cons_succ];go_big_quiet_on)
     | go_big_quiet_step (first | (go_at_call 86;exact calls_sub (Nat.le_refl _) (HCM.out _))))
    refine wpQuiet_nil ?_
    rintro w' ⟨y,rfl⟩
    have HBY:Hid (Below w.heap.size w y.at_):=Lib.hid (B1.out.trans ((HB.out.trans (y.ok_.mono HB.out.size)).mono B1.out.size))
    clear P0 P1 P2 P3 P4 P5 P6 P7 gk
    go_wp2_with fail
    go_ret2
    refine ⟨i,oi == 0,rfl,HLB.out,?_,HBY.out⟩
    rw [HX.out,beq_iff_eq,HOI.out,ordI_zero]
    exact ⟨fun h=>by rw [h],fun h=>Option.some.inj h⟩
   ·obtain rfl:i=n:=by omega
    go_upto_region 8 with fail
    refine region_below W0.heap.size W0 (Below.refl _ _) (by kernel_rfl) (by kernel_rfl) ?_
    repeat (go_big_quiet_step (fail))
    refine wpQuiet_nil ?_
    rintro w' ⟨y,rfl⟩
    have HBY:Hid (Below w.heap.size w y.at_):=Lib.hid (B1.out.trans ((HB.out.trans (y.ok_.mono HB.out.size)).mono B1.out.size))
    clear gk
    go_wp2_with fail
    go_ret2
    refine ⟨i,false,rfl,HLB.out,?_,HBY.out⟩
    have h1:(es.map EntD.key)[i]?=none:=List.getElem?_eq_none (by rw [List.length_map];have:=HN.out;omega)
    rw [h1]
    exact ⟨fun h=>(by cases h),fun h=>(by cases h)⟩
theorem bsK_any (es:List KeyD) (A:Option Addr) (n c:Nat) (k:KeyD) (hn:es.length=n) (hm:n≤1000000) (hu:UpK (es) k) (w:World) (h:KyAt w A es) :
 Calls Tryz.prog 88 #[.slice A n c,.agg #[.int .i64 k.se,.int .i64 k.st],.func (.func 87) #[] #[]] w fun e w'=>∃ (at_:Nat) (f:Bool),e=.returned (.tuple #[.int .i64 (at_:Int),.bool f])∧LbOf (es) k at_∧(f=true ↔ (es)[at_]?=some k)∧Below w.heap.size w w':=by
 have HN:=Lib.hid hn
 have H:=Lib.hid h
 have HU:=Lib.hid hu
 obtain ⟨w1,hw1⟩:∃ w1,w1=w.alloc (.cells #[.int .i64 k.se,.int .i64 k.st] 38):=⟨_,rfl⟩
 have G1:Hid (w1.heap[w.heap.size]?=some (.cells #[.int .i64 k.se,.int .i64 k.st] 38 (0,0))):=Lib.hid (by rw [hw1];exact heap_alloc_new _ _)
 have B1:=Lib.hid (alloc_bel hw1)
 have HW1:=Lib.hid hw1
 clear hn h hu hw1
 go_enter Tryz.func88,Tryz.ntmps88
 go_upto_region 3 with fail
 rw [← HW1.out]
 clear HW1
 go_loopw [9,10] (fun iv jv wr=>∃ i j:Nat,i≤j∧j≤n∧iv=.int .i64 (i:Int)∧jv=.int .i64 (j:Int)∧Hid (∀ (a:Nat) (x:KeyD),a<i→(es)[a]?=some x→lessB x k=true)∧Hid (∀ (a:Nat) (x:KeyD),j≤a→(es)[a]?=some x→lessB x k=false)∧Hid (Below w1.heap.size w1 wr)) (fun iv jv _=>(intOf jv).toNat - (intOf iv).toNat)
 case atStart=>exact ⟨0,n,Nat.zero_le _,Nat.le_refl _,rfl,rfl,Lib.hid (fun a x ha _=>absurd ha (Nat.not_lt_zero _)),Lib.hid (fun a x ha hx=>by
  have h1:=(List.getElem?_eq_some_iff.1 hx).1
  have h2:=HN.out
  try simp only [List.length_map] at h1
  omega),Lib.hid (Below.refl _ _)⟩
 case round =>
  obtain ⟨i,j,hij,hjn,rfl,rfl,HL,HH,HB⟩:=hrel
  obtain ⟨W0,rfl⟩:∃ W0,W0=wr:=⟨_,rfl⟩
  have G0:=Lib.hid (row_stays G1.out HB.out)
  have gk:∀ y:SubW W0.heap.size W0,y.at_.heap[w.heap.size]?=some (.cells #[.int .i64 k.se,.int .i64 k.st] 38 (0,0)):=fun y=>row_stays G0.out y.ok_
  by_cases hlt:i<j
  ·obtain ⟨h,hh⟩:∃ h,h=(i+j) / 2:=⟨_,rfl⟩
   have hi:i≤h:=by omega
   have hj:h<j:=by omega
   have HHH:=Lib.hid hh
   obtain ⟨x,hx⟩:∃ x,es[h]?=some x:=⟨_,List.getElem?_eq_getElem (by rw [HN.out];omega)⟩
   obtain ⟨b,off,rfl,hc⟩:=((H.out.below B1.out).below HB.out) (by intro e';have h':=HN.out;rw [e'] at h';simp at h';omega)
   obtain ⟨c0,c1⟩:=hc h x hx
   have hl0:=World.block_lt_of_cell? _ _ c0
   have P0:∀ y:SubW W0.heap.size W0,y.at_.cell? ⟨b,off+h*2,none⟩=some (.int .i64 x.se):=fun y=>(y.ok_.cell (p:=⟨b,off+h*2,none⟩) hl0).trans c0
   have P1:∀ y:SubW W0.heap.size W0,y.at_.cell? ⟨b,off+h*2+1,none⟩=some (.int .i64 x.st):=fun y=>(y.ok_.cell (p:=⟨b,off+h*2+1,none⟩) hl0).trans c1
   have HX:Hid ((es)[h]?=some x):=Lib.hid (by exact hx)
   clear hc c0 c1 hl0 hx
   have hhe:((i:Int)+(j:Int)) / 2=(h:Int):=by omega
   have hhn:(h:Int)<(n:Int):=by omega
   clear hh
   go_upto_region 5 with fail
   obtain ⟨lt,hlt2⟩:∃ lt,lt=lessB x k:=⟨_,rfl⟩
   have d:decide (ordI (x) k<0)=lt:=by
    rw [hlt2]
    by_cases hb:lessB (x) k=true
    ·rw [hb];exact decide_eq_true (ordI_neg.2 hb)
    ·rw [Bool.not_eq_true] at hb
     rw [hb]
     exact decide_eq_false (fun hc=>by rw [ordI_neg,hb] at hc;cases hc)
   have HLT:=Lib.hid hlt2
   obtain ⟨oi,hoi⟩:∃ oi,oi=ordI (x) k:=⟨_,rfl⟩
   have HCM:Hid (∀ W,Calls Tryz.prog 87 #[.agg #[.int .i64 x.se,.int .i64 x.st],.agg #[.int .i64 k.se,.int .i64 k.st]] W fun e w'=>e=.returned (.int .i64 oi)∧Below W.heap.size W w'):=Lib.hid (fun W=>by rw [hoi];exact order_any x k W)
   rw [← hoi] at d
   clear hoi hlt2
   refine region_below W0.heap.size W0 (Below.refl _ _) (by kernel_rfl) (by kernel_rfl) ?_
   repeat (first
    | (go_big_quiet_want;refine quiet_load_row 38 (.tmp 4) rfl w.heap.size rfl 38 _ (0,0) _ gk Tryz.underlying38 rfl (by kernel_rfl) ?_;simp only [Act.put,List.setIfInBounds_toArray,List.set_cons_zero,List.set_cons_succ];go_big_quiet_on)
    | go_big_quiet_step (first | (go_at_call 87;exact calls_sub (Nat.le_refl _) (HCM.out _))))
   refine wpQuiet_nil ?_
   rintro w' ⟨y,rfl⟩
   have HBY:Hid (Below w1.heap.size w1 y.at_):=Lib.hid (HB.out.trans (y.ok_.mono HB.out.size))
   clear P0 P1 gk hhe
   cases lt
   ·go_wp2_with fail
    go_roundw
    case rel=>exact ⟨i,h,by omega,by omega,rfl,rfl,HL,Lib.hid (fun a z ha hz=>by
     by_cases hah:a=h
     ·subst hah
      rw [HX.out] at hz
      cases hz
      exact HLT.out.symm
     ·have h1:=HU.out h a _ _ (by omega) HX.out hz
      by_cases h2:lessB z k=true
      ·have h3:=lessB_trans h1 h2
       rw [← HLT.out] at h3
       cases h3
      ·exact Bool.eq_false_iff.2 h2),HBY⟩
    case measure=>first | (simp [intOf];done) | (simp [intOf];omega)
   ·go_wp2_with fail
    go_roundw
    case rel=>exact ⟨h+1,j,by omega,by omega,by go_num,rfl,Lib.hid (fun a z ha hz=>by
     by_cases hah:a=h
     ·subst hah
      rw [HX.out] at hz
      cases hz
      exact HLT.out.symm
     ·exact lessB_trans (HU.out a h _ _ (by omega) hz HX.out) HLT.out.symm),HH,HBY⟩
    case measure=>first | (simp [intOf];done) | (simp [intOf];omega)
  ·obtain rfl:i=j:=by omega
   have hii:decide ((i:Int)<(i:Int))=false:=by simp
   have HLB:Hid (LbOf (es) k i):=Lib.hid ⟨by skip;have:=HN.out;omega,HL.out,HH.out⟩
   by_cases hin:i<n
   ·obtain ⟨x,hx⟩:∃ x,es[i]?=some x:=⟨_,List.getElem?_eq_getElem (by rw [HN.out];omega)⟩
    obtain ⟨b,off,rfl,hc⟩:=((H.out.below B1.out).below HB.out) (by intro e';have h':=HN.out;rw [e'] at h';simp at h';omega)
    obtain ⟨c0,c1⟩:=hc i x hx
    have hl0:=World.block_lt_of_cell? _ _ c0
    have P0:∀ y:SubW W0.heap.size W0,y.at_.cell? ⟨b,off+i*2,none⟩=some (.int .i64 x.se):=fun y=>(y.ok_.cell (p:=⟨b,off+i*2,none⟩) hl0).trans c0
    have P1:∀ y:SubW W0.heap.size W0,y.at_.cell? ⟨b,off+i*2+1,none⟩=some (.int .i64 x.st):=fun y=>(y.ok_.cell (p:=⟨b,off+i*2+1,none⟩) hl0).trans c1
    have HX:Hid ((es)[i]?=some (x)):=Lib.hid (by exact hx)
    clear hc c0 c1 hl0 hx
    obtain ⟨oi,hoi⟩:∃ oi,oi=ordI (x) k:=⟨_,rfl⟩
    have HCM:Hid (∀ W,Calls Tryz.prog 87 #[.agg #[.int .i64 x.se,.int .i64 x.st],.agg #[.int .i64 k.se,.int .i64 k.st]] W fun e w'=>e=.returned (.int .i64 oi)∧Below W.heap.size W w'):=Lib.hid (fun W=>by rw [hoi];exact order_any x k W)
    have HOI:=Lib.hid hoi
    have hin2:(i:Int)<(n:Int):=by omega
    clear hoi
    go_upto_region 8 with fail
    refine region_below W0.heap.size W0 (Below.refl _ _) (by kernel_rfl) (by kernel_rfl) ?_
    repeat (first
     | (go_big_quiet_want;refine quiet_load_row 38 (.tmp 4) rfl w.heap.size rfl 38 _ (0,0) _ gk Tryz.underlying38 rfl (by kernel_rfl) ?_;simp only [Act.put,List.setIfInBounds_toArray,List.set_cons_zero,List.set_cons_succ];go_big_quiet_on)
     | go_big_quiet_step (first | (go_at_call 87;exact calls_sub (Nat.le_refl _) (HCM.out _))))
    refine wpQuiet_nil ?_
    rintro w' ⟨y,rfl⟩
    have HBY:Hid (Below w.heap.size w y.at_):=Lib.hid (B1.out.trans ((HB.out.trans (y.ok_.mono HB.out.size)).mono B1.out.size))
    clear P0 P1 gk
    go_wp2_with fail
    go_ret2
    refine ⟨i,oi == 0,rfl,HLB.out,?_,HBY.out⟩
    rw [HX.out,beq_iff_eq,HOI.out,ordI_zero]
    exact ⟨fun h=>by rw [h],fun h=>Option.some.inj h⟩
   ·obtain rfl:i=n:=by omega
    go_upto_region 8 with fail
    refine region_below W0.heap.size W0 (Below.refl _ _) (by kernel_rfl) (by kernel_rfl) ?_
    repeat (go_big_quiet_step (fail))
    refine wpQuiet_nil ?_
    rintro w' ⟨y,rfl⟩
    have HBY:Hid (Below w.heap.size w y.at_):=Lib.hid (B1.out.trans ((HB.out.trans (y.ok_.mono HB.out.size)).mono B1.out.size))
    clear gk
    go_wp2_with fail
    go_ret2
    refine ⟨i,false,rfl,HLB.out,?_,HBY.out⟩
    have h1:(es)[i]?=none:=List.getElem?_eq_none (by skip;have:=HN.out;omega)
    rw [h1]
    exact ⟨fun h=>(by cases h),fun h=>(by cases h)⟩
theorem lessB_irrefl (k:KeyD):lessB k k=false:=by simp [lessB]
theorem lessB_asymm {a b:KeyD} (h:lessB a b=true):lessB b a=false:=by
 rw [Bool.eq_false_iff]
 intro h2
 have h3:=lessB_trans h h2
 rw [lessB_irrefl] at h3
 cases h3
theorem lessB_tri {a b:KeyD} (h:lessB a b=false) (hne:a≠b):lessB b a=true:=by
 by_cases h2:lessB b a=true
 ·exact h2
 ·exfalso
  apply hne
  rw [Bool.eq_false_iff,ne_eq,lessB_iff] at h
  rw [lessB_iff] at h2
  cases a;cases b
  simp only at h h2
  congr 1 <;> omega
structure InOf (ks:List KeyD) (k:KeyD) (r:Nat):Prop where
 at_:r=0∨∃ x,ks[r]?=some x∧lessB k x=false
 hi:∀ (a:Nat) (x:KeyD),r<a→ks[a]?=some x→lessB k x=true
theorem inOf_found {ks:List KeyD} {k:KeyD} {at_:Nat} (hu:UpK ks k) (h:LbOf ks k at_) (hf:ks[at_]?=some k):InOf ks k at_:=⟨.inr ⟨k,hf,lessB_irrefl k⟩,fun a x ha hx=>hu at_ a k x ha hf hx⟩
theorem inOf_behind {ks:List KeyD} {k:KeyD} {at_:Nat} (hu:UpK ks k) (h:LbOf ks k at_) (hf:ks[at_]?≠some k) (a:Nat) (x:KeyD) (ha:at_≤a) (hx:ks[a]?=some x):lessB k x=true:=by
 by_cases he:a=at_
 ·subst he
  refine lessB_tri (h.hi _ _ (Nat.le_refl _) hx) (fun e=>hf ?_)
  rw [hx,e]
 ·obtain ⟨y,hy⟩:∃ y,ks[at_]?=some y:=⟨_,List.getElem?_eq_getElem (by have:=(List.getElem?_eq_some_iff.1 hx).1;omega)⟩
  have h1:=lessB_tri (h.hi _ _ (Nat.le_refl _) hy) (fun e=>hf (by rw [hy,e]))
  exact lessB_trans h1 (hu at_ a y x (by omega) hy hx)
theorem inOf_first {ks:List KeyD} {k:KeyD} (hu:UpK ks k) (h:LbOf ks k 0) (hf:ks[0]?≠some k):InOf ks k 0:=⟨.inl rfl,fun a x ha hx=>inOf_behind hu h hf a x (by omega) hx⟩
theorem inOf_before {ks:List KeyD} {k:KeyD} {at_:Nat} (hu:UpK ks k) (h:LbOf ks k (at_+1)) (hf:ks[at_+1]?≠some k):InOf ks k at_:=by
 obtain ⟨y,hy⟩:∃ y,ks[at_]?=some y:=⟨_,List.getElem?_eq_getElem (by have:=h.le;omega)⟩
 exact ⟨.inr ⟨y,hy,lessB_asymm (h.lo at_ y (by omega) hy)⟩,fun a x ha hx=>inOf_behind hu h hf a x (by omega) hx⟩
def PlaceOf (n:NodeD) (k:KeyD) (r:Nat):Prop:=if n.leaf=true then LbOf (n.es.map EntD.key) k r else InOf n.ks k r
theorem place_any (n:NodeD) (l:NdL) (k:KeyD) (he:n.es.length≤1000000) (hk:n.ks.length≤1000000) (hue:UpK (n.es.map EntD.key) k) (huk:UpK n.ks k) (w:World) (h:NodeAt w n l) :
 Calls Tryz.prog 58 #[.agg #[.bool n.leaf,.slice l.EA n.es.length l.ec,.slice l.KA n.ks.length l.kc,.slice l.DA n.ds.length l.dc],.agg #[.int .i64 k.se,.int .i64 k.st]] w fun e w'=>∃ r:Nat,e=.returned (.int .i64 (r:Int))∧PlaceOf n k r∧Below w.heap.size w w':=by
 obtain ⟨lf,es,ks,ds⟩:=n
 obtain ⟨EA,ec,KA,kc,DA,dc⟩:=l
 dsimp only at he hk hue huk ⊢
 obtain ⟨ne,hne⟩:∃ x,es.length=x:=⟨_,rfl⟩
 obtain ⟨nk,hnk⟩:∃ x,ks.length=x:=⟨_,rfl⟩
 obtain ⟨nd,hnd⟩:∃ x,ds.length=x:=⟨_,rfl⟩
 rw [hne,hnk,hnd]
 obtain ⟨w1,hw1⟩:∃ w1,w1=(w.alloc (.cells #[.bool lf,.slice EA ne ec,.slice KA nk kc,.slice DA nd dc] 86)).alloc (.cells #[.int .i64 k.se,.int .i64 k.st] 38):=⟨_,rfl⟩
 have G1:Hid (w1.heap[w.heap.size]?=some (.cells #[.bool lf,.slice EA ne ec,.slice KA nk kc,.slice DA nd dc] 86 (0,0))):=Lib.hid (by rw [hw1];exact heap_alloc2_old _ _ _)
 have G2:Hid (w1.heap[w.heap.size+1]?=some (.cells #[.int .i64 k.se,.int .i64 k.st] 38 (0,0))):=Lib.hid (by rw [hw1];exact heap_alloc2_new _ _ _)
 have B1:Hid (Below w.heap.size w w1):=Lib.hid (by rw [hw1];exact below_two (Below.refl _ _))
 have HBE:Hid (Calls Tryz.prog 85 #[.slice EA ne ec,.agg #[.int .i64 k.se,.int .i64 k.st],.func (.func 86) #[] #[]] w1 fun e w'=>∃ (at_:Nat) (f:Bool),e=.returned (.tuple #[.int .i64 (at_:Int),.bool f])∧LbOf (es.map EntD.key) k at_∧(f=true ↔ (es.map EntD.key)[at_]?=some k)∧Below w1.heap.size w1 w'):=Lib.hid (bsE_any es EA ne ec k hne (by omega) hue w1 ((h.below B1.out).e))
 have HBK:Hid (Calls Tryz.prog 88 #[.slice KA nk kc,.agg #[.int .i64 k.se,.int .i64 k.st],.func (.func 87) #[] #[]] w1 fun e w'=>∃ (at_:Nat) (f:Bool),e=.returned (.tuple #[.int .i64 (at_:Int),.bool f])∧LbOf ks k at_∧(f=true ↔ ks[at_]?=some k)∧Below w1.heap.size w1 w'):=Lib.hid (bsK_any ks KA nk kc k hnk (by omega) huk w1 ((h.below B1.out).k))
 have HUK:=Lib.hid huk
 have HNK:=Lib.hid hnk
 have HKM:=Lib.hid hk
 have HW1:=Lib.hid hw1
 clear hw1 h hue huk hne hnk hnd he hk
 go_enter Tryz.func58,Tryz.ntmps58
 go_upto_region 1 with fail
 rw [← HW1.out]
 clear HW1
 have z0:=nd_cell G1.out 0 (.bool lf) rfl
 have z1:=nd_cell G1.out 1 (.slice EA ne ec) rfl
 have z2:=nd_cell G1.out 2 (.slice KA nk kc) rfl
 cases lf
 ·go_upto_region 5 with (first
   | (refine wpList_load_row rfl 38 (.tmp 3) rfl (w.heap.size+1) rfl 38 _ (0,0) _ G2.out Tryz.underlying38 rfl (by kernel_rfl) ?_)
   | (go_at_call 88;refine HBK.out.mono ?_;rintro e w2 ⟨at_,f,rfl,hl,hf,hb⟩;have HL:=Lib.hid hl;have HF:=Lib.hid hf;have B2:=Lib.hid (B1.out.trans (hb.mono B1.out.size));clear hl hf hb))
  have hatm:at_≤1000000:=by have h1:=HL.out.le;have h2:=HKM.out;omega
  cases f
  ·have hnf:ks[at_]?≠some k:=fun e=>by have h1:=HF.out.2 e;cases h1
   have HNF:=Lib.hid hnf
   clear hnf
   cases at_ with
   | zero =>
     go_wp2_with fail
     go_ret
     exact ⟨0,rfl,inOf_first HUK.out HL.out HNF.out,B2.out⟩
   | succ q =>
     have hq0:(((q+1:Nat):Int) == 0)=false:=by simp;omega
     obtain ⟨qi,hqi⟩:∃ qi:Int,qi=((q+1:Nat):Int):=⟨_,rfl⟩
     rw [← hqi] at hq0 ⊢
     have hqb:0≤qi:=by omega
     have hqc:qi≤1000001:=by omega
     have HQQ:Hid (qi - 1=(q:Int)):=Lib.hid (by omega)
     clear hqi
     go_wp2_with fail
     go_ret
     exact ⟨q,(by rw [← HQQ.out];rfl),inOf_before HUK.out HL.out HNF.out,B2.out⟩
  ·have HFT:Hid (ks[at_]?=some k):=Lib.hid (HF.out.1 rfl)
   go_wp2_with fail
   go_ret
   exact ⟨at_,rfl,inOf_found HUK.out HL.out HFT.out,B2.out⟩
 ·go_wp2_with (first
   | (refine wpList_load_row rfl 38 (.tmp 3) rfl (w.heap.size+1) rfl 38 _ (0,0) _ G2.out Tryz.underlying38 rfl (by kernel_rfl) ?_)
   | (go_at_call 85;refine HBE.out.mono ?_;rintro e w2 ⟨at_,f,rfl,hl,hf,hb⟩;have HL:=Lib.hid hl;have B2:=Lib.hid (B1.out.trans (hb.mono B1.out.size));clear hl hf hb))
  go_ret
  exact ⟨at_,rfl,HL.out,B2.out⟩
end Go.Proofs.YtgkddhncfaeidaaGreat
namespace Go.Proofs.YtgkddhncfaeidaaGreat
open Go.RowKit
def mapC (p:Int) (U:List Bool):Array Value:=(Value.int .i64 p :: U.map Value.bool).toArray
theorem size_mapC {p:Int} {U:List Bool} (h:U.length=512):(mapC p U).size=513:=by simp [mapC,h]
theorem one_mapC (p:Int) (U:List Bool):(mapC p U).all (·.oneCell')=true:=by
 simp [mapC,Value.oneCell']
theorem mapC_0 (p:Int) (U:List Bool):(mapC p U)[0]?=some (.int .i64 p):=rfl
theorem mapC_s (p:Int) (U:List Bool) (i:Nat) (h:i<U.length):(mapC p U)[1+i]?=some (.bool (U.getD i false)):=by
 unfold mapC
 rw [List.getElem?_toArray,Nat.add_comm,List.getElem?_cons_succ,List.getElem?_map,List.getElem?_eq_getElem h,List.getD_eq_getElem?_getD,List.getElem?_eq_getElem h]
 rfl
theorem mapC_set (p:Int) (U:List Bool) (i:Nat) (b:Bool):(mapC p U).setIfInBounds (1+i) (.bool b)=mapC p (U.set i b):=by
 unfold mapC
 rw [List.setIfInBounds_toArray,Nat.add_comm,List.set_cons_succ,List.map_set]
def markN (U:List Bool) (a:Nat) (b:Bool):Nat→List Bool
 | 0=>U
 | k+1=>(markN U a b k).set (a+k) b
theorem length_markN (U:List Bool) (a:Nat) (b:Bool):∀ k,(markN U a b k).length=U.length
 | 0=>rfl
 | k+1=>by simp [markN,length_markN U a b k]
theorem getD_set' (U:List Bool) (i j:Nat) (b:Bool) (h:i<U.length):(U.set i b).getD j false=if j=i then b else U.getD j false:=by
 rw [List.getD_eq_getElem?_getD,List.getD_eq_getElem?_getD,List.getElem?_set]
 by_cases hj:i=j
 ·subst hj
  simp [h]
 ·simp [hj,Ne.symm hj]
theorem getD_markN (U:List Bool) (a:Nat) (b:Bool) (j:Nat):∀ k,a+k≤U.length→(markN U a b k).getD j false=if a≤j∧j<a+k then b else U.getD j false
 | 0,_=>by rw [if_neg (by omega)];rfl
 | k+1,h=>by
   show ((markN U a b k).set (a+k) b).getD j false=_
   rw [getD_set' _ _ _ _ (by rw [length_markN];omega),getD_markN U a b j k (by omega)]
   by_cases h1:j=a+k
   ·rw [if_pos h1,if_pos (by omega)]
   ·rw [if_neg h1]
    by_cases h2:a≤j∧j<a+k
    ·rw [if_pos h2,if_pos (by omega)]
    ·rw [if_neg h2,if_neg (by omega)]
def okAt (p:Int) (U:List Bool) (j:Nat):Bool:=!((decide (j<2) && !(U.getD j false)) || (decide (p≤(j:Int)) && U.getD j false))
def okM (p:Int) (U:List Bool):Prop:=8≤p∧p≤512∧∀ j,j<512→okAt p U j=true
instance (p:Int) (U:List Bool):Decidable (okM p U):=by unfold okM;infer_instance
def fits (p:Nat) (U V:List Bool) (n a:Nat):Prop:=a+n≤p∧∀ j,j<n→U.getD (a+j) false=false∧V.getD (a+j) false=false
def MapAt (w:World) (g:Nat) (T:TypeId) (p:Int) (U:List Bool):Prop:=w.heap[g]?=some (.cells (mapC p U) T (0,0))
theorem MapAt.c0 {w:World} {g:Nat} {T:TypeId} {p:Int} {U:List Bool} (h:MapAt w g T p U):w.cell? ⟨g,0,none⟩=some (.int .i64 p) :=
 (cell_of_row w g 0 _ T _ h).trans (mapC_0 p U)
theorem MapAt.cs {w:World} {g:Nat} {T:TypeId} {p:Int} {U:List Bool} (h:MapAt w g T p U) (i:Nat) (hi:i<U.length):w.cell? ⟨g,1+i,none⟩=some (.bool (U.getD i false)) :=
 (cell_of_row w g (1+i) _ T _ h).trans (mapC_s p U i hi)
theorem MapAt.fr {w:World} {g:Nat} {T:TypeId} {p:Int} {U:List Bool} (h:MapAt w g T p U) (i:Nat):w.frozen? ⟨g,i,none⟩=false:=by
 unfold MapAt at h
 simp [World.frozen?,h]
theorem MapAt.set {w:World} {g:Nat} {T:TypeId} {p:Int} {U:List Bool} (h:MapAt w g T p U) (i:Nat) (b:Bool):MapAt (w.setCell ⟨g,1+i,none⟩ (.bool b)) g T p (U.set i b):=by
 have:=heap_setCell_same w g (1+i) _ T (.bool b) h
 rw [mapC_set] at this
 exact this
theorem MapAt.below {w w':World} {g B:Nat} {T:TypeId} {p:Int} {U:List Bool} (h:MapAt w g T p U) (hb:Below B w w') (hg:g<B):MapAt w' g T p U:=(hb.block g hg).trans h
theorem MapAt.lt {w:World} {g:Nat} {T:TypeId} {p:Int} {U:List Bool} (h:MapAt w g T p U):g<w.heap.size:=(Array.getElem?_eq_some_iff.1 h).1
theorem MapAt.alloc {w:World} {g:Nat} {T:TypeId} {p:Int} {U:List Bool} (h:MapAt w g T p U) (o:Obj):MapAt (w.alloc o) g T p U:=(Below.heap_alloc w o g h.lt).trans h
theorem MapAt.new (w:World) (T:TypeId) (p:Int) (U:List Bool):MapAt (w.alloc (.cells (mapC p U) T)) w.heap.size T p U:=heap_alloc_new w _
theorem MapAt.range {w:World} {g:Nat} {T:TypeId} {p:Int} {U:List Bool} (h:MapAt w g T p U):w.rangeAt g 1 (U.map Value.bool):=by
 intro j x hx
 have hj:j<U.length:=by
  rcases Nat.lt_or_ge j U.length with h1 | h1
  ·exact h1
  ·rw [List.getElem?_eq_none (by simpa using h1)] at hx;cases hx
 have:=h.cs j hj
 rw [List.getElem?_map,List.getElem?_eq_getElem hj] at hx
 rw [List.getD_eq_getElem?_getD,List.getElem?_eq_getElem hj] at this
 rw [this]
 simpa using hx
end Go.Proofs.YtgkddhncfaeidaaGreat
