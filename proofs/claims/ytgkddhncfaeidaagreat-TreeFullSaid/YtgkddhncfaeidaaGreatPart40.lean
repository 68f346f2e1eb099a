/- Squeezed: the texts as they are written lie in wip/tpl. -/
import Derived.Test.YtgkddhncfaeidaaGreatPart21
import Derived.Test.YtgkddhncfaeidaaGreatTvTb
import Derived.Test.YtgkddhncfaeidaaGreatPart33
import Derived.Test.YtgkddhncfaeidaaGreatPart32
import Derived.Test.YtgkddhncfaeidaaGreatPart23
import Derived.Test.YtgkddhncfaeidaaGreatPart24
import Derived.Test.YtgkddhncfaeidaaGreatTfWi
import Derived.Test.YtgkddhncfaeidaaGreatPart35
set_option maxRecDepth 100000
set_option maxHeartbeats 8000000
set_option linter.unusedSimpArgs false
set_option linter.unusedVariables false
namespace Go.Proofs.YtgkddhncfaeidaaGreat
set_option linter.unnecessarySimpa false
open Go.RowKit Go.ChangeShapes Go.WideShapes Go.ChangeAt CrcM PageM
theorem lay_full (gc:Nat) (x:NodeD × NdL) (w:World) (htk:∀ W,Below w.heap.size w W→Calls Tryz.prog 81 #[.pointer (some ⟨gc,0,none⟩)] W fun e w'=>e=.returned (.tuple #[.int .i64 0,.int .i64 5])∧Below W.heap.size W w') :
 Calls Tryz.prog 54 #[.pointer (some ⟨gc,0,none⟩),.agg #[.bool x.1.leaf,.slice x.2.EA x.1.es.length x.2.ec,.slice x.2.KA x.1.ks.length x.2.kc,.slice x.2.DA x.1.ds.length x.2.dc]] w fun e w'=>e=.returned (.tuple #[.int .i64 0,.int .i64 5])∧Below w.heap.size w w':=by
 have HTK:=Lib.hid htk
 clear htk
 obtain ⟨w1,hw1⟩:∃ w1,w1=w.alloc (.cells #[.bool x.1.leaf,.slice x.2.EA x.1.es.length x.2.ec,.slice x.2.KA x.1.ks.length x.2.kc,.slice x.2.DA x.1.ds.length x.2.dc] 86):=⟨_,rfl⟩
 have B1:=Lib.hid (alloc_bel hw1)
 go_enter Tryz.func54,Tryz.ntmps54
 go_upto_region 1 with fail
 rw [← hw1]
 clear hw1
 go_wp2_with (go_at_call 81;refine (HTK.out _ B1.out).mono ?_;rintro e w2 ⟨rfl,hb2⟩;have B2:=Lib.hid (B1.out.trans (hb2.mono B1.out.size));clear hb2)
 go_ret2
 exact ⟨rfl,B2.out⟩
theorem top_by (gc gv p B0 h pa:Nat) (U V:List Bool) (lv:Value) (L:List (Nat × (NodeD × NdL))) (n:NodeD) (l:NdL) (hln:n.leaf=false) (hsz:n.size≠1) (hU:U.length=512) (hV:V.length=512) (hLL:L.length≤900) (A:Option Addr) (c:Nat) (w:World) (hc:ChgS w gc gv p B0 U V lv L) (hL:∀ x ∈ L,OwnN w B0 x.2.1 x.2.2) (hA:ChAt w A [(n,l)]) (ho:OwnN w B0 n l)
 (htk:∀ W,Below w.heap.size w W→Calls Tryz.prog 81 #[.pointer (some ⟨gc,0,none⟩)] W fun e w'=>e=.returned (.tuple #[.int .i64 (pa:Int),.int .i64 0])∧ChgAt w' gc gv (p:Int) (markN U pa true 1) V lv∧OuterX (fun k=>k=gc) W w') :
 Calls Tryz.prog 30 #[.pointer (some ⟨gc,0,none⟩),.slice A 1 c,.int .i64 ((h:Int)+1)] w fun e w'=>e=.returned (.tuple #[.agg #[.int .i64 (pa:Int),.int .i64 ((h:Int)+1)],.int .i64 0])∧(∃ lv',ChgS w' gc gv p B0 (markN U pa true 1) V lv' (L ++ [(pa,(n,l))]))∧(∀ x ∈ L ++ [(pa,(n,l))],NodeT w' x.2.1 x.2.2)∧OutS gc B0 (fun _=>False) w w':=by
 have HLF:=Lib.hid hln
 have H1:=Lib.hid hsz
 have HC:=Lib.hid hc
 have HL:=Lib.hid hL
 have HO:=Lib.hid ho
 obtain ⟨b,cs,hAb,hbc,hcs⟩:=hA (by simp)
 subst hAb
 have HRG:Hid (w.rangeAt b 0 (ndP (n,l))):=Lib.hid (fun j u hu=>nd_cell hbc (0+j) u (hcs _ _ (by simpa using hu)))
 have HLY:Hid (∀ W,Below w.heap.size w W→Calls Tryz.prog 54 #[.pointer (some ⟨gc,0,none⟩),.agg #[.bool false,.slice l.EA n.es.length l.ec,.slice l.KA n.ks.length l.kc,.slice l.DA n.ds.length l.dc]] W fun e w'=>e=.returned (.tuple #[.int .i64 (pa:Int),.int .i64 0])∧(∃ lv',ChgS w' gc gv p B0 (markN U pa true 1) V lv' (L ++ [(pa,(n,l))]))∧OutT gc B0 151 W w'):=Lib.hid (fun W hW=>by
  have h1:=lay_by gc gv p B0 U V lv L hU hV pa (n,l) (by omega) W (hc.below hW) (fun W2 hW2=>htk W2 (hW.trans (hW2.mono hW.size)))
  dsimp only at h1
  rw [HLF.out] at h1
  exact h1)
 have hs1:((n.size:Int) == 1)=false:=by have:=H1.out;simp;omega
 try clear hLL
 try clear hU hV
 clear hc hL ho hbc hcs hA htk hln hsz
 have HSZ:=Lib.hid (fun W=>size_any n l W)
 rw [HLF.out] at HSZ
 go_enter Tryz.func30,Tryz.ntmps30
 go_upto_region 1 with fail
 obtain ⟨w1,hw1⟩:∃ w1,w1=w.alloc (.cells #[.int .i64 0,.int .i64 0] 43):=⟨_,rfl⟩
 have B1:=Lib.hid (alloc_bel hw1)
 have G1:Hid (w1.heap[w.heap.size]?=some (.cells #[.int .i64 0,.int .i64 0] 43 (0,0))):=Lib.hid (by rw [hw1];exact heap_alloc_new _ _)
 obtain ⟨b6,hb6⟩:∃ b6,b6=w.heap.size:=⟨_,rfl⟩
 rw [← hb6] at G1
 rw [← hw1,← hb6]
 have HB6:=Lib.hid hb6
 clear hw1 hb6
 go_loopw [1,2] (fun vv hv wr=>vv=.slice (some ⟨b,0,none⟩) 1 c∧hv=.int .i64 ((h:Int)+1)∧w1=wr) (fun _ _ _=>0)
 case atStart=>exact ⟨rfl,rfl,rfl⟩
 case round =>
  obtain ⟨rfl,rfl,rfl⟩:=hrel
  have HRG1:Hid (w1.rangeAt b 0 (ndP (n,l))):=Lib.hid (fun j u hu=>(B1.out.cell (World.block_lt_of_cell? _ _ (HRG.out j u hu))).trans (HRG.out j u hu))
  go_upto_region 12 with (first
   | (refine wpList_load_mid rfl 86 (.tmp 40) rfl b 0 rfl (ndP (n,l)) _ HRG1.out Tryz.underlying86 rfl (by kernel_rfl) ?_)
   | (refine wpList_store_row rfl 86 (.tmp 10) (.tmp 41) rfl w1.heap.size #[.bool n.leaf,.slice l.EA n.es.length l.ec,.slice l.KA n.ks.length l.kc,.slice l.DA n.ds.length l.dc] rfl rfl 86 _ (heap_alloc_new _ _) (by kernel_rfl) rfl (by simp [Value.oneCell']) ?_))
  obtain ⟨b10,hb10⟩:∃ b10,b10=w1.heap.size:=⟨_,rfl⟩
  obtain ⟨w2,hw2⟩:∃ w2,w2=(w1.alloc (.cells #[.bool false,.slice none 0 0,.slice none 0 0,.slice none 0 0] 86)).setRow b10 #[.bool n.leaf,.slice l.EA n.es.length l.ec,.slice l.KA n.ks.length l.kc,.slice l.DA n.ds.length l.dc]:=⟨_,rfl⟩
  have B12:Hid (Below w1.heap.size w1 w2):=Lib.hid (by rw [hw2,hb10];exact below_setRow (alloc_bel rfl) (Nat.le_refl _) _)
  have BW2:Hid (Below w.heap.size w w2):=Lib.hid (B1.out.trans (B12.out.mono B1.out.size))
  have HX2:Hid (w2.heap[b10]?=some (.cells #[.bool n.leaf,.slice l.EA n.es.length l.ec,.slice l.KA n.ks.length l.kc,.slice l.DA n.ds.length l.dc] 86 (0,0))):=Lib.hid (by rw [hw2];exact setRow_heap _ _ _ _ _ _ (by rw [hb10];exact heap_alloc_new _ _))
  have G62:=Lib.hid (row_stays G1.out B12.out)
  rw [← hb10,← hw2]
  clear hw2 hb10 HRG HRG1 G1 B12 B1
  try simp only [Act.put,List.setIfInBounds_toArray,List.set_cons_zero,List.set_cons_succ]
  go_loopw [2] (fun hv wr=>hv=.int .i64 ((h:Int)+1)∧Hid (wr=w2)) (fun hv _=>(intOf hv).toNat)
  case atStart=>exact ⟨rfl,Lib.hid rfl⟩
  case round =>
   obtain ⟨rfl,HR⟩:=hrel
   have G6:Hid (wr.heap[b6]?=some (.cells #[.int .i64 0,.int .i64 0] 43 (0,0))):=Lib.hid (by rw [HR.out];exact G62.out)
   have HBX:Hid (wr.heap[b10]?=some (.cells #[.bool false,.slice l.EA n.es.length l.ec,.slice l.KA n.ks.length l.kc,.slice l.DA n.ds.length l.dc] 86 (0,0))):=Lib.hid (by have h1:=HX2.out;rw [HLF.out] at h1;rw [HR.out];exact h1)
   have BR:Hid (Below w.heap.size w wr):=Lib.hid (by rw [HR.out];exact BW2.out)
   clear HR HX2 G62 BW2
   have z0:=nd_cell HBX.out 0 (.bool false) rfl
   have z1:=nd_cell HBX.out 1 (.slice l.EA n.es.length l.ec) rfl
   have z2:=nd_cell HBX.out 2 (.slice l.KA n.ks.length l.kc) rfl
   have z3:=nd_cell HBX.out 3 (.slice l.DA n.ds.length l.dc) rfl
   go_upto_region 18 with (first
    | (refine wpList_load_row rfl 86 (.tmp 10) rfl b10 rfl 86 _ (0,0) _ HBX.out Tryz.underlying86 rfl (by kernel_rfl) ?_)
    | (go_at_call 52;refine (HSZ.out _).mono ?_;rintro e x1 ⟨rfl,hb1⟩;have BSZ:=Lib.hid hb1;have HBZ:=Lib.hid (row_stays HBX.out hb1);have G61:=Lib.hid (row_stays G6.out hb1);have B1:=Lib.hid (BR.out.trans (hb1.mono BR.out.size));clear hb1))
   go_upto_region 19 with (first
    | (refine wpList_load_row rfl 86 (.tmp 10) rfl b10 rfl 86 _ (0,0) _ HBZ.out Tryz.underlying86 rfl (by kernel_rfl) ?_)
    | (go_at_call 54;refine (HLY.out _ B1.out).mono ?_;rintro e x2 ⟨rfl,⟨lv2,hc2⟩,ho2⟩;have C2:=Lib.hid hc2;have O2:=Lib.hid ho2;clear hc2 ho2))
   have S2:Hid (OutS gc B0 (fun _=>False) x1 x2):=Lib.hid (OutS.of_outT O2.out)
   have CX:=Lib.hid (HC.out.below B1.out)
   have GR2:Hid (x2.heap[b6]?=some (.cells #[.int .i64 0,.int .i64 0] 43 (0,0))):=Lib.hid (S2.out.typed CX.out.chg G61.out (by decide) (by decide) (fun h=>h))
   go_wp2_with (refine wpList_store_row rfl 43 (.tmp 6) (.tmp 82) rfl b6 #[.int .i64 (pa:Int),.int .i64 ((h:Int)+1)] rfl rfl 43 _ GR2.out (by kernel_rfl) rfl (by simp [Value.oneCell']) ?_)
   refine bodyPost_ret (v:=.tuple #[.agg #[.int .i64 (pa:Int),.int .i64 ((h:Int)+1)],.int .i64 0]) (results_cell_tmpB (p:=6) (u:=7) (ty:=43) rfl _ _ b6 43 _ (0,0) _ rfl (setRow_heap _ _ _ _ _ _ GR2.out) Tryz.underlying43 rfl (by kernel_rfl)) rfl ?_
   have KN:=KeptNot.of_setRow GR2.out #[.int .i64 (pa:Int),.int .i64 ((h:Int)+1)]
   have hw6:w.heap.size≤b6:=by have:=HB6.out;omega
   have s3:OutS gc B0 (fun _=>False) w x2:=(OutS.of_below B1.out).trans S2.out
   refine ⟨rfl,⟨lv2,KN.chg C2.out (by decide) (by decide)⟩,fun x hx=>?_,?_⟩
   ·have h1:OwnN x2 B0 x.2.1 x.2.2:=by
     rcases List.mem_append.1 hx with hx | hx
     ·exact S2.out.own CX.out.chg ((HL.out x hx).below B1.out) (fun _ _ h=>h)
     ·rw [List.mem_singleton.1 hx]
      exact S2.out.own CX.out.chg (HO.out.below B1.out) (fun _ _ h=>h)
    exact (own_kept KN h1 (by decide) (by decide) (by decide)).t
   ·exact ⟨s3.os,s3.tape,s3.output,by simpa using s3.size,fun k hk hg hX hT=>(setRow_other x2 b6 k _ (by omega)).trans (s3.block k hk hg hX hT)⟩
theorem top_full (gc h:Nat) (n:NodeD) (l:NdL) (hln:n.leaf=false) (hsz:n.size≠1) (A:Option Addr) (c:Nat) (w:World) (hA:ChAt w A [(n,l)])
 (htk:∀ W,Below w.heap.size w W→Calls Tryz.prog 81 #[.pointer (some ⟨gc,0,none⟩)] W fun e w'=>e=.returned (.tuple #[.int .i64 0,.int .i64 5])∧Below W.heap.size W w') :
 Calls Tryz.prog 30 #[.pointer (some ⟨gc,0,none⟩),.slice A 1 c,.int .i64 ((h:Int)+1)] w fun e w'=>e=.returned (.tuple #[.agg #[.int .i64 0,.int .i64 0],.int .i64 5])∧Below w.heap.size w w':=by
 have hc:True:=trivial
 have hL:True:=trivial
 have ho:True:=trivial
 have HLF:=Lib.hid hln
 have H1:=Lib.hid hsz
 have HC:=Lib.hid hc
 have HL:=Lib.hid hL
 have HO:=Lib.hid ho
 obtain ⟨b,cs,hAb,hbc,hcs⟩:=hA (by simp)
 subst hAb
 have HRG:Hid (w.rangeAt b 0 (ndP (n,l))):=Lib.hid (fun j u hu=>nd_cell hbc (0+j) u (hcs _ _ (by simpa using hu)))
 have HLY:Hid (∀ W,Below w.heap.size w W→Calls Tryz.prog 54 #[.pointer (some ⟨gc,0,none⟩),.agg #[.bool false,.slice l.EA n.es.length l.ec,.slice l.KA n.ks.length l.kc,.slice l.DA n.ds.length l.dc]] W fun e w'=>e=.returned (.tuple #[.int .i64 0,.int .i64 5])∧Below W.heap.size W w'):=Lib.hid (fun W hW=>by
  have h1:=lay_full gc (n,l) W (fun W2 hW2=>htk W2 (hW.trans (hW2.mono hW.size)))
  dsimp only at h1
  rw [HLF.out] at h1
  exact h1)
 have hs1:((n.size:Int) == 1)=false:=by have:=H1.out;simp;omega
 try clear hLL
 try clear hU hV
 clear hc hL ho hbc hcs hA htk hln hsz
 have HSZ:=Lib.hid (fun W=>size_any n l W)
 rw [HLF.out] at HSZ
 go_enter Tryz.func30,Tryz.ntmps30
 go_upto_region 1 with fail
 obtain ⟨w1,hw1⟩:∃ w1,w1=w.alloc (.cells #[.int .i64 0,.int .i64 0] 43):=⟨_,rfl⟩
 have B1:=Lib.hid (alloc_bel hw1)
 have G1:Hid (w1.heap[w.heap.size]?=some (.cells #[.int .i64 0,.int .i64 0] 43 (0,0))):=Lib.hid (by rw [hw1];exact heap_alloc_new _ _)
 obtain ⟨b6,hb6⟩:∃ b6,b6=w.heap.size:=⟨_,rfl⟩
 rw [← hb6] at G1
 rw [← hw1,← hb6]
 have HB6:=Lib.hid hb6
 clear hw1 hb6
 go_loopw [1,2] (fun vv hv wr=>vv=.slice (some ⟨b,0,none⟩) 1 c∧hv=.int .i64 ((h:Int)+1)∧w1=wr) (fun _ _ _=>0)
 case atStart=>exact ⟨rfl,rfl,rfl⟩
 case round =>
  obtain ⟨rfl,rfl,rfl⟩:=hrel
  have HRG1:Hid (w1.rangeAt b 0 (ndP (n,l))):=Lib.hid (fun j u hu=>(B1.out.cell (World.block_lt_of_cell? _ _ (HRG.out j u hu))).trans (HRG.out j u hu))
  go_upto_region 12 with (first
   | (refine wpList_load_mid rfl 86 (.tmp 40) rfl b 0 rfl (ndP (n,l)) _ HRG1.out Tryz.underlying86 rfl (by kernel_rfl) ?_)
   | (refine wpList_store_row rfl 86 (.tmp 10) (.tmp 41) rfl w1.heap.size #[.bool n.leaf,.slice l.EA n.es.length l.ec,.slice l.KA n.ks.length l.kc,.slice l.DA n.ds.length l.dc] rfl rfl 86 _ (heap_alloc_new _ _) (by kernel_rfl) rfl (by simp [Value.oneCell']) ?_))
  obtain ⟨b10,hb10⟩:∃ b10,b10=w1.heap.size:=⟨_,rfl⟩
  obtain ⟨w2,hw2⟩:∃ w2,w2=(w1.alloc (.cells #[.bool false,.slice none 0 0,.slice none 0 0,.slice none 0 0] 86)).setRow b10 #[.bool n.leaf,.slice l.EA n.es.length l.ec,.slice l.KA n.ks.length l.kc,.slice l.DA n.ds.length l.dc]:=⟨_,rfl⟩
  have B12:Hid (Below w1.heap.size w1 w2):=Lib.hid (by rw [hw2,hb10];exact below_setRow (alloc_bel rfl) (Nat.le_refl _) _)
  have BW2:Hid (Below w.heap.size w w2):=Lib.hid (B1.out.trans (B12.out.mono B1.out.size))
  have HX2:Hid (w2.heap[b10]?=some (.cells #[.bool n.leaf,.slice l.EA n.es.length l.ec,.slice l.KA n.ks.length l.kc,.slice l.DA n.ds.length l.dc] 86 (0,0))):=Lib.hid (by rw [hw2];exact setRow_heap _ _ _ _ _ _ (by rw [hb10];exact heap_alloc_new _ _))
  have G62:=Lib.hid (row_stays G1.out B12.out)
  rw [← hb10,← hw2]
  clear hw2 hb10 HRG HRG1 G1 B12 B1
  try simp only [Act.put,List.setIfInBounds_toArray,List.set_cons_zero,List.set_cons_succ]
  go_loopw [2] (fun hv wr=>hv=.int .i64 ((h:Int)+1)∧Hid (wr=w2)) (fun hv _=>(intOf hv).toNat)
  case atStart=>exact ⟨rfl,Lib.hid rfl⟩
  case round =>
   obtain ⟨rfl,HR⟩:=hrel
   have G6:Hid (wr.heap[b6]?=some (.cells #[.int .i64 0,.int .i64 0] 43 (0,0))):=Lib.hid (by rw [HR.out];exact G62.out)
   have HBX:Hid (wr.heap[b10]?=some (.cells #[.bool false,.slice l.EA n.es.length l.ec,.slice l.KA n.ks.length l.kc,.slice l.DA n.ds.length l.dc] 86 (0,0))):=Lib.hid (by have h1:=HX2.out;rw [HLF.out] at h1;rw [HR.out];exact h1)
   have BR:Hid (Below w.heap.size w wr):=Lib.hid (by rw [HR.out];exact BW2.out)
   clear HR HX2 G62 BW2
   have z0:=nd_cell HBX.out 0 (.bool false) rfl
   have z1:=nd_cell HBX.out 1 (.slice l.EA n.es.length l.ec) rfl
   have z2:=nd_cell HBX.out 2 (.slice l.KA n.ks.length l.kc) rfl
   have z3:=nd_cell HBX.out 3 (.slice l.DA n.ds.length l.dc) rfl
   go_upto_region 18 with (first
    | (refine wpList_load_row rfl 86 (.tmp 10) rfl b10 rfl 86 _ (0,0) _ HBX.out Tryz.underlying86 rfl (by kernel_rfl) ?_)
    | (go_at_call 52;refine (HSZ.out _).mono ?_;rintro e x1 ⟨rfl,hb1⟩;have BSZ:=Lib.hid hb1;have HBZ:=Lib.hid (row_stays HBX.out hb1);have G61:=Lib.hid (row_stays G6.out hb1);have B1:=Lib.hid (BR.out.trans (hb1.mono BR.out.size));clear hb1))
   have G62:Hid (∀ W,Below x1.heap.size x1 W→W.heap[b6]?=some (.cells #[.int .i64 0,.int .i64 0] 43 (0,0))):=Lib.hid (fun W hW=>row_stays G61.out hW)
   go_wp2_with (first
    | (refine wpList_load_row rfl 86 (.tmp 10) rfl b10 rfl 86 _ (0,0) _ HBZ.out Tryz.underlying86 rfl (by kernel_rfl) ?_)
    | (go_at_call 54;refine (HLY.out _ B1.out).mono ?_;rintro e x2 ⟨rfl,hb2⟩;have B2:=Lib.hid (B1.out.trans (hb2.mono B1.out.size));have GR2:=Lib.hid (G62.out _ hb2);clear hb2)
    | (refine wpList_store_row rfl 43 (.tmp 6) (.tmp 78) rfl b6 #[.int .i64 0,.int .i64 0] rfl rfl 43 _ GR2.out (by kernel_rfl) rfl (by simp [Value.oneCell']) ?_))
   refine bodyPost_ret (v:=.tuple #[.agg #[.int .i64 0,.int .i64 0],.int .i64 5]) (results_cell_tmpB (p:=6) (u:=7) (ty:=43) rfl _ _ b6 43 _ (0,0) _ rfl (setRow_heap _ _ _ _ _ _ GR2.out) Tryz.underlying43 rfl (by kernel_rfl)) rfl ⟨rfl,?_⟩
   exact below_setRow B2.out (by have:=HB6.out;omega) _
theorem done_no (a h:Int) (gc:Nat) (w:World) :
 Calls Tryz.prog 29 #[.pointer (some ⟨gc,0,none⟩),.agg #[.int .i64 a,.int .i64 h],.int .i64 5] w fun e w'=>e=.returned (.tuple #[.agg #[.int .i64 0,.int .i64 0],.int .i64 5])∧Below w.heap.size w w':=by
 go_enter Tryz.func29,Tryz.ntmps29
 go_upto_region 3 with fail
 obtain ⟨w2,hw2⟩:∃ w2,w2=(w.alloc (.cells #[.int .i64 a,.int .i64 h] 43)).alloc (.cells #[.int .i64 0,.int .i64 0] 43):=⟨_,rfl⟩
 have B2:Hid (Below w.heap.size w w2):=Lib.hid (by rw [hw2];exact ((Below.refl _ _).alloc (Nat.le_refl _) _).alloc (by simp) _)
 have G6:Hid (w2.heap[w.heap.size+1]?=some (.cells #[.int .i64 0,.int .i64 0] 43 (0,0))):=Lib.hid (by rw [hw2,show w.heap.size+1=(w.alloc (.cells #[.int .i64 a,.int .i64 h] 43)).heap.size by simp];exact heap_alloc_new _ _)
 rw [← hw2]
 clear hw2
 go_wp2_with (first
  | (refine wpList_store_row rfl 43 (.tmp 6) (.tmp 14) rfl (w.heap.size+1) #[.int .i64 0,.int .i64 0] rfl rfl 43 _ G6.out (by kernel_rfl) rfl (by simp [Value.oneCell']) ?_))
 refine bodyPost_ret (v:=.tuple #[.agg #[.int .i64 0,.int .i64 0],.int .i64 5]) (results_cell_tmpB (p:=6) (u:=7) (ty:=43) rfl _ _ (w.heap.size+1) 43 _ (0,0) _ rfl (setRow_heap _ _ _ _ _ _ G6.out) Tryz.underlying43 rfl (by kernel_rfl)) rfl ⟨rfl,?_⟩
 exact below_setRow B2.out (Nat.le_succ _) _
def TakN (gc gv g gen p:Nat) (Uv Vv V U:List Bool):Prop:=∀ (lv':Value) (W:World),ChgAt W gc gv (p:Int) U V lv'→ViewAt W gv g gen (p:Int) Uv Vv→Calls Tryz.prog 81 #[.pointer (some ⟨gc,0,none⟩)] W fun e w'=>e=.returned (.tuple #[.int .i64 0,.int .i64 5])∧Below W.heap.size W w'
theorem TakS.first {gc gv g gen p t:Nat} {Uv Vv V U:List Bool} {qs:List Nat} (h:TakS gc gv g gen p Uv Vv V U (qs ++ [t])):TakS gc gv g gen p Uv Vv V U qs:=fun k a lv' W hk hc hv=>by
 have hkl:=(List.getElem?_eq_some_iff.1 hk).1
 have e1:(qs ++ [t]).take k=qs.take k:=List.take_append_of_le_length (by omega)
 have h1:=h k a lv' W (by rw [List.getElem?_append_left hkl];exact hk) (by rw [e1];exact hc) hv
 rw [e1] at h1
 exact h1
theorem TakS.last {gc gv g gen p t:Nat} {Uv Vv V U:List Bool} {qs:List Nat} (h:TakS gc gv g gen p Uv Vv V U (qs ++ [t])) (lv':Value) (W:World) (hc:ChgAt W gc gv (p:Int) (marks U qs) V lv') (hv:ViewAt W gv g gen (p:Int) Uv Vv):Calls Tryz.prog 81 #[.pointer (some ⟨gc,0,none⟩)] W fun e w'=>e=.returned (.tuple #[.int .i64 (t:Int),.int .i64 0])∧ChgAt w' gc gv (p:Int) (markN (marks U qs) t true 1) V lv'∧OuterX (fun k=>k=gc) W w':=by
 have e1:(qs ++ [t]).take qs.length=qs:=List.take_left
 have h1:=h qs.length t lv' W (by rw [List.getElem?_append_right (Nat.le_refl _)];simp) (by rw [e1];exact hc) hv
 rw [e1] at h1
 exact h1
theorem RoomP.mark {p:Nat} {V U:List Bool} {n a:Nat} (h:RoomP p V U (n+1)) (ha:a<U.length):RoomP p V (markN U a true 1) n:=by
 obtain ⟨qs,h1,h2,h3⟩:=h
 obtain ⟨x,t,rfl⟩:∃ x t,qs=x :: t:=by
  cases qs with
  | nil=>simp at h1
  | cons x t=>exact ⟨x,t,rfl⟩
 have hfit:∀ y,y≠a→fits p U V 1 y→fits p (markN U a true 1) V 1 y:=fun y hy hf=>by
  obtain ⟨k1,k2,k3⟩:=fits_one.1 hf
  refine fits_one.2 ⟨k1,?_,k3⟩
  rw [getD_mark1 ha,if_neg hy]
  exact k2
 by_cases hm:a ∈ x :: t
 ·refine ⟨(x :: t).erase a,?_,h2.erase a,fun y hy=>?_⟩
  ·rw [List.length_erase_of_mem hm,h1,Nat.add_sub_cancel]
  ·have hy2:=(List.Nodup.mem_erase_iff h2).1 hy
   exact hfit y hy2.1 (h3 y hy2.2)
 ·refine ⟨t,by simpa using h1,(List.nodup_cons.1 h2).2,fun y hy=>hfit y (fun e=>hm (by rw [← e];exact List.mem_cons_of_mem _ hy)) (h3 y (List.mem_cons_of_mem _ hy))⟩
theorem tak_one (gv g gen p:Nat) (U V Uv O:List Bool) (hU:U.length=512) (hV:V.length=512) (hUv:Uv.length=512) (hO:O.length=512) (okU:okM (p:Int) U) (okV:okM (p:Int) V) (okO:okM (p:Int) O) (hVO:∀ b,b<p→V.getD b false=false→O.getD b false=false) (hf:∃ b,fits p U O 1 b) :
 ∃ a,fits p U O 1 a∧∀ (gc:Nat) (lv:Value) (W:World),ChgAt W gc gv (p:Int) U V lv→ViewAt W gv g gen (p:Int) Uv O→Calls Tryz.prog 81 #[.pointer (some ⟨gc,0,none⟩)] W fun e w'=>e=.returned (.tuple #[.int .i64 (a:Int),.int .i64 0])∧ChgAt w' gc gv (p:Int) (markN U a true 1) V lv∧OuterX (fun k=>k=gc) W w':=by
 by_cases h1:∃ b,fits p U V 1 b
 ·obtain ⟨b,hb⟩:=h1
  obtain ⟨a,ha,hl⟩:=least_at (P:=fun a=>fits p U V 1 a) b hb
  obtain ⟨k1,k2,k3⟩:=fits_one.1 ha
  exact ⟨a,fits_one.2 ⟨k1,k2,hVO a (by omega) k3⟩,fun gc lv W hc hv=>take_yes gc gv p U V lv hU hV okU okV a ha hl W hc⟩
 ·obtain ⟨b,hb⟩:=hf
  obtain ⟨a,ha,hl⟩:=least_at (P:=fun a=>fits p U O 1 a) b hb
  exact ⟨a,ha,fun gc lv W hc hv=>take_back gc gv g gen p U V Uv O lv hU hV hUv hO okU okV okO (fun b hb=>h1 ⟨b,hb⟩) a ha hl W hc hv⟩
theorem tak_none (gc gv g gen p:Nat) (U V Uv O:List Bool) (hU:U.length=512) (hV:V.length=512) (hUv:Uv.length=512) (hO:O.length=512) (okU:okM (p:Int) U) (okV:okM (p:Int) V) (okO:okM (p:Int) O) (hVO:∀ b,b<p→V.getD b false=false→O.getD b false=false) (hf:∀ b,¬ fits p U O 1 b):TakN gc gv g gen p Uv O V U:=fun lv W hc hv =>
 take_full gc gv g gen p U V Uv O lv hU hV hUv hO okU okV okO (fun a ha=>by
  obtain ⟨k1,k2,k3⟩:=fits_one.1 ha
  exact hf a (fits_one.2 ⟨k1,k2,hVO a (by omega) k3⟩)) hf W hc hv
theorem tak_many (gv g gen p:Nat) (V Uv O:List Bool) (hV:V.length=512) (hUv:Uv.length=512) (hO:O.length=512) (okV:okM (p:Int) V) (okO:okM (p:Int) O) (hVO:∀ b,b<p→V.getD b false=false→O.getD b false=false):∀ (n:Nat) (U:List Bool),U.length=512→okM (p:Int) U→RoomP p O U n →
 ∃ qs,qs.length=n∧qs.Nodup∧(∀ q ∈ qs,fits p U O 1 q)∧okM (p:Int) (marks U qs)∧∀ gc,TakS gc gv g gen p Uv O V U qs
 | 0,U,hU,okU,_=>⟨[],rfl,List.nodup_nil,(fun q hq=>by cases hq),okU,(fun gc k a lv' W hk=>by simp at hk)⟩
 | n+1,U,hU,okU,hr=>by
   have hp5:p≤512:=by have:=okU.2.1;omega
   obtain ⟨a,ha,htk⟩:=tak_one gv g gen p U V Uv O hU hV hUv hO okU okV okO hVO (by
    obtain ⟨qs,h1,_,h3⟩:=hr
    cases qs with
    | nil=>simp at h1
    | cons x t=>exact ⟨x,h3 x (List.mem_cons_self ..)⟩)
   obtain ⟨k1,k2,k3⟩:=fits_one.1 ha
   obtain ⟨qs,q1,q2,q3,q4,q5⟩:=tak_many gv g gen p V Uv O hV hUv hO okV okO hVO n (markN U a true 1) (by rw [length_markN];exact hU) (okM_mark okU hU k1) (hr.mark (by omega))
   have hne:∀ q ∈ qs,q≠a∧fits p U O 1 q:=fun q hq=>by
    obtain ⟨j1,j2,j3⟩:=fits_one.1 (q3 q hq)
    rw [getD_mark1 (by omega)] at j2
    by_cases h:q=a
    ·rw [if_pos h] at j2
     cases j2
    ·rw [if_neg h] at j2
     exact ⟨h,fits_one.2 ⟨j1,j2,j3⟩⟩
   refine ⟨a :: qs,by simp [q1],List.nodup_cons.2 ⟨fun h=>(hne a h).1 rfl,q2⟩,fun q hq=>?_,by rw [marks_cons];exact q4,fun gc k b lv' W hk hc hv=>?_⟩
   ·rcases List.mem_cons.1 hq with rfl | hq
    ·exact ha
    ·exact (hne q hq).2
   ·cases k with
    | zero =>
      obtain rfl:a=b:=by simpa using hk
      exact htk gc lv' W hc hv
    | succ k =>
      have h1:=q5 gc k b lv' W (by simpa using hk) (by simpa [marks_cons] using hc) hv
      simpa [marks_cons] using h1
end Go.Proofs.YtgkddhncfaeidaaGreat
