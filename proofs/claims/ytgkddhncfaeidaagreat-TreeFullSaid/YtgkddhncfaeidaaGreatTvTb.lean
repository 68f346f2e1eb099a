/- Squeezed: the texts as they are written lie in wip/tpl. -/
import Derived.Test.YtgkddhncfaeidaaGreatPart20
import Derived.Test.YtgkddhncfaeidaaGreatPart21
set_option maxRecDepth 100000
set_option maxHeartbeats 4000000
set_option linter.unnecessarySimpa false
set_option linter.unusedSimpArgs false
set_option linter.unusedVariables false
namespace Go.Proofs.YtgkddhncfaeidaaGreat
open Go.RowKit Go.ChangeShapes Go.WideShapes Go.ChangeAt CrcM PageM
theorem take_back (gc gv g gen p:Nat) (U V Uv O:List Bool) (lv:Value) (hU:U.length=512) (hV:V.length=512) (hUv:Uv.length=512) (hO:O.length=512) (okU:okM (p:Int) U) (okV:okM (p:Int) V) (okO:okM (p:Int) O) (hn:∀ a,¬ fits p U V 1 a) (a:Nat) (hf:fits p U O 1 a) (hl:∀ a',a'<a→¬ fits p U O 1 a') (w:World) (h:ChgAt w gc gv (p:Int) U V lv) (hv:ViewAt w gv g gen (p:Int) Uv O) :
 Calls Tryz.prog 81 #[.pointer (some ⟨gc,0,none⟩)] w fun e w'=>e=.returned (.tuple #[.int .i64 (a:Int),.int .i64 0])∧ChgAt w' gc gv (p:Int) (markN U a true 1) V lv∧OuterX (fun k=>k=gc) w w':=by
 have HF:=Lib.hid hf
 have HL:=Lib.hid hl
 obtain ⟨U',hU'⟩:∃ U',U'=markN U a true 1:=⟨_,rfl⟩
 have HU':Hid (U'.length=512):=Lib.hid (by rw [hU',length_markN];exact hU)
 rw [← hU']
 have HT2:Hid (∀ W:World,Calls Tryz.prog 120 #[.agg (mapL (p:Int) U).toArray,.agg (mapL (p:Int) O).toArray,.int .i64 1] W fun e w'=>e=.returned (.tuple #[.agg (mapC (p:Int) U'),.int .i64 (a:Int),.int .i64 0])∧Below W.heap.size W w'):=Lib.hid (fun W=>by
  refine (take_bm p U O hU hO okU okO 1 (by decide) W _ _ (mapL_arr _ _) (mapL_arr _ _)).mono ?_
  rintro e w' ⟨⟨b,hb,hbl,rfl⟩ | ⟨hn,_⟩,hbw⟩
  ·have hab:b=a:=by
    rcases Nat.lt_trichotomy b a with h1 | h1 | h1
    ·exact absurd hb (hl b h1)
    ·exact h1
    ·exact absurd hf (hbl a h1)
   subst hab
   rw [hU']
   exact ⟨rfl,hbw⟩
  ·exact absurd hf (hn a))
 clear hU'
 obtain ⟨C,hC⟩:∃ C,C=mapC (p:Int) U':=⟨_,rfl⟩
 have HC1:Hid (C.size=513):=Lib.hid (by rw [hC];exact size_mapC HU'.out)
 have HC2:Hid (C.all (·.oneCell')=true):=Lib.hid (by rw [hC];exact one_mapC _ _)
 have HCL:Hid (C.toList=mapL (p:Int) U'):=Lib.hid (by rw [hC];rfl)
 rw [← hC] at HT2
 clear hC
 have H:=Lib.hid h
 have HVW:=Lib.hid hv
 have HU:=Lib.hid hU
 have HV:=Lib.hid hV
 have HUV:=Lib.hid hUv
 have HO:=Lib.hid hO
 have HT:Hid (∀ W:World,Calls Tryz.prog 120 #[.agg (mapL (p:Int) U).toArray,.agg (mapL (p:Int) V).toArray,.int .i64 1] W fun e w'=>e=.returned (.tuple #[.agg Tryz.zeroCells62,.int .i64 0,.int .i64 5])∧Below W.heap.size W w'):=Lib.hid (fun W=>by
  refine (take_bm p U V hU hV okU okV 1 (by decide) W _ _ (mapL_arr _ _) (mapL_arr _ _)).mono ?_
  rintro e w' ⟨⟨b,hb,hbl,rfl⟩ | ⟨_,rfl⟩,hbw⟩
  ·exact absurd hb (hn b)
  ·exact ⟨rfl,hbw⟩)
 clear h hv hU hV hUv hO okU okV okO hn hf
 try clear hl
 obtain ⟨Z,hZ⟩:∃ Z,Z=Tryz.zeroCells62:=⟨_,rfl⟩
 have HZ1:Hid (Z.size=513):=Lib.hid (by rw [hZ];exact size_zeroMap)
 have HZ2:Hid (Z.all (·.oneCell')=true):=Lib.hid (by rw [hZ,zeroMap];exact one_mapC _ _)
 rw [← hZ] at HT
 clear hZ
 go_enter Tryz.func81,Tryz.ntmps81
 go_upto_region 1 with fail
 have g1:∀ y:SubW w.heap.size w,y.at_.rangeAt gc 1 (mapL (p:Int) U):=fun y=>(H.out.below y.ok_).cm
 have g2:∀ y:SubW w.heap.size w,y.at_.rangeAt gc 514 (mapL (p:Int) V):=fun y=>(H.out.below y.ok_).cb HU.out
 refine region_ways4 w.heap.size (Nat.le_refl _) (.two [0,1,2,3,4,5,6,7] 8 (.one [9,10,11,12] 13 (.one [] 14 (.done [15,16]))) 13 (.one [] 8 (.one [9,10,11,12] 14 (.done [15,16])))) (by kernel_rfl) (by kernel_rfl) ?_
 rintro wd hbd
 have B0:=Lib.hid hbd
 clear hbd
 rw [wpWays_two4]
 try simp only [List.map_cons,List.map_nil,opAt,List.getElem?_toArray,List.getElem?_cons_zero,List.getElem?_cons_succ,Option.getD_some]
 repeat (first
  | (go_big_quiet_want;refine quiet_load_mid 62 (.tmp 10) rfl gc 1 rfl (mapL (p:Int) U) _ g1 Tryz.underlying62 rfl (infoMapL _ HU.out) ?_;simp only [Act.put,List.setIfInBounds_toArray,List.set_cons_zero,List.set_cons_succ];go_big_quiet_on)
  | (go_big_quiet_want;refine quiet_load_mid 62 (.tmp 14) rfl gc 514 rfl (mapL (p:Int) V) _ g2 Tryz.underlying62 rfl (infoMapL _ HV.out) ?_;simp only [Act.put,List.setIfInBounds_toArray,List.set_cons_zero,List.set_cons_succ];go_big_quiet_on)
  | go_big_quiet_step (fail))
 clear g1 g2
 refine wpQuiet_nil ⟨?_,?_⟩
 ·go_wp2_with (go_at_call 120;refine (HT.out _).mono ?_;rintro e x1 ⟨rfl,hb1⟩;have B1:=Lib.hid (B0.out.trans (hb1.mono B0.out.size));clear hb1)
  refine ⟨⟨⟨_,B1.out⟩,rfl⟩,?_⟩
  try simp only [Act.put,List.setIfInBounds_toArray,List.set_cons_zero,List.set_cons_succ]
  rw [wpWays_one4]
  try simp only [List.map_cons,List.map_nil,opAt,List.getElem?_toArray,List.getElem?_cons_zero,List.getElem?_cons_succ,Option.getD_some]
  repeat (first
   | go_big_quiet_step (fail))
  refine wpQuiet_nil ?_
  go_wp2_with fail
  obtain ⟨gb,hgb⟩:∃ gb,gb=x1.heap.size:=⟨_,rfl⟩
  obtain ⟨x2,hx2⟩:∃ x2,x2=x1.alloc (.cells (Tryz.zeroCells62) 62):=⟨_,rfl⟩
  have G2:Hid (x2.heap[gb]?=some (.cells (Tryz.zeroCells62) 62 (0,0))):=Lib.hid (by rw [hx2,hgb];exact heap_alloc_new _ _)
  have B2:=Lib.hid (B1.out.trans ((alloc_bel hx2).mono B1.out.size))
  have L2:Hid (w.heap.size≤gb):=Lib.hid (by rw [hgb];exact B1.out.size)
  rw [← hx2,← hgb]
  clear hx2 hgb
  refine ⟨⟨⟨_,B2.out⟩,rfl⟩,?_⟩
  try simp only [Act.put,List.setIfInBounds_toArray,List.set_cons_zero,List.set_cons_succ]
  rw [wpWays_one4]
  try simp only [List.map_cons,List.map_nil,opAt,List.getElem?_toArray,List.getElem?_cons_zero,List.getElem?_cons_succ,Option.getD_some]
  refine wpQuiet_nil ?_
  go_wp2_with (refine wpList_store_row rfl 62 (.tmp 4) (.tmp 17) rfl gb Z rfl rfl 62 _ G2.out (by rw [HZ1.out];exact infoMap) (by rw [HZ1.out];exact size_zeroMap) HZ2.out ?_)
  have B3:=Lib.hid (below_setRow B2.out L2.out Z)
  have G3:=Lib.hid (setRow_heap _ gb _ Z _ _ G2.out)
  refine ⟨⟨⟨_,B3.out⟩,rfl⟩,?_⟩
  try simp only [Act.put,List.setIfInBounds_toArray,List.set_cons_zero,List.set_cons_succ]
  rw [wpWays_done4]
  try simp only [List.map_cons,List.map_nil,opAt,List.getElem?_toArray,List.getElem?_cons_zero,List.getElem?_cons_succ,Option.getD_some]
  repeat (first
   | go_big_quiet_step (fail))
  refine wpQuiet_nil ?_
  obtain ⟨x5,hx5⟩:∃ x5,x5=World.setRow x2 gb Z:=⟨_,rfl⟩
  rw [← hx5] at B3 G3 ⊢
  clear hx5
  have HCG:=Lib.hid (H.out.below B3.out)
  have HVG:=Lib.hid (HVW.out.below B3.out)
  go_upto_region 3 with fail
  have NC:Hid (gc≠gb):=Lib.hid (by have:=H.out.lt;have:=L2.out;omega)
  have NV:Hid (gv≠gb):=Lib.hid (by
   have h1:=HVW.out
   have h2:=(Array.getElem?_eq_some_iff.1 h1).1
   have:=L2.out
   omega)
  have g1:∀ y:SubX (fun q=>q=gb) x5,y.at_.rangeAt gc 1 (mapL (p:Int) U):=fun y=>(HCG.out.keep (y.ok_.block gc HCG.out.lt NC.out)).cm
  have g3:∀ y:SubX (fun q=>q=gb) x5,y.at_.rangeAt gv 771 (mapL (p:Int) O):=fun y=>(HVG.out.keep (y.ok_.block gv (Array.getElem?_eq_some_iff.1 HVG.out).1 NV.out)).co HUV.out
  have g4:∀ y:SubX (fun q=>q=gb) x5,y.at_.cell? ⟨gc,0,none⟩=some (.pointer (some ⟨gv,0,none⟩)):=fun y=>(HCG.out.keep (y.ok_.block gc HCG.out.lt NC.out)).cv
  refine region_waysX 18 (fun q=>q=gb) (.one [0,1,2,3,4,5,6,7,8,9,10] 11 (.one [12,13,14,15] 16 (.done [17]))) (by kernel_rfl) (by kernel_rfl) ?_
  rintro we hbd
  have BD:=Lib.hid hbd
  clear hbd
  rw [wpWaysT_one]
  try simp only [List.map_cons,List.map_nil,opAt,List.getElem?_toArray,List.getElem?_cons_zero,List.getElem?_cons_succ,Option.getD_some]
  repeat (first
   | (go_big_quiet_want;refine quietX_load_mid 62 (.tmp 25) rfl gc 1 rfl (mapL (p:Int) U) _ g1 Tryz.underlying62 rfl (infoMapL _ HU.out) ?_;simp only [Act.put,List.setIfInBounds_toArray,List.set_cons_zero,List.set_cons_succ];go_big_quiet_on)
   | (go_big_quiet_want;refine quietX_load_mid 62 (.tmp 32) rfl gv 771 rfl (mapL (p:Int) O) _ g3 Tryz.underlying62 rfl (infoMapL _ HO.out) ?_;simp only [Act.put,List.setIfInBounds_toArray,List.set_cons_zero,List.set_cons_succ];go_big_quiet_on)
   | go_big_quiet_step (fail))
  clear g1 g3 g4
  refine wpQuiet_nil ?_
  go_wp2_with (go_at_call 120;refine (HT2.out _).mono ?_;rintro e x6 ⟨rfl,hb1⟩;have O6:=Lib.hid (BD.out.trans (hb1.mono BD.out.size));have BY:=Lib.hid (B3.out.trans (O6.out.mono B3.out.size));have GY:=Lib.hid (row_stays G3.out O6.out);clear hb1)
  refine ⟨⟨⟨_,outerX_of_below O6.out⟩,rfl⟩,?_⟩
  try simp only [Act.put,List.setIfInBounds_toArray,List.set_cons_zero,List.set_cons_succ]
  rw [wpWaysT_one]
  try simp only [List.map_cons,List.map_nil,opAt,List.getElem?_toArray,List.getElem?_cons_zero,List.getElem?_cons_succ,Option.getD_some]
  repeat (first
   | go_big_quiet_step (fail))
  refine wpQuiet_nil ?_
  go_wp2_with (refine wpList_store_row rfl 62 (.tmp 4) (.tmp 35) rfl gb C rfl rfl 62 _ GY.out (by rw [HC1.out];exact infoMap) (by rw [HC1.out];exact HZ1.out) HC2.out ?_)
  have B8:=Lib.hid (below_setRow BY.out L2.out C)
  have G8:=Lib.hid (setRow_heap _ gb _ C _ _ GY.out)
  have OO:OuterX (fun q=>q=gb) x5 (World.setRow x6 gb C):=⟨O6.out.os,O6.out.tape,O6.out.output,(by simpa using O6.out.size),fun q hq hx=>(setRow_other _ gb q _ hx).trans (O6.out.block q hq)⟩
  refine ⟨⟨⟨_,OO⟩,rfl⟩,?_⟩
  clear OO
  try simp only [Act.put,List.setIfInBounds_toArray,List.set_cons_zero,List.set_cons_succ]
  rw [wpWaysT_done]
  simp only [List.map_cons,List.map_nil,List.drop_succ_cons,List.drop_zero,opAt,List.getElem?_toArray,List.getElem?_cons_zero,List.getElem?_cons_succ,Option.getD_some]
  repeat (first
   | go_big_quiet_step (fail))
  refine wpQuiet_nil ?_
  go_upto_region 4 with fail
  obtain ⟨x9,hx9⟩:∃ x9,x9=World.setRow x6 gb C:=⟨_,rfl⟩
  rw [← hx9] at B8 G8 ⊢
  clear hx9
  have HCH:=Lib.hid (H.out.below B8.out)
  have HTH:Hid (x9.there gc 1 C.size):=Lib.hid (HCH.out.thM HU.out HV.out _ HC1.out)
  go_wp2_with (first
   | (refine wpList_load_row rfl 62 (.tmp 4) rfl gb rfl 62 C (0,0) _ G8.out Tryz.underlying62 rfl (by rw [HC1.out];exact infoMap) ?_)
   | (refine wpList_store_mid rfl 62 (.tmp 44) (.tmp 42) rfl gc 1 C rfl rfl HTH.out (by rw [HC1.out];exact infoMap) HC2.out ?_))
  go_ret2
  refine ⟨rfl,?_,?_⟩
  ·rw [HCL.out]
   exact HCH.out.setM (by rw [HU'.out,HU.out])
  ·exact (outerX_of_below B8.out).grown (grown_setCells gc _ _ _) (fun k hk=>.inl (by cases hk;rfl))
 ·go_wp2_with fail
  obtain ⟨gb,hgb⟩:∃ gb,gb=wd.heap.size:=⟨_,rfl⟩
  obtain ⟨x2,hx2⟩:∃ x2,x2=wd.alloc (.cells (Tryz.zeroCells62) 62):=⟨_,rfl⟩
  have G1:Hid (x2.heap[gb]?=some (.cells (Tryz.zeroCells62) 62 (0,0))):=Lib.hid (by rw [hx2,hgb];exact heap_alloc_new _ _)
  have B1:=Lib.hid (B0.out.trans ((alloc_bel hx2).mono B0.out.size))
  have L2:Hid (w.heap.size≤gb):=Lib.hid (by rw [hgb];exact B0.out.size)
  rw [← hx2,← hgb]
  clear hx2 hgb
  refine ⟨⟨⟨_,B1.out⟩,rfl⟩,?_⟩
  try simp only [Act.put,List.setIfInBounds_toArray,List.set_cons_zero,List.set_cons_succ]
  rw [wpWays_one4]
  try simp only [List.map_cons,List.map_nil,opAt,List.getElem?_toArray,List.getElem?_cons_zero,List.getElem?_cons_succ,Option.getD_some]
  refine wpQuiet_nil ?_
  go_wp2_with (go_at_call 120;refine (HT.out _).mono ?_;rintro e x3 ⟨rfl,hb1⟩;have B2:=Lib.hid (B1.out.trans (hb1.mono B1.out.size));have G2:=Lib.hid (row_stays G1.out hb1);clear hb1)
  refine ⟨⟨⟨_,B2.out⟩,rfl⟩,?_⟩
  try simp only [Act.put,List.setIfInBounds_toArray,List.set_cons_zero,List.set_cons_succ]
  rw [wpWays_one4]
  try simp only [List.map_cons,List.map_nil,opAt,List.getElem?_toArray,List.getElem?_cons_zero,List.getElem?_cons_succ,Option.getD_some]
  repeat (first
   | go_big_quiet_step (fail))
  refine wpQuiet_nil ?_
  go_wp2_with (refine wpList_store_row rfl 62 (.tmp 4) (.tmp 17) rfl gb Z rfl rfl 62 _ G2.out (by rw [HZ1.out];exact infoMap) (by rw [HZ1.out];exact size_zeroMap) HZ2.out ?_)
  have B3:=Lib.hid (below_setRow B2.out L2.out Z)
  have G3:=Lib.hid (setRow_heap _ gb _ Z _ _ G2.out)
  refine ⟨⟨⟨_,B3.out⟩,rfl⟩,?_⟩
  try simp only [Act.put,List.setIfInBounds_toArray,List.set_cons_zero,List.set_cons_succ]
  rw [wpWays_done4]
  try simp only [List.map_cons,List.map_nil,opAt,List.getElem?_toArray,List.getElem?_cons_zero,List.getElem?_cons_succ,Option.getD_some]
  repeat (first
   | go_big_quiet_step (fail))
  refine wpQuiet_nil ?_
  obtain ⟨x5,hx5⟩:∃ x5,x5=World.setRow x3 gb Z:=⟨_,rfl⟩
  rw [← hx5] at B3 G3 ⊢
  clear hx5
  have HCG:=Lib.hid (H.out.below B3.out)
  have HVG:=Lib.hid (HVW.out.below B3.out)
  go_upto_region 3 with fail
  have NC:Hid (gc≠gb):=Lib.hid (by have:=H.out.lt;have:=L2.out;omega)
  have NV:Hid (gv≠gb):=Lib.hid (by
   have h1:=HVW.out
   have h2:=(Array.getElem?_eq_some_iff.1 h1).1
   have:=L2.out
   omega)
  have g1:∀ y:SubX (fun q=>q=gb) x5,y.at_.rangeAt gc 1 (mapL (p:Int) U):=fun y=>(HCG.out.keep (y.ok_.block gc HCG.out.lt NC.out)).cm
  have g3:∀ y:SubX (fun q=>q=gb) x5,y.at_.rangeAt gv 771 (mapL (p:Int) O):=fun y=>(HVG.out.keep (y.ok_.block gv (Array.getElem?_eq_some_iff.1 HVG.out).1 NV.out)).co HUV.out
  have g4:∀ y:SubX (fun q=>q=gb) x5,y.at_.cell? ⟨gc,0,none⟩=some (.pointer (some ⟨gv,0,none⟩)):=fun y=>(HCG.out.keep (y.ok_.block gc HCG.out.lt NC.out)).cv
  refine region_waysX 18 (fun q=>q=gb) (.one [0,1,2,3,4,5,6,7,8,9,10] 11 (.one [12,13,14,15] 16 (.done [17]))) (by kernel_rfl) (by kernel_rfl) ?_
  rintro we hbd
  have BD:=Lib.hid hbd
  clear hbd
  rw [wpWaysT_one]
  try simp only [List.map_cons,List.map_nil,opAt,List.getElem?_toArray,List.getElem?_cons_zero,List.getElem?_cons_succ,Option.getD_some]
  repeat (first
   | (go_big_quiet_want;refine quietX_load_mid 62 (.tmp 25) rfl gc 1 rfl (mapL (p:Int) U) _ g1 Tryz.underlying62 rfl (infoMapL _ HU.out) ?_;simp only [Act.put,List.setIfInBounds_toArray,List.set_cons_zero,List.set_cons_succ];go_big_quiet_on)
   | (go_big_quiet_want;refine quietX_load_mid 62 (.tmp 32) rfl gv 771 rfl (mapL (p:Int) O) _ g3 Tryz.underlying62 rfl (infoMapL _ HO.out) ?_;simp only [Act.put,List.setIfInBounds_toArray,List.set_cons_zero,List.set_cons_succ];go_big_quiet_on)
   | go_big_quiet_step (fail))
  clear g1 g3 g4
  refine wpQuiet_nil ?_
  go_wp2_with (go_at_call 120;refine (HT2.out _).mono ?_;rintro e x6 ⟨rfl,hb1⟩;have O6:=Lib.hid (BD.out.trans (hb1.mono BD.out.size));have BY:=Lib.hid (B3.out.trans (O6.out.mono B3.out.size));have GY:=Lib.hid (row_stays G3.out O6.out);clear hb1)
  refine ⟨⟨⟨_,outerX_of_below O6.out⟩,rfl⟩,?_⟩
  try simp only [Act.put,List.setIfInBounds_toArray,List.set_cons_zero,List.set_cons_succ]
  rw [wpWaysT_one]
  try simp only [List.map_cons,List.map_nil,opAt,List.getElem?_toArray,List.getElem?_cons_zero,List.getElem?_cons_succ,Option.getD_some]
  repeat (first
   | go_big_quiet_step (fail))
  refine wpQuiet_nil ?_
  go_wp2_with (refine wpList_store_row rfl 62 (.tmp 4) (.tmp 35) rfl gb C rfl rfl 62 _ GY.out (by rw [HC1.out];exact infoMap) (by rw [HC1.out];exact HZ1.out) HC2.out ?_)
  have B8:=Lib.hid (below_setRow BY.out L2.out C)
  have G8:=Lib.hid (setRow_heap _ gb _ C _ _ GY.out)
  have OO:OuterX (fun q=>q=gb) x5 (World.setRow x6 gb C):=⟨O6.out.os,O6.out.tape,O6.out.output,(by simpa using O6.out.size),fun q hq hx=>(setRow_other _ gb q _ hx).trans (O6.out.block q hq)⟩
  refine ⟨⟨⟨_,OO⟩,rfl⟩,?_⟩
  clear OO
  try simp only [Act.put,List.setIfInBounds_toArray,List.set_cons_zero,List.set_cons_succ]
  rw [wpWaysT_done]
  simp only [List.map_cons,List.map_nil,List.drop_succ_cons,List.drop_zero,opAt,List.getElem?_toArray,List.getElem?_cons_zero,List.getElem?_cons_succ,Option.getD_some]
  repeat (first
   | go_big_quiet_step (fail))
  refine wpQuiet_nil ?_
  go_upto_region 4 with fail
  obtain ⟨x9,hx9⟩:∃ x9,x9=World.setRow x6 gb C:=⟨_,rfl⟩
  rw [← hx9] at B8 G8 ⊢
  clear hx9
  have HCH:=Lib.hid (H.out.below B8.out)
  have HTH:Hid (x9.there gc 1 C.size):=Lib.hid (HCH.out.thM HU.out HV.out _ HC1.out)
  go_wp2_with (first
   | (refine wpList_load_row rfl 62 (.tmp 4) rfl gb rfl 62 C (0,0) _ G8.out Tryz.underlying62 rfl (by rw [HC1.out];exact infoMap) ?_)
   | (refine wpList_store_mid rfl 62 (.tmp 44) (.tmp 42) rfl gc 1 C rfl rfl HTH.out (by rw [HC1.out];exact infoMap) HC2.out ?_))
  go_ret2
  refine ⟨rfl,?_,?_⟩
  ·rw [HCL.out]
   exact HCH.out.setM (by rw [HU'.out,HU.out])
  ·exact (outerX_of_below B8.out).grown (grown_setCells gc _ _ _) (fun k hk=>.inl (by cases hk;rfl))
theorem take_full (gc gv g gen p:Nat) (U V Uv O:List Bool) (lv:Value) (hU:U.length=512) (hV:V.length=512) (hUv:Uv.length=512) (hO:O.length=512) (okU:okM (p:Int) U) (okV:okM (p:Int) V) (okO:okM (p:Int) O) (hn:∀ a,¬ fits p U V 1 a) (hf:∀ a,¬ fits p U O 1 a) (w:World) (h:ChgAt w gc gv (p:Int) U V lv) (hv:ViewAt w gv g gen (p:Int) Uv O) :
 Calls Tryz.prog 81 #[.pointer (some ⟨gc,0,none⟩)] w fun e w'=>e=.returned (.tuple #[.int .i64 0,.int .i64 5])∧Below w.heap.size w w':=by
 have HT2:Hid (∀ W:World,Calls Tryz.prog 120 #[.agg (mapL (p:Int) U).toArray,.agg (mapL (p:Int) O).toArray,.int .i64 1] W fun e w'=>e=.returned (.tuple #[.agg Tryz.zeroCells62,.int .i64 0,.int .i64 5])∧Below W.heap.size W w'):=Lib.hid (fun W=>by
  refine (take_bm p U O hU hO okU okO 1 (by decide) W _ _ (mapL_arr _ _) (mapL_arr _ _)).mono ?_
  rintro e w' ⟨⟨b,hb,hbl,rfl⟩ | ⟨_,rfl⟩,hbw⟩
  ·exact absurd hb (hf b)
  ·exact ⟨rfl,hbw⟩)
 obtain ⟨C,hC⟩:∃ C,C=Tryz.zeroCells62:=⟨_,rfl⟩
 have HC1:Hid (C.size=513):=Lib.hid (by rw [hC];exact size_zeroMap)
 have HC2:Hid (C.all (·.oneCell')=true):=Lib.hid (by rw [hC,zeroMap];exact one_mapC _ _)
 rw [← hC] at HT2
 clear hC
 have H:=Lib.hid h
 have HVW:=Lib.hid hv
 have HU:=Lib.hid hU
 have HV:=Lib.hid hV
 have HUV:=Lib.hid hUv
 have HO:=Lib.hid hO
 have HT:Hid (∀ W:World,Calls Tryz.prog 120 #[.agg (mapL (p:Int) U).toArray,.agg (mapL (p:Int) V).toArray,.int .i64 1] W fun e w'=>e=.returned (.tuple #[.agg Tryz.zeroCells62,.int .i64 0,.int .i64 5])∧Below W.heap.size W w'):=Lib.hid (fun W=>by
  refine (take_bm p U V hU hV okU okV 1 (by decide) W _ _ (mapL_arr _ _) (mapL_arr _ _)).mono ?_
  rintro e w' ⟨⟨b,hb,hbl,rfl⟩ | ⟨_,rfl⟩,hbw⟩
  ·exact absurd hb (hn b)
  ·exact ⟨rfl,hbw⟩)
 clear h hv hU hV hUv hO okU okV okO hn hf
 try clear hl
 obtain ⟨Z,hZ⟩:∃ Z,Z=Tryz.zeroCells62:=⟨_,rfl⟩
 have HZ1:Hid (Z.size=513):=Lib.hid (by rw [hZ];exact size_zeroMap)
 have HZ2:Hid (Z.all (·.oneCell')=true):=Lib.hid (by rw [hZ,zeroMap];exact one_mapC _ _)
 rw [← hZ] at HT
 clear hZ
 go_enter Tryz.func81,Tryz.ntmps81
 go_upto_region 1 with fail
 have g1:∀ y:SubW w.heap.size w,y.at_.rangeAt gc 1 (mapL (p:Int) U):=fun y=>(H.out.below y.ok_).cm
 have g2:∀ y:SubW w.heap.size w,y.at_.rangeAt gc 514 (mapL (p:Int) V):=fun y=>(H.out.below y.ok_).cb HU.out
 refine region_ways4 w.heap.size (Nat.le_refl _) (.two [0,1,2,3,4,5,6,7] 8 (.one [9,10,11,12] 13 (.one [] 14 (.done [15,16]))) 13 (.one [] 8 (.one [9,10,11,12] 14 (.done [15,16])))) (by kernel_rfl) (by kernel_rfl) ?_
 rintro wd hbd
 have B0:=Lib.hid hbd
 clear hbd
 rw [wpWays_two4]
 try simp only [List.map_cons,List.map_nil,opAt,List.getElem?_toArray,List.getElem?_cons_zero,List.getElem?_cons_succ,Option.getD_some]
 repeat (first
  | (go_big_quiet_want;refine quiet_load_mid 62 (.tmp 10) rfl gc 1 rfl (mapL (p:Int) U) _ g1 Tryz.underlying62 rfl (infoMapL _ HU.out) ?_;simp only [Act.put,List.setIfInBounds_toArray,List.set_cons_zero,List.set_cons_succ];go_big_quiet_on)
  | (go_big_quiet_want;refine quiet_load_mid 62 (.tmp 14) rfl gc 514 rfl (mapL (p:Int) V) _ g2 Tryz.underlying62 rfl (infoMapL _ HV.out) ?_;simp only [Act.put,List.setIfInBounds_toArray,List.set_cons_zero,List.set_cons_succ];go_big_quiet_on)
  | go_big_quiet_step (fail))
 clear g1 g2
 refine wpQuiet_nil ⟨?_,?_⟩
 ·go_wp2_with (go_at_call 120;refine (HT.out _).mono ?_;rintro e x1 ⟨rfl,hb1⟩;have B1:=Lib.hid (B0.out.trans (hb1.mono B0.out.size));clear hb1)
  refine ⟨⟨⟨_,B1.out⟩,rfl⟩,?_⟩
  try simp only [Act.put,List.setIfInBounds_toArray,List.set_cons_zero,List.set_cons_succ]
  rw [wpWays_one4]
  try simp only [List.map_cons,List.map_nil,opAt,List.getElem?_toArray,List.getElem?_cons_zero,List.getElem?_cons_succ,Option.getD_some]
  repeat (first
   | go_big_quiet_step (fail))
  refine wpQuiet_nil ?_
  go_wp2_with fail
  obtain ⟨gb,hgb⟩:∃ gb,gb=x1.heap.size:=⟨_,rfl⟩
  obtain ⟨x2,hx2⟩:∃ x2,x2=x1.alloc (.cells (Tryz.zeroCells62) 62):=⟨_,rfl⟩
  have G2:Hid (x2.heap[gb]?=some (.cells (Tryz.zeroCells62) 62 (0,0))):=Lib.hid (by rw [hx2,hgb];exact heap_alloc_new _ _)
  have B2:=Lib.hid (B1.out.trans ((alloc_bel hx2).mono B1.out.size))
  have L2:Hid (w.heap.size≤gb):=Lib.hid (by rw [hgb];exact B1.out.size)
  rw [← hx2,← hgb]
  clear hx2 hgb
  refine ⟨⟨⟨_,B2.out⟩,rfl⟩,?_⟩
  try simp only [Act.put,List.setIfInBounds_toArray,List.set_cons_zero,List.set_cons_succ]
  rw [wpWays_one4]
  try simp only [List.map_cons,List.map_nil,opAt,List.getElem?_toArray,List.getElem?_cons_zero,List.getElem?_cons_succ,Option.getD_some]
  refine wpQuiet_nil ?_
  go_wp2_with (refine wpList_store_row rfl 62 (.tmp 4) (.tmp 17) rfl gb Z rfl rfl 62 _ G2.out (by rw [HZ1.out];exact infoMap) (by rw [HZ1.out];exact size_zeroMap) HZ2.out ?_)
  have B3:=Lib.hid (below_setRow B2.out L2.out Z)
  have G3:=Lib.hid (setRow_heap _ gb _ Z _ _ G2.out)
  refine ⟨⟨⟨_,B3.out⟩,rfl⟩,?_⟩
  try simp only [Act.put,List.setIfInBounds_toArray,List.set_cons_zero,List.set_cons_succ]
  rw [wpWays_done4]
  try simp only [List.map_cons,List.map_nil,opAt,List.getElem?_toArray,List.getElem?_cons_zero,List.getElem?_cons_succ,Option.getD_some]
  repeat (first
   | go_big_quiet_step (fail))
  refine wpQuiet_nil ?_
  obtain ⟨x5,hx5⟩:∃ x5,x5=World.setRow x2 gb Z:=⟨_,rfl⟩
  rw [← hx5] at B3 G3 ⊢
  clear hx5
  have HCG:=Lib.hid (H.out.below B3.out)
  have HVG:=Lib.hid (HVW.out.below B3.out)
  go_upto_region 3 with fail
  have NC:Hid (gc≠gb):=Lib.hid (by have:=H.out.lt;have:=L2.out;omega)
  have NV:Hid (gv≠gb):=Lib.hid (by
   have h1:=HVW.out
   have h2:=(Array.getElem?_eq_some_iff.1 h1).1
   have:=L2.out
   omega)
  have g1:∀ y:SubX (fun q=>q=gb) x5,y.at_.rangeAt gc 1 (mapL (p:Int) U):=fun y=>(HCG.out.keep (y.ok_.block gc HCG.out.lt NC.out)).cm
  have g3:∀ y:SubX (fun q=>q=gb) x5,y.at_.rangeAt gv 771 (mapL (p:Int) O):=fun y=>(HVG.out.keep (y.ok_.block gv (Array.getElem?_eq_some_iff.1 HVG.out).1 NV.out)).co HUV.out
  have g4:∀ y:SubX (fun q=>q=gb) x5,y.at_.cell? ⟨gc,0,none⟩=some (.pointer (some ⟨gv,0,none⟩)):=fun y=>(HCG.out.keep (y.ok_.block gc HCG.out.lt NC.out)).cv
  refine region_waysX 18 (fun q=>q=gb) (.one [0,1,2,3,4,5,6,7,8,9,10] 11 (.one [12,13,14,15] 16 (.done [17]))) (by kernel_rfl) (by kernel_rfl) ?_
  rintro we hbd
  have BD:=Lib.hid hbd
  clear hbd
  rw [wpWaysT_one]
  try simp only [List.map_cons,List.map_nil,opAt,List.getElem?_toArray,List.getElem?_cons_zero,List.getElem?_cons_succ,Option.getD_some]
  repeat (first
   | (go_big_quiet_want;refine quietX_load_mid 62 (.tmp 25) rfl gc 1 rfl (mapL (p:Int) U) _ g1 Tryz.underlying62 rfl (infoMapL _ HU.out) ?_;simp only [Act.put,List.setIfInBounds_toArray,List.set_cons_zero,List.set_cons_succ];go_big_quiet_on)
   | (go_big_quiet_want;refine quietX_load_mid 62 (.tmp 32) rfl gv 771 rfl (mapL (p:Int) O) _ g3 Tryz.underlying62 rfl (infoMapL _ HO.out) ?_;simp only [Act.put,List.setIfInBounds_toArray,List.set_cons_zero,List.set_cons_succ];go_big_quiet_on)
   | go_big_quiet_step (fail))
  clear g1 g3 g4
  refine wpQuiet_nil ?_
  go_wp2_with (go_at_call 120;refine (HT2.out _).mono ?_;rintro e x6 ⟨rfl,hb1⟩;have O6:=Lib.hid (BD.out.trans (hb1.mono BD.out.size));have BY:=Lib.hid (B3.out.trans (O6.out.mono B3.out.size));have GY:=Lib.hid (row_stays G3.out O6.out);clear hb1)
  refine ⟨⟨⟨_,outerX_of_below O6.out⟩,rfl⟩,?_⟩
  try simp only [Act.put,List.setIfInBounds_toArray,List.set_cons_zero,List.set_cons_succ]
  rw [wpWaysT_one]
  try simp only [List.map_cons,List.map_nil,opAt,List.getElem?_toArray,List.getElem?_cons_zero,List.getElem?_cons_succ,Option.getD_some]
  repeat (first
   | go_big_quiet_step (fail))
  refine wpQuiet_nil ?_
  go_wp2_with (refine wpList_store_row rfl 62 (.tmp 4) (.tmp 35) rfl gb C rfl rfl 62 _ GY.out (by rw [HC1.out];exact infoMap) (by rw [HC1.out];exact HZ1.out) HC2.out ?_)
  have B8:=Lib.hid (below_setRow BY.out L2.out C)
  have G8:=Lib.hid (setRow_heap _ gb _ C _ _ GY.out)
  have OO:OuterX (fun q=>q=gb) x5 (World.setRow x6 gb C):=⟨O6.out.os,O6.out.tape,O6.out.output,(by simpa using O6.out.size),fun q hq hx=>(setRow_other _ gb q _ hx).trans (O6.out.block q hq)⟩
  refine ⟨⟨⟨_,OO⟩,rfl⟩,?_⟩
  clear OO
  try simp only [Act.put,List.setIfInBounds_toArray,List.set_cons_zero,List.set_cons_succ]
  rw [wpWaysT_done]
  simp only [List.map_cons,List.map_nil,List.drop_succ_cons,List.drop_zero,opAt,List.getElem?_toArray,List.getElem?_cons_zero,List.getElem?_cons_succ,Option.getD_some]
  repeat (first
   | go_big_quiet_step (fail))
  refine wpQuiet_nil ?_
  go_upto_region 4 with fail
  obtain ⟨x9,hx9⟩:∃ x9,x9=World.setRow x6 gb C:=⟨_,rfl⟩
  rw [← hx9] at B8 G8 ⊢
  clear hx9
  go_wp2_with fail
  go_ret2
  exact ⟨rfl,B8.out⟩
 ·go_wp2_with fail
  obtain ⟨gb,hgb⟩:∃ gb,gb=wd.heap.size:=⟨_,rfl⟩
  obtain ⟨x2,hx2⟩:∃ x2,x2=wd.alloc (.cells (Tryz.zeroCells62) 62):=⟨_,rfl⟩
  have G1:Hid (x2.heap[gb]?=some (.cells (Tryz.zeroCells62) 62 (0,0))):=Lib.hid (by rw [hx2,hgb];exact heap_alloc_new _ _)
  have B1:=Lib.hid (B0.out.trans ((alloc_bel hx2).mono B0.out.size))
  have L2:Hid (w.heap.size≤gb):=Lib.hid (by rw [hgb];exact B0.out.size)
  rw [← hx2,← hgb]
  clear hx2 hgb
  refine ⟨⟨⟨_,B1.out⟩,rfl⟩,?_⟩
  try simp only [Act.put,List.setIfInBounds_toArray,List.set_cons_zero,List.set_cons_succ]
  rw [wpWays_one4]
  try simp only [List.map_cons,List.map_nil,opAt,List.getElem?_toArray,List.getElem?_cons_zero,List.getElem?_cons_succ,Option.getD_some]
  refine wpQuiet_nil ?_
  go_wp2_with (go_at_call 120;refine (HT.out _).mono ?_;rintro e x3 ⟨rfl,hb1⟩;have B2:=Lib.hid (B1.out.trans (hb1.mono B1.out.size));have G2:=Lib.hid (row_stays G1.out hb1);clear hb1)
  refine ⟨⟨⟨_,B2.out⟩,rfl⟩,?_⟩
  try simp only [Act.put,List.setIfInBounds_toArray,List.set_cons_zero,List.set_cons_succ]
  rw [wpWays_one4]
  try simp only [List.map_cons,List.map_nil,opAt,List.getElem?_toArray,List.getElem?_cons_zero,List.getElem?_cons_succ,Option.getD_some]
  repeat (first
   | go_big_quiet_step (fail))
  refine wpQuiet_nil ?_
  go_wp2_with (refine wpList_store_row rfl 62 (.tmp 4) (.tmp 17) rfl gb Z rfl rfl 62 _ G2.out (by rw [HZ1.out];exact infoMap) (by rw [HZ1.out];exact size_zeroMap) HZ2.out ?_)
  have B3:=Lib.hid (below_setRow B2.out L2.out Z)
  have G3:=Lib.hid (setRow_heap _ gb _ Z _ _ G2.out)
  refine ⟨⟨⟨_,B3.out⟩,rfl⟩,?_⟩
  try simp only [Act.put,List.setIfInBounds_toArray,List.set_cons_zero,List.set_cons_succ]
  rw [wpWays_done4]
  try simp only [List.map_cons,List.map_nil,opAt,List.getElem?_toArray,List.getElem?_cons_zero,List.getElem?_cons_succ,Option.getD_some]
  repeat (first
   | go_big_quiet_step (fail))
  refine wpQuiet_nil ?_
  obtain ⟨x5,hx5⟩:∃ x5,x5=World.setRow x3 gb Z:=⟨_,rfl⟩
  rw [← hx5] at B3 G3 ⊢
  clear hx5
  have HCG:=Lib.hid (H.out.below B3.out)
  have HVG:=Lib.hid (HVW.out.below B3.out)
  go_upto_region 3 with fail
  have NC:Hid (gc≠gb):=Lib.hid (by have:=H.out.lt;have:=L2.out;omega)
  have NV:Hid (gv≠gb):=Lib.hid (by
   have h1:=HVW.out
   have h2:=(Array.getElem?_eq_some_iff.1 h1).1
   have:=L2.out
   omega)
  have g1:∀ y:SubX (fun q=>q=gb) x5,y.at_.rangeAt gc 1 (mapL (p:Int) U):=fun y=>(HCG.out.keep (y.ok_.block gc HCG.out.lt NC.out)).cm
  have g3:∀ y:SubX (fun q=>q=gb) x5,y.at_.rangeAt gv 771 (mapL (p:Int) O):=fun y=>(HVG.out.keep (y.ok_.block gv (Array.getElem?_eq_some_iff.1 HVG.out).1 NV.out)).co HUV.out
  have g4:∀ y:SubX (fun q=>q=gb) x5,y.at_.cell? ⟨gc,0,none⟩=some (.pointer (some ⟨gv,0,none⟩)):=fun y=>(HCG.out.keep (y.ok_.block gc HCG.out.lt NC.out)).cv
  refine region_waysX 18 (fun q=>q=gb) (.one [0,1,2,3,4,5,6,7,8,9,10] 11 (.one [12,13,14,15] 16 (.done [17]))) (by kernel_rfl) (by kernel_rfl) ?_
  rintro we hbd
  have BD:=Lib.hid hbd
  clear hbd
  rw [wpWaysT_one]
  try simp only [List.map_cons,List.map_nil,opAt,List.getElem?_toArray,List.getElem?_cons_zero,List.getElem?_cons_succ,Option.getD_some]
  repeat (first
   | (go_big_quiet_want;refine quietX_load_mid 62 (.tmp 25) rfl gc 1 rfl (mapL (p:Int) U) _ g1 Tryz.underlying62 rfl (infoMapL _ HU.out) ?_;simp only [Act.put,List.setIfInBounds_toArray,List.set_cons_zero,List.set_cons_succ];go_big_quiet_on)
   | (go_big_quiet_want;refine quietX_load_mid 62 (.tmp 32) rfl gv 771 rfl (mapL (p:Int) O) _ g3 Tryz.underlying62 rfl (infoMapL _ HO.out) ?_;simp only [Act.put,List.setIfInBounds_toArray,List.set_cons_zero,List.set_cons_succ];go_big_quiet_on)
   | go_big_quiet_step (fail))
  clear g1 g3 g4
  refine wpQuiet_nil ?_
  go_wp2_with (go_at_call 120;refine (HT2.out _).mono ?_;rintro e x6 ⟨rfl,hb1⟩;have O6:=Lib.hid (BD.out.trans (hb1.mono BD.out.size));have BY:=Lib.hid (B3.out.trans (O6.out.mono B3.out.size));have GY:=Lib.hid (row_stays G3.out O6.out);clear hb1)
  refine ⟨⟨⟨_,outerX_of_below O6.out⟩,rfl⟩,?_⟩
  try simp only [Act.put,List.setIfInBounds_toArray,List.set_cons_zero,List.set_cons_succ]
  rw [wpWaysT_one]
  try simp only [List.map_cons,List.map_nil,opAt,List.getElem?_toArray,List.getElem?_cons_zero,List.getElem?_cons_succ,Option.getD_some]
  repeat (first
   | go_big_quiet_step (fail))
  refine wpQuiet_nil ?_
  go_wp2_with (refine wpList_store_row rfl 62 (.tmp 4) (.tmp 35) rfl gb C rfl rfl 62 _ GY.out (by rw [HC1.out];exact infoMap) (by rw [HC1.out];exact HZ1.out) HC2.out ?_)
  have B8:=Lib.hid (below_setRow BY.out L2.out C)
  have G8:=Lib.hid (setRow_heap _ gb _ C _ _ GY.out)
  have OO:OuterX (fun q=>q=gb) x5 (World.setRow x6 gb C):=⟨O6.out.os,O6.out.tape,O6.out.output,(by simpa using O6.out.size),fun q hq hx=>(setRow_other _ gb q _ hx).trans (O6.out.block q hq)⟩
  refine ⟨⟨⟨_,OO⟩,rfl⟩,?_⟩
  clear OO
  try simp only [Act.put,List.setIfInBounds_toArray,List.set_cons_zero,List.set_cons_succ]
  rw [wpWaysT_done]
  simp only [List.map_cons,List.map_nil,List.drop_succ_cons,List.drop_zero,opAt,List.getElem?_toArray,List.getElem?_cons_zero,List.getElem?_cons_succ,Option.getD_some]
  repeat (first
   | go_big_quiet_step (fail))
  refine wpQuiet_nil ?_
  go_upto_region 4 with fail
  obtain ⟨x9,hx9⟩:∃ x9,x9=World.setRow x6 gb C:=⟨_,rfl⟩
  rw [← hx9] at B8 G8 ⊢
  clear hx9
  go_wp2_with fail
  go_ret2
  exact ⟨rfl,B8.out⟩
end Go.Proofs.YtgkddhncfaeidaaGreat
