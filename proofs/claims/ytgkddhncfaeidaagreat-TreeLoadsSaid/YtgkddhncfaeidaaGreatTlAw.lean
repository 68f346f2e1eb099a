/- Squeezed: the texts as they are written lie in wip/tpl. -/
import Derived.Test.YtgkddhncfaeidaaGreatPart43
import Derived.Test.YtgkddhncfaeidaaGreatPart20
set_option maxRecDepth 100000
set_option maxHeartbeats 16000000
set_option linter.unnecessarySimpa false
set_option linter.unusedSimpArgs false
set_option linter.unusedVariables false
namespace Go.Proofs.YtgkddhncfaeidaaGreat
open Go.RowKit Go.ChangeShapes Go.WideShapes Go.ChangeAt CrcM PageM
theorem treeLoads_walk (n se pl:Int) (w:World) :
 Calls Tryz.prog 3 #[.int .i64 n,.int .i64 se,.int .i64 pl] w fun e w'=>e=.returned (.bool true)∧Below w.heap.size w w':=by
 obtain ⟨k,hk,hke⟩:=modU n 150 (by decide) (by decide)
 have hke':wrap64 ((IntKind.u64.wrap n).tmod 150)=(k:Int):=hke
 obtain ⟨z,hz⟩:∃ z:Int,z=se.tmod 1000:=⟨_,rfl⟩
 obtain ⟨Q,hQ⟩:∃ Q:Nat,IntKind.u64.wrap z=(Q:Int):=⟨(IntKind.u64.wrap z).toNat,by
  have h1:0≤IntKind.u64.wrap z:=by rw [IntKind.wrap_u64];omega
  omega⟩
 obtain ⟨R,hR⟩:∃ R:Nat,z % 4294967296=(R:Int):=⟨(z % 4294967296).toNat,by omega⟩
 have hR2:R<4294967296:=by omega
 have HK:=Lib.hid hk
 have HQ:=Lib.hid hQ
 have HR:=Lib.hid hR
 have HR2:=Lib.hid hR2
 have HZ:=Lib.hid hz
 obtain ⟨ie,hie,hiez,hies,hieb⟩:=info_parts (infoEnt_from_any)
 obtain ⟨jf,hjf,hjz,hjs,hjb⟩:=info_parts (infoEntN)
 clear hk hke hz hQ hR hR2
 go_enter Tryz.func3,Tryz.ntmps3
 go_upto_region 2 with fail
 rw [hke']
 clear hke'
 go_upto_region 3 with (go_at_call 6;refine (begin_any 200 (by decide) (by decide) _).mono ?_;rintro e w1 ⟨gv,g,B,N,gs,gn,cs,cn,rfl,hv,hd,hgv,hB,hb⟩;have V1:=Lib.hid hv;have D1:=Lib.hid hd;have GV:=Lib.hid hgv;have GB:=Lib.hid hB;have B1:=Lib.hid hb;clear hv hd hgv hB hb)
 go_upto_region 5 with (go_at_call 7;refine (grows_any _).mono ?_;rintro e wo ⟨rfl,hb⟩;have B12:=Lib.hid hb;clear hb)
 have BO:Hid (Below w.heap.size w wo):=Lib.hid (B1.out.trans (B12.out.mono B1.out.size))
 have V2:=Lib.hid (V1.out.below B12.out)
 have D2:=Lib.hid (D1.out.below B12.out)
 have GV2:=GV
 clear V1 D1 B1
 go_upto_region 8 with fail
 have I0:Hid (BuL wo wo Q R 0 none 0 none 0):=Lib.hid { r1:=World.ownsRow_nil wo wo.heap.size 34 8,r2:=World.ownsRow_nil wo wo.heap.size 40 8,bel:=Below.refl _ _,z:=fun _=>⟨rfl,rfl⟩ }
 go_loopw [11,12,13] (fun lv xv iv wr=>∃ (i:Nat) (A1:Option Addr) (c1:Nat) (A2:Option Addr) (c2:Nat),i≤k∧lv=.slice A1 i c1∧xv=.slice A2 i c2∧iv=.int .i64 (i:Int)∧Hid (BuL wo wr Q R i A1 c1 A2 c2)) (fun _ _ iv _=>k - (intOf iv).toNat)
 case atStart=>exact ⟨0,none,0,none,0,Nat.zero_le _,rfl,rfl,rfl,I0⟩
 case round =>
  obtain ⟨i,A1,c1,A2,c2,hi,rfl,rfl,rfl,HI⟩:=hrel
  obtain ⟨W0,rfl⟩:∃ W0,W0=wr:=⟨_,rfl⟩
  by_cases hlt:i<k
  ·have hi150:i<150:=by have:=HK.out;omega
   obtain ⟨e,he⟩:∃ e,e=entL Q R i:=⟨_,rfl⟩
   have HE:=Lib.hid he
   have HEN0:Hid (∀ W,Calls Tryz.prog 8 #[.agg #[.int .i64 0,.int .i64 ((i:Int) / 40),.int .i64 (10*((i:Int) % 40)),.int .i64 (i:Int),.int .i64 (se.tmod 1000)]] W fun e' w'=>e'=.returned (.agg #[.int .i64 e.se,.int .i64 e.st,.int .i64 e.en,.int .i64 e.ad,.int .i64 e.le,.int .i64 e.cn,.int .i64 e.co,.int .u32 e.cr])∧Below W.heap.size W w'):=Lib.hid (fun W=>by
    have h1:=act_entry i hi150 z Q R HQ.out HR.out W
    rw [HZ.out,← he] at h1
    rw [show (10*((i:Int) % 40))=((i % 40*10:Nat):Int) by omega]
    exact h1)
   clear he
   go_upto_region 11 with (first
    | (go_at_call 8;refine (HEN0.out _).mono ?_;rintro e' W1 ⟨rfl,hb⟩;have B01:=Lib.hid hb;clear hb HEN0)
    | (refine wpList_store_row rfl 34 (.tmp 14) (.tmp 61) rfl W1.heap.size #[.int .i64 e.se,.int .i64 e.st,.int .i64 e.en,.int .i64 e.ad,.int .i64 e.le,.int .i64 e.cn,.int .i64 e.co,.int .u32 e.cr] rfl rfl 34 _ (heap_alloc_new _ _) (by kernel_rfl) rfl (by simp [Value.oneCell']) ?_))
   obtain ⟨gy,hgy⟩:∃ gy,gy=W1.heap.size:=⟨_,rfl⟩
   obtain ⟨x1,hx1⟩:∃ x1,x1=(W1.alloc (.cells #[.int .i64 0,.int .i64 0,.int .i64 0,.int .i64 0,.int .i64 0,.int .i64 0,.int .i64 0,.int .u32 0] 34)).setRow W1.heap.size #[.int .i64 e.se,.int .i64 e.st,.int .i64 e.en,.int .i64 e.ad,.int .i64 e.le,.int .i64 e.cn,.int .i64 e.co,.int .u32 e.cr]:=⟨_,rfl⟩
   have GX:Hid (x1.heap[gy]?=some (.cells #[.int .i64 e.se,.int .i64 e.st,.int .i64 e.en,.int .i64 e.ad,.int .i64 e.le,.int .i64 e.cn,.int .i64 e.co,.int .u32 e.cr] 34 (0,0))):=Lib.hid (by rw [hx1,hgy];exact setRow_heap _ _ _ _ _ _ (heap_alloc_new _ _))
   have B0x:Hid (Below W0.heap.size W0 x1):=Lib.hid (B01.out.trans ((by rw [hx1];exact below_setRow (alloc_bel rfl) (Nat.le_refl _) _:Below W1.heap.size W1 x1).mono B01.out.size))
   have HGY:Hid (W0.heap.size≤gy):=Lib.hid (by rw [hgy];exact B01.out.size)
   rw [← hx1,← hgy]
   clear hx1 hgy B01
   try simp only [Act.put,List.setIfInBounds_toArray,List.set_cons_zero,List.set_cons_succ]
   have R1:=Lib.hid (row_below HI.out.r1 B0x.out)
   have R2:=Lib.hid (row_below HI.out.r2 B0x.out)
   have L1:Hid (∀ k,(Value.slice A1 i c1).ownBlock=some k→wo.heap.size≤k∧k<gy):=Lib.hid (fun k hk=>by have h1:=World.ownsRow.lt HI.out.r1 k hk;have:=HGY.out;omega)
   have L2:Hid (∀ k,(Value.slice A2 i c2).ownBlock=some k→wo.heap.size≤k∧k<gy):=Lib.hid (fun k hk=>by have h1:=World.ownsRow.lt HI.out.r2 k hk;have:=HGY.out;omega)
   have BX:Hid (Below wo.heap.size wo x1):=Lib.hid (HI.out.bel.trans (B0x.out.mono HI.out.bel.size))
   obtain ⟨X,hX⟩:∃ X:Nat→Prop,X=fun k=>(Value.slice A1 i c1).ownBlock=some k∨(Value.slice A2 i c2).ownBlock=some k:=⟨_,rfl⟩
   have HXX:=Lib.hid hX
   have nX:¬ X gy:=by
    rw [hX]
    rintro (e | e)
    ·exact Nat.lt_irrefl _ (L1.out _ e).2
    ·exact Nat.lt_irrefl _ (L2.out _ e).2
   have HEN:Hid (∀ W,Calls Tryz.prog 9 #[.agg #[.int .i64 e.se,.int .i64 e.st,.int .i64 e.en,.int .i64 e.ad,.int .i64 e.le,.int .i64 e.cn,.int .i64 e.co,.int .u32 e.cr]] W fun e' w'=>e'=.returned (.agg #[.int .i64 e.se,.int .i64 e.st,.int .i64 e.en,.int .i64 e.ad,.int .i64 e.le,.int .i64 e.cn,.int .i64 e.co,.int .u32 e.cr])∧Below W.heap.size W w'):=Lib.hid (fun W=>entry_any e W)
   have hf1:Hid (Instr.fill (fun i=>some (i*ie.size,ie.size)) ((Array.range (1*ie.size)).map ((Value.agg #[.int .i64 0,.int .i64 0,.int .i64 0,.int .i64 0,.int .i64 0,.int .i64 0,.int .i64 0,.int .u32 0]).cells[· % (Value.agg #[.int .i64 0,.int .i64 0,.int .i64 0,.int .i64 0,.int .i64 0,.int .i64 0,.int .i64 0,.int .u32 0]).cells.size]!)) [(0,.agg #[.int .i64 e.se,.int .i64 e.st,.int .i64 e.en,.int .i64 e.ad,.int .i64 e.le,.int .i64 e.cn,.int .i64 e.co,.int .u32 e.cr])]=some #[.int .i64 e.se,.int .i64 e.st,.int .i64 e.en,.int .i64 e.ad,.int .i64 e.le,.int .i64 e.cn,.int .i64 e.co,.int .u32 e.cr]):=Lib.hid (by rw [hies];exact fill_eight _ _ rfl (by simp))
   have hf2:Hid (Instr.fill (fun i=>some (i*jf.size,jf.size)) ((Array.range (1*jf.size)).map ((Value.agg #[.int .i64 0,.int .i64 0,.int .i64 0,.int .i64 0,.int .i64 0,.int .i64 0,.int .i64 0,.int .u32 0]).cells[· % (Value.agg #[.int .i64 0,.int .i64 0,.int .i64 0,.int .i64 0,.int .i64 0,.int .i64 0,.int .i64 0,.int .u32 0]).cells.size]!)) [(0,.agg #[.int .i64 e.se,.int .i64 e.st,.int .i64 e.en,.int .i64 e.ad,.int .i64 e.le,.int .i64 e.cn,.int .i64 e.co,.int .u32 e.cr])]=some #[.int .i64 e.se,.int .i64 e.st,.int .i64 e.en,.int .i64 e.ad,.int .i64 e.le,.int .i64 e.cn,.int .i64 e.co,.int .u32 e.cr]):=Lib.hid (by rw [hjs];exact fill_eight _ _ rfl (by simp))
   have g1:∀ y:SubX X x1,y.at_.heap[gy]?=some (.cells #[.int .i64 e.se,.int .i64 e.st,.int .i64 e.en,.int .i64 e.ad,.int .i64 e.le,.int .i64 e.cn,.int .i64 e.co,.int .u32 e.cr] 34 (0,0)):=fun y=>y.ok_.heap GX.out nX
   clear hX nX
   refine region_waysX 9 X (.one [0,1,4,5] 2 (.one [] 3 (.one [] 6 (.one [] 7 (.one [] 8 (.done [])))))) (by kernel_rfl) (by kernel_rfl) ?_
   rintro wd hbd
   have BD:=Lib.hid hbd
   clear hbd
   rw [wpWaysT_one]
   try simp only [List.map_cons,List.map_nil,opAt,List.getElem?_toArray,List.getElem?_cons_zero,List.getElem?_cons_succ,Option.getD_some]
   repeat (first
    | (go_big_quiet_want;refine quietX_load_row 34 (.tmp 14) rfl gy rfl 34 _ (0,0) _ g1 Tryz.underlying34 rfl (by kernel_rfl) ?_;simp only [Act.put,List.setIfInBounds_toArray,List.set_cons_zero,List.set_cons_succ];go_big_quiet_on)
    | go_big_quiet_step (fail))
   clear g1
   refine wpQuiet_nil ?_
   go_wp2_with (refine wpList_buildSlice rfl 28 34 1 _ rfl #[.int .i64 e.se,.int .i64 e.st,.int .i64 e.en,.int .i64 e.ad,.int .i64 e.le,.int .i64 e.cn,.int .i64 e.co,.int .u32 e.cr] ie _ Tryz.underlying28 hie hiez (by rw [hies];decide) (by rw [hies];decide) (by rw [Array.toList_map];exact hf1.out) ?_)
   obtain ⟨u1,hu1⟩:∃ u1,u1=wd.alloc (.cells #[.int .i64 e.se,.int .i64 e.st,.int .i64 e.en,.int .i64 e.ad,.int .i64 e.le,.int .i64 e.cn,.int .i64 e.co,.int .u32 e.cr] 34):=⟨_,rfl⟩
   rw [← hu1]
   have BU1:=Lib.hid (BD.out.trans ((alloc_bel hu1).mono BD.out.size))
   have CU1:Hid (CellsAt u1 (some ⟨wd.heap.size,0,none⟩) (enC e)):=Lib.hid (by rw [hu1];exact cellsAt_new wd [.int .i64 e.se,.int .i64 e.st,.int .i64 e.en,.int .i64 e.ad,.int .i64 e.le,.int .i64 e.cn,.int .i64 e.co,.int .u32 e.cr] _)
   have RU1:=Lib.hid (row_below R1.out BU1.out)
   clear hu1
   refine ⟨⟨⟨_,outerX_of_below BU1.out⟩,rfl⟩,?_⟩
   try simp only [Act.put,List.setIfInBounds_toArray,List.set_cons_zero,List.set_cons_succ]
   rw [wpWaysT_one]
   try simp only [List.map_cons,List.map_nil,opAt,List.getElem?_toArray,List.getElem?_cons_zero,List.getElem?_cons_succ,Option.getD_some]
   refine wpQuiet_nil ?_
   go_wp2_with (at_builtin;refine wpList_append_row rfl (.tmp 62) (.tmp 64) 28 rfl Tryz.underlying28 (Value.agg #[.int .i64 0,.int .i64 0,.int .i64 0,.int .i64 0,.int .i64 0,.int .i64 0,.int .i64 0,.int .u32 0]) 64 infoEnt_from_any (by rfl) (by decide) _ rfl RU1.out (some ⟨wd.heap.size,0,none⟩) 1 1 rfl rfl CU1.out (enC_one _) (by have:=hi150;omega) (by have:=hi150;unfold maxLen;omega) (by have:=BX.out.size;have:=BU1.out.size;omega) (i+1) rfl ((entsL Q R (i+1)).flatMap enC) (by rw [entsL_flat,HE.out]) ?_;intro A3 c3 u2 R3 g3;have O2:Hid (OuterX X x1 u2):=Lib.hid ((outerX_of_below BU1.out).grown g3 (fun k hk=>.inl (by rw [HXX.out];exact .inl hk)));have K2:Hid (KeptNot 34 u1 u2):=Lib.hid (KeptNot.of_row RU1.out g3);have NX2:Hid (Below wo.heap.size u1 u2):=Lib.hid (grown_new RU1.out (Nat.le_refl _) (by have:=BX.out.size;have:=BU1.out.size;omega) g3);have RX:=Lib.hid R3;clear R3 g3)
   have RV2:Hid (u2.ownsRow wo.heap.size 40 8 (.slice A2 i c2) i ((entsL Q R i).flatMap enC)):=Lib.hid (K2.out.row (row_below R2.out BU1.out) (by decide))
   have BW2:Hid (Below wo.heap.size wo u2):=Lib.hid ((BX.out.trans (BU1.out.mono BX.out.size)).trans NX2.out)
   refine ⟨⟨⟨_,O2.out⟩,rfl⟩,?_⟩
   try simp only [Act.put,List.setIfInBounds_toArray,List.set_cons_zero,List.set_cons_succ]
   rw [wpWaysT_one]
   try simp only [List.map_cons,List.map_nil,opAt,List.getElem?_toArray,List.getElem?_cons_zero,List.getElem?_cons_succ,Option.getD_some]
   refine wpQuiet_nil ?_
   go_wp2_with (go_at_call 9;refine (HEN.out _).mono ?_;rintro e u3 ⟨rfl,hb⟩;have BU3:=Lib.hid hb;clear hb)
   have O3:Hid (OuterX X x1 u3):=Lib.hid (O2.out.then BU3.out O2.out.size)
   refine ⟨⟨⟨_,O3.out⟩,rfl⟩,?_⟩
   try simp only [Act.put,List.setIfInBounds_toArray,List.set_cons_zero,List.set_cons_succ]
   rw [wpWaysT_one]
   try simp only [List.map_cons,List.map_nil,opAt,List.getElem?_toArray,List.getElem?_cons_zero,List.getElem?_cons_succ,Option.getD_some]
   refine wpQuiet_nil ?_
   go_wp2_with (refine wpList_buildSlice rfl 29 40 1 _ rfl #[.int .i64 e.se,.int .i64 e.st,.int .i64 e.en,.int .i64 e.ad,.int .i64 e.le,.int .i64 e.cn,.int .i64 e.co,.int .u32 e.cr] jf _ Tryz.underlying29 hjf hjz (by rw [hjs];decide) (by rw [hjs];decide) (by rw [Array.toList_map];exact hf2.out) ?_)
   obtain ⟨u4,hu4⟩:∃ u4,u4=u3.alloc (.cells #[.int .i64 e.se,.int .i64 e.st,.int .i64 e.en,.int .i64 e.ad,.int .i64 e.le,.int .i64 e.cn,.int .i64 e.co,.int .u32 e.cr] 40):=⟨_,rfl⟩
   rw [← hu4]
   have BU4:Hid (Below u2.heap.size u2 u4):=Lib.hid (BU3.out.trans ((alloc_bel hu4).mono BU3.out.size))
   have CU4:Hid (CellsAt u4 (some ⟨u3.heap.size,0,none⟩) (enC e)):=Lib.hid (by rw [hu4];exact cellsAt_new u3 [.int .i64 e.se,.int .i64 e.st,.int .i64 e.en,.int .i64 e.ad,.int .i64 e.le,.int .i64 e.cn,.int .i64 e.co,.int .u32 e.cr] _)
   have RU4:=Lib.hid (row_below RV2.out BU4.out)
   have RW4:=Lib.hid (row_below RX.out BU4.out)
   have BW4:Hid (Below wo.heap.size wo u4):=Lib.hid (BW2.out.trans (BU4.out.mono BW2.out.size))
   have O4:Hid (OuterX X x1 u4):=Lib.hid (O2.out.then BU4.out O2.out.size)
   clear hu4
   refine ⟨⟨⟨_,O4.out⟩,rfl⟩,?_⟩
   try simp only [Act.put,List.setIfInBounds_toArray,List.set_cons_zero,List.set_cons_succ]
   rw [wpWaysT_one]
   try simp only [List.map_cons,List.map_nil,opAt,List.getElem?_toArray,List.getElem?_cons_zero,List.getElem?_cons_succ,Option.getD_some]
   refine wpQuiet_nil ?_
   go_wp2_with (at_builtin;refine wpList_append_row rfl (.tmp 66) (.tmp 69) 29 rfl Tryz.underlying29 (Value.agg #[.int .i64 0,.int .i64 0,.int .i64 0,.int .i64 0,.int .i64 0,.int .i64 0,.int .i64 0,.int .u32 0]) 64 infoEntN (by rfl) (by decide) _ rfl RU4.out (some ⟨u3.heap.size,0,none⟩) 1 1 rfl rfl CU4.out (enC_one _) (by have:=hi150;omega) (by have:=hi150;unfold maxLen;omega) (by have:=BW4.out.size;omega) (i+1) rfl ((entsL Q R (i+1)).flatMap enC) (by rw [entsL_flat,HE.out]) ?_;intro A5 c5 u5 R5 g5;have O5:Hid (OuterX X x1 u5):=Lib.hid (O4.out.grown g5 (fun k hk=>.inl (by rw [HXX.out];exact .inr hk)));have K5:Hid (KeptNot 40 u4 u5):=Lib.hid (KeptNot.of_row RU4.out g5);have NX5:Hid (Below wo.heap.size u4 u5):=Lib.hid (grown_new RU4.out (Nat.le_refl _) (by have:=BW4.out.size;omega) g5);have RY:=Lib.hid R5;clear R5 g5)
   refine ⟨⟨⟨_,O5.out⟩,rfl⟩,?_⟩
   try simp only [Act.put,List.setIfInBounds_toArray,List.set_cons_zero,List.set_cons_succ]
   rw [wpWaysT_done]
   simp only [List.map_nil,List.drop_succ_cons,List.drop_zero]
   refine wpQuiet_nil ?_
   have HEND:Hid (BuL wo u5 Q R (i+1) A3 c3 A5 c5):=Lib.hid { r1:=K5.out.row RW4.out (by decide),r2:=RY.out,bel:=BW4.out.trans NX5.out,z:=fun h=>by omega }
   go_wp2_with fail
   go_roundw
   case rel=>exact ⟨i+1,A3,c3,A5,c5,by omega,rfl,rfl,by go_num,HEND⟩
   case measure=>first | (simp [intOf];done) | (simp [intOf];omega)
  ·obtain rfl:i=k:=by omega
   have hdk:decide ((i:Int)<(i:Int))=false:=by simp
   have BW0:Hid (Below wo.heap.size wo W0):=Lib.hid HI.out.bel
   have R1:=Lib.hid HI.out.r1
   have R2:=Lib.hid HI.out.r2
   have HLD:=Lib.hid (load_law gv g wo.heap.size i Q R (by have:=HK.out;omega) HR2.out A2 c2 W0 HI.out.r2 HI.out.z (V2.out.below BW0.out) (D2.out.below BW0.out))
   have D0:=Lib.hid (D2.out.below BW0.out)
   have V0:=Lib.hid (V2.out.below BW0.out)
   have BWW:Hid (Below w.heap.size w W0):=Lib.hid (BO.out.trans (BW0.out.mono BO.out.size))
   have HJF:=Lib.hid hjf
   clear I0 HI hie hiez hies hieb hjf hjz hjs hjb
   go_upto_region 13 with (first
    | (go_at_call 10;refine HLD.out.mono ?_;rintro e w7 ⟨a,hh,U,L,rfl,hw,h0,h1,hU,hO,hrm,hl,ht⟩;have W7:=Lib.hid hw;have H0:=Lib.hid h0;have H1:=Lib.hid h1;have HU:=Lib.hid hU;have HO:=Lib.hid hO;have HRM:=Lib.hid hrm;have HL:=Lib.hid hl;have HT:=Lib.hid ht;clear hw h0 h1 hU hO hrm hl ht HLD)
    | (refine wpList_store_row rfl 43 (.tmp 15) (.tmp 75) rfl w7.heap.size #[.int .i64 (a:Int),.int .i64 (hh:Int)] rfl rfl 43 _ (heap_alloc_new _ _) (by kernel_rfl) rfl (by simp [Value.oneCell']) ?_))
   have nx:∀ (q:Nat) (cs:Array Value) (T:TypeId),W0.heap[q]?=some (.cells cs T (0,0))→T≠105→T≠145→T≠5→T≠251→w7.heap[q]?=W0.heap[q]?:=fun q cs T hq h1 h2 h3 h4=>W7.out.out.block q (Array.getElem?_eq_some_iff.1 hq).1 (fun hx=>by
    rcases hx with hx | hx
    ·exact D0.out.notX hq h2 (.inl h3) h4 hx
    ·have h5:=V0.out
     unfold ViewAt at h5
     rw [hx,h5] at hq
     cases hq
     exact h1 rfl)
   have R17:Hid (w7.ownsRow wo.heap.size 34 8 (.slice A1 i c1) i ((entsL Q R i).flatMap enC)):=Lib.hid (row_keep R1.out (fun q cur _ hc=>nx _ _ _ hc (by decide) (by decide) (by decide) (by decide)))
   have R27:Hid (w7.ownsRow wo.heap.size 40 8 (.slice A2 i c2) i ((entsL Q R i).flatMap enC)):=Lib.hid (row_keep R2.out (fun q cur _ hc=>nx _ _ _ hc (by decide) (by decide) (by decide) (by decide)))
   clear nx
   obtain ⟨rw',ws',nw',d1,d2,d3,d4⟩:=W7.out.disk
   have HWS:Hid (ws'.length+36≤500):=Lib.hid (by have:=HL.out;simp at d2;omega)
   have HTQ:=Lib.hid (HT.out nw' d3).1
   have HTW:=Lib.hid (HT.out nw' d3).2
   have BW7:Hid (Below w.heap.size w w7):=Lib.hid (by
    have h1:=W7.out.out
    have h2:=BWW.out
    refine ⟨h1.os.trans h2.os,h1.tape.trans h2.tape,h1.output.trans h2.output,Nat.le_trans h2.size h1.size,fun q hq=>(h1.block q (Nat.lt_of_lt_of_le hq h2.size) (fun hx=>?_)).trans (h2.block q hq)⟩
    have hgB:=D2.out.gB
    have hnB:=(OwnB.parts D2.out.now).1
    have:=GB.out
    rcases hx with (hx | hx | hx) | hx
    ·omega
    ·omega
    ·cases hx
    ·have:=GV.out
     omega)
   obtain ⟨br,hbr⟩:∃ br,br=w7.heap.size:=⟨_,rfl⟩
   obtain ⟨w8,hw8⟩:∃ w8,w8=(w7.alloc (.cells #[.int .i64 0,.int .i64 0] 43)).setRow w7.heap.size #[.int .i64 (a:Int),.int .i64 (hh:Int)]:=⟨_,rfl⟩
   have B78:Hid (Below w7.heap.size w7 w8):=Lib.hid (by rw [hw8];exact below_setRow (alloc_bel rfl) (Nat.le_refl _) _)
   have G8:Hid (w8.heap[br]?=some (.cells #[.int .i64 (a:Int),.int .i64 (hh:Int)] 43 (0,0))):=Lib.hid (by rw [hw8,hbr];exact setRow_heap _ _ _ _ _ _ (heap_alloc_new _ _))
   rw [← hw8,← hbr]
   clear hw8 hbr
   try simp only [Act.put,List.setIfInBounds_toArray,List.set_cons_zero,List.set_cons_succ]
   have V8:=Lib.hid (W7.out.view.below B78.out)
   have D8:=Lib.hid (d1.below B78.out)
   have BW8:Hid (Below w.heap.size w w8):=Lib.hid (BW7.out.trans (B78.out.mono BW7.out.size))
   have R18:=Lib.hid (row_mono (row_below R17.out B78.out) BO.out.size)
   have R28:=Lib.hid (row_mono (row_below R27.out B78.out) BO.out.size)
   clear d1 d2 d3 d4 R17 R27 R1 R2 W7 HT V0 D0 B78 BW7 BWW BW0 V2 D2 HL B12
   have HAL:Hid (∀ W,Below w8.heap.size w8 W→Calls Tryz.prog 11 #[.pointer (some ⟨gv,0,none⟩),.agg #[.int .i64 (a:Int),.int .i64 (hh:Int)]] W fun e w'=>∃ A c,e=.returned (.tuple #[.slice A i c,.int .i64 0])∧w'.ownsRow W.heap.size 40 8 (.slice A i c) i ((entsL Q R i).flatMap enC)∧Below W.heap.size W w'):=Lib.hid (fun W hW=>by
    have h1:=all_any gv g 1 200 a hh U map0 (entsL Q R i) HTQ.out (by rw [entsL_len];have:=HK.out;omega) W (V8.out.below hW) (D8.out.below hW)
    rw [entsL_len] at h1
    exact h1)
   go_upto_region 14 with (first
    | (refine wpList_load_row rfl 43 (.tmp 15) rfl br rfl 43 _ (0,0) _ G8.out Tryz.underlying43 rfl (by kernel_rfl) ?_)
    | (go_at_call 11;refine (HAL.out _ (Below.refl _ _)).mono ?_;rintro e w9 ⟨A9,c9,rfl,hr9,hb9⟩;have R9:=Lib.hid hr9;have B89:=Lib.hid hb9;clear hr9 hb9 HAL))
   have G9:=Lib.hid (row_stays G8.out B89.out)
   have HBK:Hid (∀ W,Below w9.heap.size w9 W→Calls Tryz.prog 13 #[.slice A9 i c9] W fun e w'=>∃ A' c',e=.returned (.slice A' i c')∧w'.ownsRow W.heap.size 34 8 (.slice A' i c') i ((entsL Q R i).flatMap enC)∧Below W.heap.size W w'):=Lib.hid (fun W hW=>back_list (entsL Q R i) A9 i c9 W (entsL_len Q R i) (by have:=HK.out;omega) ((EnAt.of_row R9.out).below hW))
   have HSM:Hid (∀ (A':Option Addr) (c':Nat) (W:World),Below w8.heap.size w8 W→EnAt W A' (entsL Q R i)→Calls Tryz.prog 12 #[.slice A' i c',.slice A1 i c1] W fun e w'=>e=.returned (.bool true)∧Below W.heap.size W w'):=Lib.hid (fun A' c' W hW h=>same_list (entsL Q R i) A' A1 i c' c1 W (entsL_len Q R i) (by have:=HK.out;omega) h ((EnAt.of_row R18.out).below hW))
   have g91:=nd_cell G9.out 1 (.int .i64 (hh:Int)) rfl
   by_cases hk0:i=0
   ·have k1:((i:Int) == 0)=true:=by simp;omega
    have k2:((hh:Int) == 0)=true:=by have:=H0.out;simp;omega
    have k3:decide ((i:Int) > 0)=false:=by simp;omega
    have k4:((hh:Int) == 1)=false:=by have:=H0.out;simp;omega
    have k5:decide ((0:Int)<(i:Int))=false:=by simp;omega
    have k6:decide ((i:Int) > 1)=false:=by simp;omega
    have k7:¬ 0<i:=by omega
    clear hk0
    go_upto_region 16 with (first
     | (go_at_call 13;refine (HBK.out _ (Below.refl _ _)).mono ?_;rintro e w10 ⟨A10,c10,rfl,hr10,hb10⟩;have R10:=Lib.hid hr10;have B90:=Lib.hid hb10;have g101:=nd_cell (row_stays G9.out hb10) 1 (.int .i64 (hh:Int)) rfl;clear hr10 hb10 HBK)
     | (go_at_call 12;refine (HSM.out A10 c10 _ (B89.out.trans (B90.out.mono B89.out.size)) (EnAt.of_row R10.out)).mono ?_;rintro e w11 ⟨rfl,hb11⟩;have B911:=Lib.hid (B90.out.trans (hb11.mono B90.out.size));have g111:=nd_cell (row_stays G9.out (B90.out.trans (hb11.mono B90.out.size))) 1 (.int .i64 (hh:Int)) rfl;clear hb11))
    have BW11:Hid (Below w8.heap.size w8 w11):=Lib.hid (B89.out.trans (B911.out.mono B89.out.size))
    clear g91 g101 g111 R10 B90 HSM k1 k2 k3 k4
    go_upto_region 17 with fail
    go_loopw [19] (fun jv wr=>jv=.int .i64 0∧Hid (Below w8.heap.size w8 wr)) (fun jv _=>0)
    case atStart=>exact ⟨rfl,BW11⟩
    case round =>
     obtain ⟨rfl,HBR⟩:=hrel
     go_wp2_with fail
     go_ret
     exact ⟨rfl,BW8.out.trans (HBR.out.mono BW8.out.size)⟩
   ·have k1:((i:Int) == 0)=false:=by simp;omega
    have k2:((hh:Int) == 0)=false:=by have:=H0.out;simp;omega
    have k3:decide ((i:Int) > 0)=true:=by simp;omega
    obtain ⟨cb,hcb⟩:∃ cb,decide ((i:Int)<8)=cb:=⟨_,rfl⟩
    have k4:((hh:Int) == 1)=cb:=by
     rw [← hcb,Bool.eq_iff_iff]
     have:=H1.out (by omega)
     simp
     omega
    go_upto_region 16 with (first
     | (go_at_call 13;refine (HBK.out _ (Below.refl _ _)).mono ?_;rintro e w10 ⟨A10,c10,rfl,hr10,hb10⟩;have R10:=Lib.hid hr10;have B90:=Lib.hid hb10;have g101:=nd_cell (row_stays G9.out hb10) 1 (.int .i64 (hh:Int)) rfl;clear hr10 hb10 HBK)
     | (go_at_call 12;refine (HSM.out A10 c10 _ (B89.out.trans (B90.out.mono B89.out.size)) (EnAt.of_row R10.out)).mono ?_;rintro e w11 ⟨rfl,hb11⟩;have B911:=Lib.hid (B90.out.trans (hb11.mono B90.out.size));have g111:=nd_cell (row_stays G9.out (B90.out.trans (hb11.mono B90.out.size))) 1 (.int .i64 (hh:Int)) rfl;clear hb11))
    have BW11:Hid (Below w8.heap.size w8 w11):=Lib.hid (B89.out.trans (B911.out.mono B89.out.size))
    have G11:=Lib.hid (row_stays G8.out BW11.out)
    clear g91 g101 g111 R10 B90 HSM k1 k2 k4 hcb
    obtain ⟨b2,o2,hA2,hc2⟩:=EnAt.of_row R28.out (by intro h;have h1:=entsL_len Q R i;rw [h] at h1;simp at h1;omega)
    subst hA2
    have HC2:=Lib.hid hc2
    clear hc2
    have HFD:Hid (∀ (j:Nat) (e:EntD) (W:World),e=entL Q R j→j<i→Below w8.heap.size w8 W→Calls Tryz.prog 14 #[.pointer (some ⟨gv,0,none⟩),.agg #[.int .i64 (a:Int),.int .i64 (hh:Int)],.agg #[.int .i64 e.se,.int .i64 e.st]] W fun e' w'=>e'=.returned (.tuple #[.agg #[.int .i64 e.se,.int .i64 e.st,.int .i64 e.en,.int .i64 e.ad,.int .i64 e.le,.int .i64 e.cn,.int .i64 e.co,.int .u32 e.cr],.int .i64 0])∧Below W.heap.size W w'):=Lib.hid (fun j e W he hj hW=>by
     have h1:=find_any gv g 1 200 a hh U map0 (entsL Q R i) e.key HTQ.out (entsL_up (by have:=HK.out;omega)) W (V8.out.below hW) (D8.out.below hW)
     rw [atK_self (entsL_up (by have:=HK.out;omega)) (by rw [he];exact List.mem_of_getElem? (entsL_get hj))] at h1
     exact h1)
    have HFN:Hid (∀ (j:Nat) (e:EntD) (W:World),e=entL Q R j→Below w8.heap.size w8 W→Calls Tryz.prog 14 #[.pointer (some ⟨gv,0,none⟩),.agg #[.int .i64 (a:Int),.int .i64 (hh:Int)],.agg #[.int .i64 e.se,.int .i64 (e.st+1)]] W fun e' w'=>e'=.returned (.tuple #[.agg #[.int .i64 0,.int .i64 0,.int .i64 0,.int .i64 0,.int .i64 0,.int .i64 0,.int .i64 0,.int .u32 0],.int .i64 10])∧Below W.heap.size W w'):=Lib.hid (fun j e W he hW=>by
     have h1:=find_any gv g 1 200 a hh U map0 (entsL Q R i) ⟨e.se,e.st+1⟩ HTQ.out (entsL_up (by have:=HK.out;omega)) W (V8.out.below hW) (D8.out.below hW)
     rw [he] at h1 ⊢
     rw [show (⟨(entL Q R j).se,(entL Q R j).st+1⟩:KeyD)=⟨((j / 40:Nat):Int),((j % 40*10:Nat):Int)+1⟩ from rfl,atK_nextL] at h1
     exact h1)
    go_upto_region 17 with fail
    go_loopw [19] (fun jv wr=>∃ j:Nat,j≤i∧jv=.int .i64 (j:Int)∧Hid (Below w8.heap.size w8 wr)) (fun jv _=>i - (intOf jv).toNat)
    case atStart=>exact ⟨0,Nat.zero_le _,rfl,BW11⟩
    case round =>
     obtain ⟨j,hj,rfl,HBR⟩:=hrel
     obtain ⟨Wr,rfl⟩:∃ Wr,Wr=wr:=⟨_,rfl⟩
     by_cases hlj:j<i
     ·obtain ⟨e,he⟩:∃ e,e=entL Q R j:=⟨_,rfl⟩
      have HE:=Lib.hid he
      have hst:wrap64 (e.st+1)=e.st+1:=by
       rw [he]
       show wrap64 (((j % 40*10:Nat):Int)+1)=_
       unfold wrap64
       have e1:(entL Q R j).st=((j % 40*10:Nat):Int):=rfl
       rw [e1]
       omega
      have HJ:=Lib.hid hlj
      have HX:=Lib.hid (fun W (hW:Below w8.heap.size w8 W)=>((HC2.out j e (by rw [he];exact entsL_get hlj)).below hW:entAt W b2 (o2+j*8) e))
      clear he
      have GR:=row_stays G8.out HBR.out
      obtain ⟨z0,z1,z2,z3,z4,z5,z6,z7⟩:=HX.out _ HBR.out
      have hl0:=World.block_lt_of_cell? _ _ z0
      have P0:∀ y:SubW Wr.heap.size Wr,y.at_.cell? ⟨b2,o2+j*8,none⟩=some (.int .i64 e.se):=fun y=>(y.ok_.cell (p:=⟨b2,o2+j*8,none⟩) hl0).trans z0
      have P1:∀ y:SubW Wr.heap.size Wr,y.at_.cell? ⟨b2,o2+j*8+1,none⟩=some (.int .i64 e.st):=fun y=>(y.ok_.cell (p:=⟨b2,o2+j*8+1,none⟩) hl0).trans z1
      have g1:∀ y:SubW Wr.heap.size Wr,y.at_.heap[br]?=some (.cells #[.int .i64 (a:Int),.int .i64 (hh:Int)] 43 (0,0)):=fun y=>row_stays GR y.ok_
      clear z0 z1 z2 z3 z4 z5 z6 z7 GR hl0
      go_upto_region 19 with fail
      go_cut [20,21] from 121 to 131 (fun s20 s21 wx=>∃ qa:Nat,s20=.pointer (some ⟨qa,0,none⟩)∧s21=.int .i64 0∧Hid (Below Wr.heap.size Wr wx)∧Hid (wx.heap[qa]?=some (.cells #[.int .i64 e.se,.int .i64 e.st,.int .i64 e.en,.int .i64 e.ad,.int .i64 e.le,.int .i64 e.cn,.int .i64 e.co,.int .u32 e.cr] 40 (0,0))))
      case first =>
       refine region_ways4 Wr.heap.size (Nat.le_refl _) (.two [0,1,2,3,4,5,6] 7 (.one [8,9,10] 11 (.one [] 12 (.done [13]))) 11 (.one [] 7 (.one [8,9,10] 12 (.done [13])))) (by kernel_rfl) (by kernel_rfl) ?_
       rintro wd hbd
       have BD:=Lib.hid hbd
       clear hbd
       rw [wpWays_two4]
       try simp only [List.map_cons,List.map_nil,opAt,List.getElem?_toArray,List.getElem?_cons_zero,List.getElem?_cons_succ,Option.getD_some]
       repeat (first
        | (go_big_quiet_want;refine quiet_load_row 43 (.tmp 15) rfl br rfl 43 _ (0,0) _ g1 Tryz.underlying43 rfl (by kernel_rfl) ?_;simp only [Act.put,List.setIfInBounds_toArray,List.set_cons_zero,List.set_cons_succ];go_big_quiet_on)
        | go_big_quiet_step (fail))
       clear P0 P1 g1
       refine wpQuiet_nil ⟨?_,?_⟩
       ·go_wp2_with (go_at_call 14;refine (HFD.out j e _ HE.out HJ.out (HBR.out.trans (BD.out.mono HBR.out.size))).mono ?_;rintro e' x1 ⟨rfl,hb4⟩;have B5:=Lib.hid (BD.out.trans (hb4.mono BD.out.size));have HB4:=Lib.hid hb4;clear hb4)
        refine ⟨⟨⟨_,B5.out⟩,rfl⟩,?_⟩
        try simp only [Act.put,List.setIfInBounds_toArray,List.set_cons_zero,List.set_cons_succ]
        rw [wpWays_one4]
        try simp only [List.map_cons,List.map_nil,opAt,List.getElem?_toArray,List.getElem?_cons_zero,List.getElem?_cons_succ,Option.getD_some]
        repeat (first
         | go_big_quiet_step (fail))
        refine wpQuiet_nil ?_
        go_wp2_with fail
        obtain ⟨qa,hqa⟩:∃ qa,qa=x1.heap.size:=⟨_,rfl⟩
        obtain ⟨wa,hwa⟩:∃ wa,wa=World.alloc x1 (.cells #[.int .i64 0,.int .i64 0,.int .i64 0,.int .i64 0,.int .i64 0,.int .i64 0,.int .i64 0,.int .u32 0] 40):=⟨_,rfl⟩
        have GA:Hid (wa.heap[qa]?=some (.cells #[.int .i64 0,.int .i64 0,.int .i64 0,.int .i64 0,.int .i64 0,.int .i64 0,.int .i64 0,.int .u32 0] 40 (0,0))):=Lib.hid (by rw [hwa,hqa];exact heap_alloc_new _ _)
        have AB:=Lib.hid (alloc_bel hwa)
        have B6:=Lib.hid (B5.out.trans (AB.out.mono B5.out.size))
        have QL:Hid (Wr.heap.size≤qa):=Lib.hid (by rw [hqa];exact B5.out.size)
        rw [← hwa,← hqa]
        clear hwa hqa
        refine ⟨⟨⟨_,B6.out⟩,rfl⟩,?_⟩
        try simp only [Act.put,List.setIfInBounds_toArray,List.set_cons_zero,List.set_cons_succ]
        rw [wpWays_one4]
        try simp only [List.map_cons,List.map_nil,opAt,List.getElem?_toArray,List.getElem?_cons_zero,List.getElem?_cons_succ,Option.getD_some]
        refine wpQuiet_nil ?_
        go_wp2_with (refine wpList_store_row rfl 40 (.tmp 20) (.tmp 130) rfl qa #[.int .i64 e.se,.int .i64 e.st,.int .i64 e.en,.int .i64 e.ad,.int .i64 e.le,.int .i64 e.cn,.int .i64 e.co,.int .u32 e.cr] rfl rfl 40 _ GA.out (by kernel_rfl) rfl (by simp [Value.oneCell']) ?_)
        have B7:=Lib.hid (below_setRow B6.out QL.out #[.int .i64 e.se,.int .i64 e.st,.int .i64 e.en,.int .i64 e.ad,.int .i64 e.le,.int .i64 e.cn,.int .i64 e.co,.int .u32 e.cr])
        have G7:=Lib.hid (setRow_heap _ qa _ #[.int .i64 e.se,.int .i64 e.st,.int .i64 e.en,.int .i64 e.ad,.int .i64 e.le,.int .i64 e.cn,.int .i64 e.co,.int .u32 e.cr] _ _ GA.out)
        refine ⟨⟨⟨_,B7.out⟩,rfl⟩,?_⟩
        try simp only [Act.put,List.setIfInBounds_toArray,List.set_cons_zero,List.set_cons_succ]
        rw [wpWays_done4]
        try simp only [List.map_cons,List.map_nil,opAt,List.getElem?_toArray,List.getElem?_cons_zero,List.getElem?_cons_succ,Option.getD_some]
        repeat (first
         | go_big_quiet_step (fail))
        refine wpQuiet_nil ?_
        go_wp2_with fail
        go_meet
        exact ⟨qa,rfl,rfl,B7,G7⟩
       ·go_wp2_with fail
        obtain ⟨qa,hqa⟩:∃ qa,qa=wd.heap.size:=⟨_,rfl⟩
        obtain ⟨wa,hwa⟩:∃ wa,wa=World.alloc wd (.cells #[.int .i64 0,.int .i64 0,.int .i64 0,.int .i64 0,.int .i64 0,.int .i64 0,.int .i64 0,.int .u32 0] 40):=⟨_,rfl⟩
        have GA:Hid (wa.heap[qa]?=some (.cells #[.int .i64 0,.int .i64 0,.int .i64 0,.int .i64 0,.int .i64 0,.int .i64 0,.int .i64 0,.int .u32 0] 40 (0,0))):=Lib.hid (by rw [hwa,hqa];exact heap_alloc_new _ _)
        have AB:=Lib.hid (alloc_bel hwa)
        have B5:=Lib.hid (BD.out.trans (AB.out.mono BD.out.size))
        have QL:Hid (Wr.heap.size≤qa):=Lib.hid (by rw [hqa];exact BD.out.size)
        rw [← hwa,← hqa]
        clear hwa hqa
        refine ⟨⟨⟨_,B5.out⟩,rfl⟩,?_⟩
        try simp only [Act.put,List.setIfInBounds_toArray,List.set_cons_zero,List.set_cons_succ]
        rw [wpWays_one4]
        try simp only [List.map_cons,List.map_nil,opAt,List.getElem?_toArray,List.getElem?_cons_zero,List.getElem?_cons_succ,Option.getD_some]
        refine wpQuiet_nil ?_
        go_wp2_with (go_at_call 14;refine (HFD.out j e _ HE.out HJ.out (HBR.out.trans (B5.out.mono HBR.out.size))).mono ?_;rintro e' x1 ⟨rfl,hb4⟩;have B6:=Lib.hid (B5.out.trans (hb4.mono B5.out.size));have HB4:=Lib.hid hb4;clear hb4)
        refine ⟨⟨⟨_,B6.out⟩,rfl⟩,?_⟩
        try simp only [Act.put,List.setIfInBounds_toArray,List.set_cons_zero,List.set_cons_succ]
        have GA1:=Lib.hid (row_stays GA.out HB4.out)
        clear GA
        have GA:=GA1
        rw [wpWays_one4]
        try simp only [List.map_cons,List.map_nil,opAt,List.getElem?_toArray,List.getElem?_cons_zero,List.getElem?_cons_succ,Option.getD_some]
        repeat (first
         | go_big_quiet_step (fail))
        refine wpQuiet_nil ?_
        go_wp2_with (refine wpList_store_row rfl 40 (.tmp 20) (.tmp 130) rfl qa #[.int .i64 e.se,.int .i64 e.st,.int .i64 e.en,.int .i64 e.ad,.int .i64 e.le,.int .i64 e.cn,.int .i64 e.co,.int .u32 e.cr] rfl rfl 40 _ GA.out (by kernel_rfl) rfl (by simp [Value.oneCell']) ?_)
        have B7:=Lib.hid (below_setRow B6.out QL.out #[.int .i64 e.se,.int .i64 e.st,.int .i64 e.en,.int .i64 e.ad,.int .i64 e.le,.int .i64 e.cn,.int .i64 e.co,.int .u32 e.cr])
        have G7:=Lib.hid (setRow_heap _ qa _ #[.int .i64 e.se,.int .i64 e.st,.int .i64 e.en,.int .i64 e.ad,.int .i64 e.le,.int .i64 e.cn,.int .i64 e.co,.int .u32 e.cr] _ _ GA.out)
        refine ⟨⟨⟨_,B7.out⟩,rfl⟩,?_⟩
        try simp only [Act.put,List.setIfInBounds_toArray,List.set_cons_zero,List.set_cons_succ]
        rw [wpWays_done4]
        try simp only [List.map_cons,List.map_nil,opAt,List.getElem?_toArray,List.getElem?_cons_zero,List.getElem?_cons_succ,Option.getD_some]
        repeat (first
         | go_big_quiet_step (fail))
        refine wpQuiet_nil ?_
        go_wp2_with fail
        go_meet
        exact ⟨qa,rfl,rfl,B7,G7⟩
      case rest =>
       obtain ⟨qa,rfl,rfl,B7,G20⟩:=hcut
       obtain ⟨W5,rfl⟩:∃ W5,W5=wc:=⟨_,rfl⟩
       clear P0 P1 g1
       have HB5:Hid (Below w8.heap.size w8 W5):=Lib.hid (HBR.out.trans (B7.out.mono HBR.out.size))
       obtain ⟨z0,z1,z2,z3,z4,z5,z6,z7⟩:=HX.out _ HB5.out
       have hl0:=World.block_lt_of_cell? _ _ z0
       have GR:=row_stays G8.out HB5.out
       have P0:∀ y:SubW W5.heap.size W5,y.at_.cell? ⟨b2,o2+j*8,none⟩=some (.int .i64 e.se):=fun y=>(y.ok_.cell (p:=⟨b2,o2+j*8,none⟩) hl0).trans z0
       have P1:∀ y:SubW W5.heap.size W5,y.at_.cell? ⟨b2,o2+j*8+1,none⟩=some (.int .i64 e.st):=fun y=>(y.ok_.cell (p:=⟨b2,o2+j*8+1,none⟩) hl0).trans z1
       have g1:∀ y:SubW W5.heap.size W5,y.at_.heap[br]?=some (.cells #[.int .i64 (a:Int),.int .i64 (hh:Int)] 43 (0,0)):=fun y=>row_stays GR y.ok_
       clear z0 z1 z2 z3 z4 z5 z6 z7 GR hl0
       go_upto_region 20 with fail
       go_cut [22,23] from 132 to 151 (fun s22 s23 wx=>∃ qb:Nat,s22=.pointer (some ⟨qb,0,none⟩)∧s23=.int .i64 10∧Hid (Below W5.heap.size W5 wx))
       case first =>
        refine region_ways4 W5.heap.size (Nat.le_refl _) (.two [0,1,2,3,4,5,6,7,8,9,10,11,12,13,14,15] 16 (.one [17,18,19] 20 (.one [] 21 (.done [22]))) 20 (.one [] 16 (.one [17,18,19] 21 (.done [22])))) (by kernel_rfl) (by kernel_rfl) ?_
        rintro wf hbf
        have BF:=Lib.hid hbf
        clear hbf
        rw [wpWays_two4]
        try simp only [List.map_cons,List.map_nil,opAt,List.getElem?_toArray,List.getElem?_cons_zero,List.getElem?_cons_succ,Option.getD_some]
        repeat (first
         | (go_big_quiet_want;refine quiet_load_row 43 (.tmp 15) rfl br rfl 43 _ (0,0) _ g1 Tryz.underlying43 rfl (by kernel_rfl) ?_;simp only [Act.put,List.setIfInBounds_toArray,List.set_cons_zero,List.set_cons_succ];go_big_quiet_on)
         | go_big_quiet_step (fail))
        clear P0 P1 g1
        refine wpQuiet_nil ⟨?_,?_⟩
        ·go_wp2_with (go_at_call 14;refine (HFN.out j e _ HE.out (HB5.out.trans (BF.out.mono HB5.out.size))).mono ?_;rintro e' x2 ⟨rfl,hb4⟩;have C5:=Lib.hid (BF.out.trans (hb4.mono BF.out.size));have HC4:=Lib.hid hb4;clear hb4)
         refine ⟨⟨⟨_,C5.out⟩,rfl⟩,?_⟩
         try simp only [Act.put,List.setIfInBounds_toArray,List.set_cons_zero,List.set_cons_succ]
         rw [wpWays_one4]
         try simp only [List.map_cons,List.map_nil,opAt,List.getElem?_toArray,List.getElem?_cons_zero,List.getElem?_cons_succ,Option.getD_some]
         repeat (first
          | go_big_quiet_step (fail))
         refine wpQuiet_nil ?_
         go_wp2_with fail
         obtain ⟨qb,hqb⟩:∃ qb,qb=x2.heap.size:=⟨_,rfl⟩
         obtain ⟨wb,hwb⟩:∃ wb,wb=World.alloc x2 (.cells #[.int .i64 0,.int .i64 0,.int .i64 0,.int .i64 0,.int .i64 0,.int .i64 0,.int .i64 0,.int .u32 0] 40):=⟨_,rfl⟩
         have GC:Hid (wb.heap[qb]?=some (.cells #[.int .i64 0,.int .i64 0,.int .i64 0,.int .i64 0,.int .i64 0,.int .i64 0,.int .i64 0,.int .u32 0] 40 (0,0))):=Lib.hid (by rw [hwb,hqb];exact heap_alloc_new _ _)
         have AC:=Lib.hid (alloc_bel hwb)
         have C6:=Lib.hid (C5.out.trans (AC.out.mono C5.out.size))
         have QC:Hid (W5.heap.size≤qb):=Lib.hid (by rw [hqb];exact C5.out.size)
         rw [← hwb,← hqb]
         clear hwb hqb
         refine ⟨⟨⟨_,C6.out⟩,rfl⟩,?_⟩
         try simp only [Act.put,List.setIfInBounds_toArray,List.set_cons_zero,List.set_cons_succ]
         rw [wpWays_one4]
         try simp only [List.map_cons,List.map_nil,opAt,List.getElem?_toArray,List.getElem?_cons_zero,List.getElem?_cons_succ,Option.getD_some]
         refine wpQuiet_nil ?_
         go_wp2_with (refine wpList_store_row rfl 40 (.tmp 22) (.tmp 150) rfl qb #[.int .i64 0,.int .i64 0,.int .i64 0,.int .i64 0,.int .i64 0,.int .i64 0,.int .i64 0,.int .u32 0] rfl rfl 40 _ GC.out (by kernel_rfl) rfl (by simp [Value.oneCell']) ?_)
         have C7:=Lib.hid (below_setRow C6.out QC.out #[.int .i64 0,.int .i64 0,.int .i64 0,.int .i64 0,.int .i64 0,.int .i64 0,.int .i64 0,.int .u32 0])
         refine ⟨⟨⟨_,C7.out⟩,rfl⟩,?_⟩
         try simp only [Act.put,List.setIfInBounds_toArray,List.set_cons_zero,List.set_cons_succ]
         rw [wpWays_done4]
         try simp only [List.map_cons,List.map_nil,opAt,List.getElem?_toArray,List.getElem?_cons_zero,List.getElem?_cons_succ,Option.getD_some]
         repeat (first
          | go_big_quiet_step (fail))
         refine wpQuiet_nil ?_
         go_wp2_with fail
         go_meet
         exact ⟨qb,rfl,rfl,C7⟩
        ·go_wp2_with fail
         obtain ⟨qb,hqb⟩:∃ qb,qb=wf.heap.size:=⟨_,rfl⟩
         obtain ⟨wb,hwb⟩:∃ wb,wb=World.alloc wf (.cells #[.int .i64 0,.int .i64 0,.int .i64 0,.int .i64 0,.int .i64 0,.int .i64 0,.int .i64 0,.int .u32 0] 40):=⟨_,rfl⟩
         have GC:Hid (wb.heap[qb]?=some (.cells #[.int .i64 0,.int .i64 0,.int .i64 0,.int .i64 0,.int .i64 0,.int .i64 0,.int .i64 0,.int .u32 0] 40 (0,0))):=Lib.hid (by rw [hwb,hqb];exact heap_alloc_new _ _)
         have AC:=Lib.hid (alloc_bel hwb)
         have C5:=Lib.hid (BF.out.trans (AC.out.mono BF.out.size))
         have QC:Hid (W5.heap.size≤qb):=Lib.hid (by rw [hqb];exact BF.out.size)
         rw [← hwb,← hqb]
         clear hwb hqb
         refine ⟨⟨⟨_,C5.out⟩,rfl⟩,?_⟩
         try simp only [Act.put,List.setIfInBounds_toArray,List.set_cons_zero,List.set_cons_succ]
         rw [wpWays_one4]
         try simp only [List.map_cons,List.map_nil,opAt,List.getElem?_toArray,List.getElem?_cons_zero,List.getElem?_cons_succ,Option.getD_some]
         refine wpQuiet_nil ?_
         go_wp2_with (go_at_call 14;refine (HFN.out j e _ HE.out (HB5.out.trans (C5.out.mono HB5.out.size))).mono ?_;rintro e' x2 ⟨rfl,hb4⟩;have C6:=Lib.hid (C5.out.trans (hb4.mono C5.out.size));have HC4:=Lib.hid hb4;clear hb4)
         refine ⟨⟨⟨_,C6.out⟩,rfl⟩,?_⟩
         try simp only [Act.put,List.setIfInBounds_toArray,List.set_cons_zero,List.set_cons_succ]
         have GA1:=Lib.hid (row_stays GC.out HC4.out)
         clear GC
         have GC:=GA1
         rw [wpWays_one4]
         try simp only [List.map_cons,List.map_nil,opAt,List.getElem?_toArray,List.getElem?_cons_zero,List.getElem?_cons_succ,Option.getD_some]
         repeat (first
          | go_big_quiet_step (fail))
         refine wpQuiet_nil ?_
         go_wp2_with (refine wpList_store_row rfl 40 (.tmp 22) (.tmp 150) rfl qb #[.int .i64 0,.int .i64 0,.int .i64 0,.int .i64 0,.int .i64 0,.int .i64 0,.int .i64 0,.int .u32 0] rfl rfl 40 _ GC.out (by kernel_rfl) rfl (by simp [Value.oneCell']) ?_)
         have C7:=Lib.hid (below_setRow C6.out QC.out #[.int .i64 0,.int .i64 0,.int .i64 0,.int .i64 0,.int .i64 0,.int .i64 0,.int .i64 0,.int .u32 0])
         refine ⟨⟨⟨_,C7.out⟩,rfl⟩,?_⟩
         try simp only [Act.put,List.setIfInBounds_toArray,List.set_cons_zero,List.set_cons_succ]
         rw [wpWays_done4]
         try simp only [List.map_cons,List.map_nil,opAt,List.getElem?_toArray,List.getElem?_cons_zero,List.getElem?_cons_succ,Option.getD_some]
         repeat (first
          | go_big_quiet_step (fail))
         refine wpQuiet_nil ?_
         go_wp2_with fail
         go_meet
         exact ⟨qb,rfl,rfl,C7⟩
       case rest =>
        obtain ⟨qb,rfl,rfl,C7⟩:=hcut
        obtain ⟨W6,rfl⟩:∃ W6,W6=wc:=⟨_,rfl⟩
        clear P0 P1 g1
        have HB6:Hid (Below w8.heap.size w8 W6):=Lib.hid (HB5.out.trans (C7.out.mono HB5.out.size))
        have G26:=row_stays G20.out C7.out
        obtain ⟨z0,z1,z2,z3,z4,z5,z6,z7⟩:=HX.out _ HB6.out
        have hl0:=World.block_lt_of_cell? _ _ z0
        have P0:∀ y:SubW W6.heap.size W6,y.at_.cell? ⟨b2,o2+j*8,none⟩=some (.int .i64 e.se):=fun y=>(y.ok_.cell (p:=⟨b2,o2+j*8,none⟩) hl0).trans z0
        have P1:∀ y:SubW W6.heap.size W6,y.at_.cell? ⟨b2,o2+j*8+1,none⟩=some (.int .i64 e.st):=fun y=>(y.ok_.cell (p:=⟨b2,o2+j*8+1,none⟩) hl0).trans z1
        have P2:∀ y:SubW W6.heap.size W6,y.at_.cell? ⟨b2,o2+j*8+2,none⟩=some (.int .i64 e.en):=fun y=>(y.ok_.cell (p:=⟨b2,o2+j*8+2,none⟩) hl0).trans z2
        have P3:∀ y:SubW W6.heap.size W6,y.at_.cell? ⟨b2,o2+j*8+3,none⟩=some (.int .i64 e.ad):=fun y=>(y.ok_.cell (p:=⟨b2,o2+j*8+3,none⟩) hl0).trans z3
        have P4:∀ y:SubW W6.heap.size W6,y.at_.cell? ⟨b2,o2+j*8+4,none⟩=some (.int .i64 e.le):=fun y=>(y.ok_.cell (p:=⟨b2,o2+j*8+4,none⟩) hl0).trans z4
        have P5:∀ y:SubW W6.heap.size W6,y.at_.cell? ⟨b2,o2+j*8+5,none⟩=some (.int .i64 e.cn):=fun y=>(y.ok_.cell (p:=⟨b2,o2+j*8+5,none⟩) hl0).trans z5
        have P6:∀ y:SubW W6.heap.size W6,y.at_.cell? ⟨b2,o2+j*8+6,none⟩=some (.int .i64 e.co):=fun y=>(y.ok_.cell (p:=⟨b2,o2+j*8+6,none⟩) hl0).trans z6
        have P7:∀ y:SubW W6.heap.size W6,y.at_.cell? ⟨b2,o2+j*8+7,none⟩=some (.int .u32 e.cr):=fun y=>(y.ok_.cell (p:=⟨b2,o2+j*8+7,none⟩) hl0).trans z7
        have g20:∀ y:SubW W6.heap.size W6,y.at_.heap[qa]?=some (.cells #[.int .i64 e.se,.int .i64 e.st,.int .i64 e.en,.int .i64 e.ad,.int .i64 e.le,.int .i64 e.cn,.int .i64 e.co,.int .u32 e.cr] 40 (0,0)):=fun y=>row_stays G26 y.ok_
        clear z0 z1 z2 z3 z4 z5 z6 z7 hl0 G26
        go_upto_region 21 with fail
        refine region_below W6.heap.size W6 (Below.refl _ _) (by kernel_rfl) (by kernel_rfl) ?_
        repeat (first
         | (go_big_quiet_want;refine quiet_load_row 40 (.tmp 20) rfl qa rfl 40 _ (0,0) _ g20 Tryz.underlying40 rfl (by kernel_rfl) ?_;simp only [Act.put,List.setIfInBounds_toArray,List.set_cons_zero,List.set_cons_succ];go_big_quiet_on)
         | (go_big_quiet_want;refine quiet_binOpN .neq 40 (.tmp 155) (.tmp 159) 40 rfl (.agg #[.int .i64 e.se,.int .i64 e.st,.int .i64 e.en,.int .i64 e.ad,.int .i64 e.le,.int .i64 e.cn,.int .i64 e.co,.int .u32 e.cr]) (.agg #[.int .i64 e.se,.int .i64 e.st,.int .i64 e.en,.int .i64 e.ad,.int .i64 e.le,.int .i64 e.cn,.int .i64 e.co,.int .u32 e.cr]) (.bool false) rfl rfl (fun W=>guard_entN _ _ _ _ _ W) (fun W=>neq_entE e W) ?_;simp only [Act.put,List.setIfInBounds_toArray,List.set_cons_zero,List.set_cons_succ];go_big_quiet_on)
         | go_big_quiet_step (fail))
        refine wpQuiet_nil ?_
        rintro w' ⟨y,rfl⟩
        have HY:=Lib.hid (HB6.out.trans (y.ok_.mono HB6.out.size))
        clear P0 P1 P2 P3 P4 P5 P6 P7 g20 hst
        have hjw:wrap64 ((j:Int)+1)=(j:Int)+1:=wrap_smallT (by omega) (by have:=HK.out;have:=HJ.out;omega)
        go_wp2_with fail
        go_roundw
        case rel=>exact ⟨j+1,by have:=HJ.out;omega,by go_num,HY⟩
        case measure=>first | exact meas_step5 HJ.out rfl | exact meas_step5 HJ.out hjw
     ·obtain rfl:j=i:=by omega
      have hdj:decide ((j:Int)<(j:Int))=false:=by simp
      have BWR:Hid (Below w.heap.size w Wr):=Lib.hid (BW8.out.trans (HBR.out.mono BW8.out.size))
      by_cases hi1:j=1
      ·have hd1:decide ((j:Int) > 1)=false:=by simp;omega
       clear HFD HFN
       go_wp2_with fail
       go_ret
       exact ⟨rfl,BWR.out⟩
      ·have hd1:decide ((j:Int) > 1)=true:=by simp;omega
       have HJ2:Hid (2≤j):=Lib.hid (by omega)
       obtain ⟨t,ht⟩:=entsL_two (Q:=Q) (R:=R) HJ2.out
       obtain ⟨pe,hpe⟩:∃ pe,pe=entL Q R 0:=⟨_,rfl⟩
       obtain ⟨qe,hqe⟩:∃ qe,qe=entL Q R 1:=⟨_,rfl⟩
       have HPQ:Hid (apartB qe pe=false):=Lib.hid (by rw [hpe,hqe];exact entL_back)
       have HES:Hid (entsL Q R j=pe :: qe :: t):=Lib.hid (by rw [hpe,hqe];exact ht)
       clear hpe hqe ht HFD HFN
       have R2r:=Lib.hid (row_below R28.out HBR.out)
       have CA:Hid (∀ W,Below Wr.heap.size Wr W→CellsAt W (some ⟨b2,o2,none⟩) ((entsL Q R j).flatMap enC)):=Lib.hid (fun W hW=>row_cellsAt (row_below R2r.out hW))
       have RL:Hid ((Wr.alloc (.cells #[] 40)).ownsRow Wr.heap.size 40 8 (.slice (some ⟨Wr.heap.size,0,none⟩) 0 0) 0 []):=Lib.hid (ownsRow_lit (Nat.le_refl _))
       have hlenF:Hid (((entsL Q R j).flatMap enC).length=j*8):=Lib.hid R28.out.1
       go_upto_region 25 with (first
        | (refine wpList_buildSlice0 rfl 29 40 rfl jf Tryz.underlying29 HJF.out ?_)
        | (at_builtin;refine wpList_append_row rfl (.tmp 168) (.tmp 169) 29 rfl Tryz.underlying29 (Value.agg #[.int .i64 0,.int .i64 0,.int .i64 0,.int .i64 0,.int .i64 0,.int .i64 0,.int .i64 0,.int .u32 0]) 64 infoEntN (by rfl) (by decide) _ rfl RL.out (some ⟨b2,o2,none⟩) c2 j rfl hlenF.out (CA.out _ (alloc_bel rfl)) (flat_one enC_one _) (by have:=HK.out;omega) (by have:=HK.out;unfold maxLen;omega) (by simp) j (Nat.zero_add j) ((entsL Q R j).flatMap enC) rfl ?_;intro A24 c24 W24 R24 g24;have B24:Hid (Below Wr.heap.size Wr W24):=Lib.hid (((Below.refl _ Wr).alloc (Nat.le_refl _) _).trans (grown_new RL.out (Nat.le_refl _) (by simp) g24));have RS:=Lib.hid R24;clear R24 g24))
       have RS2:Hid (W24.ownsRow Wr.heap.size 40 8 (.slice A24 j c24) j ((pe :: qe :: t).flatMap enC)):=Lib.hid (by have h1:=RS.out;rwa [HES.out] at h1)
       obtain ⟨ia,hia,hpi⟩:=modU pl j (by have:=HJ2.out;omega) (by have:=HK.out;omega)
       have HIA:=Lib.hid hia
       have HPI:=Lib.hid hpi
       clear hia hpi
       obtain ⟨g0,hA24,hb0,-,-,-⟩:=swap_row RS2.out
       subst hA24
       have HB0:=Lib.hid hb0
       clear hb0 RL CA RS
       have hj2:(1:Int)<(j:Int):=by have:=HJ2.out;omega
       go_cut [] from 171 to 180 (fun wx=>Hid (Below w8.heap.size w8 wx)∧Hid (wx.ownsRow Wr.heap.size 40 8 (.slice (some ⟨g0,0,none⟩) j c24) j ((qe :: pe :: t).flatMap enC)))
       case first =>
        refine region_ways4 Wr.heap.size B24.out.size (.two [0,1,2,3,5,6] 4 (.one [] 7 (.one [8] 9 (.one [10] 11 (.done [])))) 7 (.one [] 4 (.one [8] 9 (.one [10] 11 (.done []))))) (by kernel_rfl) (by kernel_rfl) ?_
        rintro wd hbd
        have BD:=Lib.hid hbd
        have RD:=Lib.hid (row_below RS2.out hbd)
        have BWD:Hid (Below Wr.heap.size W24 wd):=Lib.hid (hbd.mono B24.out.size)
        clear hbd
        obtain ⟨g1,hg1,-,t1,t2,rsw⟩:=swap_row RD.out
        obtain rfl:g0=g1:=by injection hg1 with e1;injection e1
        have T1:=Lib.hid t1
        have T2:=Lib.hid t2
        have RSW:=Lib.hid rsw
        have BW1:Hid (Below Wr.heap.size W24 (wd.setCells g0 0 (enC qe))):=Lib.hid (below_setCells BWD.out HB0.out)
        have BW2:Hid (Below Wr.heap.size W24 ((wd.setCells g0 0 (enC qe)).setCells g0 8 (enC pe))):=Lib.hid (below_setCells BW1.out HB0.out)
        obtain ⟨bz,oz,hz0,hc24⟩:=EnAt.of_row RD.out (by simp)
        have hbz:bz=g0∧oz=0:=by injection hz0 with e1;injection e1 with e2 e3;exact ⟨e2.symm,e3.symm⟩
        obtain ⟨rfl,rfl⟩:=hbz
        obtain ⟨z0,z1,z2,z3,z4,z5,z6,z7⟩:=hc24 0 pe rfl
        obtain ⟨y0,y1,y2,y3,y4,y5,y6,y7⟩:=hc24 1 qe rfl
        simp only [Nat.zero_mul,Nat.one_mul,Nat.zero_add,Nat.add_zero,Nat.reduceAdd] at z0 z1 z2 z3 z4 z5 z6 z7 y0 y1 y2 y3 y4 y5 y6 y7
        clear t1 t2 rsw hg1 hz0 hc24
        rw [wpWays_two4]
        try simp only [List.map_cons,List.map_nil,opAt,List.getElem?_toArray,List.getElem?_cons_zero,List.getElem?_cons_succ,Option.getD_some]
        repeat (first
         | go_big_quiet_step (fail))
        refine wpQuiet_nil ⟨?_,?_⟩
        ·go_wp2_with fail
         refine ⟨⟨⟨_,BWD.out⟩,rfl⟩,?_⟩
         try simp only [Act.put,List.setIfInBounds_toArray,List.set_cons_zero,List.set_cons_succ]
         rw [wpWays_one4]
         try simp only [List.map_cons,List.map_nil,opAt,List.getElem?_toArray,List.getElem?_cons_zero,List.getElem?_cons_succ,Option.getD_some]
         refine wpQuiet_nil ?_
         go_wp2_with fail
         refine ⟨⟨⟨_,BWD.out⟩,rfl⟩,?_⟩
         try simp only [Act.put,List.setIfInBounds_toArray,List.set_cons_zero,List.set_cons_succ]
         clear z0 z1 z2 z3 z4 z5 z6 z7 y0 y1 y2 y3 y4 y5 y6 y7
         rw [wpWays_one4]
         try simp only [List.map_cons,List.map_nil,opAt,List.getElem?_toArray,List.getElem?_cons_zero,List.getElem?_cons_succ,Option.getD_some]
         repeat (first
          | go_big_quiet_step (fail))
         refine wpQuiet_nil ?_
         go_wp2_with (refine wpList_store_mid rfl 40 (.tmp 179) (.tmp 175) rfl bz 0 #[.int .i64 qe.se,.int .i64 qe.st,.int .i64 qe.en,.int .i64 qe.ad,.int .i64 qe.le,.int .i64 qe.cn,.int .i64 qe.co,.int .u32 qe.cr] rfl rfl T1.out (by kernel_rfl) (by simp [Value.oneCell']) ?_)
         refine ⟨⟨⟨_,BW1.out⟩,rfl⟩,?_⟩
         try simp only [Act.put,List.setIfInBounds_toArray,List.set_cons_zero,List.set_cons_succ]
         rw [wpWays_one4]
         try simp only [List.map_cons,List.map_nil,opAt,List.getElem?_toArray,List.getElem?_cons_zero,List.getElem?_cons_succ,Option.getD_some]
         repeat (first
          | go_big_quiet_step (fail))
         refine wpQuiet_nil ?_
         go_wp2_with (refine wpList_store_mid rfl 40 (.tmp 180) (.tmp 178) rfl bz 8 #[.int .i64 pe.se,.int .i64 pe.st,.int .i64 pe.en,.int .i64 pe.ad,.int .i64 pe.le,.int .i64 pe.cn,.int .i64 pe.co,.int .u32 pe.cr] rfl rfl T2.out (by kernel_rfl) (by simp [Value.oneCell']) ?_)
         refine ⟨⟨⟨_,BW2.out⟩,rfl⟩,?_⟩
         try simp only [Act.put,List.setIfInBounds_toArray,List.set_cons_zero,List.set_cons_succ]
         rw [wpWays_done4]
         try simp only [List.map_cons,List.map_nil,opAt,List.getElem?_toArray,List.getElem?_cons_zero,List.getElem?_cons_succ,Option.getD_some]
         refine wpQuiet_nil ?_
         go_wp2_with fail
         go_meet
         exact ⟨Lib.hid (HBR.out.trans ((B24.out.trans BW2.out).mono HBR.out.size)),RSW⟩
        ·go_wp2_with fail
         refine ⟨⟨⟨_,BWD.out⟩,rfl⟩,?_⟩
         try simp only [Act.put,List.setIfInBounds_toArray,List.set_cons_zero,List.set_cons_succ]
         rw [wpWays_one4]
         try simp only [List.map_cons,List.map_nil,opAt,List.getElem?_toArray,List.getElem?_cons_zero,List.getElem?_cons_succ,Option.getD_some]
         refine wpQuiet_nil ?_
         go_wp2_with fail
         refine ⟨⟨⟨_,BWD.out⟩,rfl⟩,?_⟩
         try simp only [Act.put,List.setIfInBounds_toArray,List.set_cons_zero,List.set_cons_succ]
         clear z0 z1 z2 z3 z4 z5 z6 z7 y0 y1 y2 y3 y4 y5 y6 y7
         rw [wpWays_one4]
         try simp only [List.map_cons,List.map_nil,opAt,List.getElem?_toArray,List.getElem?_cons_zero,List.getElem?_cons_succ,Option.getD_some]
         repeat (first
          | go_big_quiet_step (fail))
         refine wpQuiet_nil ?_
         go_wp2_with (refine wpList_store_mid rfl 40 (.tmp 179) (.tmp 175) rfl bz 0 #[.int .i64 qe.se,.int .i64 qe.st,.int .i64 qe.en,.int .i64 qe.ad,.int .i64 qe.le,.int .i64 qe.cn,.int .i64 qe.co,.int .u32 qe.cr] rfl rfl T1.out (by kernel_rfl) (by simp [Value.oneCell']) ?_)
         refine ⟨⟨⟨_,BW1.out⟩,rfl⟩,?_⟩
         try simp only [Act.put,List.setIfInBounds_toArray,List.set_cons_zero,List.set_cons_succ]
         rw [wpWays_one4]
         try simp only [List.map_cons,List.map_nil,opAt,List.getElem?_toArray,List.getElem?_cons_zero,List.getElem?_cons_succ,Option.getD_some]
         repeat (first
          | go_big_quiet_step (fail))
         refine wpQuiet_nil ?_
         go_wp2_with (refine wpList_store_mid rfl 40 (.tmp 180) (.tmp 178) rfl bz 8 #[.int .i64 pe.se,.int .i64 pe.st,.int .i64 pe.en,.int .i64 pe.ad,.int .i64 pe.le,.int .i64 pe.cn,.int .i64 pe.co,.int .u32 pe.cr] rfl rfl T2.out (by kernel_rfl) (by simp [Value.oneCell']) ?_)
         refine ⟨⟨⟨_,BW2.out⟩,rfl⟩,?_⟩
         try simp only [Act.put,List.setIfInBounds_toArray,List.set_cons_zero,List.set_cons_succ]
         rw [wpWays_done4]
         try simp only [List.map_cons,List.map_nil,opAt,List.getElem?_toArray,List.getElem?_cons_zero,List.getElem?_cons_succ,Option.getD_some]
         refine wpQuiet_nil ?_
         go_wp2_with fail
         go_meet
         exact ⟨Lib.hid (HBR.out.trans ((B24.out.trans BW2.out).mono HBR.out.size)),RSW⟩
       case rest =>
        obtain ⟨B25,R25⟩:=hcut
        obtain ⟨W25,rfl⟩:∃ W25,W25=wc:=⟨_,rfl⟩
        clear RS2 HB0 hj2
        have HLO:Hid (Calls Tryz.prog 10 #[.pointer (some ⟨gv,0,none⟩),.slice (some ⟨g0,0,none⟩) j c24] W25 fun e w'=>e=.returned (.tuple #[.agg #[.int .i64 0,.int .i64 0],.int .i64 8])∧Below W25.heap.size W25 w'):=Lib.hid (load_order gv g 1 200 U map0 (qe :: pe :: t) qe pe rfl rfl HPQ.out _ j c24 (by have h1:=entsL_len Q R j;rw [HES.out] at h1;simpa using h1) (row_cap R25.out).1 (row_cap R25.out).2 (by have:=HK.out;omega) (fun e he=>(entsL_rising (Q:=Q) (R:=R) (k:=j) (by have:=HK.out;omega)).ok e (by
         rw [HES.out]
         rcases List.mem_cons.1 he with h1 | h1
         ·exact List.mem_cons_of_mem _ (by rw [h1];exact List.mem_cons_self ..)
         ·rcases List.mem_cons.1 h1 with h2 | h2
          ·rw [h2];exact List.mem_cons_self ..
          ·exact List.mem_cons_of_mem _ (List.mem_cons_of_mem _ h2))) W25 (EnAt.of_row R25.out) (V8.out.below B25.out))
        go_upto_region 29 with (first
         | (go_at_call 10;refine HLO.out.mono ?_;rintro e w26 ⟨rfl,hb⟩;have B26:=Lib.hid hb;clear hb HLO)
         | (refine wpList_store_row rfl 43 (.tmp 25) (.tmp 185) rfl w26.heap.size #[.int .i64 0,.int .i64 0] rfl rfl 43 _ (heap_alloc_new _ _) (by kernel_rfl) rfl (by simp [Value.oneCell']) ?_))
        obtain ⟨w27,hw27⟩:∃ w27,w27=(w26.alloc (.cells #[.int .i64 0,.int .i64 0] 43)).setRow w26.heap.size #[.int .i64 0,.int .i64 0]:=⟨_,rfl⟩
        have B27:Hid (Below w8.heap.size w8 w27):=Lib.hid (B25.out.trans ((B26.out.trans ((by rw [hw27];exact below_setRow (alloc_bel rfl) (Nat.le_refl _) _:Below w26.heap.size w26 w27).mono B26.out.size)).mono B25.out.size))
        rw [← hw27]
        clear hw27 B25 R25 B26
        try simp only [Act.put,List.setIfInBounds_toArray,List.set_cons_zero,List.set_cons_succ]
        have hj150:j<150:=HK.out
        have hjz:((j:Int) == 0)=false:=by have:=HJ2.out;simp;omega
        have hpi:=HPI.out
        go_upto_region 30 with fail
        rw [hpi]
        clear hpi hjz
        obtain ⟨de,hde⟩:∃ de,de=entL Q R ia:=⟨_,rfl⟩
        have HDE:Hid (de ∈ entsL Q R j):=Lib.hid (by rw [hde];exact List.mem_of_getElem? (entsL_get HIA.out))
        have HGT:Hid ((entsL Q R j)[ia]?=some de):=Lib.hid (by rw [hde];exact entsL_get HIA.out)
        have HUP:Hid (Up (entsL Q R j)):=Lib.hid (entsL_up (by omega))
        clear hde
        have HDL:Hid (∀ W,Below w8.heap.size w8 W→Calls Tryz.prog 15 #[.pointer (some ⟨gv,0,none⟩),.agg #[.int .i64 (a:Int),.int .i64 (hh:Int)],.agg #[.int .i64 de.se,.int .i64 de.st]] W fun e' w'=>∃ (a' hh':Nat) (U':List Bool) (L:List (Nat × (NodeD × NdL))),e'=.returned (.tuple #[.agg #[.int .i64 (a':Int),.int .i64 (hh':Int)],.int .i64 0])∧Wrote W w' gv g 1 200 U' map0 B gs gn (200*256) cs cn rw' (List.replicate (200*256) 0) nw' ws' L∧∃ X Z,entsL Q R j=X ++ de :: Z∧∀ nw2,PgsOf 1 nw' nw2 L→TreeQ nw2 (200*256) a' hh' (X ++ Z)):=Lib.hid (fun W hW=>by
         obtain ⟨h,nr,ehh,h4,htre,hrd,h1e⟩:=HTW.out (by have:=HJ2.out;omega)
         have h1:=delete_any gv g 1 200 a h U map0 nr (entsL Q R j) de.key de hrd htre h4 ((entsL_rising (by omega)).good (entsL_in (by omega) HR2.out)) HDE.out rfl HU.out length_map0 HO.out (okM_zero 200 (by decide) (by decide)) (HRM.out.less (by omega)) (by decide) HWS.out (by decide) W (V8.out.below hW) (D8.out.below hW)
         rw [show ((h:Int)+1)=(hh:Int) by omega] at h1
         exact h1)
        have NX:Hid (∀ W,Below w8.heap.size w8 W→∀ (q:Nat) (cs:Array Value) (T:TypeId),W.heap[q]?=some (.cells cs T (0,0))→T≠105→T≠145→T≠5→T≠251→¬ (DkX g gn rw' q∨q=gv)):=Lib.hid (fun W hW q cs T hq h1 h2 h3 h4 hx=>by
         rcases hx with hx | hx
         ·exact (D8.out.below hW).notX hq h2 (.inl h3) h4 hx
         ·have h5:=V8.out.below hW
          unfold ViewAt at h5
          rw [hx,h5] at hq
          cases hq
          exact h1 rfl)
        have R1x:=Lib.hid (row_below R18.out B27.out)
        have R2x:=Lib.hid (row_below R28.out B27.out)
        have GRx:=Lib.hid (row_stays G8.out B27.out)
        obtain ⟨X,hX⟩:∃ X:Nat→Prop,X=fun k=>DkX g gn rw' k∨k=gv:=⟨_,rfl⟩
        have HXX:=Lib.hid hX
        have KR1:Hid (∀ W,OuterX X w27 W→W.ownsRow w.heap.size 34 8 (.slice A1 j c1) j ((entsL Q R j).flatMap enC)):=Lib.hid (fun W hW=>row_keep R1x.out (fun q cur _ hc=>hW.block q (Array.getElem?_eq_some_iff.1 hc).1 (by rw [HXX.out];exact NX.out _ B27.out q _ _ hc (by decide) (by decide) (by decide) (by decide))))
        have KR2:Hid (∀ W,OuterX X w27 W→entAt W b2 (o2+ia*8) de):=Lib.hid (fun W hW=>by
         have h1:=row_keep R2x.out (fun q cur _ hc=>hW.block q (Array.getElem?_eq_some_iff.1 hc).1 (by rw [HXX.out];exact NX.out _ B27.out q _ _ hc (by decide) (by decide) (by decide) (by decide)))
         obtain ⟨b,o,hA,hc⟩:=EnAt.of_row h1 (by intro h2;have h3:=HDE.out;rw [h2] at h3;cases h3)
         injection hA with e1
         injection e1 with e2 e3
         rw [e2,e3]
         exact hc ia de HGT.out)
        have g1:∀ y:SubX X w27,y.at_.heap[br]?=some (.cells #[.int .i64 (a:Int),.int .i64 (hh:Int)] 43 (0,0)):=fun y=>y.ok_.heap GRx.out (by rw [HXX.out];exact NX.out _ B27.out br _ _ GRx.out (by decide) (by decide) (by decide) (by decide))
        have P0:∀ y:SubX X w27,y.at_.cell? ⟨b2,o2+ia*8,none⟩=some (.int .i64 de.se):=fun y=>(KR2.out _ y.ok_).1
        have P1:∀ y:SubX X w27,y.at_.cell? ⟨b2,o2+ia*8+1,none⟩=some (.int .i64 de.st):=fun y=>(KR2.out _ y.ok_).2.1
        have hia:(ia:Int)<(j:Int):=by have:=HIA.out;omega
        clear hX
        go_cut [28,29] from 195 to 205 (fun s28 s29 wx=>∃ (qa a' hh':Nat) (U':List Bool) (L':List (Nat × (NodeD × NdL))) (Xs Zs:List EntD),s28=.pointer (some ⟨qa,0,none⟩)∧s29=.int .i64 0∧Hid (entsL Q R j=Xs ++ de :: Zs)∧Hid (∀ nw2,PgsOf 1 nw' nw2 L'→TreeQ nw2 (200*256) a' hh' (Xs ++ Zs))∧Hid (Wrote w27 wx gv g 1 200 U' map0 B gs gn (200*256) cs cn rw' (List.replicate (200*256) 0) nw' ws' L')∧Hid (wx.heap[qa]?=some (.cells #[.int .i64 (a':Int),.int .i64 (hh':Int)] 43 (0,0))))
        case first =>
         refine region_waysX 13 X (.two [0,1,2,3,4,5,6] 7 (.one [8,9,10] 11 (.one [] 12 (.done []))) 11 (.one [] 7 (.one [8,9,10] 12 (.done [])))) (by kernel_rfl) (by kernel_rfl) ?_
         rintro wf hbf
         have BF:=Lib.hid hbf
         have B8F:=Lib.hid (B27.out.trans (hbf.mono B27.out.size))
         clear hbf
         rw [wpWaysT_two]
         try simp only [List.map_cons,List.map_nil,opAt,List.getElem?_toArray,List.getElem?_cons_zero,List.getElem?_cons_succ,Option.getD_some]
         repeat (first
          | (go_big_quiet_want;refine quietX_load_row 43 (.tmp 15) rfl br rfl 43 _ (0,0) _ g1 Tryz.underlying43 rfl (by kernel_rfl) ?_;simp only [Act.put,List.setIfInBounds_toArray,List.set_cons_zero,List.set_cons_succ];go_big_quiet_on)
          | go_big_quiet_step (fail))
         clear g1 P0 P1
         refine wpQuiet_nil ⟨?_,?_⟩
         ·go_wp2_with (go_at_call 15;refine (HDL.out _ B8F.out).mono ?_;rintro e x1 ⟨a',hh',U',L',rfl,hw,Xs,Zs,hxz,ht⟩;have W1:=Lib.hid (hw.pre BF.out);have HXZ:=Lib.hid hxz;have HTF:=Lib.hid ht;clear hw hxz ht)
          have O1:Hid (OuterX X w27 x1):=Lib.hid (by rw [HXX.out];exact W1.out.out)
          refine ⟨⟨⟨_,O1.out⟩,rfl⟩,?_⟩
          try simp only [Act.put,List.setIfInBounds_toArray,List.set_cons_zero,List.set_cons_succ]
          rw [wpWaysT_one]
          try simp only [List.map_cons,List.map_nil,opAt,List.getElem?_toArray,List.getElem?_cons_zero,List.getElem?_cons_succ,Option.getD_some]
          repeat (first
           | go_big_quiet_step (fail))
          refine wpQuiet_nil ?_
          go_wp2_with fail
          obtain ⟨qa,hqa⟩:∃ qa,qa=x1.heap.size:=⟨_,rfl⟩
          obtain ⟨x2,hx2⟩:∃ x2,x2=World.alloc x1 (.cells #[.int .i64 0,.int .i64 0] 43):=⟨_,rfl⟩
          have GA:Hid (x2.heap[qa]?=some (.cells #[.int .i64 0,.int .i64 0] 43 (0,0))):=Lib.hid (by rw [hx2,hqa];exact heap_alloc_new _ _)
          have AB:=Lib.hid (alloc_bel hx2)
          have QL:Hid (w27.heap.size≤qa):=Lib.hid (by rw [hqa];exact O1.out.size)
          have W2:=Lib.hid (W1.out.post (KeptNot.of_below (E:=43) AB.out) (AB.out.mono O1.out.size) (by decide) (by decide) (by decide) (by decide))
          rw [← hx2,← hqa]
          clear hx2 hqa W1 O1
          have O2:Hid (OuterX X w27 x2):=Lib.hid (by rw [HXX.out];exact W2.out.out)
          refine ⟨⟨⟨_,O2.out⟩,rfl⟩,?_⟩
          try simp only [Act.put,List.setIfInBounds_toArray,List.set_cons_zero,List.set_cons_succ]
          rw [wpWaysT_one]
          try simp only [List.map_cons,List.map_nil,opAt,List.getElem?_toArray,List.getElem?_cons_zero,List.getElem?_cons_succ,Option.getD_some]
          refine wpQuiet_nil ?_
          have KF:=Lib.hid (KeptNot.of_setRow GA.out #[.int .i64 (a':Int),.int .i64 (hh':Int)])
          have WF:=Lib.hid (W2.out.post KF.out (below_setRow (Below.refl _ _) QL.out _) (by decide) (by decide) (by decide) (by decide))
          have OF:Hid (OuterX X w27 (x2.setRow qa #[.int .i64 (a':Int),.int .i64 (hh':Int)])):=Lib.hid (by rw [HXX.out];exact WF.out.out)
          go_wp2_with (refine wpList_store_row rfl 43 (.tmp 28) (.tmp 204) rfl qa #[.int .i64 (a':Int),.int .i64 (hh':Int)] rfl rfl 43 _ GA.out (by kernel_rfl) rfl (by simp [Value.oneCell']) ?_)
          refine ⟨⟨⟨_,OF.out⟩,rfl⟩,?_⟩
          try simp only [Act.put,List.setIfInBounds_toArray,List.set_cons_zero,List.set_cons_succ]
          rw [wpWaysT_done]
          simp only [List.map_cons,List.map_nil,List.drop_succ_cons,List.drop_zero,opAt,List.getElem?_toArray,List.getElem?_cons_zero,List.getElem?_cons_succ,Option.getD_some]
          repeat (first
           | go_big_quiet_step (fail))
          refine wpQuiet_nil ?_
          have G28:Hid ((x2.setRow qa #[.int .i64 (a':Int),.int .i64 (hh':Int)]).heap[qa]?=some (.cells #[.int .i64 (a':Int),.int .i64 (hh':Int)] 43 (0,0))):=Lib.hid (setRow_heap _ _ _ _ _ _ GA.out)
          go_wp2_with fail
          go_meet
          exact ⟨qa,a',hh',U',L',Xs,Zs,rfl,rfl,HXZ,HTF,WF,G28⟩
         ·go_wp2_with fail
          obtain ⟨qa,hqa⟩:∃ qa,qa=wf.heap.size:=⟨_,rfl⟩
          obtain ⟨x1,hx1⟩:∃ x1,x1=World.alloc wf (.cells #[.int .i64 0,.int .i64 0] 43):=⟨_,rfl⟩
          have GA0:Hid (x1.heap[qa]?=some (.cells #[.int .i64 0,.int .i64 0] 43 (0,0))):=Lib.hid (by rw [hx1,hqa];exact heap_alloc_new _ _)
          have AB:=Lib.hid (alloc_bel hx1)
          have QL:Hid (w27.heap.size≤qa):=Lib.hid (by rw [hqa];exact BF.out.size)
          have BF1:Hid (Below w27.heap.size w27 x1):=Lib.hid (BF.out.trans (AB.out.mono BF.out.size))
          have B8X:Hid (Below w8.heap.size w8 x1):=Lib.hid (B8F.out.trans (AB.out.mono B8F.out.size))
          rw [← hx1,← hqa]
          clear hx1 hqa
          refine ⟨⟨⟨_,outerX_of_below BF1.out⟩,rfl⟩,?_⟩
          try simp only [Act.put,List.setIfInBounds_toArray,List.set_cons_zero,List.set_cons_succ]
          rw [wpWaysT_one]
          try simp only [List.map_cons,List.map_nil,opAt,List.getElem?_toArray,List.getElem?_cons_zero,List.getElem?_cons_succ,Option.getD_some]
          refine wpQuiet_nil ?_
          go_wp2_with (go_at_call 15;refine (HDL.out _ B8X.out).mono ?_;rintro e x2 ⟨a',hh',U',L',rfl,hw,Xs,Zs,hxz,ht⟩;have W2:=Lib.hid (hw.pre BF1.out);have GA:=Lib.hid (hw.out.heap GA0.out (NX.out _ B8X.out qa _ _ GA0.out (by decide) (by decide) (by decide) (by decide)));have HXZ:=Lib.hid hxz;have HTF:=Lib.hid ht;clear hw hxz ht)
          have O2:Hid (OuterX X w27 x2):=Lib.hid (by rw [HXX.out];exact W2.out.out)
          refine ⟨⟨⟨_,O2.out⟩,rfl⟩,?_⟩
          try simp only [Act.put,List.setIfInBounds_toArray,List.set_cons_zero,List.set_cons_succ]
          rw [wpWaysT_one]
          try simp only [List.map_cons,List.map_nil,opAt,List.getElem?_toArray,List.getElem?_cons_zero,List.getElem?_cons_succ,Option.getD_some]
          repeat (first
           | go_big_quiet_step (fail))
          refine wpQuiet_nil ?_
          have KF:=Lib.hid (KeptNot.of_setRow GA.out #[.int .i64 (a':Int),.int .i64 (hh':Int)])
          have WF:=Lib.hid (W2.out.post KF.out (below_setRow (Below.refl _ _) QL.out _) (by decide) (by decide) (by decide) (by decide))
          have OF:Hid (OuterX X w27 (x2.setRow qa #[.int .i64 (a':Int),.int .i64 (hh':Int)])):=Lib.hid (by rw [HXX.out];exact WF.out.out)
          go_wp2_with (refine wpList_store_row rfl 43 (.tmp 28) (.tmp 204) rfl qa #[.int .i64 (a':Int),.int .i64 (hh':Int)] rfl rfl 43 _ GA.out (by kernel_rfl) rfl (by simp [Value.oneCell']) ?_)
          refine ⟨⟨⟨_,OF.out⟩,rfl⟩,?_⟩
          try simp only [Act.put,List.setIfInBounds_toArray,List.set_cons_zero,List.set_cons_succ]
          rw [wpWaysT_done]
          simp only [List.map_cons,List.map_nil,List.drop_succ_cons,List.drop_zero,opAt,List.getElem?_toArray,List.getElem?_cons_zero,List.getElem?_cons_succ,Option.getD_some]
          repeat (first
           | go_big_quiet_step (fail))
          refine wpQuiet_nil ?_
          have G28:Hid ((x2.setRow qa #[.int .i64 (a':Int),.int .i64 (hh':Int)]).heap[qa]?=some (.cells #[.int .i64 (a':Int),.int .i64 (hh':Int)] 43 (0,0))):=Lib.hid (setRow_heap _ _ _ _ _ _ GA.out)
          go_wp2_with fail
          go_meet
          exact ⟨qa,a',hh',U',L',Xs,Zs,rfl,rfl,HXZ,HTF,WF,G28⟩
        case rest =>
         obtain ⟨qa,a',hh',U',L',Xs,Zs,rfl,rfl,HXZ,HTF,WF,G28⟩:=hcut
         obtain ⟨w31,rfl⟩:∃ w31,w31=wc:=⟨_,rfl⟩
         have OF:Hid (OuterX X w27 w31):=Lib.hid (by rw [HXX.out];exact WF.out.out)
         clear g1 P0 P1
         obtain ⟨rw2,ws2,nw2,d1,d2,d3,d4⟩:=WF.out.disk
         have HTQ2:=Lib.hid (HTF.out nw2 d3)
         have D31:=Lib.hid d1
         have V31:=Lib.hid WF.out.view
         clear d1 d2 d3 d4
         have BW27:Hid (Below w.heap.size w w27):=Lib.hid (BW8.out.trans (B27.out.mono BW8.out.size))
         have BW31:Hid (Below w.heap.size w w31):=Lib.hid (by
          have h1:=WF.out.out
          have h2:=BW27.out
          refine ⟨h1.os.trans h2.os,h1.tape.trans h2.tape,h1.output.trans h2.output,Nat.le_trans h2.size h1.size,fun q hq=>(h1.block q (Nat.lt_of_lt_of_le hq h2.size) (fun hx=>?_)).trans (h2.block q hq)⟩
          have hgB:=D8.out.gB
          have hnB:=(OwnB.parts D8.out.now).1
          have:=GB.out
          rcases hx with (hx | hx | hx) | hx
          ·omega
          ·omega
          ·have:=(World.ownsRow.lt D8.out.wait q hx).1
           omega
          ·have:=GV.out
           omega)
         have R1F:=Lib.hid (KR1.out w31 OF.out)
         clear KR1 KR2 WF OF HTF R1x R2x GRx HDL NX
         obtain ⟨b1,o1,hA1,hc1⟩:=EnAt.of_row R1F.out (by intro h2;have h3:=HDE.out;rw [h2] at h3;cases h3)
         subst hA1
         obtain ⟨z0,z1,z2,z3,z4,z5,z6,z7⟩:=hc1 ia de HGT.out
         clear hc1 z2 z3 z4 z5 z6 z7
         obtain ⟨m,hm⟩:∃ m,j=m+1:=⟨j - 1,by have:=HJ2.out;omega⟩
         have HML:Hid ((Xs ++ Zs).length=m):=Lib.hid (by
          have h1:=congrArg List.length HXZ.out
          rw [entsL_len,List.length_append,List.length_cons] at h1
          rw [List.length_append]
          omega)
         have HMJ:Hid (m≠j∧m≤150):=Lib.hid (by omega)
         clear hm
         have HRD:Hid (Calls Tryz.prog 16 #[.slice (some ⟨b1,o1,none⟩) j c1,.agg #[.int .i64 de.se,.int .i64 de.st]] w31 fun e w'=>∃ A' c',e=.returned (.tuple #[.slice A' m c',.int .i64 0])∧w'.ownsRow w31.heap.size 34 8 (.slice A' m c') m ((Xs ++ Zs).flatMap enC)∧Below w31.heap.size w31 w'):=Lib.hid (by
          have hf:=filter_one HUP.out HXZ.out
          have h1:=ref_delete (entsL Q R j) de.se de.st (some ⟨b1,o1,none⟩) j c1 m w31 (entsL_len Q R j) (by omega) (EnAt.of_row R1F.out) (by rw [hf];exact HML.out) HMJ.out.1
          rw [hf] at h1
          exact h1)
         have HAL2:Hid (∀ W,Below w31.heap.size w31 W→Calls Tryz.prog 11 #[.pointer (some ⟨gv,0,none⟩),.agg #[.int .i64 (a':Int),.int .i64 (hh':Int)]] W fun e w'=>∃ A c,e=.returned (.tuple #[.slice A m c,.int .i64 0])∧w'.ownsRow W.heap.size 40 8 (.slice A m c) m ((Xs ++ Zs).flatMap enC)∧Below W.heap.size W w'):=Lib.hid (fun W hW=>by
          have h1:=all_any gv g 1 200 a' hh' U' map0 (Xs ++ Zs) HTQ2.out (by rw [HML.out];have:=HMJ.out.2;omega) W (V31.out.below hW) (D31.out.below hW)
          rw [HML.out] at h1
          exact h1)
         have HBK2:Hid (∀ (A:Option Addr) (c:Nat) (W:World),EnAt W A (Xs ++ Zs)→Calls Tryz.prog 13 #[.slice A m c] W fun e w'=>∃ A' c',e=.returned (.slice A' m c')∧w'.ownsRow W.heap.size 34 8 (.slice A' m c') m ((Xs ++ Zs).flatMap enC)∧Below W.heap.size W w'):=Lib.hid (fun A c W h=>back_list (Xs ++ Zs) A m c W HML.out (by have:=HMJ.out.2;omega) h)
         have HSM2:Hid (∀ (A A2:Option Addr) (c c2:Nat) (W:World),EnAt W A (Xs ++ Zs)→EnAt W A2 (Xs ++ Zs)→Calls Tryz.prog 12 #[.slice A m c,.slice A2 m c2] W fun e w'=>e=.returned (.bool true)∧Below W.heap.size W w'):=Lib.hid (fun A A2 c c2 W h h2=>same_list (Xs ++ Zs) A A2 m c c2 W HML.out (by have:=HMJ.out.2;omega) h h2)
         go_upto_region 33 with (first
          | (go_at_call 16;refine HRD.out.mono ?_;rintro e w32 ⟨A32,c32,rfl,hr,hb⟩;have R32:=Lib.hid hr;have B32:=Lib.hid hb;have G32:=Lib.hid (row_stays G28.out hb);clear hr hb HRD)
          | (refine wpList_load_row rfl 43 (.tmp 28) rfl qa rfl 43 _ (0,0) _ G32.out Tryz.underlying43 rfl (by kernel_rfl) ?_)
          | (go_at_call 11;refine (HAL2.out _ B32.out).mono ?_;rintro e w33 ⟨A33,c33,rfl,hr,hb⟩;have R33:=Lib.hid hr;have B33:=Lib.hid hb;clear hr hb HAL2))
         clear z0 z1 hia
         go_wp2_with (first
          | (go_at_call 13;refine (HBK2.out A33 c33 _ (EnAt.of_row R33.out)).mono ?_;rintro e w34 ⟨A34,c34,rfl,hr,hb⟩;have R34:=Lib.hid hr;have B34:=Lib.hid hb;clear hr hb HBK2)
          | (go_at_call 12;refine (HSM2.out A34 A32 c34 c32 _ (EnAt.of_row R34.out) ((EnAt.of_row R32.out).below (B33.out.trans (B34.out.mono B33.out.size)))).mono ?_;rintro e w35 ⟨rfl,hb⟩;have B35:=Lib.hid hb;clear hb))
         go_ret
         exact ⟨rfl,BW31.out.trans ((B32.out.trans ((B33.out.trans ((B34.out.trans (B35.out.mono B34.out.size)).mono B33.out.size)).mono B32.out.size)).mono BW31.out.size)⟩
end Go.Proofs.YtgkddhncfaeidaaGreat
