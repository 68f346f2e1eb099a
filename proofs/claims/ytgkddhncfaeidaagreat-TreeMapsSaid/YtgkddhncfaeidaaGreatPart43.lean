/- Squeezed: the texts as they are written lie in wip/tpl. -/
import Derived.Test.YtgkddhncfaeidaaGreatPart42
import Derived.Laws.StructEq
import Derived.ChangeKeysEq
import Derived.Test.YtgkddhncfaeidaaGreatPart15
import Derived.Test.YtgkddhncfaeidaaGreatPart24
set_option maxRecDepth 100000
set_option maxHeartbeats 8000000
set_option linter.unnecessarySimpa false
set_option linter.unusedSimpArgs false
set_option linter.unusedVariables false
namespace Go.Proofs.YtgkddhncfaeidaaGreat
open Go.RowKit PageM
theorem eqItems_same {P:Program} (w:World) (d:Nat) {e:TypeId} (he:P.plainKey e=true) (hb:P.underlying e=some .bool) (xs:Array Value):∀ (is:List Nat),(∀ i ∈ is,∃ b,xs[i]?=some (.bool b)) →
 (Op.eqItems (d+1) e 1 xs xs is).run P w=.ok true w
 | [],_=>by simp [Op.eqItems]
 | i :: is,h=>by
   obtain ⟨b,hb1⟩:=h i (by simp)
   have hp:=run_part_plain (P:=P) w he (xs:=xs) (off:=i*1) (v:=.bool b) (by rw [Nat.mul_one];exact hb1)
   have ih:=eqItems_same w d he hb xs is (fun j hj=>h j (by simp [hj]))
   have hq:=run_equalIn_bool' (P:=P) w d e b b hb
   simp only [Op.eqItems,Sem.run_bind,hp,Result.andThen_ok,hq]
   simpa using ih
theorem eqFields_two {P:Program} (w:World) (d:Nat) (xs:Array Value) (f1 f2:Field) (n1:f1.name≠"_") (n2:f2.name≠"_") (a1 a2:Value) (p1:(part f1.type xs f1.offset).run P w=.ok a1 w) (q1:(Op.equalIn d f1.type a1 a1).run P w=.ok true w)
 (p2:(part f2.type xs f2.offset).run P w=.ok a2 w) (q2:(Op.equalIn d f2.type a2 a2).run P w=.ok true w):(Op.eqFields d xs xs [f1,f2]).run P w=.ok true w:=by
 simp [Op.eqFields,n1,n2,Sem.run_bind,p1,q1,p2,q2]
theorem map_extract (p:Int) (U:List Bool) (hU:U.length=512):(mapC p U).extract 1 513=(U.map Value.bool).toArray:=by
 have h:∀ l:List Value,l.length=512→((Value.int .i64 p :: l).toArray).extract 1 513=l.toArray:=fun l hl=>by
  rw [List.extract_toArray]
  congr 1
  show (l.drop 0).take 512=l
  rw [List.drop_zero]
  exact List.take_of_length_le (by omega)
 exact h _ (by rw [List.length_map];exact hU)
theorem eq_map_d (d:Nat) (p:Int) (U:List Bool) (hU:U.length=512) (w:World):(Op.equalIn (d+1+1+1) 62 (.agg (mapC p U)) (.agg (mapC p U))).run Tryz.prog w=.ok true w:=by
 have ht:Tryz.prog.underlying 62=some (.struct (Tryz.prog.fieldsOf 62)):=by kernel_rfl
 have hp:Tryz.prog.stoodInHeld 62=false:=by kernel_rfl
 have hc1:Tryz.prog.cellsOf 4=1:=by kernel_rfl
 have hf:(Tryz.prog.fieldsOf 62).toList=[⟨"Pages",3,0,false,"","",0⟩,⟨"Used",60,1,false,"","",8⟩]:=by kernel_rfl
 have hk:Tryz.prog.plainKey 3=true:=by kernel_rfl
 have hkb:Tryz.prog.plainKey 4=true:=by kernel_rfl
 have hua:Tryz.prog.underlying 60=some (.array 512 4):=by kernel_rfl
 obtain ⟨ib,hib⟩:=Option.isSome_iff_exists.1 (show (Tryz.prog.info? 4).isSome=true by kernel_rfl)
 obtain ⟨ia,hia⟩:=Option.isSome_iff_exists.1 (show (Tryz.prog.info? 60).isSome=true by kernel_rfl)
 have hc5:Tryz.prog.cellsOf 60=512:=by kernel_rfl
 have hsz:=run_sizeOf w hia
 rw [hc5] at hsz
 have e1:=run_part_plain (P:=Tryz.prog) w hk (xs:=mapC p U) (off:=0) (mapC_0 p U)
 have e2:=run_equalIn_int (P:=Tryz.prog) w (d+1) 3 .i64 .i64 p p Tryz.underlying3
 have hA:(isAgg 60).run Tryz.prog w=.ok true w:=by simp [isAgg,run_underlying hua]
 have e3:(part 60 (mapC p U) 1).run Tryz.prog w=.ok (.agg (U.map Value.bool).toArray) w:=by
  simp only [part,Sem.run_bind,hA,Result.andThen_ok,if_true,hsz,Sem.run_pure,map_extract p U hU]
 have e4:=run_equalIn_array (P:=Tryz.prog) w (d+1) (U.map Value.bool).toArray (U.map Value.bool).toArray hua hib
 rw [hc1] at e4
 have e5:=eqItems_same (P:=Tryz.prog) w d hkb Tryz.underlying4 (U.map Value.bool).toArray (List.range 512) (fun i hi=>by
  have hi':i<U.length:=by rw [hU];exact List.mem_range.1 hi
  exact ⟨U[i]'hi',by rw [List.getElem?_toArray,List.getElem?_map,List.getElem?_eq_getElem hi'];rfl⟩)
 have e6:=run_equalIn_agg (P:=Tryz.prog) w (d+1+1) 62 (mapC p U) (mapC p U) ht hp
 rw [hf] at e6
 rw [e6]
 rw [e5] at e4
 exact eqFields_two w (d+1+1) (mapC p U) _ _ (by decide) (by decide) _ _ e1 (by rw [e2];simp) e3 e4
theorem neq_mapB (p:Int) (U:List Bool) (hU:U.length=512) (C:Array Value) (eC:C=mapC p U) (w:World):(binOp .neq 62 (.agg C) (.agg C)).run Tryz.prog w=.ok (.bool false) w:=by
 have h:=run_neq_struct (P:=Tryz.prog) w 62 (mapC p U) (mapC p U)
 have hk:(Op.equalIn 10000 62 (.agg (mapC p U)) (.agg (mapC p U))).run Tryz.prog w=.ok true w:=eq_map_d 9997 p U hU w
 rw [eC,h,hk]
 rfl
theorem guard_mapB (op:BinOp) (x y:Operand) (C D:Array Value) (w:World):(eqGuard op 62 x y (.agg C) (.agg D)).run Tryz.prog w=.ok () w:=run_eqGuard_agg w op _ x y C D (by kernel_rfl)
end Go.Proofs.YtgkddhncfaeidaaGreat
namespace Go.Proofs.YtgkddhncfaeidaaGreat
open Go.RowKit Go.ChangeShapes Go.WideShapes Go.ChangeAt CrcM PageM
def gx:EntD:=⟨1,5,6,2,9,2,0,0⟩
theorem gx_ok:okEnt gx:=by unfold okEnt okKey okAddr gx;decide
theorem gx_in:inNode ⟨true,[gx],[],[]⟩:=⟨fun e h=>by rw [List.mem_singleton.1 h];unfold inEnt inJ gx;decide,fun k h=>by cases h⟩
theorem gx_at:atK [gx] gx.key=some gx:=rfl
theorem gx_tree {nw nw':List UInt8} {Lx:List (Nat × (NodeD × NdL))} {Ls:Nat} (hL:768≤Ls) (h:PgsOf 1 nw nw' Lx) (hl:Lx.map strip=[(2,⟨true,[gx],[],[]⟩)]):TreeQ nw' Ls 2 1 [gx]:=by
 refine .inr ⟨0,⟨true,[gx],[],[]⟩,rfl,by decide,⟨rfl,rfl,rfl,rfl⟩,⟨okNode_one gx_ok,gx_in,by omega,1,by decide,?_⟩,by decide⟩
 have hm:(2,(⟨true,[gx],[],[]⟩:NodeD)) ∈ Lx.map strip:=by rw [hl];exact List.mem_singleton.2 rfl
 obtain ⟨y,hy,he⟩:=List.mem_map.1 hm
 have h1:=h.1 y hy
 have e1:y.1=2:=congrArg Prod.fst he
 have e2:y.2.1=⟨true,[gx],[],[]⟩:=congrArg Prod.snd he
 rw [putPg,e1,e2] at h1
 exact h1
theorem gx_free:freeN (marks map0 [2]) 20=17:=by decide
theorem grows_any (w:World) :
 Calls Tryz.prog 7 #[] w fun e w'=>e=.returned (.bool true)∧Below w.heap.size w w':=by
 have N0:=Lib.hid (Below.refl w.heap.size w)
 go_enter Tryz.func7,Tryz.ntmps7
 go_upto_region 4 with (go_at_call 6;refine (begin_any 20 (by decide) (by decide) _).mono ?_;rintro e w1 ⟨gv,g,B,N,gs,gn,cs,cn,rfl,hv,hd,hgv,hB,hb⟩;have V1:=Lib.hid hv;have D1:=Lib.hid hd;have GV:=Lib.hid hgv;have GB:=Lib.hid hB;have B1:=Lib.hid hb;clear hv hd hgv hB hb)
 go_upto_region 5 with fail
 obtain ⟨w2,hw2⟩:∃ w2,w2=w1.alloc (.cells #[.int .i64 1,.int .i64 5,.int .i64 6,.int .i64 2,.int .i64 9,.int .i64 2,.int .i64 0,.int .u32 0] 40):=⟨_,rfl⟩
 obtain ⟨g4,hg4⟩:∃ g4,g4=w1.heap.size:=⟨_,rfl⟩
 have G2:Hid (w2.heap[g4]?=some (.cells #[.int .i64 1,.int .i64 5,.int .i64 6,.int .i64 2,.int .i64 9,.int .i64 2,.int .i64 0,.int .u32 0] 40 (0,0))):=Lib.hid (by rw [hw2,hg4];exact heap_alloc_new _ _)
 have A2:=Lib.hid (alloc_bel hw2)
 have B2:=Lib.hid (B1.out.trans (A2.out.mono B1.out.size))
 have V2:=Lib.hid (V1.out.below A2.out)
 have D2:=Lib.hid (D1.out.below A2.out)
 have P2:Hid (Picks 20 (orK map0 map0 512) map0 [2]):=Lib.hid (by rw [orK_self length_map0];exact picks_new 20 1 (by decide) (by decide))
 have HIN:=Lib.hid (insert_first gv g 1 20 map0 map0 length_map0 length_map0 (okM_zero 20 (by decide) (by decide)) (okM_zero 20 (by decide) (by decide)) (by decide) gx gx_ok 0 2 P2.out (by decide) (by decide) w2 V2.out D2.out)
 have hX:¬ (DkX g gn (.slice none 0 0) g4∨g4=gv):=fun hx=>by
  rcases hx with hx | hx
  ·exact D2.out.notX G2.out (by decide) (.inl (by decide)) (by decide) hx
  ·have h1:=V2.out
   have h2:=G2.out
   unfold ViewAt at h1
   rw [hx,h1] at h2
   cases h2
 have HX:=Lib.hid hX
 clear hX P2
 dsimp only [gx] at HIN
 rw [← hw2,← hg4]
 clear hw2 hg4
 go_upto_region 6 with (first
  | (refine wpList_load_row rfl 40 (.tmp 4) rfl g4 rfl 40 _ (0,0) _ G2.out Tryz.underlying40 rfl (by kernel_rfl) ?_)
  | (go_at_call 17;refine HIN.out.mono ?_;rintro e w3 ⟨rfl,Lx,hlx,hw⟩;have W3:=Lib.hid hw;have L3:=Lib.hid hlx;have G3:=Lib.hid (hw.out.heap G2.out HX.out);clear hw hlx))
 obtain ⟨w4,hw4⟩:∃ w4,w4=w3.alloc (.cells #[.int .i64 2,.int .i64 1] 43):=⟨_,rfl⟩
 obtain ⟨g5,hg5⟩:∃ g5,g5=w3.heap.size:=⟨_,rfl⟩
 have G5:Hid (w4.heap[g5]?=some (.cells #[.int .i64 2,.int .i64 1] 43 (0,0))):=Lib.hid (by rw [hw4,hg5];exact heap_alloc_new _ _)
 have A4:=Lib.hid (alloc_bel hw4)
 have G4:=Lib.hid (row_stays G3.out A4.out)
 obtain ⟨rw',ws',nw',d1,-,d3,-⟩:=W3.out.disk
 have T3:Hid (TreeQ nw' (20*256) 2 1 [gx]):=Lib.hid (gx_tree (by decide) d3 L3.out)
 have V4:=Lib.hid (W3.out.view.below A4.out)
 have D4:=Lib.hid (d1.below A4.out)
 have HUP:Hid (Up [gx]):=Lib.hid (List.pairwise_singleton _ _)
 have B4:Hid (Below w.heap.size w w4):=Lib.hid (by
  have h1:=W3.out.out
  have h2:=A4.out
  have hgB:=D1.out.gB
  have hnB:=(OwnB.parts D1.out.now).1
  have hW:Below w.heap.size w2 w3:=⟨h1.os,h1.tape,h1.output,h1.size,fun q hq=>h1.block q (Nat.lt_of_lt_of_le hq B2.out.size) (fun hx=>by
   have:=GB.out
   have:=GV.out
   rcases hx with (hx | hx | hx) | hx
   ·omega
   ·omega
   ·cases hx
   ·omega)⟩
  exact (B2.out.trans hW).trans (h2.mono (Nat.le_trans B2.out.size h1.size)))
 have HFD:=Lib.hid (fun W (hW:Below w4.heap.size w4 W)=>find_any gv g 1 20 2 1 (marks map0 [2]) map0 [gx] gx.key T3.out HUP.out W (V4.out.below hW) (D4.out.below hW))
 have HIK:=Lib.hid (fun W (hW:Below w4.heap.size w4 W)=>insert_known gv g 1 20 2 1 (marks map0 [2]) map0 [gx] gx gx gx_ok T3.out HUP.out gx_at W (V4.out.below hW) (D4.out.below hW))
 rw [gx_at] at HFD
 dsimp only [gx,EntD.key,enV] at HFD HIK
 have HMP:=Lib.hid (fun W (hW:Below w4.heap.size w4 W)=>map_any gv g 1 20 (marks map0 [2]) map0 (by rw [length_marks];exact length_map0) W (V4.out.below hW))
 obtain ⟨C,hC⟩:∃ C,C=mapC ((20:Nat):Int) (marks map0 [2]):=⟨_,rfl⟩
 have HFR:=Lib.hid (fun W=>free_bm 20 (marks map0 [2]) (by rw [length_marks];exact length_map0) (by decide) W C hC 17 gx_free.symm)
 rw [← hC] at HMP
 clear hC d1 d3 T3 HIN W3 L3
 rw [← hw4,← hg5]
 clear hw4 hg5
 have z0:=nd_cell G4.out 0 (.int .i64 1) rfl
 have z1:=nd_cell G4.out 1 (.int .i64 5) rfl
 go_upto_region 7 with (first
  | (refine wpList_load_row rfl 43 (.tmp 5) rfl g5 rfl 43 _ (0,0) _ G5.out Tryz.underlying43 rfl (by kernel_rfl) ?_)
  | (go_at_call 14;refine (HFD.out _ (Below.refl _ _)).mono ?_;rintro e w5 ⟨rfl,hb5⟩;have B5:=Lib.hid hb5;clear hb5))
 clear z0 z1
 obtain ⟨w6,hw6⟩:∃ w6,w6=w5.alloc (.cells #[.int .i64 1,.int .i64 5,.int .i64 6,.int .i64 2,.int .i64 9,.int .i64 2,.int .i64 0,.int .u32 0] 40):=⟨_,rfl⟩
 obtain ⟨g7,hg7⟩:∃ g7,g7=w5.heap.size:=⟨_,rfl⟩
 have G7:Hid (w6.heap[g7]?=some (.cells #[.int .i64 1,.int .i64 5,.int .i64 6,.int .i64 2,.int .i64 9,.int .i64 2,.int .i64 0,.int .u32 0] 40 (0,0))):=Lib.hid (by rw [hw6,hg7];exact heap_alloc_new _ _)
 have A6:=Lib.hid (alloc_bel hw6)
 have B6:Hid (Below w4.heap.size w4 w6):=Lib.hid (B5.out.trans (A6.out.mono B5.out.size))
 rw [← hw6,← hg7]
 clear hw6 hg7
 have H4:=Lib.hid (row_stays G4.out B6.out)
 have H5:=Lib.hid (row_stays G5.out B6.out)
 go_upto_region 8 with (first
  | (refine wpList_load_row rfl 43 (.tmp 5) rfl g5 rfl 43 _ (0,0) _ H5.out Tryz.underlying43 rfl (by kernel_rfl) ?_)
  | (refine wpList_load_row rfl 40 (.tmp 4) rfl g4 rfl 40 _ (0,0) _ H4.out Tryz.underlying40 rfl (by kernel_rfl) ?_)
  | (go_at_call 17;refine (HIK.out _ B6.out).mono ?_;rintro e w7 ⟨rfl,hb7⟩;have B7:=Lib.hid hb7;clear hb7))
 obtain ⟨w8,hw8⟩:∃ w8,w8=w7.alloc (.cells #[.int .i64 0,.int .i64 0] 43):=⟨_,rfl⟩
 have A8:=Lib.hid (alloc_bel hw8)
 have B8:Hid (Below w4.heap.size w4 w8):=Lib.hid (B6.out.trans ((B7.out.trans (A8.out.mono B7.out.size)).mono B6.out.size))
 have J4:=Lib.hid (row_stays G4.out B8.out)
 have J5:=Lib.hid (row_stays G5.out B8.out)
 have J7:=Lib.hid (row_stays G7.out (B7.out.trans (A8.out.mono B7.out.size)))
 rw [← hw8]
 clear hw8
 have z5:=nd_cell J5.out 1 (.int .i64 1) rfl
 have y40:=nd_cell J4.out 0 (.int .i64 1) rfl
 have y70:=nd_cell J7.out 0 (.int .i64 1) rfl
 have y41:=nd_cell J4.out 1 (.int .i64 5) rfl
 have y71:=nd_cell J7.out 1 (.int .i64 5) rfl
 have y42:=nd_cell J4.out 2 (.int .i64 6) rfl
 have y72:=nd_cell J7.out 2 (.int .i64 6) rfl
 have y43:=nd_cell J4.out 3 (.int .i64 2) rfl
 have y73:=nd_cell J7.out 3 (.int .i64 2) rfl
 have y44:=nd_cell J4.out 4 (.int .i64 9) rfl
 have y74:=nd_cell J7.out 4 (.int .i64 9) rfl
 have y45:=nd_cell J4.out 5 (.int .i64 2) rfl
 have y75:=nd_cell J7.out 5 (.int .i64 2) rfl
 have y46:=nd_cell J4.out 6 (.int .i64 0) rfl
 have y76:=nd_cell J7.out 6 (.int .i64 0) rfl
 have y47:=nd_cell J4.out 7 (.int .u32 0) rfl
 have y77:=nd_cell J7.out 7 (.int .u32 0) rfl
 go_wp2_with (first
  | (go_at_call 20;refine (HMP.out _ B8.out).mono ?_;rintro e w9 ⟨rfl,hb9⟩;have B9:=Lib.hid hb9;clear hb9)
  | (go_at_call 25;refine (HFR.out _).mono ?_;rintro e w10 ⟨rfl,hb10⟩;have B10:=Lib.hid hb10;clear hb10))
 go_ret
 exact ⟨rfl,B4.out.trans ((B8.out.trans ((B9.out.trans (B10.out.mono B9.out.size)).mono B8.out.size)).mono B4.out.size)⟩
end Go.Proofs.YtgkddhncfaeidaaGreat
