/- Squeezed: the texts as they are written lie in wip/tpl. -/
import Derived.Test.YtgkddhncfaeidaaGreatPart09
set_option maxRecDepth 100000
set_option maxHeartbeats 4000000
set_option linter.unusedSimpArgs false
set_option linter.unusedVariables false
namespace Go.Proofs.YtgkddhncfaeidaaGreat
open Go.ChangeShapes Go.WideShapes Go.ChangeAt Go.RowKit CrcM PageM
theorem results_cells2 {P:Program} {fn:Func} {p u:Tmp} {ty:TypeId} (h:fn.results=#[.cell p ty,.cell u ty]) (tmps:Array Value) (w:World) (g g2:Nat) (t:TypeId) (cs cs2:Array Value) (fr fr2:Nat × Nat) (d:TypeDesc)
 (hp:tmps.getD p undef=.pointer (some ⟨g,0,none⟩)) (hg:w.heap[g]?=some (.cells cs t fr)) (hp2:tmps.getD u undef=.pointer (some ⟨g2,0,none⟩)) (hg2:w.heap[g2]?=some (.cells cs2 t fr2))
 (hu:P.underlying ty=some d) (hd:(match d with | .struct _ | .array _ _=>true | _=>false)=true) (hi:(P.info? ty).map (·.size)=some cs.size) (hi2:(P.info? ty).map (·.size)=some cs2.size) :
 (results fn tmps).run P w=.ok (.tuple #[.agg cs,.agg cs2]) w:=by
 have hp':tmps[p]?.getD undef=.pointer (some ⟨g,0,none⟩):=by simpa using hp
 have hp2':tmps[u]?.getD undef=.pointer (some ⟨g2,0,none⟩):=by simpa using hp2
 simp [results,h,hp',hp2',asAddr,run_loadVar_row w g t ty cs fr d hg hu hd hi,run_loadVar_row w g2 t ty cs2 fr2 d hg2 hu hd hi2]
theorem size_leaf (EA KA DA:Option Addr) (ne ec nk kc nd dc:Nat) (w:World):Calls Tryz.prog 52 #[.agg #[.bool true,.slice EA ne ec,.slice KA nk kc,.slice DA nd dc]] w fun e w'=>e=.returned (.int .i64 (ne:Int))∧Below w.heap.size w w':=by
 go_enter Tryz.func52,Tryz.ntmps52
 go_wp2_with fail
 go_ret
 exact ⟨rfl,(Below.refl _ _).alloc (Nat.le_refl _) _⟩
theorem size_inner (EA KA DA:Option Addr) (ne ec nk kc nd dc:Nat) (w:World):Calls Tryz.prog 52 #[.agg #[.bool false,.slice EA ne ec,.slice KA nk kc,.slice DA nd dc]] w fun e w'=>e=.returned (.int .i64 (nd:Int))∧Below w.heap.size w w':=by
 go_enter Tryz.func52,Tryz.ntmps52
 go_wp2_with fail
 go_ret
 exact ⟨rfl,(Below.refl _ _).alloc (Nat.le_refl _) _⟩
theorem halves_leaf (b o n c hf:Nat) (KA DA:Option Addr) (nk kc nd dc:Nat) (hh:hf=(n+1) / 2) (h2:2≤n) (hc:n≤c) (hn:n≤1000000000000) (hm:c≤9223372036854775807) (w:World) :
 Calls Tryz.prog 95 #[.agg #[.bool true,.slice (some ⟨b,o,none⟩) n c,.slice KA nk kc,.slice DA nd dc]] w fun e w'=>e=.returned (.tuple #[.agg #[.bool true,.slice (some ⟨b,o,none⟩) hf c,.slice none 0 0,.slice none 0 0],.agg #[.bool true,.slice (some ⟨b,o+hf*8,none⟩) (n - hf) (c - hf),.slice none 0 0,.slice none 0 0]])∧Below w.heap.size w w':=by
 obtain ⟨W,eW⟩:∃ W,W=((w.alloc (.cells #[.bool true,.slice (some ⟨b,o,none⟩) n c,.slice KA nk kc,.slice DA nd dc] 86)).alloc (.cells #[.bool false,.slice none 0 0,.slice none 0 0,.slice none 0 0] 86)).alloc (.cells #[.bool false,.slice none 0 0,.slice none 0 0,.slice none 0 0] 86):=⟨_,rfl⟩
 have hb:Below w.heap.size w W:=by rw [eW];exact (((Below.refl _ _).alloc (Nat.le_refl _) _).alloc (by simp) _).alloc (by simp;omega) _
 have hr0:W.heap[w.heap.size]?=some (.cells #[.bool true,.slice (some ⟨b,o,none⟩) n c,.slice KA nk kc,.slice DA nd dc] 86 (0,0)):=by rw [eW];exact alloc3_0 _ _ _ _ (fun u=>heap_alloc_new u _)
 have hr1:W.heap[w.heap.size+1]?=some (.cells #[.bool false,.slice none 0 0,.slice none 0 0,.slice none 0 0] 86 (0,0)):=by rw [eW];exact alloc3_1 _ _ _ _ (fun u=>heap_alloc_new u _)
 have hr2:W.heap[w.heap.size+2]?=some (.cells #[.bool false,.slice none 0 0,.slice none 0 0,.slice none 0 0] 86 (0,0)):=by rw [eW];exact alloc3_2 _ _ _ _ (fun u=>heap_alloc_new u _)
 have hWs:W.heap.size=w.heap.size+3:=by rw [eW];simp
 have HB:=Lib.hid hb
 have HR0:=Lib.hid hr0
 have HR1:=Lib.hid hr1
 have HR2:=Lib.hid hr2
 have HWS:=Lib.hid hWs
 clear hb hr0 hr1 hr2 hWs
 have q1:wrap64 ((n:Int)+1)=(n:Int)+1:=by unfold wrap64;omega
 have q2:((n:Int)+1).tdiv 2=(hf:Int):=by rw [Int.tdiv_eq_ediv_of_nonneg (by omega)];omega
 have q3:wrap64 (hf:Int)=(hf:Int):=by unfold wrap64;omega
 have HH:=Lib.hid hh
 clear hh
 go_enter Tryz.func95,Tryz.ntmps95
 go_upto_region 1 with fail
 rw [← eW]
 clear eW
 go_upto_region 2 with (first
  | (refine wpList_load_row rfl 86 (.tmp 1) rfl w.heap.size rfl 86 _ (0,0) _ HR0.out Tryz.underlying86 rfl (by kernel_rfl) ?_)
  | (go_at_call 52;refine (size_leaf _ _ _ _ _ _ _ _ _ _).mono ?_;rintro e w1 ⟨rfl,hb1⟩;have HB1:=Lib.hid hb1;clear hb1))
 rw [q3]
 clear q1 q2 q3
 have G9:=row_stays HR0.out HB1.out
 have hs1:=HB1.out.size
 have a0:=nd_cell G9 0 _ rfl
 simp only [List.getElem_toArray,List.getElem_cons_zero] at a0
 go_upto_region 3 with fail
 have G0:∀ y:SubW (w.heap.size+1) w1,y.at_.cell? ⟨w.heap.size,1,none⟩=some (.slice (some ⟨b,o,none⟩) n c):=fun y=>nd_cell ((y.ok_.block _ (by omega)).trans G9) 1 _ rfl
 have k1:(0:Int)≤(hf:Int):=by omega
 have k2:hf≤n:=by have:=HH.out;omega
 have k3:hf≤c:=by have:=HH.out;omega
 have k4:c≠hf:=by have:=HH.out;omega
 have k5:n - hf≤c - hf:=by have:=HH.out;omega
 clear a0 G9
 refine region_ways4 (w.heap.size+1) (by have:=HWS.out;omega) (.one [0,1,2,3,4,5,6,7,8,9] 10 (.one [] 11 (.done []))) (by kernel_rfl) (by kernel_rfl) ?_
 rintro wd hbd
 have BD:=Lib.hid (HB1.out.trans (hbd.mono HB1.out.size))
 have BE:=Lib.hid hbd
 clear hbd
 rw [wpWays_one4]
 try simp only [List.map_cons,List.map_nil,opAt,List.getElem?_toArray,List.getElem?_cons_zero,List.getElem?_cons_succ,Option.getD_some]
 repeat (go_big_quiet_step (fail))
 refine wpQuiet_nil ?_
 go_wp2_with (refine wpList_store_row rfl 86 (.tmp 2) (.tmp 16) rfl (w.heap.size+1) #[.bool true,.slice (some ⟨b,o,none⟩) hf c,.slice none 0 0,.slice none 0 0] rfl rfl 86 #[.bool false,.slice none 0 0,.slice none 0 0,.slice none 0 0] (row_stays HR1.out BD.out) (by kernel_rfl) rfl (by simp [Value.oneCell']) ?_)
 obtain ⟨V1,hV1⟩:∃ V,V=wd.setRow (w.heap.size+1) #[.bool true,.slice (some ⟨b,o,none⟩) hf c,.slice none 0 0,.slice none 0 0]:=⟨_,rfl⟩
 rw [← hV1]
 have E1:Hid (V1.heap[w.heap.size+1]?=some (.cells #[.bool true,.slice (some ⟨b,o,none⟩) hf c,.slice none 0 0,.slice none 0 0] 86 (0,0))):=Lib.hid (by rw [hV1];exact setRow_heap _ _ _ _ _ _ (row_stays HR1.out BD.out))
 have E2:Hid (V1.heap[w.heap.size+2]?=some (.cells #[.bool false,.slice none 0 0,.slice none 0 0,.slice none 0 0] 86 (0,0))):=Lib.hid (by rw [hV1,setRow_other _ _ _ _ (by omega)];exact row_stays HR2.out BD.out)
 have BV1:Hid (Below (w.heap.size+1) w1 V1):=Lib.hid (by rw [hV1];exact below_setRow (BE.out.mono (by have:=HWS.out;omega)) (Nat.le_refl _) _)
 clear hV1
 refine ⟨⟨⟨_,BV1.out⟩,rfl⟩,?_⟩
 try simp only [Act.put]
 rw [wpWays_one4]
 try simp only [List.map_nil,opAt,List.getElem?_toArray,List.getElem?_cons_zero,List.getElem?_cons_succ,Option.getD_some]
 refine wpQuiet_nil ?_
 go_wp2_with (refine wpList_store_row rfl 86 (.tmp 3) (.tmp 21) rfl (w.heap.size+2) #[.bool true,.slice (some ⟨b,o+hf*8,none⟩) (n - hf) (c - hf),.slice none 0 0,.slice none 0 0] rfl rfl 86 #[.bool false,.slice none 0 0,.slice none 0 0,.slice none 0 0] E2.out (by kernel_rfl) rfl (by simp [Value.oneCell']) ?_)
 obtain ⟨V2,hV2⟩:∃ V,V=V1.setRow (w.heap.size+2) #[.bool true,.slice (some ⟨b,o+hf*8,none⟩) (n - hf) (c - hf),.slice none 0 0,.slice none 0 0]:=⟨_,rfl⟩
 rw [← hV2]
 have E3:Hid (V2.heap[w.heap.size+1]?=some (.cells #[.bool true,.slice (some ⟨b,o,none⟩) hf c,.slice none 0 0,.slice none 0 0] 86 (0,0))):=Lib.hid (by rw [hV2,setRow_other _ _ _ _ (by omega)];exact E1.out)
 have E4:Hid (V2.heap[w.heap.size+2]?=some (.cells #[.bool true,.slice (some ⟨b,o+hf*8,none⟩) (n - hf) (c - hf),.slice none 0 0,.slice none 0 0] 86 (0,0))):=Lib.hid (by rw [hV2];exact setRow_heap _ _ _ _ _ _ E2.out)
 have BV2:Hid (Below (w.heap.size+1) w1 V2):=Lib.hid (by rw [hV2];exact below_setRow BV1.out (by omega) _)
 clear hV2
 refine ⟨⟨⟨_,BV2.out⟩,rfl⟩,?_⟩
 try simp only [Act.put]
 rw [wpWays_done4]
 try simp only [List.map_nil]
 refine wpQuiet_nil ?_
 go_wp2_with fail
 exact bodyPost_ret (v:=.tuple #[.agg #[.bool true,.slice (some ⟨b,o,none⟩) hf c,.slice none 0 0,.slice none 0 0],.agg #[.bool true,.slice (some ⟨b,o+hf*8,none⟩) (n - hf) (c - hf),.slice none 0 0,.slice none 0 0]]) (results_cells2 (p:=2) (u:=3) (ty:=86) rfl _ _ (w.heap.size+1) (w.heap.size+2) 86 _ _ (0,0) (0,0) _ rfl E3.out rfl E4.out Tryz.underlying86 rfl (by kernel_rfl) (by kernel_rfl)) rfl ⟨rfl,(HB.out.trans (HB1.out.mono HB.out.size)).trans (BV2.out.mono (by omega))⟩
theorem halves_inner (b o n c b2 o2 c2 hf:Nat) (EA:Option Addr) (ne ec:Nat) (hh:hf=(n+1) / 2) (h2:2≤n) (hc:n≤c) (hc2:n≤c2) (hn:n≤1000000000000) (hm:c≤9223372036854775807) (hm2:c2≤9223372036854775807) (w:World) :
 Calls Tryz.prog 95 #[.agg #[.bool false,.slice EA ne ec,.slice (some ⟨b,o,none⟩) n c,.slice (some ⟨b2,o2,none⟩) n c2]] w fun e w'=>e=.returned (.tuple #[.agg #[.bool false,.slice none 0 0,.slice (some ⟨b,o,none⟩) hf c,.slice (some ⟨b2,o2,none⟩) hf c2],.agg #[.bool false,.slice none 0 0,.slice (some ⟨b,o+hf*2,none⟩) (n - hf) (c - hf),.slice (some ⟨b2,o2+hf,none⟩) (n - hf) (c2 - hf)]])∧Below w.heap.size w w':=by
 obtain ⟨W,eW⟩:∃ W,W=((w.alloc (.cells #[.bool false,.slice EA ne ec,.slice (some ⟨b,o,none⟩) n c,.slice (some ⟨b2,o2,none⟩) n c2] 86)).alloc (.cells #[.bool false,.slice none 0 0,.slice none 0 0,.slice none 0 0] 86)).alloc (.cells #[.bool false,.slice none 0 0,.slice none 0 0,.slice none 0 0] 86):=⟨_,rfl⟩
 have hb:Below w.heap.size w W:=by rw [eW];exact (((Below.refl _ _).alloc (Nat.le_refl _) _).alloc (by simp) _).alloc (by simp;omega) _
 have hr0:W.heap[w.heap.size]?=some (.cells #[.bool false,.slice EA ne ec,.slice (some ⟨b,o,none⟩) n c,.slice (some ⟨b2,o2,none⟩) n c2] 86 (0,0)):=by rw [eW];exact alloc3_0 _ _ _ _ (fun u=>heap_alloc_new u _)
 have hr1:W.heap[w.heap.size+1]?=some (.cells #[.bool false,.slice none 0 0,.slice none 0 0,.slice none 0 0] 86 (0,0)):=by rw [eW];exact alloc3_1 _ _ _ _ (fun u=>heap_alloc_new u _)
 have hr2:W.heap[w.heap.size+2]?=some (.cells #[.bool false,.slice none 0 0,.slice none 0 0,.slice none 0 0] 86 (0,0)):=by rw [eW];exact alloc3_2 _ _ _ _ (fun u=>heap_alloc_new u _)
 have hWs:W.heap.size=w.heap.size+3:=by rw [eW];simp
 have HB:=Lib.hid hb
 have HR0:=Lib.hid hr0
 have HR1:=Lib.hid hr1
 have HR2:=Lib.hid hr2
 have HWS:=Lib.hid hWs
 clear hb hr0 hr1 hr2 hWs
 have q1:wrap64 ((n:Int)+1)=(n:Int)+1:=by unfold wrap64;omega
 have q2:((n:Int)+1).tdiv 2=(hf:Int):=by rw [Int.tdiv_eq_ediv_of_nonneg (by omega)];omega
 have q3:wrap64 (hf:Int)=(hf:Int):=by unfold wrap64;omega
 have HH:=Lib.hid hh
 clear hh
 go_enter Tryz.func95,Tryz.ntmps95
 go_upto_region 1 with fail
 rw [← eW]
 clear eW
 go_upto_region 2 with (first
  | (refine wpList_load_row rfl 86 (.tmp 1) rfl w.heap.size rfl 86 _ (0,0) _ HR0.out Tryz.underlying86 rfl (by kernel_rfl) ?_)
  | (go_at_call 52;refine (size_inner _ _ _ _ _ _ _ _ _ _).mono ?_;rintro e w1 ⟨rfl,hb1⟩;have HB1:=Lib.hid hb1;clear hb1))
 rw [q3]
 clear q1 q2 q3
 have G9:=row_stays HR0.out HB1.out
 have hs1:=HB1.out.size
 have a0:=nd_cell G9 0 _ rfl
 simp only [List.getElem_toArray,List.getElem_cons_zero] at a0
 have a2:=nd_cell G9 2 _ rfl
 simp only [List.getElem_toArray,List.getElem_cons_zero,List.getElem_cons_succ] at a2
 have q4:min (hf:Int) (n:Int)=(hf:Int):=by have:=HH.out;omega
 go_upto_region 5 with fail
 clear q4 a2
 have G0:∀ y:SubW (w.heap.size+1) w1,y.at_.cell? ⟨w.heap.size,2,none⟩=some (.slice (some ⟨b,o,none⟩) n c):=fun y=>nd_cell ((y.ok_.block _ (by omega)).trans G9) 2 _ rfl
 have G1:∀ y:SubW (w.heap.size+1) w1,y.at_.cell? ⟨w.heap.size,3,none⟩=some (.slice (some ⟨b2,o2,none⟩) n c2):=fun y=>nd_cell ((y.ok_.block _ (by omega)).trans G9) 3 _ rfl
 have k1:(0:Int)≤(hf:Int):=by omega
 have k2:hf≤n:=by have:=HH.out;omega
 have k3:hf≤c:=by have:=HH.out;omega
 have k4:c≠hf:=by have:=HH.out;omega
 have k5:n - hf≤c - hf:=by have:=HH.out;omega
 have k6:hf≤c2:=by have:=HH.out;omega
 have k7:c2≠hf:=by have:=HH.out;omega
 have k8:n - hf≤c2 - hf:=by have:=HH.out;omega
 clear a0 G9
 refine region_ways4 (w.heap.size+1) (by have:=HWS.out;omega) (.one [0,1,2,3,4,5,6,7,8,9,10,11,12,13,14,15,16,17] 18 (.one [] 19 (.done []))) (by kernel_rfl) (by kernel_rfl) ?_
 rintro wd hbd
 have BD:=Lib.hid (HB1.out.trans (hbd.mono HB1.out.size))
 have BE:=Lib.hid hbd
 clear hbd
 rw [wpWays_one4]
 try simp only [List.map_cons,List.map_nil,opAt,List.getElem?_toArray,List.getElem?_cons_zero,List.getElem?_cons_succ,Option.getD_some]
 repeat (go_big_quiet_step (fail))
 refine wpQuiet_nil ?_
 go_wp2_with (refine wpList_store_row rfl 86 (.tmp 2) (.tmp 35) rfl (w.heap.size+1) #[.bool false,.slice none 0 0,.slice (some ⟨b,o,none⟩) hf c,.slice (some ⟨b2,o2,none⟩) hf c2] rfl rfl 86 #[.bool false,.slice none 0 0,.slice none 0 0,.slice none 0 0] (row_stays HR1.out BD.out) (by kernel_rfl) rfl (by simp [Value.oneCell']) ?_)
 obtain ⟨V1,hV1⟩:∃ V,V=wd.setRow (w.heap.size+1) #[.bool false,.slice none 0 0,.slice (some ⟨b,o,none⟩) hf c,.slice (some ⟨b2,o2,none⟩) hf c2]:=⟨_,rfl⟩
 rw [← hV1]
 have E1:Hid (V1.heap[w.heap.size+1]?=some (.cells #[.bool false,.slice none 0 0,.slice (some ⟨b,o,none⟩) hf c,.slice (some ⟨b2,o2,none⟩) hf c2] 86 (0,0))):=Lib.hid (by rw [hV1];exact setRow_heap _ _ _ _ _ _ (row_stays HR1.out BD.out))
 have E2:Hid (V1.heap[w.heap.size+2]?=some (.cells #[.bool false,.slice none 0 0,.slice none 0 0,.slice none 0 0] 86 (0,0))):=Lib.hid (by rw [hV1,setRow_other _ _ _ _ (by omega)];exact row_stays HR2.out BD.out)
 have BV1:Hid (Below (w.heap.size+1) w1 V1):=Lib.hid (by rw [hV1];exact below_setRow (BE.out.mono (by have:=HWS.out;omega)) (Nat.le_refl _) _)
 clear hV1
 refine ⟨⟨⟨_,BV1.out⟩,rfl⟩,?_⟩
 try simp only [Act.put]
 rw [wpWays_one4]
 try simp only [List.map_nil,opAt,List.getElem?_toArray,List.getElem?_cons_zero,List.getElem?_cons_succ,Option.getD_some]
 refine wpQuiet_nil ?_
 go_wp2_with (refine wpList_store_row rfl 86 (.tmp 3) (.tmp 44) rfl (w.heap.size+2) #[.bool false,.slice none 0 0,.slice (some ⟨b,o+hf*2,none⟩) (n - hf) (c - hf),.slice (some ⟨b2,o2+hf,none⟩) (n - hf) (c2 - hf)] rfl rfl 86 #[.bool false,.slice none 0 0,.slice none 0 0,.slice none 0 0] E2.out (by kernel_rfl) rfl (by simp [Value.oneCell']) ?_)
 obtain ⟨V2,hV2⟩:∃ V,V=V1.setRow (w.heap.size+2) #[.bool false,.slice none 0 0,.slice (some ⟨b,o+hf*2,none⟩) (n - hf) (c - hf),.slice (some ⟨b2,o2+hf,none⟩) (n - hf) (c2 - hf)]:=⟨_,rfl⟩
 rw [← hV2]
 have E3:Hid (V2.heap[w.heap.size+1]?=some (.cells #[.bool false,.slice none 0 0,.slice (some ⟨b,o,none⟩) hf c,.slice (some ⟨b2,o2,none⟩) hf c2] 86 (0,0))):=Lib.hid (by rw [hV2,setRow_other _ _ _ _ (by omega)];exact E1.out)
 have E4:Hid (V2.heap[w.heap.size+2]?=some (.cells #[.bool false,.slice none 0 0,.slice (some ⟨b,o+hf*2,none⟩) (n - hf) (c - hf),.slice (some ⟨b2,o2+hf,none⟩) (n - hf) (c2 - hf)] 86 (0,0))):=Lib.hid (by rw [hV2];exact setRow_heap _ _ _ _ _ _ E2.out)
 have BV2:Hid (Below (w.heap.size+1) w1 V2):=Lib.hid (by rw [hV2];exact below_setRow BV1.out (by omega) _)
 clear hV2
 refine ⟨⟨⟨_,BV2.out⟩,rfl⟩,?_⟩
 try simp only [Act.put]
 rw [wpWays_done4]
 try simp only [List.map_nil]
 refine wpQuiet_nil ?_
 go_wp2_with fail
 exact bodyPost_ret (v:=.tuple #[.agg #[.bool false,.slice none 0 0,.slice (some ⟨b,o,none⟩) hf c,.slice (some ⟨b2,o2,none⟩) hf c2],.agg #[.bool false,.slice none 0 0,.slice (some ⟨b,o+hf*2,none⟩) (n - hf) (c - hf),.slice (some ⟨b2,o2+hf,none⟩) (n - hf) (c2 - hf)]]) (results_cells2 (p:=2) (u:=3) (ty:=86) rfl _ _ (w.heap.size+1) (w.heap.size+2) 86 _ _ (0,0) (0,0) _ rfl E3.out rfl E4.out Tryz.underlying86 rfl (by kernel_rfl) (by kernel_rfl)) rfl ⟨rfl,(HB.out.trans (HB1.out.mono HB.out.size)).trans (BV2.out.mono (by omega))⟩
theorem lenEnC (e:EntD):(enC e).length=8:=rfl
theorem lenKyC (k:KeyD):(kyC k).length=2:=rfl
theorem flatV_len {α:Type} {f:α→List Value} {m:Nat} (hf:∀ x,(f x).length=m):∀ l:List α,(l.flatMap f).length=l.length*m
 | []=>by simp
 | a :: t=>by rw [List.flatMap_cons,List.length_append,hf,flatV_len hf t,List.length_cons,Nat.add_mul,Nat.one_mul,Nat.add_comm]
theorem cells_of_flat {α:Type} {f:α→List Value} {m:Nat} (hm:0<m) (hf:∀ x,(f x).length=m) {w:World} {A:Option Addr} {l:List α}
 (h:l≠[]→∃ b off,A=some ⟨b,off,none⟩∧∀ i x,l[i]?=some x→∀ j u,(f x)[j]?=some u→w.cell? ⟨b,off+i*m+j,none⟩=some u):CellsAt w A (l.flatMap f):=fun hne=>by
 obtain ⟨b,off,hA,hc⟩:=h (fun e=>hne (by rw [e];rfl))
 refine ⟨b,off,hA,fun k hk=>?_⟩
 have hlen:=flatV_len hf l
 have hi:k / m<l.length:=by
  rw [hlen] at hk
  exact (Nat.div_lt_iff_lt_mul hm).2 hk
 have hj:k % m<(f l[k / m]).length:=by rw [hf];exact Nat.mod_lt _ hm
 have e1:=flat_get hf l (k / m) l[k / m] (k % m) (f l[k / m])[k % m] (List.getElem?_eq_getElem hi) (List.getElem?_eq_getElem hj)
 have ek:k / m*m+k % m=k:=Nat.div_add_mod' k m
 rw [ek,List.getElem?_eq_getElem hk,Option.some.injEq] at e1
 have e2:=hc (k / m) l[k / m] (List.getElem?_eq_getElem hi) (k % m) _ (List.getElem?_eq_getElem hj)
 rw [Nat.add_assoc,ek] at e2
 rw [e2,e1]
theorem EnAt.cells {w:World} {A:Option Addr} {es:List EntD} (h:EnAt w A es):CellsAt w A (es.flatMap enC):=cells_of_flat (by decide) lenEnC fun hne=>by
 obtain ⟨b,off,hA,hc⟩:=h hne
 refine ⟨b,off,hA,fun i x hx j u hu=>?_⟩
 obtain ⟨k0,k1,k2,k3,k4,k5,k6,k7⟩:=hc i x hx
 match j,hu with
 | 0,hu=>simp [enC] at hu;subst hu;exact k0
 | 1,hu=>simp [enC] at hu;subst hu;exact k1
 | 2,hu=>simp [enC] at hu;subst hu;exact k2
 | 3,hu=>simp [enC] at hu;subst hu;exact k3
 | 4,hu=>simp [enC] at hu;subst hu;exact k4
 | 5,hu=>simp [enC] at hu;subst hu;exact k5
 | 6,hu=>simp [enC] at hu;subst hu;exact k6
 | 7,hu=>simp [enC] at hu;subst hu;exact k7
 | j+8,hu=>simp [enC] at hu
theorem KyAt.cells {w:World} {A:Option Addr} {ks:List KeyD} (h:KyAt w A ks):CellsAt w A (ks.flatMap kyC):=cells_of_flat (by decide) lenKyC fun hne=>by
 obtain ⟨b,off,hA,hc⟩:=h hne
 refine ⟨b,off,hA,fun i x hx j u hu=>?_⟩
 obtain ⟨k0,k1⟩:=hc i x hx
 match j,hu with
 | 0,hu=>simp [kyC] at hu;subst hu;exact k0
 | 1,hu=>simp [kyC] at hu;subst hu;exact k1
 | j+2,hu=>simp [kyC] at hu
theorem flat_one {α:Type} {f:α→List Value} (hf:∀ x,∀ u ∈ f x,u.oneCell'=true) (l:List α):∀ u ∈ l.flatMap f,u.oneCell'=true:=fun u hu=>by
 obtain ⟨x,_,hx⟩:=List.mem_flatMap.1 hu
 exact hf x u hx
def OwnN (w:World) (base:Nat) (n:NodeD) (l:NdL):Prop :=
 w.ownsRow base 40 8 (.slice l.EA n.es.length l.ec) n.es.length (n.es.flatMap enC)∧w.ownsRow base 38 2 (.slice l.KA n.ks.length l.kc) n.ks.length (n.ks.flatMap kyC)∧w.ownsRow base 3 1 (.slice l.DA n.ds.length l.dc) n.ds.length (n.ds.map kdC)
theorem OwnN.at {w:World} {base:Nat} {n:NodeD} {l:NdL} (h:OwnN w base n l):NodeAt w n l :=
 { e:=EnAt.of_row h.1,k:=KyAt.of_row h.2.1,d:=KdAt.of_row h.2.2,ec:=(row_cap h.1).1,kc:=(row_cap h.2.1).1,dc:=(row_cap h.2.2).1,em:=(row_cap h.1).2,km:=(row_cap h.2.1).2,dm:=(row_cap h.2.2).2 }
theorem OwnN.below {w w':World} {base:Nat} {n:NodeD} {l:NdL} (h:OwnN w base n l) (hb:Below w.heap.size w w'):OwnN w' base n l:=⟨row_below h.1 hb,row_below h.2.1 hb,row_below h.2.2 hb⟩
theorem OwnN.mono {w:World} {base base':Nat} {n:NodeD} {l:NdL} (h:OwnN w base n l) (hb:base'≤base):OwnN w base' n l:=⟨row_mono h.1 hb,row_mono h.2.1 hb,row_mono h.2.2 hb⟩
theorem OwnN.beside {w w':World} {base base' m sz:Nat} {n:NodeD} {l:NdL} {v:Value} {us:List Value} (h:OwnN w base n l) (ho:w.ownsRow base' 86 sz v m us) (hg:w.grownBy w' v.ownBlock):OwnN w' base n l :=
 ⟨row_keep h.1 (fun k cur _ hc=>typed_kept ho hg (by decide) hc),row_keep h.2.1 (fun k cur _ hc=>typed_kept ho hg (by decide) hc),row_keep h.2.2 (fun k cur _ hc=>typed_kept ho hg (by decide) hc)⟩
theorem clone_node (lf:Bool) (EA KA DA:Option Addr) (ne ec nk kc nd dc:Nat) (uE uK uD:List Value) (lE:uE.length=ne*8) (lK:uK.length=nk*2) (lD:uD.length=nd*1) (oE:∀ u ∈ uE,u.oneCell'=true) (oK:∀ u ∈ uK,u.oneCell'=true) (oD:∀ u ∈ uD,u.oneCell'=true)
 (fE:ne*64≤140737488355328) (fK:nk*16≤140737488355328) (fD:nd*8≤140737488355328) (cE:ne≤ec) (cK:nk≤kc) (cD:nd≤dc) (mE:ec≤maxLen) (mK:kc≤maxLen) (mD:dc≤maxLen) (w:World) (hE:CellsAt w EA uE) (hK:CellsAt w KA uK) (hD:CellsAt w DA uD) :
 Calls Tryz.prog 94 #[.agg #[.bool lf,.slice EA ne ec,.slice KA nk kc,.slice DA nd dc]] w fun e w'=>∃ l':NdL,e=.returned (.agg #[.bool lf,.slice l'.EA ne l'.ec,.slice l'.KA nk l'.kc,.slice l'.DA nd l'.dc])∧(w'.ownsRow w.heap.size 40 8 (.slice l'.EA ne l'.ec) ne uE∧w'.ownsRow w.heap.size 38 2 (.slice l'.KA nk l'.kc) nk uK∧w'.ownsRow w.heap.size 3 1 (.slice l'.DA nd l'.dc) nd uD)∧Below w.heap.size w w':=by
 obtain ⟨W,eW⟩:∃ W,W=(w.alloc (.cells #[.bool lf,.slice EA ne ec,.slice KA nk kc,.slice DA nd dc] 86)).alloc (.cells #[.bool false,.slice none 0 0,.slice none 0 0,.slice none 0 0] 86):=⟨_,rfl⟩
 have hb:Below w.heap.size w W:=by rw [eW];exact ((Below.refl _ _).alloc (Nat.le_refl _) _).alloc (by simp) _
 have hr0:W.heap[w.heap.size]?=some (.cells #[.bool lf,.slice EA ne ec,.slice KA nk kc,.slice DA nd dc] 86 (0,0)):=by rw [eW];exact heap_alloc2_old _ _ _
 have hr1:W.heap[w.heap.size+1]?=some (.cells #[.bool false,.slice none 0 0,.slice none 0 0,.slice none 0 0] 86 (0,0)):=by rw [eW];exact heap_alloc2_new _ _ _
 have hWs:W.heap.size=w.heap.size+2:=by rw [eW];simp
 have HB:=Lib.hid hb
 have HR1:=Lib.hid hr1
 have HWS:=Lib.hid hWs
 have HE:=Lib.hid (hE.below hb)
 have HK:=Lib.hid (hK.below hb)
 have HD:=Lib.hid (hD.below hb)
 have LE:=Lib.hid lE
 have LK:=Lib.hid lK
 have LD:=Lib.hid lD
 have OE:=Lib.hid oE
 have OK:=Lib.hid oK
 have OD:=Lib.hid oD
 have FE:=Lib.hid fE
 have FK:=Lib.hid fK
 have FD:=Lib.hid fD
 have CC:=Lib.hid (And.intro cE (And.intro cK (And.intro cD (And.intro mE (And.intro mK mD)))))
 have G0:∀ y:SubW (w.heap.size+1) W,y.at_.cell? ⟨w.heap.size,0,none⟩=some (.bool lf):=fun y=>nd_cell ((y.ok_.block _ (by omega)).trans hr0) 0 _ rfl
 have G1:∀ y:SubW (w.heap.size+1) W,y.at_.cell? ⟨w.heap.size,1,none⟩=some (.slice EA ne ec):=fun y=>nd_cell ((y.ok_.block _ (by omega)).trans hr0) 1 _ rfl
 have G2:∀ y:SubW (w.heap.size+1) W,y.at_.cell? ⟨w.heap.size,2,none⟩=some (.slice KA nk kc):=fun y=>nd_cell ((y.ok_.block _ (by omega)).trans hr0) 2 _ rfl
 have G3:∀ y:SubW (w.heap.size+1) W,y.at_.cell? ⟨w.heap.size,3,none⟩=some (.slice DA nd dc):=fun y=>nd_cell ((y.ok_.block _ (by omega)).trans hr0) 3 _ rfl
 have H1:Hid (w.heap.size+1≤W.heap.size):=Lib.hid (by omega)
 clear hb hr0 hr1 hWs hE hK hD lE lK lD oE oK oD fE fK fD cE cK cD mE mK mD
 go_enter Tryz.func94,Tryz.ntmps94
 go_upto_region 1 with fail
 rw [← eW]
 clear eW
 refine region_ways4 (w.heap.size+1) H1.out (.one [0,1,2,3,5,6,8,9] 4 (.one [] 7 (.one [] 10 (.one [11] 12 (.done []))))) (by kernel_rfl) (by kernel_rfl) ?_
 rintro wd hbd
 have B0:=Lib.hid hbd
 clear hbd
 rw [wpWays_one4]
 simp only [List.map_cons,List.map_nil,opAt,List.getElem?_toArray,List.getElem?_cons_zero,List.getElem?_cons_succ,Option.getD_some]
 repeat (go_big_quiet_step (fail))
 clear G0 G1 G2 G3
 refine wpQuiet_nil ?_
 go_wp2_with (go_at_call 136;refine (clone_ent EA ne ec uE LE.out OE.out FE.out CC.out.1 CC.out.2.2.2.1 _ (HE.out.below B0.out)).mono ?_;rintro e x1 ⟨A1,c1,rfl,ho1,b1⟩;have R1:=Lib.hid (row_mono ho1 (show w.heap.size≤wd.heap.size from by have:=B0.out.size;have:=H1.out;omega));have B1:=Lib.hid (B0.out.trans (b1.mono B0.out.size));clear b1 ho1)
 refine ⟨⟨⟨_,B1.out.mono H1.out⟩,rfl⟩,?_⟩
 rw [wpWays_one4]
 simp only [List.map_nil,opAt,List.getElem?_toArray,List.getElem?_cons_zero,List.getElem?_cons_succ,Option.getD_some]
 refine wpQuiet_nil ?_
 go_wp2_with (go_at_call 137;refine (clone_key KA nk kc uK LK.out OK.out FK.out CC.out.2.1 CC.out.2.2.2.2.1 _ (HK.out.below B1.out)).mono ?_;rintro e x2 ⟨A2,c2,rfl,ho2,b2⟩;have R2:=Lib.hid (row_mono ho2 (show w.heap.size≤x1.heap.size from by have:=B1.out.size;have:=H1.out;omega));have R12:=Lib.hid (row_below R1.out b2);have B2:=Lib.hid (B1.out.trans (b2.mono B1.out.size));clear b2 ho2)
 refine ⟨⟨⟨_,B2.out.mono H1.out⟩,rfl⟩,?_⟩
 rw [wpWays_one4]
 simp only [List.map_nil,opAt,List.getElem?_toArray,List.getElem?_cons_zero,List.getElem?_cons_succ,Option.getD_some]
 refine wpQuiet_nil ?_
 go_wp2_with (go_at_call 138;refine (clone_int DA nd dc uD LD.out OD.out FD.out CC.out.2.2.1 CC.out.2.2.2.2.2 _ (HD.out.below B2.out)).mono ?_;rintro e x3 ⟨A3,c3,rfl,ho3,b3⟩;have R3:=Lib.hid (row_mono ho3 (show w.heap.size≤x2.heap.size from by have:=B2.out.size;have:=H1.out;omega));have R13:=Lib.hid (row_below R12.out b3);have R23:=Lib.hid (row_below R2.out b3);have B3:=Lib.hid (B2.out.trans (b3.mono B2.out.size));clear b3 ho3)
 refine ⟨⟨⟨_,B3.out.mono H1.out⟩,rfl⟩,?_⟩
 rw [wpWays_one4]
 simp only [List.map_cons,List.map_nil,opAt,List.getElem?_toArray,List.getElem?_cons_zero,List.getElem?_cons_succ,Option.getD_some]
 repeat (go_big_quiet_step (fail))
 refine wpQuiet_nil ?_
 go_wp2_with (refine wpList_store_row rfl 86 (.tmp 2) (.tmp 14) rfl (w.heap.size+1) #[.bool lf,.slice A1 ne c1,.slice A2 nk c2,.slice A3 nd c3] rfl rfl 86 #[.bool false,.slice none 0 0,.slice none 0 0,.slice none 0 0] (row_stays HR1.out B3.out) (by kernel_rfl) rfl (by simp [Value.oneCell']) ?_)
 obtain ⟨V,hV⟩:∃ V,V=x3.setRow (w.heap.size+1) #[.bool lf,.slice A1 ne c1,.slice A2 nk c2,.slice A3 nd c3]:=⟨_,rfl⟩
 rw [← hV]
 have HV4:Hid (V.heap[w.heap.size+1]?=some (.cells #[.bool lf,.slice A1 ne c1,.slice A2 nk c2,.slice A3 nd c3] 86 (0,0))):=Lib.hid (by rw [hV];exact setRow_heap _ _ _ _ _ _ (row_stays HR1.out B3.out))
 have HVB:Hid (Below (w.heap.size+1) W V):=Lib.hid (by rw [hV];exact below_setRow (B3.out.mono H1.out) (Nat.le_refl _) _)
 have VE:Hid (V.ownsRow w.heap.size 40 8 (.slice A1 ne c1) ne uE):=Lib.hid (by rw [hV];exact row_keep R13.out (fun k cur hk hc=>setRow_other _ _ _ _ (fun e=>by subst e;have h9:=row_stays HR1.out B3.out;rw [h9] at hc;injection hc with hc;injection hc with _ hc;exact absurd hc (by decide))))
 have VK:Hid (V.ownsRow w.heap.size 38 2 (.slice A2 nk c2) nk uK):=Lib.hid (by rw [hV];exact row_keep R23.out (fun k cur hk hc=>setRow_other _ _ _ _ (fun e=>by subst e;have h9:=row_stays HR1.out B3.out;rw [h9] at hc;injection hc with hc;injection hc with _ hc;exact absurd hc (by decide))))
 have VD:Hid (V.ownsRow w.heap.size 3 1 (.slice A3 nd c3) nd uD):=Lib.hid (by rw [hV];exact row_keep R3.out (fun k cur hk hc=>setRow_other _ _ _ _ (fun e=>by subst e;have h9:=row_stays HR1.out B3.out;rw [h9] at hc;injection hc with hc;injection hc with _ hc;exact absurd hc (by decide))))
 clear hV
 refine ⟨⟨⟨_,HVB.out⟩,rfl⟩,?_⟩
 rw [wpWays_done4]
 try simp only [List.map_nil]
 refine wpQuiet_nil ?_
 go_wp2_with fail
 exact bodyPost_ret (v:=.agg #[.bool lf,.slice A1 ne c1,.slice A2 nk c2,.slice A3 nd c3]) (results_cell_row (p:=2) (ty:=86) rfl _ _ (w.heap.size+1) 86 _ (0,0) _ rfl HV4.out Tryz.underlying86 rfl (by kernel_rfl)) rfl ⟨⟨A1,c1,A2,c2,A3,c3⟩,rfl,⟨VE.out,VK.out,VD.out⟩,HB.out.trans (HVB.out.mono (by omega))⟩
theorem nclone_any (n:NodeD) (l:NdL) (hf:FitsN n) (w:World) (h:NodeAt w n l) :
 Calls Tryz.prog 94 #[.agg #[.bool n.leaf,.slice l.EA n.es.length l.ec,.slice l.KA n.ks.length l.kc,.slice l.DA n.ds.length l.dc]] w fun e w'=>∃ l':NdL,e=.returned (.agg #[.bool n.leaf,.slice l'.EA n.es.length l'.ec,.slice l'.KA n.ks.length l'.kc,.slice l'.DA n.ds.length l'.dc])∧OwnN w' w.heap.size n l'∧Below w.heap.size w w' :=
 clone_node n.leaf l.EA l.KA l.DA n.es.length l.ec n.ks.length l.kc n.ds.length l.dc (n.es.flatMap enC) (n.ks.flatMap kyC) (n.ds.map kdC) (flatV_len lenEnC _) (flatV_len lenKyC _) (by simp) (flat_one enC_one _) (flat_one kyC_one _) (kdC_one _) hf.e hf.k hf.d h.ec h.kc h.dc h.em h.km h.dm w h.e.cells h.k.cells h.d.cells
def capN (lf:Bool):Nat:=if lf=true then 7 else 16
def leastN (lf:Bool):Nat:=if lf=true then 3 else 8
def cleanN (n:NodeD):Prop:=if n.leaf=true then n.ks=[]∧n.ds=[] else n.es=[]∧n.ks.length=n.ds.length
def partA (n:NodeD) (h:Nat):NodeD:=⟨n.leaf,n.es.take h,n.ks.take h,n.ds.take h⟩
def partB (n:NodeD) (h:Nat):NodeD:=⟨n.leaf,n.es.drop h,n.ks.drop h,n.ds.drop h⟩
structure SplitOf (n:NodeD) (ps:List NodeD):Prop where
 kind:∀ p ∈ ps,p.leaf=n.leaf∧cleanN p∧1≤p.size∧p.size≤capN n.leaf
 big:capN n.leaf<n.size→∀ p ∈ ps,leastN n.leaf≤p.size
 one:1≤n.size→n.size≤capN n.leaf→ps=[n]
 none:n.size=0→ps=[]
 two:n.size≤2*capN n.leaf→ps.length≤2
 half:capN n.leaf<n.size→n.size≤2*capN n.leaf→ps=[partA n ((n.size+1) / 2),partB n ((n.size+1) / 2)]
 cnt:ps.length≤n.size
 es:ps.flatMap (·.es)=n.es
 ks:ps.flatMap (·.ks)=n.ks
 ds:ps.flatMap (·.ds)=n.ds
theorem clean_zero {n:NodeD} (hc:cleanN n) (h0:n.size=0):n.es=[]∧n.ks=[]∧n.ds=[]:=by
 obtain ⟨lf,es,ks,ds⟩:=n
 unfold cleanN at hc
 unfold NodeD.size at h0
 cases lf
 ·simp only [Bool.false_eq_true,if_false] at hc h0
  have hd:=List.eq_nil_of_length_eq_zero h0
  have hk:ks=[]:=List.eq_nil_of_length_eq_zero (by omega)
  exact ⟨hc.1,hk,hd⟩
 ·simp only [if_true] at hc h0
  exact ⟨List.eq_nil_of_length_eq_zero h0,hc.1,hc.2⟩
theorem SplitOf.zero {n:NodeD} (hc:cleanN n) (h0:n.size=0):SplitOf n []:=by
 obtain ⟨h1,h2,h3⟩:=clean_zero hc h0
 exact { kind:=by simp,big:=by simp,one:=fun h=>by omega,none:=fun _=>rfl,two:=fun _=>by simp,half:=fun h _=>by omega,cnt:=by simp,es:=by simp [h1],ks:=by simp [h2],ds:=by simp [h3] }
theorem SplitOf.single {n:NodeD} (hc:cleanN n) (h1:1≤n.size) (h2:n.size≤capN n.leaf):SplitOf n [n] :=
 { kind:=by intro p hp;simp at hp;subst hp;exact ⟨rfl,hc,h1,h2⟩,big:=fun h=>by omega,one:=fun _ _=>rfl,none:=fun h=>by omega,two:=fun _=>by simp,half:=fun h _=>by omega,cnt:=by simpa using h1,es:=by simp,ks:=by simp,ds:=by simp }
theorem partA_clean {n:NodeD} (hc:cleanN n) (h:Nat):cleanN (partA n h):=by
 obtain ⟨lf,es,ks,ds⟩:=n
 unfold cleanN partA at *
 cases lf
 ·simp only [Bool.false_eq_true,if_false] at hc ⊢
  exact ⟨by rw [hc.1,List.take_nil],by rw [List.length_take,List.length_take,hc.2]⟩
 ·simp only [if_true] at hc ⊢
  exact ⟨by rw [hc.1,List.take_nil],by rw [hc.2,List.take_nil]⟩
theorem partB_clean {n:NodeD} (hc:cleanN n) (h:Nat):cleanN (partB n h):=by
 obtain ⟨lf,es,ks,ds⟩:=n
 unfold cleanN partB at *
 cases lf
 ·simp only [Bool.false_eq_true,if_false] at hc ⊢
  exact ⟨by rw [hc.1,List.drop_nil],by rw [List.length_drop,List.length_drop,hc.2]⟩
 ·simp only [if_true] at hc ⊢
  exact ⟨by rw [hc.1,List.drop_nil],by rw [hc.2,List.drop_nil]⟩
theorem partA_size (n:NodeD) (h:Nat) (hh:h≤n.size):(partA n h).size=h:=by
 obtain ⟨lf,es,ks,ds⟩:=n
 unfold partA NodeD.size at *
 cases lf
 ·simp only [Bool.false_eq_true,if_false] at hh ⊢
  rw [List.length_take]
  omega
 ·simp only [if_true] at hh ⊢
  rw [List.length_take]
  omega
theorem partB_size (n:NodeD) (h:Nat):(partB n h).size=n.size - h:=by
 obtain ⟨lf,es,ks,ds⟩:=n
 unfold partB NodeD.size at *
 cases lf
 ·simp only [Bool.false_eq_true,if_false]
  rw [List.length_drop]
 ·simp only [if_true]
  rw [List.length_drop]
theorem SplitOf.least {n:NodeD} {ps:List NodeD} (h:SplitOf n ps) (hl:leastN n.leaf≤n.size):∀ p ∈ ps,leastN n.leaf≤p.size:=fun p hp=>by
 by_cases hb:capN n.leaf<n.size
 ·exact h.big hb p hp
 ·have h1:1≤leastN n.leaf:=by unfold leastN;split <;> omega
  have:=h.one (by omega) (by omega)
  rw [this] at hp
  simp at hp
  subst hp
  exact hl
theorem SplitOf.join {n:NodeD} {ps qs:List NodeD} (hb:capN n.leaf<n.size) (h:Nat) (hh:h=(n.size+1) / 2) (hp:SplitOf (partA n h) ps) (hq:SplitOf (partB n h) qs):SplitOf n (ps ++ qs):=by
 have hsA:(partA n h).size=h:=partA_size n h (by omega)
 have hsB:=partB_size n h
 have lA:(partA n h).leaf=n.leaf:=rfl
 have lB:(partB n h).leaf=n.leaf:=rfl
 have hle:leastN n.leaf≤h∧leastN n.leaf≤n.size - h:=by
  unfold leastN
  unfold capN at hb
  split <;> split at hb <;> simp_all <;> omega
 refine { kind:=?_,big:=?_,one:=fun _ h2=>by omega,none:=fun h2=>by omega,two:=?_,half:=?_,cnt:=?_,es:=?_,ks:=?_,ds:=?_ }
 ·intro p hpp
  rcases List.mem_append.1 hpp with h1 | h1
  ·exact hp.kind p h1
  ·exact hq.kind p h1
 ·intro _ p hpp
  rcases List.mem_append.1 hpp with h1 | h1
  ·exact hp.least (by rw [lA,hsA];exact hle.1) p h1
  ·exact hq.least (by rw [lB,hsB];exact hle.2) p h1
 ·intro h2
  have hc1:7≤capN n.leaf:=by unfold capN;split <;> omega
  have e1:=hp.one (by rw [hsA];omega) (by rw [hsA,lA];omega)
  have e2:=hq.one (by rw [hsB];omega) (by rw [hsB,lB];omega)
  rw [e1,e2]
  simp
 ·intro _ h2
  have hc1:7≤capN n.leaf:=by unfold capN;split <;> omega
  have e1:=hp.one (by rw [hsA];omega) (by rw [hsA,lA];omega)
  have e2:=hq.one (by rw [hsB];omega) (by rw [hsB,lB];omega)
  rw [e1,e2,← hh]
  rfl
 ·have h1:=hp.cnt
  have h2:=hq.cnt
  rw [List.length_append]
  omega
 ·rw [List.flatMap_append,hp.es,hq.es]
  exact List.take_append_drop h n.es
 ·rw [List.flatMap_append,hp.ks,hq.ks]
  exact List.take_append_drop h n.ks
 ·rw [List.flatMap_append,hp.ds,hq.ds]
  exact List.take_append_drop h n.ds
end Go.Proofs.YtgkddhncfaeidaaGreat
