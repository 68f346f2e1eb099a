/- Squeezed: the texts as they are written lie in wip/tpl. -/
import Derived.Test.YtgkddhncfaeidaaGreatPart16
import Derived.Test.YtgkddhncfaeidaaGreatPart03
import Derived.Test.YtgkddhncfaeidaaGreatRows
import Derived.Test.YtgkddhncfaeidaaGreatPart00
import Derived.WalkKit
import Derived.ProofKit
import Derived.OpenShut
import Derived.ShutString
import Derived.ChangeOld
import Derived.Below
import Derived.Test.YtgkddhncfaeidaaGreatPart15
import Derived.Test.YtgkddhncfaeidaaGreatNjS
import Derived.Deep.MidRow
set_option maxRecDepth 100000
set_option maxHeartbeats 2000000
set_option linter.unusedSimpArgs false
set_option linter.unusedVariables false
namespace Go.Proofs.YtgkddhncfaeidaaGreat
open Go.RowKit
section
variable {w w':World} {B N g gs gn L cs cn:Nat} {rw:Value} {st nw:List UInt8} {ws:List (Nat × List UInt8)} {on:Bool} {left:Int}
theorem Dk.wider (h:Dk w B N g gs gn rw L cs cn st nw ws on left) {N':Nat} (h1:N≤N') (h2:N'≤w.heap.size):Dk w B N' g gs gn rw L cs cn st nw ws on left :=
 { h with gN:=by have:=h.gN;omega,sN:=by have:=h.sN;omega,nN:=by have:=h.nN;omega,wN:=fun k hk=>by have:=h.wN k hk;omega,NN:=h2 }
end
theorem made8 {w:World} {base k:Nat} {v:Value} (h:w.ownsRow base 5 1 v k (madeCells (Value.int .u8 0).cells (k*1)).toList):OwnS w base v 5 (List.replicate k 0):=by
 have e:(madeCells (Value.int .u8 0).cells (k*1)).toList=(List.replicate k (0:UInt8)).map bv:=by
  have h0:(Value.int .u8 0).cells=#[.int .u8 0]:=rfl
  rw [h0,Nat.mul_one]
  simp only [madeCells,List.map_replicate,bv]
  simp [Nat.mod_one,List.map_const']
 rw [e] at h
 unfold OwnS
 rw [List.length_replicate]
 exact h
theorem new_ok (p:Nat) (h1:8≤p) (h2:p≤512) (w:World) :
 Calls Tryz.prog 24 #[.int .i64 (p:Int)] w fun e w'=>∃ g gs gn cs cn,e=.returned (.tuple #[.pointer (some ⟨g,0,none⟩),.int .i64 0])∧Dk w' w.heap.size w'.heap.size g gs gn (.slice none 0 0) (p*256) cs cn (List.replicate (p*256) 0) (List.replicate (p*256) 0) [] true (-1)∧Below w.heap.size w w':=by
 obtain ⟨iu,hiu,hz0,hz1,hz2⟩:=info_parts infoU8
 obtain ⟨n,hn⟩:∃ n,n=p*256:=⟨_,rfl⟩
 have hz3:iu.bytes*n≤281474976710656:=by rw [hz2];omega
 have hni:((p:Int)*256)=(n:Int):=by omega
 have hL:=Lib.hid hni
 have hN:=Lib.hid hn
 clear hni
 rw [← hn]
 clear hn
 go_enter Tryz.func24,Tryz.ntmps24
 go_wp2_with (first
  | (at_make;refine wpList_make_full _ rfl (.tmp 11) (.tmp 11) 110 rfl w.heap.size 5 iu (.int .u8 0) 1 Tryz.underlying110 hiu hz0 hz1 .i64 .i64 ((p:Int)*256) ((p:Int)*256) n rfl rfl hL.out hL.out hz3 (by have:=hN.out;unfold maxLen;omega) (Nat.le_refl _) ?_;intro w1 ho1 hg1;have ho2:=made8 ho1;have hb1:Below w.heap.size w w1:=(Below.refl _ _).grown hg1 (Nat.le_refl _) (fun k hk=>by cases hk))
  | (go_at_call 48;(refine (load_ok _ n n (List.replicate n 0) w1 ho2.bytes (by simp) (by have:=hN.out;omega) (by have:=hN.out;omega) (by have:=hN.out;omega) (fun h=>by cases h)).mono ?_);rintro e w2 ⟨g,gs,gn,cs,cn,rfl,hD,hb2⟩))
 go_ret2
 exact ⟨g,gs,gn,cs,cn,rfl,{ hD with stay:=OwnS.mono hD.stay hb1.size,now:=OwnS.mono hD.now hb1.size,gB:=Nat.le_trans hb1.size hD.gB,wait:=World.ownsRow_nil _ _ _ _ },hb1.trans (hb2.mono hb1.size)⟩
end Go.Proofs.YtgkddhncfaeidaaGreat
namespace Go.Proofs.YtgkddhncfaeidaaGreat
open Go.ChangeShapes Go.WideShapes Go.ChangeAt Go.RowKit
theorem ownKnob_none:ownKnob Tryz.prog.godebug=none:=by kernel_rfl
end Go.Proofs.YtgkddhncfaeidaaGreat
namespace Go.Proofs.YtgkddhncfaeidaaGreat
open Go.RowKit
structure OuterX (X:Nat→Prop) (w w':World):Prop where
 os:w'.os=w.os
 tape:w'.tape=w.tape
 output:w'.output=w.output
 size:w.heap.size≤w'.heap.size
 block:∀ k,k<w.heap.size→¬ X k→w'.heap[k]?=w.heap[k]?
theorem OuterX.refl (X:Nat→Prop) (w:World):OuterX X w w:=⟨rfl,rfl,rfl,Nat.le_refl _,fun _ _ _=>rfl⟩
theorem OuterX.grown {X:Nat→Prop} {w w1 w2:World} {r:Option Nat} (h:OuterX X w w1) (hg:w1.grownBy w2 r) (hr:∀ k,r=some k→X k∨w.heap.size≤k):OuterX X w w2:=by
 refine ⟨hg.os.trans h.os,hg.tape.trans h.tape,hg.output.trans h.output,Nat.le_trans h.size hg.size,fun k hk hko=>?_⟩
 refine (hg.block k (Nat.lt_of_lt_of_le hk h.size) (fun e=>?_)).trans (h.block k hk hko)
 rcases hr k e.symm with h1 | h1
 ·exact hko h1
 ·omega
theorem OuterX.alloc {X:Nat→Prop} {w w1:World} (h:OuterX X w w1) (o:Obj):OuterX X w (w1.alloc o) :=
 h.grown (grown_alloc w1 o none) (fun k e=>by cases e)
theorem OuterX.then {X:Nat→Prop} {B':Nat} {w w1 w2:World} (h:OuterX X w w1) (hb:Below B' w1 w2) (hB:w.heap.size≤B'):OuterX X w w2 :=
 ⟨hb.os.trans h.os,hb.tape.trans h.tape,hb.output.trans h.output,Nat.le_trans h.size hb.size,fun k hk hko=>(hb.block k (by omega)).trans (h.block k hk hko)⟩
theorem bytes_outerX {X:Nat→Prop} {w w':World} {A:Option Addr} {xs:List UInt8} (h:BytesAt w A xs) (hg:OuterX X w w') (hne:∀ a,A=some a→¬ X a.block):BytesAt w' A xs:=fun hx=>by
 obtain ⟨b,off,rfl,hc⟩:=h hx
 exact ⟨b,off,rfl,fun k hk=>(World.cell?_of_block (a:=⟨b,off+k,none⟩) (hg.block b (World.block_lt_of_cell? _ _ (hc k hk)) (hne _ rfl))).trans (hc k hk)⟩
def DkX (g gn:Nat) (rw:Value) (k:Nat):Prop:=k=g∨k=gn∨rw.ownBlock=some k
section
variable {w w':World} {B N g gs gn L cs cn:Nat} {rw:Value} {st nw:List UInt8} {ws:List (Nat × List UInt8)} {on:Bool} {left:Int}
theorem write_any (h:Dk w B N g gs gn rw L cs cn st nw ws true left) (hne:left≠0) (hl1:-1≤left) (hlm:left≤9223372036854775807) (i:Nat) (hi:64*i+64≤L) (A:Option Addr) (c:Nat) (bs:List UInt8) (hx:BytesAt w A bs) (hbl:bs.length=64)
 (hA:∀ a,A=some a→¬ DkX g gn rw a.block) (l':Int) (hl':stepped left=l') (hws:ws.length≤1000) :
 Calls Tryz.prog 154 #[.pointer (some ⟨g,0,none⟩),.int .i64 (i:Int),.slice A 64 c] w fun e w'=>e=.returned (.int .i64 0) ∧
  (∃ rw',Dk w' B w'.heap.size g gs gn rw' L cs cn st (putAt nw i bs) (ws ++ [(i,bs)]) true l'∧Moved w rw.ownBlock rw'.ownBlock)∧OuterX (DkX g gn rw) w w':=by
 have H:=Lib.hid h
 have hl:=h.hi
 have HX:=Lib.hid hx
 have HBL:=Lib.hid hbl
 have HL:=Lib.hid hl'
 clear h hx hbl hl'
 go_enter Tryz.func154,Tryz.ntmps154
 go_upto_region 9 with (first
  | (go_at_call 166;refine (refused_on H.out).mono ?_;rintro e w1 ⟨rfl,rfl⟩)
  | (go_at_call 167;refine (has_yes H.out _ i rfl hi).mono ?_;rintro e w1 ⟨rfl,rfl⟩)
  | (go_at_call 168;refine (step_yes H.out hne hl1 hlm l' HL.out).mono ?_;rintro e w1 ⟨rfl,h1,hg1,hz1⟩;have H1:=Lib.hid h1;have HZ1:=Lib.hid hz1;clear h1 hz1)
  | (refine wpList_store_row rfl 251 (.tmp 8) (.tmp 27) rfl w1.heap.size (Tryz.zeroCells251.setIfInBounds 0 (.int .i64 (i:Int))) rfl rfl 251 Tryz.zeroCells251 (heap_alloc_new _ _) (by kernel_rfl) (by kernel_rfl) (by kernel_rfl) ?_;rw [World.setRow_alloc_new]))
 have HN:=H.out.NN
 have hgB:=H.out.gB
 have hgN:=H.out.gN
 have o1:OuterX (DkX g gn rw) w w1:=(OuterX.refl (DkX g gn rw) w).grown hg1 (fun k hk=>by injection hk with hk;subst hk;exact .inl (by unfold DkX;simp))
 have o2:=o1.alloc (.cells (Tryz.zeroCells251.setIfInBounds 0 (.int .i64 (i:Int))) 251)
 have hx2:=bytes_outerX HX.out o2 hA
 have H2:=Lib.hid (H1.out.below ((Below.refl w1.heap.size w1).alloc (Nat.le_refl _) (.cells (Tryz.zeroCells251.setIfInBounds 0 (.int .i64 (i:Int))) 251)))
 have hq2:(w1.alloc (.cells (Tryz.zeroCells251.setIfInBounds 0 (.int .i64 (i:Int))) 251)).heap[w1.heap.size]?=some (.cells ((Value.int .i64 (i:Int)) :: List.replicate 64 (.int .u8 0)).toArray 251 (0,0)):=heap_alloc_new _ _
 have hs2:(w1.alloc (.cells (Tryz.zeroCells251.setIfInBounds 0 (.int .i64 (i:Int))) 251)).heap.size=w1.heap.size+1:=by simp
 generalize w1.alloc (.cells (Tryz.zeroCells251.setIfInBounds 0 (.int .i64 (i:Int))) 251)=w2 at *
 have HQ2:=Lib.hid hq2
 have HX2:=Lib.hid hx2
 have HS2:=Lib.hid hs2
 have O2:=Lib.hid o2
 clear hq2 hx2 hs2 o1 o2 hg1
 generalize hq:w1.heap.size=q at *
 have HQ:=Lib.hid hq
 clear hq
 have hbne:bs≠[]:=by intro e;have:=HBL.out;subst e;simp at this
 obtain ⟨ad,rfl,hcell⟩:=byteV_cells HX2.out hbne
 have m1:(bs.map bv).length=Nat.min 64 64:=by rw [List.length_map,HBL.out];rfl
 have m2:1+(bs.map bv).length≤(Value.int .i64 (i:Int) :: List.replicate 64 (Value.int .u8 0)).length:=by rw [List.length_map,HBL.out];simp
 have m3:(Tryz.prog.info? 5).map (·.size)=some 1:=by kernel_rfl
 have M1:=Lib.hid m1
 have M2:=Lib.hid m2
 have M3:=Lib.hid m3
 have M4:=Lib.hid hcell
 clear m1 m2 m3 hcell
 go_upto_region 10 with ((with_reducible refine wpList_copy_splice rfl (.tmp 29) (.tmp 30) 110 110 rfl 5 Tryz.underlying110 M3.out (some ⟨q,1,none⟩) (some ad) 64 64 64 c rfl rfl q 1 (.int .i64 (i:Int) :: List.replicate 64 (.int .u8 0)) 251 HQ2.out (bs.map bv) M1.out (fun _=>⟨rfl,ad,rfl,M4.out⟩) M2.out (bv_one bs) q w2 (Below.refl _ _) (Nat.le_refl _) ?_);intro w3 hq3 hb3)
 have hwq:w.heap.size≤q:=by have:=HQ.out;have:=HZ1.out;omega
 have H3:=Lib.hid (H2.out.keep (w':=w3) hb3.size (fun k _ hk=>hb3.block k (by omega)))
 have O3:=Lib.hid (O2.out.then hb3 hwq)
 have HX3:=Lib.hid (bytes_outerX HX.out O3.out hA)
 have hq4:=hq3.out
 rw [splice_wr i bs HBL.out] at hq4
 have hC65:(wrC (i,bs)).toArray.size=65:=by simp [wrC,HBL.out]
 have hC1:∀ u ∈ (wrC (i,bs)).toArray.toList,u.oneCell'=true:=by simpa using wrC_one (i,bs)
 have hCl:(wrC (i,bs)).toArray.toList=wrC (i,bs):=by simp
 generalize (wrC (i,bs)).toArray=C at *
 have HQ4:=Lib.hid hq4
 have HC65:=Lib.hid hC65
 have HC1:=Lib.hid hC1
 have HCL:=Lib.hid hCl
 clear hq3 hq4 hC65 hC1 hCl M1 M2 M4 HQ2 hb3 H2 O2 H1
 have hsC:Hid ((Tryz.prog.info? 251).map (·.size)=some C.size):=Lib.hid (by rw [HC65.out];kernel_rfl)
 obtain ⟨iw,hiw,hiz,his,hib⟩:=info_parts infoWr
 have hfill:Hid (Instr.fill (fun i=>some (i*iw.size,iw.size)) ((Array.range (1*iw.size)).map ((Value.agg (.int .i64 0 :: List.replicate 64 (.int .u8 0)).toArray).cells[· % (Value.agg (.int .i64 0 :: List.replicate 64 (.int .u8 0)).toArray).cells.size]!)) [(0,.agg C)]=some C):=Lib.hid (by rw [his];exact fill_wr C _ HC65.out (by simp))
 simp only [Act.put,List.setIfInBounds_toArray,List.set_cons_zero,List.set_cons_succ]
 go_cut [] from 32 to 41 (fun wx=>∃ rw',Dk wx B wx.heap.size g gs gn rw' L cs cn st nw (ws ++ [(i,bs)]) true l'∧OuterX (DkX g gn rw) w wx∧Moved w rw.ownBlock rw'.ownBlock)
 case first =>
  refine region_ways4 B (by have:=O3.out.size;omega) (.two [0,1,2,3] 4 (.one [] 5 (.one [] 6 (.one [] 7 (.one [8,9] 10 (.done []))))) 5 (.two [] 4 (.one [] 6 (.one [] 7 (.one [8,9] 10 (.done [])))) 6 (.one [] 4 (.one [] 7 (.one [8,9] 10 (.done [])))))) (by kernel_rfl) (by kernel_rfl) ?_
  rintro w0 hbd
  have hb3s:=O3.out.size
  have s0:=H3.out.below hbd
  have b0:Below B w3 w0:=hbd.mono (by omega)
  have o0:=O3.out.then hbd hb3s
  have hq0:=(hbd.block q (Array.getElem?_eq_some_iff.1 HQ4.out).1).trans HQ4.out
  try simp only [Act.put,List.setIfInBounds_toArray,List.set_cons_zero,List.set_cons_succ]
  rw [wpWays_two4]
  try simp only [List.map_cons,List.map_nil,opAt,List.getElem?_toArray,List.getElem?_cons_zero,List.getElem?_cons_succ,Option.getD_some]
  repeat (go_big_quiet_step (fail))
  refine wpQuiet_nil ⟨?_,?_⟩
  ·have k4:=blk_cell s0.head 2 _ rfl
   go_wp2_with fail
   refine ⟨⟨⟨_,b0⟩,rfl⟩,?_⟩
   try simp only [Act.put,List.setIfInBounds_toArray,List.set_cons_zero,List.set_cons_succ]
   clear k4
   rw [wpWays_one4]
   try simp only [List.map_nil,opAt,List.getElem?_toArray,List.getElem?_cons_zero,List.getElem?_cons_succ,Option.getD_some]
   refine wpQuiet_nil ?_
   go_wp2_with (refine wpList_load_row rfl 251 (.tmp 8) rfl q rfl 251 C (0,0) _ hq0 Tryz.underlying251 rfl hsC.out ?_)
   refine ⟨⟨⟨_,b0⟩,rfl⟩,?_⟩
   try simp only [Act.put,List.setIfInBounds_toArray,List.set_cons_zero,List.set_cons_succ]
   rw [wpWays_one4]
   try simp only [List.map_nil,opAt,List.getElem?_toArray,List.getElem?_cons_zero,List.getElem?_cons_succ,Option.getD_some]
   refine wpQuiet_nil ?_
   go_wp2_with (refine wpList_buildSlice rfl 143 251 1 _ rfl C iw _ Tryz.underlying143 hiw hiz (by rw [his];decide) (by rw [his];decide) (by rw [Array.toList_map];exact hfill.out) ?_)
   have s1:=s0.below ((Below.refl _ _).alloc (Nat.le_refl _) (.cells C 251))
   have b1:Below B w3 (w0.alloc (.cells C 251)):=b0.alloc (by have:=b0.size;omega) _
   have o1:=o0.alloc (.cells C 251)
   refine ⟨⟨⟨_,b1⟩,rfl⟩,?_⟩
   try simp only [Act.put,List.setIfInBounds_toArray,List.set_cons_zero,List.set_cons_succ]
   rw [wpWays_one4]
   try simp only [List.map_nil,opAt,List.getElem?_toArray,List.getElem?_cons_zero,List.getElem?_cons_succ,Option.getD_some]
   refine wpQuiet_nil ?_
   have hnews:∀ (j:Nat) (u:Value),C.toList[j]?=some u→(w0.alloc (.cells C 251)).cell? ((⟨w0.heap.size,0,none⟩:Addr).add j)=some u:=by
    intro j u hj
    rw [Addr.add_mid,World.cell?_alloc_new]
    simpa using hj
   go_wp2_with (at_builtin;refine wpList_append_own_at _ rfl (.tmp 36) (.tmp 38) 143 rfl B 251 iw _ 65 72 Tryz.underlying143 hiw hiz his hib rfl (by omega) _ ws.length (ws.flatMap wrC) rfl s1.wait ⟨w0.heap.size,0,none⟩ 1 1 C.toList rfl (by rw [Array.length_toList,HC65.out]) hnews HC1.out (by unfold maxLen;omega) (by omega) (by have:=b1.size;omega) ?_;intro rw2 w4 ho4 hg4 _ how4;obtain ⟨A2,c2,rfl⟩:=own_form ho4)
   have hwk:∀ k,rw.ownBlock=some k→B≤k∧k<N:=fun k hk=>⟨s1.blk k hk,s1.wN k hk⟩
   have b4:Below B w3 w4:=b1.grown hg4 (by have:=b1.size;omega) (fun k hk=>(hwk k hk).1)
   have o4:=o1.grown hg4 (fun k hk=>.inl (Or.inr (Or.inr hk)))
   have s4:=s1.more hg4 (by rw [HCL.out] at ho4;exact ho4) how4 HBL.out hi
   refine ⟨⟨⟨_,b4⟩,rfl⟩,?_⟩
   try simp only [Act.put,List.setIfInBounds_toArray,List.set_cons_zero,List.set_cons_succ]
   rw [wpWays_one4]
   try simp only [List.map_cons,List.map_nil,opAt,List.getElem?_toArray,List.getElem?_cons_zero,List.getElem?_cons_succ,Option.getD_some]
   repeat (go_big_quiet_step (fail))
   refine wpQuiet_nil ?_
   have f4:w4.frozen? ⟨g,2,none⟩=false:=by simp [World.frozen?,s4.1]
   have k4:=blk_cell s4.1 2 _ rfl
   go_wp2_with fail
   have b5:Below B w3 (w4.setCell ⟨g,2,none⟩ (.slice A2 (ws.length+1) c2)):=b4.trans (below_setC' (by have:=b4.size;omega) hgB)
   refine ⟨⟨⟨_,b5⟩,rfl⟩,?_⟩
   try simp only [Act.put,List.setIfInBounds_toArray,List.set_cons_zero,List.set_cons_succ]
   rw [wpWays_done4]
   try simp only [List.map_nil]
   refine wpQuiet_nil ?_
   go_wp2_with fail
   go_meet
   exact ⟨.slice A2 (ws.length+1) c2,s4.2,o4.grown (grown_setC (World.grownBy.refl w4 _) 2 _) (fun k hk=>by injection hk with hk;subst hk;exact .inl (by unfold DkX;simp)),by rcases how4 with e | e;exact .inl e;exact .inr ⟨_,e,by have:=o1.size;exact this⟩⟩
  ·go_wp2_with (refine wpList_load_row rfl 251 (.tmp 8) rfl q rfl 251 C (0,0) _ hq0 Tryz.underlying251 rfl hsC.out ?_)
   refine ⟨⟨⟨_,b0⟩,rfl⟩,?_⟩
   try simp only [Act.put,List.setIfInBounds_toArray,List.set_cons_zero,List.set_cons_succ]
   rw [wpWays_two4]
   try simp only [List.map_nil,opAt,List.getElem?_toArray,List.getElem?_cons_zero,List.getElem?_cons_succ,Option.getD_some]
   refine wpQuiet_nil ⟨?_,?_⟩
   ·have k4:=blk_cell s0.head 2 _ rfl
    go_wp2_with fail
    refine ⟨⟨⟨_,b0⟩,rfl⟩,?_⟩
    try simp only [Act.put,List.setIfInBounds_toArray,List.set_cons_zero,List.set_cons_succ]
    clear k4
    rw [wpWays_one4]
    try simp only [List.map_nil,opAt,List.getElem?_toArray,List.getElem?_cons_zero,List.getElem?_cons_succ,Option.getD_some]
    refine wpQuiet_nil ?_
    go_wp2_with (refine wpList_buildSlice rfl 143 251 1 _ rfl C iw _ Tryz.underlying143 hiw hiz (by rw [his];decide) (by rw [his];decide) (by rw [Array.toList_map];exact hfill.out) ?_)
    have s1:=s0.below ((Below.refl _ _).alloc (Nat.le_refl _) (.cells C 251))
    have b1:Below B w3 (w0.alloc (.cells C 251)):=b0.alloc (by have:=b0.size;omega) _
    have o1:=o0.alloc (.cells C 251)
    refine ⟨⟨⟨_,b1⟩,rfl⟩,?_⟩
    try simp only [Act.put,List.setIfInBounds_toArray,List.set_cons_zero,List.set_cons_succ]
    rw [wpWays_one4]
    try simp only [List.map_nil,opAt,List.getElem?_toArray,List.getElem?_cons_zero,List.getElem?_cons_succ,Option.getD_some]
    refine wpQuiet_nil ?_
    have hnews:∀ (j:Nat) (u:Value),C.toList[j]?=some u→(w0.alloc (.cells C 251)).cell? ((⟨w0.heap.size,0,none⟩:Addr).add j)=some u:=by
     intro j u hj
     rw [Addr.add_mid,World.cell?_alloc_new]
     simpa using hj
    go_wp2_with (at_builtin;refine wpList_append_own_at _ rfl (.tmp 36) (.tmp 38) 143 rfl B 251 iw _ 65 72 Tryz.underlying143 hiw hiz his hib rfl (by omega) _ ws.length (ws.flatMap wrC) rfl s1.wait ⟨w0.heap.size,0,none⟩ 1 1 C.toList rfl (by rw [Array.length_toList,HC65.out]) hnews HC1.out (by unfold maxLen;omega) (by omega) (by have:=b1.size;omega) ?_;intro rw2 w4 ho4 hg4 _ how4;obtain ⟨A2,c2,rfl⟩:=own_form ho4)
    have hwk:∀ k,rw.ownBlock=some k→B≤k∧k<N:=fun k hk=>⟨s1.blk k hk,s1.wN k hk⟩
    have b4:Below B w3 w4:=b1.grown hg4 (by have:=b1.size;omega) (fun k hk=>(hwk k hk).1)
    have o4:=o1.grown hg4 (fun k hk=>.inl (Or.inr (Or.inr hk)))
    have s4:=s1.more hg4 (by rw [HCL.out] at ho4;exact ho4) how4 HBL.out hi
    refine ⟨⟨⟨_,b4⟩,rfl⟩,?_⟩
    try simp only [Act.put,List.setIfInBounds_toArray,List.set_cons_zero,List.set_cons_succ]
    rw [wpWays_one4]
    try simp only [List.map_cons,List.map_nil,opAt,List.getElem?_toArray,List.getElem?_cons_zero,List.getElem?_cons_succ,Option.getD_some]
    repeat (go_big_quiet_step (fail))
    refine wpQuiet_nil ?_
    have f4:w4.frozen? ⟨g,2,none⟩=false:=by simp [World.frozen?,s4.1]
    have k4:=blk_cell s4.1 2 _ rfl
    go_wp2_with fail
    have b5:Below B w3 (w4.setCell ⟨g,2,none⟩ (.slice A2 (ws.length+1) c2)):=b4.trans (below_setC' (by have:=b4.size;omega) hgB)
    refine ⟨⟨⟨_,b5⟩,rfl⟩,?_⟩
    try simp only [Act.put,List.setIfInBounds_toArray,List.set_cons_zero,List.set_cons_succ]
    rw [wpWays_done4]
    try simp only [List.map_nil]
    refine wpQuiet_nil ?_
    go_wp2_with fail
    go_meet
    exact ⟨.slice A2 (ws.length+1) c2,s4.2,o4.grown (grown_setC (World.grownBy.refl w4 _) 2 _) (fun k hk=>by injection hk with hk;subst hk;exact .inl (by unfold DkX;simp)),by rcases how4 with e | e;exact .inl e;exact .inr ⟨_,e,by have:=o1.size;exact this⟩⟩
   ·go_wp2_with (refine wpList_buildSlice rfl 143 251 1 _ rfl C iw _ Tryz.underlying143 hiw hiz (by rw [his];decide) (by rw [his];decide) (by rw [Array.toList_map];exact hfill.out) ?_)
    have s1:=s0.below ((Below.refl _ _).alloc (Nat.le_refl _) (.cells C 251))
    have b1:Below B w3 (w0.alloc (.cells C 251)):=b0.alloc (by have:=b0.size;omega) _
    have o1:=o0.alloc (.cells C 251)
    refine ⟨⟨⟨_,b1⟩,rfl⟩,?_⟩
    try simp only [Act.put,List.setIfInBounds_toArray,List.set_cons_zero,List.set_cons_succ]
    rw [wpWays_one4]
    try simp only [List.map_nil,opAt,List.getElem?_toArray,List.getElem?_cons_zero,List.getElem?_cons_succ,Option.getD_some]
    refine wpQuiet_nil ?_
    have k4:=blk_cell s1.head 2 _ rfl
    go_wp2_with fail
    refine ⟨⟨⟨_,b1⟩,rfl⟩,?_⟩
    try simp only [Act.put,List.setIfInBounds_toArray,List.set_cons_zero,List.set_cons_succ]
    clear k4
    rw [wpWays_one4]
    try simp only [List.map_nil,opAt,List.getElem?_toArray,List.getElem?_cons_zero,List.getElem?_cons_succ,Option.getD_some]
    refine wpQuiet_nil ?_
    have hnews:∀ (j:Nat) (u:Value),C.toList[j]?=some u→(w0.alloc (.cells C 251)).cell? ((⟨w0.heap.size,0,none⟩:Addr).add j)=some u:=by
     intro j u hj
     rw [Addr.add_mid,World.cell?_alloc_new]
     simpa using hj
    go_wp2_with (at_builtin;refine wpList_append_own_at _ rfl (.tmp 36) (.tmp 38) 143 rfl B 251 iw _ 65 72 Tryz.underlying143 hiw hiz his hib rfl (by omega) _ ws.length (ws.flatMap wrC) rfl s1.wait ⟨w0.heap.size,0,none⟩ 1 1 C.toList rfl (by rw [Array.length_toList,HC65.out]) hnews HC1.out (by unfold maxLen;omega) (by omega) (by have:=b1.size;omega) ?_;intro rw2 w4 ho4 hg4 _ how4;obtain ⟨A2,c2,rfl⟩:=own_form ho4)
    have hwk:∀ k,rw.ownBlock=some k→B≤k∧k<N:=fun k hk=>⟨s1.blk k hk,s1.wN k hk⟩
    have b4:Below B w3 w4:=b1.grown hg4 (by have:=b1.size;omega) (fun k hk=>(hwk k hk).1)
    have o4:=o1.grown hg4 (fun k hk=>.inl (Or.inr (Or.inr hk)))
    have s4:=s1.more hg4 (by rw [HCL.out] at ho4;exact ho4) how4 HBL.out hi
    refine ⟨⟨⟨_,b4⟩,rfl⟩,?_⟩
    try simp only [Act.put,List.setIfInBounds_toArray,List.set_cons_zero,List.set_cons_succ]
    rw [wpWays_one4]
    try simp only [List.map_cons,List.map_nil,opAt,List.getElem?_toArray,List.getElem?_cons_zero,List.getElem?_cons_succ,Option.getD_some]
    repeat (go_big_quiet_step (fail))
    refine wpQuiet_nil ?_
    have f4:w4.frozen? ⟨g,2,none⟩=false:=by simp [World.frozen?,s4.1]
    have k4:=blk_cell s4.1 2 _ rfl
    go_wp2_with fail
    have b5:Below B w3 (w4.setCell ⟨g,2,none⟩ (.slice A2 (ws.length+1) c2)):=b4.trans (below_setC' (by have:=b4.size;omega) hgB)
    refine ⟨⟨⟨_,b5⟩,rfl⟩,?_⟩
    try simp only [Act.put,List.setIfInBounds_toArray,List.set_cons_zero,List.set_cons_succ]
    rw [wpWays_done4]
    try simp only [List.map_nil]
    refine wpQuiet_nil ?_
    go_wp2_with fail
    go_meet
    exact ⟨.slice A2 (ws.length+1) c2,s4.2,o4.grown (grown_setC (World.grownBy.refl w4 _) 2 _) (fun k hk=>by injection hk with hk;subst hk;exact .inl (by unfold DkX;simp)),by rcases how4 with e | e;exact .inl e;exact .inr ⟨_,e,by have:=o1.size;exact this⟩⟩
 case rest =>
  obtain ⟨rw',s5,o5,mv5⟩:=hcut
  have HX5:=Lib.hid (bytes_outerX HX.out o5 hA)
  have S5:=Lib.hid s5
  have O5:=Lib.hid o5
  clear s5 o5
  have c1:=blk_cell S5.out.head 1 _ rfl
  obtain ⟨hB5,hcn,hcm,_⟩:=S5.out.now.parts
  rw [S5.out.lnw] at hcn
  have hnow:Hid (OwnB wc B gn cn 5 (nw.take (64*i) ++ nw.drop (64*i))):=Lib.hid (by rw [List.take_append_drop];exact S5.out.now)
  have hpre:Hid (64*i=(nw.take (64*i)).length):=Lib.hid (by rw [List.length_take,S5.out.lnw];omega)
  have hfit:Hid (64≤(nw.drop (64*i)).length):=Lib.hid (by rw [List.length_drop,S5.out.lnw];omega)
  go_wp2_with (first
   | (go_at_call 169;(with_reducible refine (sector_any gn cn i hi hl hcn hcm _ rfl).mono ?_);rintro e w1 ⟨rfl,rfl⟩)
   | ((with_reducible refine wpList_copy_bytes rfl (.tmp 47) (.tmp 48) 110 110 rfl 5 Tryz.underlying110 M3.out B gn cn (64*i) 64 (cn - 64*i) (some ad) 64 c (nw.take (64*i)) (nw.drop (64*i)) bs rfl rfl hpre.out hnow.out HX5.out HBL.out (Nat.le_refl _) hfit.out ?_);intro w6 ho6 hg6))
  go_ret
  have hgn:=S5.out.now.parts.1
  have hnN:=H.out.nN
  have o6:OuterX (DkX g gn rw) w w6:=O5.out.grown hg6 (fun k hk=>by injection hk with hk;subst hk;exact .inl (by unfold DkX;simp))
  refine ⟨rfl,⟨rw',S5.out.setNow hg6 ho6 ?_,mv5⟩,o6⟩
  rw [length_putAt (by rw [S5.out.lnw];exact hi) HBL.out]
  exact S5.out.lnw
end
end Go.Proofs.YtgkddhncfaeidaaGreat
namespace Go.Proofs.YtgkddhncfaeidaaGreat
open Go.RowKit CrcM PageM
def spl:List Value→Nat→List Value→List Value
 | l,_,[]=>l
 | l,o,v :: r=>spl (l.set o v) (o+1) r
theorem spl_mid:∀ (V X Y Z:List Value),Y.length=V.length→spl (X ++ (Y ++ Z)) X.length V=X ++ (V ++ Z)
 | [],X,Y,Z,h=>by
   obtain rfl:Y=[]:=List.length_eq_zero_iff.1 (by simpa using h)
   rfl
 | v :: r,X,Y,Z,h=>by
   obtain ⟨y,Y',rfl⟩:∃ y Y',Y=y :: Y':=by
    cases Y with
    | nil=>simp at h
    | cons y Y'=>exact ⟨y,Y',rfl⟩
   have h1:(X ++ (y :: Y' ++ Z)).set X.length v=(X ++ [v]) ++ (Y' ++ Z):=by simp
   show spl ((X ++ (y :: Y' ++ Z)).set X.length v) (X.length+1) r=_
   rw [h1,show X.length+1=(X ++ [v]).length by simp,spl_mid r (X ++ [v]) Y' Z (by simpa using h)]
   simp
theorem heap_setCells (g:Nat) (T:TypeId):∀ (vs:List Value) (w:World) (o:Nat) (cs:List Value),w.heap[g]?=some (.cells cs.toArray T (0,0))→(w.setCells g o vs).heap[g]?=some (.cells (spl cs o vs).toArray T (0,0))
 | [],_,_,_,h=>h
 | v :: r,w,o,cs,h=>by
   have h1:=heap_setCell_same w g o cs.toArray T v h
   rw [List.setIfInBounds_toArray] at h1
   exact heap_setCells g T r _ (o+1) _ h1
theorem grown_setCells (g:Nat):∀ (vs:List Value) (w:World) (o:Nat),w.grownBy (w.setCells g o vs) (some g)
 | [],w,_=>⟨rfl,rfl,rfl,Nat.le_refl _,fun _ _ _=>rfl⟩
 | v :: r,w,o=>by
   have h1:w.grownBy (w.setCell ⟨g,o,none⟩ v) (some g):=grown_setC (World.grownBy.refl w (some g)) o v
   exact h1.trans' (grown_setCells g r _ (o+1))
theorem range_of_block {w:World} {g o:Nat} {T:TypeId} {cs X Y Z:List Value} (h:w.heap[g]?=some (.cells cs.toArray T (0,0))) (hc:cs=X ++ (Y ++ Z)) (ho:X.length=o):w.rangeAt g o Y:=fun j v hv=>by
 have hj:j<Y.length:=(List.getElem?_eq_some_iff.1 hv).1
 refine blk_cell h (o+j) v ?_
 rw [List.getElem?_toArray,hc,← ho,List.getElem?_append_right (by omega),show X.length+j - X.length=j by omega,List.getElem?_append_left hj]
 exact hv
theorem there_of_block {w:World} {g:Nat} {T:TypeId} {cs:List Value} (h:w.heap[g]?=some (.cells cs.toArray T (0,0))) (o n:Nat) (hn:o+n≤cs.length):w.there g o n:=fun j hj=>by
 have h1:cs[o+j]?=some (cs[o+j]'(by omega)):=List.getElem?_eq_getElem _
 exact ⟨by rw [blk_cell h (o+j) _ (by rw [List.getElem?_toArray];exact h1)];rfl,by simp [World.frozen?,h]⟩
theorem quiet_load_mid {P:Program} {o:Oper} {a:Act} {B:Nat} {w0:World} {K:Act→Prop} (ty:TypeId) (x:Operand) (ho:o.op=.load ty x)
 (g off:Nat) (hx:a.eval x=.pointer (some ⟨g,off,none⟩)) (cs:List Value) (d:TypeDesc) (hg:∀ y:SubW B w0,y.at_.rangeAt g off cs)
 (hu:P.underlying ty=some d) (hd:d.isRow=true) (hi:(P.info? ty).map (·.size)=some cs.length)
 (h:K (a.put o.dst (.agg cs.toArray))):o.quiet P a (fun w'=>∃ x:SubW B w0,w'=x.at_) K:=by
 refine ⟨.agg cs.toArray,?_,h⟩
 rintro w ⟨y,rfl⟩
 unfold Oper.quietAt execOp
 simp only [ho,hx,run_loadAt_mid y.at_ g off ty cs d (hg y) hu hd hi,Sem.run_bind,Sem.run_pure,Result.andThen_ok]
 exact ⟨rfl,rfl⟩
def mapL (p:Int) (U:List Bool):List Value:=.int .i64 p :: U.map Value.bool
theorem mapL_arr (p:Int) (U:List Bool):(mapL p U).toArray=mapC p U:=rfl
theorem mapL_len (p:Int) {U:List Bool} (h:U.length=512):(mapL p U).length=513:=by simp [mapL,h]
theorem mapL_one (p:Int) (U:List Bool):∀ v ∈ mapL p U,v.oneCell'=true:=by
 intro v hv
 simp only [mapL,List.mem_cons,List.mem_map] at hv
 rcases hv with rfl | ⟨b,_,rfl⟩ <;> rfl
def viewL (g gen:Nat) (p:Int) (U V:List Bool):List Value:=tab.toList ++ (.pointer (some ⟨g,0,none⟩) :: .int .u64 (gen:Int) :: (mapL p U ++ mapL p V))
def ViewAt (w:World) (gv g gen:Nat) (p:Int) (U V:List Bool):Prop:=w.heap[gv]?=some (.cells (viewL g gen p U V).toArray 105 (0,0))
def chgL (gv:Nat) (p:Int) (U V:List Bool) (lv:Value):List Value:=.pointer (some ⟨gv,0,none⟩) :: (mapL p U ++ (mapL p V ++ [lv]))
def ChgAt (w:World) (gc gv:Nat) (p:Int) (U V:List Bool) (lv:Value):Prop:=w.heap[gc]?=some (.cells (chgL gv p U V lv).toArray 114 (0,0))
section
variable {w w':World} {gv gc g gen:Nat} {p:Int} {U V U':List Bool} {lv lv':Value}
theorem tab_len:tab.toList.length=256:=by rw [Array.length_toList];exact size_tab
theorem viewL_len (hU:U.length=512) (hV:V.length=512):(viewL g gen p U V).length=1284:=by rw [viewL,List.length_append,tab_len,List.length_cons,List.length_cons,List.length_append,mapL_len p hU,mapL_len p hV]
theorem ViewAt.keep (h:ViewAt w gv g gen p U V) (hk:w'.heap[gv]?=w.heap[gv]?):ViewAt w' gv g gen p U V:=hk.trans h
theorem ViewAt.lt (h:ViewAt w gv g gen p U V):gv<w.heap.size:=(Array.getElem?_eq_some_iff.1 h).1
theorem ViewAt.below (h:ViewAt w gv g gen p U V) (hb:Below w.heap.size w w'):ViewAt w' gv g gen p U V:=h.keep (hb.block _ h.lt)
theorem ViewAt.ctab (h:ViewAt w gv g gen p U V):w.rangeAt gv 0 tab.toList:=range_of_block (X:=[]) (Z:=.pointer (some ⟨g,0,none⟩) :: .int .u64 (gen:Int) :: (mapL p U ++ mapL p V)) h (by rw [List.nil_append];unfold viewL;rfl) rfl
theorem ViewAt.cd (h:ViewAt w gv g gen p U V):w.cell? ⟨gv,256,none⟩=some (.pointer (some ⟨g,0,none⟩)):=by
 refine blk_cell h 256 _ ?_
 rw [List.getElem?_toArray,viewL,List.getElem?_append_right (by rw [tab_len];exact Nat.le_refl _),tab_len]
 rfl
theorem ViewAt.cg (h:ViewAt w gv g gen p U V):w.cell? ⟨gv,257,none⟩=some (.int .u64 (gen:Int)):=by
 refine blk_cell h 257 _ ?_
 rw [List.getElem?_toArray,viewL,List.getElem?_append_right (by rw [tab_len];omega),tab_len]
 rfl
theorem ViewAt.cm (h:ViewAt w gv g gen p U V):w.rangeAt gv 258 (mapL p U) :=
 range_of_block (X:=tab.toList ++ [.pointer (some ⟨g,0,none⟩),.int .u64 (gen:Int)]) (Z:=mapL p V) h (by simp [viewL]) (by rw [List.length_append,tab_len];rfl)
theorem ViewAt.co (h:ViewAt w gv g gen p U V) (hU:U.length=512):w.rangeAt gv 771 (mapL p V) :=
 range_of_block (X:=tab.toList ++ (.pointer (some ⟨g,0,none⟩) :: .int .u64 (gen:Int) :: mapL p U)) (Z:=[]) h (by simp [viewL]) (by rw [List.length_append,tab_len,List.length_cons,List.length_cons,mapL_len p hU])
theorem ViewAt.set (h:ViewAt w gv g gen p U V) (hU:U.length=U'.length):ViewAt (w.setCells gv 258 (mapL p U')) gv g gen p U' V:=by
 have h1:=heap_setCells gv _ (mapL p U') w 258 _ h
 have h2:=spl_mid (mapL p U') (tab.toList ++ [.pointer (some ⟨g,0,none⟩),.int .u64 (gen:Int)]) (mapL p U) (mapL p V) (by simp [mapL,hU])
 rw [List.length_append,tab_len] at h2
 have e1:viewL g gen p U V=(tab.toList ++ [.pointer (some ⟨g,0,none⟩),.int .u64 (gen:Int)]) ++ (mapL p U ++ mapL p V):=by simp [viewL]
 have e2:viewL g gen p U' V=(tab.toList ++ [.pointer (some ⟨g,0,none⟩),.int .u64 (gen:Int)]) ++ (mapL p U' ++ mapL p V):=by simp [viewL]
 rw [e1] at h1
 unfold ViewAt
 rw [e2,← h2]
 exact h1
theorem chgL_len (hU:U.length=512) (hV:V.length=512):(chgL gv p U V lv).length=1028:=by simp [chgL,mapL,hU,hV]
theorem ChgAt.keep (h:ChgAt w gc gv p U V lv) (hk:w'.heap[gc]?=w.heap[gc]?):ChgAt w' gc gv p U V lv:=hk.trans h
theorem ChgAt.lt (h:ChgAt w gc gv p U V lv):gc<w.heap.size:=(Array.getElem?_eq_some_iff.1 h).1
theorem ChgAt.below (h:ChgAt w gc gv p U V lv) (hb:Below w.heap.size w w'):ChgAt w' gc gv p U V lv:=h.keep (hb.block _ h.lt)
theorem ChgAt.cv (h:ChgAt w gc gv p U V lv):w.cell? ⟨gc,0,none⟩=some (.pointer (some ⟨gv,0,none⟩)):=blk_cell h 0 _ rfl
theorem ChgAt.cm (h:ChgAt w gc gv p U V lv):w.rangeAt gc 1 (mapL p U):=range_of_block (X:=[.pointer (some ⟨gv,0,none⟩)]) (Z:=mapL p V ++ [lv]) h rfl rfl
theorem ChgAt.cb (h:ChgAt w gc gv p U V lv) (hU:U.length=512):w.rangeAt gc 514 (mapL p V) :=
 range_of_block (X:=.pointer (some ⟨gv,0,none⟩) :: mapL p U) (Z:=[lv]) h (by simp [chgL]) (by rw [List.length_cons,mapL_len p hU])
theorem ChgAt.cl (h:ChgAt w gc gv p U V lv) (hU:U.length=512) (hV:V.length=512):w.cell? ⟨gc,1027,none⟩=some lv:=by
 refine blk_cell h 1027 _ ?_
 have e:chgL gv p U V lv=(.pointer (some ⟨gv,0,none⟩) :: (mapL p U ++ mapL p V)) ++ [lv]:=by simp [chgL]
 have hl:(Value.pointer (some ⟨gv,0,none⟩) :: (mapL p U ++ mapL p V)).length=1027:=by rw [List.length_cons,List.length_append,mapL_len p hU,mapL_len p hV]
 rw [List.getElem?_toArray,e,List.getElem?_append_right (by rw [hl];exact Nat.le_refl _),hl]
 rfl
theorem ChgAt.setM (h:ChgAt w gc gv p U V lv) (hU:U.length=U'.length):ChgAt (w.setCells gc 1 (mapL p U')) gc gv p U' V lv:=by
 have h1:=heap_setCells gc _ (mapL p U') w 1 _ h
 have h2:=spl_mid (mapL p U') [.pointer (some ⟨gv,0,none⟩)] (mapL p U) (mapL p V ++ [lv]) (by simp [mapL,hU])
 have e1:chgL gv p U V lv=[.pointer (some ⟨gv,0,none⟩)] ++ (mapL p U ++ (mapL p V ++ [lv])):=rfl
 have e2:chgL gv p U' V lv=[.pointer (some ⟨gv,0,none⟩)] ++ (mapL p U' ++ (mapL p V ++ [lv])):=rfl
 rw [e1] at h1
 unfold ChgAt
 rw [e2,← h2]
 exact h1
theorem ChgAt.setL (h:ChgAt w gc gv p U V lv) (hU:U.length=512) (hV:V.length=512) (lv':Value):ChgAt (w.setCell ⟨gc,1027,none⟩ lv') gc gv p U V lv':=by
 have h1:=heap_setCell_same w gc 1027 _ _ lv' h
 rw [List.setIfInBounds_toArray] at h1
 have e:chgL gv p U V lv=(.pointer (some ⟨gv,0,none⟩) :: (mapL p U ++ mapL p V)) ++ [lv]:=by simp [chgL]
 have e':chgL gv p U V lv'=(.pointer (some ⟨gv,0,none⟩) :: (mapL p U ++ mapL p V)) ++ [lv']:=by simp [chgL]
 have hl:(Value.pointer (some ⟨gv,0,none⟩) :: (mapL p U ++ mapL p V)).length=1027:=by rw [List.length_cons,List.length_append,mapL_len p hU,mapL_len p hV]
 have h3:((Value.pointer (some ⟨gv,0,none⟩) :: (mapL p U ++ mapL p V)) ++ [lv]).set 1027 lv'=(.pointer (some ⟨gv,0,none⟩) :: (mapL p U ++ mapL p V)) ++ [lv']:=by
  rw [List.set_append_right _ _ (by rw [hl];exact Nat.le_refl _),hl]
  rfl
 unfold ChgAt
 rw [e',← h3,← e]
 exact h1
theorem ChgAt.fr (h:ChgAt w gc gv p U V lv) (i:Nat):w.frozen? ⟨gc,i,none⟩=false:=by simp [World.frozen?,show w.heap[gc]?=_ from h]
theorem ChgAt.thM (h:ChgAt w gc gv p U V lv) (hU:U.length=512) (hV:V.length=512) (n:Nat) (hn:n=513):w.there gc 1 n:=there_of_block h 1 n (by rw [chgL_len hU hV];omega)
theorem ViewAt.thM (h:ViewAt w gv g gen p U V) (hU:U.length=512) (hV:V.length=512) (n:Nat) (hn:n=513):w.there gv 258 n:=there_of_block h 258 n (by rw [viewL_len hU hV];omega)
end
end Go.Proofs.YtgkddhncfaeidaaGreat
