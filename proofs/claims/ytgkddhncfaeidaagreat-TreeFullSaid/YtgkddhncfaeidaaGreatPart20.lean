/- Squeezed: the texts as they are written lie in wip/tpl. -/
import Derived.Test.YtgkddhncfaeidaaGreatPart19
import Derived.Test.YtgkddhncfaeidaaGreatPart03
import Derived.Deep.RegionHeld3
import Derived.StillTailTactics
import Derived.Test.YtgkddhncfaeidaaGreatPart18
import Derived.Test.YtgkddhncfaeidaaGreatPart17
import Derived.Test.YtgkddhncfaeidaaGreatPart12
set_option maxRecDepth 100000
set_option maxHeartbeats 4000000
set_option linter.unusedSimpArgs false
set_option linter.unusedVariables false
namespace Go.Proofs.YtgkddhncfaeidaaGreat
open Go.RowKit CrcM PageM
theorem parts_put (k:UInt8) (m g:Nat) (b:List UInt8) (hb:b.length≤238) :
 (putP ⟨k,(m:Int),g,b⟩).getD 0 0=k∧((putP ⟨k,(m:Int),g,b⟩).drop 2).take 2=be m 2∧((putP ⟨k,(m:Int),g,b⟩).drop 4).take 8=be g 8 ∧
 ((putP ⟨k,(m:Int),g,b⟩).drop 12).take 2=be b.length 2∧((putP ⟨k,(m:Int),g,b⟩).drop 14).take b.length=b:=by
 have e:putP ⟨k,(m:Int),g,b⟩=k :: 0 :: (be m 2 ++ (be g 8 ++ (be b.length 2 ++ (b ++ (List.replicate (238 - b.length) 0 ++ le (sumN (headP ⟨k,(m:Int),g,b⟩)) 4))))):=by
  unfold putP
  conv=>lhs;arg 1;unfold headP
  simp
 rw [e]
 have h2:∀ n,(be n 2).length=2:=fun n=>length_be 2 n
 have h8:∀ n,(be n 8).length=8:=fun n=>length_be 8 n
 refine ⟨rfl,?_,?_,?_,?_⟩
 ·rw [show (2:Nat)=0+1+1 from rfl,List.drop_succ_cons,List.drop_succ_cons,List.drop_zero]
  exact List.take_left' (h2 m)
 ·rw [show (4:Nat)=2+1+1 from rfl,List.drop_succ_cons,List.drop_succ_cons,List.drop_left' (h2 m)]
  exact List.take_left' (h8 g)
 ·rw [show (12:Nat)=8+2+1+1 from rfl,List.drop_succ_cons,List.drop_succ_cons,Nat.add_comm 8 2,← List.drop_drop,List.drop_left' (h2 m),List.drop_left' (h8 g)]
  exact List.take_left' (h2 _)
 ·rw [show (14:Nat)=2+(8+2)+1+1 from rfl,List.drop_succ_cons,List.drop_succ_cons,← List.drop_drop,List.drop_left' (h2 m),show (10:Nat)=8+2 from rfl,← List.drop_drop,List.drop_left' (h8 g),List.drop_left' (h2 _)]
  exact List.take_left' rfl
theorem parse_put (k:UInt8) (m g:Nat) (b:List UInt8) (hm:m<512) (hg:g<18446744073709551616) (hb:b.length≤238) :
 sizeOfPage (putP ⟨k,(m:Int),g,b⟩)=b.length∧parse (putP ⟨k,(m:Int),g,b⟩)=⟨k,(m:Int),g,b⟩:=by
 obtain ⟨h0,h1,h2,h3,h4⟩:=parts_put k m g b hb
 have hs:sizeOfPage (putP ⟨k,(m:Int),g,b⟩)=b.length:=by
  unfold sizeOfPage
  rw [h3,val_be 2 _ (by omega)]
 refine ⟨hs,?_⟩
 unfold parse
 rw [hs,h0,h1,h2,h4,val_be 2 _ (by omega),val_be 8 _ (by omega)]
theorem good_put (k:UInt8) (m g:Nat) (b:List UInt8) (hk:isK k=true) (hm:m<512) (hg:g<18446744073709551616) (hb:b.length≤238):good (putP ⟨k,(m:Int),g,b⟩):=by
 obtain ⟨hs,hp⟩:=parse_put k m g b hm hg hb
 refine ⟨length_putP _ hb,by rw [hs];exact hb,?_,by rw [hp]⟩
 rw [hp]
 exact ⟨hk,by show (0:Int)≤(m:Int);omega,by show (m:Int)≤511;omega,hb⟩
def cellsC (p:Pg) (A:Option Addr) (c:Nat):Array Value:=#[.int .u8 (p.kind.toNat:Int),.int .i64 p.addr,.int .u64 (p.gen:Int),.slice A p.body.length c]
theorem put_okV (k:UInt8) (m g:Nat) (b:List UInt8) (hk:isK k=true) (hm:m<512) (hg:g<18446744073709551616) (hb:b.length≤238) (A:Option Addr) (c:Nat) (w:World) (hx:BytesAt w A b) (hbc:b.length≤c) :
 Calls Tryz.prog 118 #[.agg tab,.agg (cellsC ⟨k,(m:Int),g,b⟩ A c)] w fun e w'=>e=.returned (.tuple #[.slice (some ⟨w.heap.size+1+1,0,none⟩) 256 256,.int .i64 0])∧OwnB w' w.heap.size (w.heap.size+1+1) 256 5 (putP ⟨k,(m:Int),g,b⟩)∧Below w.heap.size w w' :=
 put_ok k m g b hk hm hg hb A c w hx hbc
noncomputable def numOf (xs:List UInt8):Nat:=open Classical in if xs.length≠256 then 4 else if good xs then 0 else 3
noncomputable def toldP (xs:List UInt8):Pg:=open Classical in if good xs then parse xs else ⟨0,0,0,[]⟩
section
variable {w w':World} {B N g gs gn L cs cn:Nat} {rw:Value} {st nw:List UInt8} {ws:List (Nat × List UInt8)} {left:Int}
def readsP (xs:List UInt8) (a:Nat) (k:UInt8):Prop:=numOf xs=0∧(toldP xs).addr=(a:Int)∧(toldP xs).kind=k
theorem get_told256 (A:Option Addr) (cap:Nat) (xs:List UInt8) (w:World) (hx:BytesAt w A xs) (hl:xs.length=256) (hc:256≤cap) :
 Calls Tryz.prog 122 #[.agg tab,.slice A 256 cap] w fun e w'=>∃ A' c',e=.returned (.tuple #[.agg #[.int .u8 ((toldP xs).kind.toNat:Int),.int .i64 (toldP xs).addr,.int .u64 ((toldP xs).gen:Int),.slice A' (toldP xs).body.length c'],.int .i64 (numOf xs:Int)])∧BytesAt w' A' (toldP xs).body∧(toldP xs).body.length≤c'∧c'≤maxLen∧(∀ a,A'=some a→w.heap.size≤a.block)∧Below w.heap.size w w':=by
 have hnl:¬ xs.length≠256:=fun h=>h hl
 have bad:¬ good xs→∀ w':World,Below w.heap.size w w'→∃ A' c',(.returned (.tuple #[zeroPage,.int .i64 3]):Ending)=.returned (.tuple #[.agg #[.int .u8 ((toldP xs).kind.toNat:Int),.int .i64 (toldP xs).addr,.int .u64 ((toldP xs).gen:Int),.slice A' (toldP xs).body.length c'],.int .i64 (numOf xs:Int)])∧BytesAt w' A' (toldP xs).body∧(toldP xs).body.length≤c'∧c'≤maxLen∧(∀ a,A'=some a→w.heap.size≤a.block)∧Below w.heap.size w w':=by
  intro hn w' hb
  refine ⟨none,0,?_,?_,?_,Nat.zero_le _,(fun a h=>by cases h),hb⟩
  ·simp only [toldP,numOf,if_neg hn,if_neg hnl];rfl
  ·simp only [toldP,if_neg hn];exact fun h=>absurd rfl h
  ·simp only [toldP,if_neg hn];exact Nat.le_refl _
 by_cases hs:sizeOfPage xs≤238
 ·refine (get_restF A cap xs w hx (by omega) hl hs).mono fun e w' ⟨hb,hr⟩=>?_
  rcases hr with ⟨hn,he⟩ | ⟨hg,A',c',he,h2,h3,hm4,h4⟩
  ·rw [he];exact bad hn w' hb
  ·refine ⟨A',c',?_,?_,?_,hm4,h4,hb⟩
   ·simp only [toldP,numOf,if_pos hg,if_neg hnl];exact he
   ·simp only [toldP,if_pos hg];exact h2
   ·simp only [toldP,if_pos hg];exact h3
 ·refine (get_size A cap xs w hx (by omega) hl (by omega)).mono fun e w' ⟨he,hb⟩=>?_
  rw [he]
  exact bad (fun hg=>hs hg.2.1) w' hb
theorem pread_any (h:Dk w B N g gs gn rw L cs cn st nw ws true left) (za:Int) (a:Nat) (hza:za=(a:Int)) (hin:256*a+256≤L) (k:UInt8) (xs:List UInt8) (hxs:(nw.drop (256*a)).take 256=xs) :
 Calls Tryz.prog 83 #[.agg tab,.pointer (some ⟨g,0,none⟩),.int .i64 za,.int .u8 (k.toNat:Int)] w fun e w' =>
  ((readsP xs a k∧∃ A' c',e=.returned (.tuple #[.agg (cellsC (toldP xs) A' c'),.int .i64 0])∧BytesAt w' A' (toldP xs).body∧(toldP xs).body.length≤c'∧c'≤maxLen∧∀ a,A'=some a→w.heap.size≤a.block)∨(¬ readsP xs a k∧e=.returned (.tuple #[zeroPage,.int .i64 3])))∧Below w.heap.size w w':=by
 subst hza
 unfold readsP
 obtain ⟨P,hPe⟩:∃ P,P=toldP xs:=⟨_,rfl⟩
 obtain ⟨m,hme⟩:∃ m,m=numOf xs:=⟨_,rfl⟩
 rw [← hPe,← hme]
 have HPE:=Lib.hid hPe.symm
 have HME:=Lib.hid hme.symm
 clear hPe hme
 have hLh:=h.hi
 have hxl:xs.length=256:=by rw [← hxs,List.length_take,List.length_drop,h.lnw];omega
 have hb0:Below w.heap.size w (w.alloc (.cells tab 71)):=(Below.refl _ _).alloc (Nat.le_refl _) _
 have hb1:Below w.heap.size w ((w.alloc (.cells tab 71)).alloc (.cells #[.int .u8 0,.int .i64 0,.int .u64 0,.slice none 0 0] 156)):=hb0.alloc (by simp) _
 have D1:=Lib.hid (h.below hb1)
 have ht0:((w.alloc (.cells tab 71)).alloc (.cells #[.int .u8 0,.int .i64 0,.int .u64 0,.slice none 0 0] 156)).heap[w.heap.size]?=some (.cells tab 71 (0,0)):=heap_alloc2_old _ _ _
 have hr0:((w.alloc (.cells tab 71)).alloc (.cells #[.int .u8 0,.int .i64 0,.int .u64 0,.slice none 0 0] 156)).heap[w.heap.size+1]?=some (.cells #[.int .u8 0,.int .i64 0,.int .u64 0,.slice none 0 0] 156 (0,0)):=heap_alloc2_new _ _ _
 have hsz:((w.alloc (.cells tab 71)).alloc (.cells #[.int .u8 0,.int .i64 0,.int .u64 0,.slice none 0 0] 156)).heap.size=w.heap.size+2:=by simp
 have HT0:=Lib.hid ht0
 have HR0:=Lib.hid hr0
 have HSZ:=Lib.hid hsz
 have HXL:=Lib.hid hxl
 have HXS:=Lib.hid hxs
 clear h hxl hxs ht0 hr0 hsz
 go_enter Tryz.func83,Tryz.ntmps83
 go_upto_region 4 with (go_at_call 121;(refine (readRaw_ok D1.out _ _ a 256 rfl rfl (by omega) (by omega) (by omega)).mono ?_);rintro e w1 ⟨A1,c1,rfl,hx1,hc1,hcm1,hb2⟩;rw [HXS.out] at hx1;have HX1:=Lib.hid hx1;clear hx1)
 have hsz2:=hb2.size
 rw [HSZ.out] at hsz2
 have HT1:=Lib.hid ((hb2.block w.heap.size (by rw [HSZ.out];omega)).trans HT0.out)
 have HR1:=Lib.hid ((hb2.block (w.heap.size+1) (by rw [HSZ.out];omega)).trans HR0.out)
 have hbw1:Below w.heap.size w w1:=hb1.trans (hb2.mono (by rw [HSZ.out];omega))
 clear hb2
 by_cases hm:m=0
 ·have d1:((m:Int) != 0)=false:=by simp [hm]
  by_cases ha:P.addr=(a:Int)
  ·have d2:(P.addr != (a:Int))=false:=by simp [ha]
   by_cases hk:P.kind=k
   ·have d3:(((P.kind.toNat:Nat):Int) != ((k.toNat:Nat):Int))=false:=by simp [hk]
    have HM:=Lib.hid hm
    have HA:=Lib.hid ha
    have HKK:=Lib.hid hk
    clear hm ha hk
    go_wp2_with (first
     | (refine wpList_load_row rfl 71 (.tmp 4) rfl w.heap.size rfl 71 tab (0,0) _ HT1.out Tryz.underlying71 rfl (by rw [size_tab];exact info64) ?_)
     | (go_at_call 122;(refine (get_told256 A1 c1 xs w1 HX1.out HXL.out hc1).mono ?_);rintro e w2 ⟨A2,c2,rfl,hx2,hlc2,hmc2,hnw2,hb3⟩;rw [HPE.out,HME.out];rw [HPE.out] at hx2;have HX2:=Lib.hid hx2;have hr2:=(hb3.block (w.heap.size+1) (by omega)).trans HR1.out;have HR2:=Lib.hid ((Below.heap_alloc w2 (.cells #[.int .u8 (P.kind.toNat:Int),.int .i64 P.addr,.int .u64 (P.gen:Int),.slice A2 P.body.length c2] 156) (w.heap.size+1) (Array.getElem?_eq_some_iff.1 hr2).1).trans hr2);clear hx2 hr2)
     | (refine wpList_store_row rfl 156 (.tmp 12) (.tmp 27) rfl w2.heap.size #[.int .u8 (P.kind.toNat:Int),.int .i64 P.addr,.int .u64 (P.gen:Int),.slice A2 P.body.length c2] rfl rfl 156 Tryz.zeroCells156 (heap_alloc_new _ _) (by kernel_rfl) (by kernel_rfl) (by kernel_rfl) ?_;rw [World.setRow_alloc_new])
     | (refine wpList_load_row rfl 156 (.tmp 12) rfl w2.heap.size rfl 156 _ (0,0) _ (heap_alloc_new _ _) Tryz.underlying156 rfl (by kernel_rfl) ?_)
     | (refine wpList_store_row rfl 156 (.tmp 8) (.tmp 44) rfl (w.heap.size+1) #[.int .u8 (P.kind.toNat:Int),.int .i64 P.addr,.int .u64 (P.gen:Int),.slice A2 P.body.length c2] rfl rfl 156 _ HR2.out (by kernel_rfl) (by kernel_rfl) (by kernel_rfl) ?_))
    have hm:=HM.out
    have ha:=HA.out
    have hk:=HKK.out
    have hlc2':P.body.length≤c2:=by rw [HPE.out] at hlc2;exact hlc2
    refine bodyPost_ret (v:=.tuple #[.agg #[.int .u8 (P.kind.toNat:Int),.int .i64 P.addr,.int .u64 (P.gen:Int),.slice A2 P.body.length c2],.int .i64 0]) (results_cell_tmp (p:=8) (u:=9) (ty:=156) rfl _ _ (w.heap.size+1) 156 #[.int .u8 (P.kind.toNat:Int),.int .i64 P.addr,.int .u64 (P.gen:Int),.slice A2 P.body.length c2] (0,0) _ rfl (setRow_heap _ _ _ _ _ _ HR2.out) Tryz.underlying156 rfl size_page) rfl ⟨.inl ⟨⟨hm,ha,hk⟩,A2,c2,rfl,bytes_setRow (HX2.out.below ((Below.refl _ _).alloc (Nat.le_refl _) _)) (fun a ha=>by have:=hnw2 a ha;omega) _,hlc2',hmc2,fun a ha=>by have:=hnw2 a ha;omega⟩,?_⟩
    exact ((hbw1.trans (hb3.mono hbw1.size)).alloc (by have:=hbw1.size;have:=hb3.size;omega) _).trans ⟨rfl,rfl,rfl,by simp,fun k hk=>setRow_other _ _ _ _ (by omega)⟩
   ·have d3:(((P.kind.toNat:Nat):Int) != ((k.toNat:Nat):Int))=true:=by rw [bne_iff_ne];intro e;exact hk (UInt8.toNat_inj.1 (by omega))
    have HKK:=Lib.hid hk
    clear hm ha hk
    go_wp2_with (first
     | (refine wpList_load_row rfl 71 (.tmp 4) rfl w.heap.size rfl 71 tab (0,0) _ HT1.out Tryz.underlying71 rfl (by rw [size_tab];exact info64) ?_)
     | (go_at_call 122;(refine (get_told256 A1 c1 xs w1 HX1.out HXL.out hc1).mono ?_);rintro e w2 ⟨A2,c2,rfl,hx2,hlc2,hmc2,hnw2,hb3⟩;rw [HPE.out,HME.out];rw [HPE.out] at hx2;have HX2:=Lib.hid hx2;have hr2:=(hb3.block (w.heap.size+1) (by omega)).trans HR1.out;have HR2:=Lib.hid ((Below.heap_alloc w2 (.cells #[.int .u8 (P.kind.toNat:Int),.int .i64 P.addr,.int .u64 (P.gen:Int),.slice A2 P.body.length c2] 156) (w.heap.size+1) (Array.getElem?_eq_some_iff.1 hr2).1).trans hr2);clear hx2 hr2)
     | (refine wpList_store_row rfl 156 (.tmp 12) (.tmp 27) rfl w2.heap.size #[.int .u8 (P.kind.toNat:Int),.int .i64 P.addr,.int .u64 (P.gen:Int),.slice A2 P.body.length c2] rfl rfl 156 Tryz.zeroCells156 (heap_alloc_new _ _) (by kernel_rfl) (by kernel_rfl) (by kernel_rfl) ?_;rw [World.setRow_alloc_new])
     | (refine wpList_store_row rfl 156 (.tmp 8) (.tmp 43) rfl (w.heap.size+1) #[.int .u8 0,.int .i64 0,.int .u64 0,.slice none 0 0] rfl rfl 156 _ HR2.out (by kernel_rfl) (by kernel_rfl) (by kernel_rfl) ?_))
    refine bodyPost_ret (v:=.tuple #[.agg #[.int .u8 0,.int .i64 0,.int .u64 0,.slice none 0 0],.int .i64 3]) (results_cell_tmp (p:=8) (u:=9) (ty:=156) rfl _ _ (w.heap.size+1) 156 #[.int .u8 0,.int .i64 0,.int .u64 0,.slice none 0 0] (0,0) _ rfl (setRow_heap _ _ _ _ _ _ HR2.out) Tryz.underlying156 rfl size_page) rfl ⟨.inr ⟨fun h=>HKK.out h.2.2,rfl⟩,?_⟩
    exact ((hbw1.trans (hb3.mono hbw1.size)).alloc (by have:=hbw1.size;have:=hb3.size;omega) _).trans ⟨rfl,rfl,rfl,by simp,fun k hk=>setRow_other _ _ _ _ (by omega)⟩
  ·have d2:(P.addr != (a:Int))=true:=by rw [bne_iff_ne];exact ha
   have HA:=Lib.hid ha
   clear hm ha
   go_wp2_with (first
    | (refine wpList_load_row rfl 71 (.tmp 4) rfl w.heap.size rfl 71 tab (0,0) _ HT1.out Tryz.underlying71 rfl (by rw [size_tab];exact info64) ?_)
    | (go_at_call 122;(refine (get_told256 A1 c1 xs w1 HX1.out HXL.out hc1).mono ?_);rintro e w2 ⟨A2,c2,rfl,hx2,hlc2,hmc2,hnw2,hb3⟩;rw [HPE.out,HME.out];rw [HPE.out] at hx2;have HX2:=Lib.hid hx2;have hr2:=(hb3.block (w.heap.size+1) (by omega)).trans HR1.out;have HR2:=Lib.hid ((Below.heap_alloc w2 (.cells #[.int .u8 (P.kind.toNat:Int),.int .i64 P.addr,.int .u64 (P.gen:Int),.slice A2 P.body.length c2] 156) (w.heap.size+1) (Array.getElem?_eq_some_iff.1 hr2).1).trans hr2);clear hx2 hr2)
    | (refine wpList_store_row rfl 156 (.tmp 12) (.tmp 27) rfl w2.heap.size #[.int .u8 (P.kind.toNat:Int),.int .i64 P.addr,.int .u64 (P.gen:Int),.slice A2 P.body.length c2] rfl rfl 156 Tryz.zeroCells156 (heap_alloc_new _ _) (by kernel_rfl) (by kernel_rfl) (by kernel_rfl) ?_;rw [World.setRow_alloc_new])
    | (refine wpList_store_row rfl 156 (.tmp 8) (.tmp 43) rfl (w.heap.size+1) #[.int .u8 0,.int .i64 0,.int .u64 0,.slice none 0 0] rfl rfl 156 _ HR2.out (by kernel_rfl) (by kernel_rfl) (by kernel_rfl) ?_))
   refine bodyPost_ret (v:=.tuple #[.agg #[.int .u8 0,.int .i64 0,.int .u64 0,.slice none 0 0],.int .i64 3]) (results_cell_tmp (p:=8) (u:=9) (ty:=156) rfl _ _ (w.heap.size+1) 156 #[.int .u8 0,.int .i64 0,.int .u64 0,.slice none 0 0] (0,0) _ rfl (setRow_heap _ _ _ _ _ _ HR2.out) Tryz.underlying156 rfl size_page) rfl ⟨.inr ⟨fun h=>HA.out h.2.1,rfl⟩,?_⟩
   exact ((hbw1.trans (hb3.mono hbw1.size)).alloc (by have:=hbw1.size;have:=hb3.size;omega) _).trans ⟨rfl,rfl,rfl,by simp,fun k hk=>setRow_other _ _ _ _ (by omega)⟩
 ·have d1:((m:Int) != 0)=true:=by rw [bne_iff_ne];omega
  have HM:=Lib.hid hm
  clear hm
  go_wp2_with (first
   | (refine wpList_load_row rfl 71 (.tmp 4) rfl w.heap.size rfl 71 tab (0,0) _ HT1.out Tryz.underlying71 rfl (by rw [size_tab];exact info64) ?_)
   | (go_at_call 122;(refine (get_told256 A1 c1 xs w1 HX1.out HXL.out hc1).mono ?_);rintro e w2 ⟨A2,c2,rfl,hx2,hlc2,hmc2,hnw2,hb3⟩;rw [HPE.out,HME.out];rw [HPE.out] at hx2;have HX2:=Lib.hid hx2;have hr2:=(hb3.block (w.heap.size+1) (by omega)).trans HR1.out;have HR2:=Lib.hid ((Below.heap_alloc w2 (.cells #[.int .u8 (P.kind.toNat:Int),.int .i64 P.addr,.int .u64 (P.gen:Int),.slice A2 P.body.length c2] 156) (w.heap.size+1) (Array.getElem?_eq_some_iff.1 hr2).1).trans hr2);clear hx2 hr2)
   | (refine wpList_store_row rfl 156 (.tmp 12) (.tmp 27) rfl w2.heap.size #[.int .u8 (P.kind.toNat:Int),.int .i64 P.addr,.int .u64 (P.gen:Int),.slice A2 P.body.length c2] rfl rfl 156 Tryz.zeroCells156 (heap_alloc_new _ _) (by kernel_rfl) (by kernel_rfl) (by kernel_rfl) ?_;rw [World.setRow_alloc_new])
   | (refine wpList_store_row rfl 156 (.tmp 8) (.tmp 43) rfl (w.heap.size+1) #[.int .u8 0,.int .i64 0,.int .u64 0,.slice none 0 0] rfl rfl 156 _ HR2.out (by kernel_rfl) (by kernel_rfl) (by kernel_rfl) ?_))
  refine bodyPost_ret (v:=.tuple #[.agg #[.int .u8 0,.int .i64 0,.int .u64 0,.slice none 0 0],.int .i64 3]) (results_cell_tmp (p:=8) (u:=9) (ty:=156) rfl _ _ (w.heap.size+1) 156 #[.int .u8 0,.int .i64 0,.int .u64 0,.slice none 0 0] (0,0) _ rfl (setRow_heap _ _ _ _ _ _ HR2.out) Tryz.underlying156 rfl size_page) rfl ⟨.inr ⟨fun h=>HM.out h.1,rfl⟩,?_⟩
  exact ((hbw1.trans (hb3.mono hbw1.size)).alloc (by have:=hbw1.size;have:=hb3.size;omega) _).trans ⟨rfl,rfl,rfl,by simp,fun k hk=>setRow_other _ _ _ _ (by omega)⟩
end
section
variable {w w':World} {B N g gs gn L cs cn:Nat} {rw:Value} {st nw:List UInt8} {ws:List (Nat × List UInt8)} {on:Bool} {left:Int}
theorem outerX_of_below {X:Nat→Prop} {w w':World} (h:Below w.heap.size w w'):OuterX X w w':=(OuterX.refl X w).then h (Nat.le_refl _)
theorem put_okB (k:UInt8) (m g:Nat) (b PP:List UInt8) (eP:PP=putP ⟨k,(m:Int),g,b⟩) (hk:isK k=true) (hm:m<512) (hg:g<18446744073709551616) (hb:b.length≤238) (A:Option Addr) (c:Nat) (w:World) (hx:BytesAt w A b) (hbc:b.length≤c) (C:Array Value) (eC:C=cellsC ⟨k,(m:Int),g,b⟩ A c) :
 Calls Tryz.prog 118 #[.agg tab,.agg C] w fun e w'=>∃ q,e=.returned (.tuple #[.slice (some ⟨q,0,none⟩) 256 256,.int .i64 0])∧BytesAt w' (some ⟨q,0,none⟩) PP∧Below w.heap.size w w':=by
 rw [eC]
 exact (put_okV k m g b hk hm hg hb A c w hx hbc).mono fun e w' ⟨h1,h2,h3⟩=>⟨_,h1,by rw [eP];exact h2.bytes,h3⟩
theorem writeRaw_pageX (h:Dk w B N g gs gn rw L cs cn st nw ws true (-1)) (hws:ws.length≤990) (za:Int) (a:Nat) (hza:za=(a:Int)) (hin:256*a+256≤L) (A:Option Addr) (c:Nat) (bs:List UInt8) (hx:BytesAt w A bs) (hbl:bs.length=256) :
 Calls Tryz.prog 119 #[.pointer (some ⟨g,0,none⟩),.int .i64 za,.slice A 256 c] w fun e w'=>e=.returned (.int .i64 0) ∧
  (∃ rw' ws',Dk w' B w'.heap.size g gs gn rw' L cs cn st (rawN nw (256*a) bs 4) ws' true (-1)∧ws'.length=ws.length+4∧Moved w rw.ownBlock rw'.ownBlock)∧OuterX (DkX g gn rw) w w':=by
 have hh:=h.hi
 refine (writeRaw_okX h za a 256 hza (.inr ⟨hin,by omega⟩) (by omega) (by omega) (by omega) A c bs hx hbl 1 rfl (by omega) (by omega)).mono ?_
 rintro e w' ⟨h1,⟨rw',ws',h2,h3,h4⟩,h5⟩
 refine ⟨h1,⟨rw',ws',?_,by omega,h4⟩,h5⟩
 simpa using h2
theorem OuterX.of_moved {w w1 w2:World} {g gn:Nat} {rw:Value} (hb:Below w.heap.size w w1) (h2:OuterX (DkX g gn rw) w1 w2):OuterX (DkX g gn rw) w w2 :=
 ((OuterX.refl (DkX g gn rw) w).then hb (Nat.le_refl _)).chain (.inl rfl) h2
theorem pwrite_okX (h:Dk w B N g gs gn rw L cs cn st nw ws true (-1)) (hws:ws.length≤990) (k:UInt8) (m gg:Nat) (b:List UInt8) (hk:isK k=true) (hm:m<512) (hg:gg<18446744073709551616) (hb:b.length≤238) (hmL:256*m+256≤L) (A:Option Addr) (c:Nat) (hx:BytesAt w A b) (hbc:b.length≤c) (C:Array Value) (eC:C=cellsC ⟨k,(m:Int),gg,b⟩ A c) :
 Calls Tryz.prog 76 #[.agg tab,.pointer (some ⟨g,0,none⟩),.agg C] w fun e w'=>e=.returned (.int .i64 0) ∧
  (∃ rw' ws',Dk w' B w'.heap.size g gs gn rw' L cs cn st (rawN nw (256*m) (putP ⟨k,(m:Int),gg,b⟩) 4) ws' true (-1)∧ws'.length=ws.length+4∧Moved w rw.ownBlock rw'.ownBlock)∧OuterX (DkX g gn rw) w w':=by
 obtain ⟨PP,eP⟩:∃ PP,PP=putP ⟨k,(m:Int),gg,b⟩:=⟨_,rfl⟩
 have HK:=Lib.hid hk
 have HPL:Hid (PP.length=256):=Lib.hid (by rw [eP];exact length_putP _ hb)
 have hC1:C.all (·.oneCell')=true:=by rw [eC];simp [cellsC,Value.oneCell']
 have hC4:C.size=4:=by rw [eC];rfl
 have hCm:C[1]?=some (.int .i64 (m:Int)):=by rw [eC];rfl
 have h1:=Lib.hid hC1
 have h4:=Lib.hid hC4
 have HM:=Lib.hid hCm
 rw [← eP]
 have EP:=Lib.hid eP
 have EC:=Lib.hid eC
 have HX:=Lib.hid hx
 have H:=Lib.hid h
 have HML:=Lib.hid hmL
 have hb1:Below w.heap.size w ((w.alloc (.cells tab 71)).alloc (.cells C 156)):=((Below.refl _ _).alloc (Nat.le_refl _) _).alloc (by simp) _
 have D1:=Lib.hid (h.below hb1)
 have ht0:((w.alloc (.cells tab 71)).alloc (.cells C 156)).heap[w.heap.size]?=some (.cells tab 71 (0,0)):=heap_alloc2_old _ _ _
 have hr0:((w.alloc (.cells tab 71)).alloc (.cells C 156)).heap[w.heap.size+1]?=some (.cells C 156 (0,0)):=heap_alloc2_new _ _ _
 have hsz:((w.alloc (.cells tab 71)).alloc (.cells C 156)).heap.size=w.heap.size+2:=by simp
 have HX1:=Lib.hid (hx.below hb1)
 have HB1:=Lib.hid hb1
 have HT0:=Lib.hid ht0
 have HR0:=Lib.hid hr0
 have HSZ:=Lib.hid hsz
 clear hk eC eP hC1 hC4 hCm hx h hmL hb1 ht0 hr0 hsz
 go_enter Tryz.func76,Tryz.ntmps76
 go_wp2_with (first
  | (go_at_call 117;(refine (ready_on D1.out).mono ?_);rintro e w1 ⟨rfl,rfl⟩)
  | (refine wpList_load_row rfl 71 (.tmp 3) rfl w.heap.size rfl 71 tab (0,0) _ HT0.out Tryz.underlying71 rfl (by rw [size_tab];exact info64) ?_)
  | (refine wpList_load_row rfl 156 (.tmp 5) rfl (w.heap.size+1) rfl 156 C (0,0) _ HR0.out Tryz.underlying156 rfl (by rw [h4.out];exact size_page) ?_)
  | (go_at_call 118;(refine (put_okB k m gg b PP EP.out HK.out hm hg hb A c _ HX1.out hbc C EC.out).mono ?_);rintro e w2 ⟨q,rfl,hq,hb2⟩;have HQ:=Lib.hid hq;clear hq;have D2:=Lib.hid (D1.out.below hb2);have hr2:=(hb2.block (w.heap.size+1) (by rw [HSZ.out];omega)).trans HR0.out;have k1:=(cell_of_row w2 (w.heap.size+1) 1 _ _ _ hr2).trans HM.out;clear hr2)
  | (go_at_call 119;(refine (writeRaw_pageX D2.out hws _ m rfl HML.out _ _ PP HQ.out HPL.out).mono ?_);rintro e w3 ⟨rfl,⟨rw3,ws3,d3,l3,m3⟩,o3⟩))
 go_ret
 have hbw:Below w.heap.size w w2:=HB1.out.trans (hb2.mono (by rw [HSZ.out];omega))
 refine ⟨rfl,⟨rw3,ws3,d3,l3,?_⟩,o3.of_moved hbw⟩
 rcases m3 with e | ⟨q',e,hq'⟩
 ·exact .inl e
 ·exact .inr ⟨q',e,Nat.le_trans hbw.size hq'⟩
end
end Go.Proofs.YtgkddhncfaeidaaGreat
namespace Go.Proofs.YtgkddhncfaeidaaGreat
open Go.RowKit Go.ChangeShapes Go.WideShapes Go.ChangeAt CrcM PageM
theorem infoMapL (p:Int) {U:List Bool} (h:U.length=512):(Tryz.prog.info? 62).map (·.size)=some (mapL p U).length:=by rw [mapL_len p h];exact infoMap
theorem take_yes (gc gv p:Nat) (U V:List Bool) (lv:Value) (hU:U.length=512) (hV:V.length=512) (okU:okM (p:Int) U) (okV:okM (p:Int) V) (a:Nat) (hf:fits p U V 1 a) (hl:∀ a',a'<a→¬ fits p U V 1 a') (w:World) (h:ChgAt w gc gv (p:Int) U V lv) :
 Calls Tryz.prog 81 #[.pointer (some ⟨gc,0,none⟩)] w fun e w'=>e=.returned (.tuple #[.int .i64 (a:Int),.int .i64 0])∧ChgAt w' gc gv (p:Int) (markN U a true 1) V lv∧OuterX (fun k=>k=gc) w w':=by
 have H:=Lib.hid h
 have HU:=Lib.hid hU
 have HV:=Lib.hid hV
 have HOU:=Lib.hid okU
 have HOV:=Lib.hid okV
 have HF:=Lib.hid hf
 have HL:=Lib.hid hl
 obtain ⟨U',hU'⟩:∃ U',U'=markN U a true 1:=⟨_,rfl⟩
 have HU':Hid (U'.length=512):=Lib.hid (by rw [hU',length_markN];exact hU)
 have HUE:=Lib.hid hU'
 rw [← hU']
 have HT:Hid (∀ W:World,Calls Tryz.prog 120 #[.agg (mapL (p:Int) U).toArray,.agg (mapL (p:Int) V).toArray,.int .i64 1] W fun e w'=>e=.returned (.tuple #[.agg (mapC (p:Int) U'),.int .i64 (a:Int),.int .i64 0])∧Below W.heap.size W w'):=Lib.hid (fun W=>by
  refine (take_bm p U V hU hV okU okV 1 (by decide) W _ _ (mapL_arr _ _) (mapL_arr _ _)).mono ?_
  rintro e w' ⟨⟨b,hb,hbl,rfl⟩ | ⟨hn,_⟩,hbw⟩
  ·have hab:b=a:=by
    rcases Nat.lt_trichotomy b a with h1 | h1 | h1
    ·exact absurd hb (hl b h1)
    ·exact h1
    ·exact absurd hf (hbl a h1)
   subst hab
   rw [hU']
   exact ⟨rfl,hbw⟩
  ·exact absurd hf (hn a))
 clear hU' h hU hV okU okV hf hl
 obtain ⟨C,hC⟩:∃ C,C=mapC (p:Int) U':=⟨_,rfl⟩
 have HC1:Hid (C.size=513):=Lib.hid (by rw [hC];exact size_mapC HU'.out)
 have HC2:Hid (C.all (·.oneCell')=true):=Lib.hid (by rw [hC];exact one_mapC _ _)
 have HCL:Hid (C.toList=mapL (p:Int) U'):=Lib.hid (by rw [hC];rfl)
 rw [← hC] at HT
 clear hC
 go_enter Tryz.func81,Tryz.ntmps81
 go_upto_region 1 with fail
 have g1:∀ y:SubW w.heap.size w,y.at_.rangeAt gc 1 (mapL (p:Int) U):=fun y=>(H.out.below y.ok_).cm
 have g2:∀ y:SubW w.heap.size w,y.at_.rangeAt gc 514 (mapL (p:Int) V):=fun y=>(H.out.below y.ok_).cb HU.out
 refine region_ways4 w.heap.size (Nat.le_refl _) (.two [0,1,2,3,4,5,6,7] 8 (.one [9,10,11,12] 13 (.one [] 14 (.done [15,16]))) 13 (.one [] 8 (.one [9,10,11,12] 14 (.done [15,16])))) (by kernel_rfl) (by kernel_rfl) ?_
 rintro wd hbd
 have B0:=Lib.hid hbd
 clear hbd
 rw [wpWays_two4]
 try simp only [List.map_cons,List.map_nil,opAt,List.getElem?_toArray,List.getElem?_cons_zero,List.getElem?_cons_succ,Option.getD_some]
 repeat (first
  | (go_big_quiet_want;refine quiet_load_mid 62 (.tmp 10) rfl gc 1 rfl (mapL (p:Int) U) _ g1 Tryz.underlying62 rfl (infoMapL _ HU.out) ?_;simp only [Act.put,List.setIfInBounds_toArray,List.set_cons_zero,List.set_cons_succ];go_big_quiet_on)
  | (go_big_quiet_want;refine quiet_load_mid 62 (.tmp 14) rfl gc 514 rfl (mapL (p:Int) V) _ g2 Tryz.underlying62 rfl (infoMapL _ HV.out) ?_;simp only [Act.put,List.setIfInBounds_toArray,List.set_cons_zero,List.set_cons_succ];go_big_quiet_on)
  | go_big_quiet_step (fail))
 clear g1 g2
 refine wpQuiet_nil ⟨?_,?_⟩
 ·go_wp2_with (go_at_call 120;refine (HT.out _).mono ?_;rintro e x1 ⟨rfl,hb1⟩;have B1:=Lib.hid (B0.out.trans (hb1.mono B0.out.size));clear hb1)
  refine ⟨⟨⟨_,B1.out⟩,rfl⟩,?_⟩
  try simp only [Act.put,List.setIfInBounds_toArray,List.set_cons_zero,List.set_cons_succ]
  rw [wpWays_one4]
  try simp only [List.map_cons,List.map_nil,opAt,List.getElem?_toArray,List.getElem?_cons_zero,List.getElem?_cons_succ,Option.getD_some]
  repeat (first
   | go_big_quiet_step (fail))
  refine wpQuiet_nil ?_
  go_wp2_with fail
  obtain ⟨gb,hgb⟩:∃ gb,gb=x1.heap.size:=⟨_,rfl⟩
  obtain ⟨x2,hx2⟩:∃ x2,x2=x1.alloc (.cells (Tryz.zeroCells62) 62):=⟨_,rfl⟩
  have G2:Hid (x2.heap[gb]?=some (.cells (Tryz.zeroCells62) 62 (0,0))):=Lib.hid (by rw [hx2,hgb];exact heap_alloc_new _ _)
  have B2:=Lib.hid (B1.out.trans ((alloc_bel hx2).mono B1.out.size))
  have L2:Hid (w.heap.size≤gb):=Lib.hid (by rw [hgb];exact B1.out.size)
  rw [← hx2,← hgb]
  clear hx2 hgb
  refine ⟨⟨⟨_,B2.out⟩,rfl⟩,?_⟩
  try simp only [Act.put,List.setIfInBounds_toArray,List.set_cons_zero,List.set_cons_succ]
  rw [wpWays_one4]
  try simp only [List.map_cons,List.map_nil,opAt,List.getElem?_toArray,List.getElem?_cons_zero,List.getElem?_cons_succ,Option.getD_some]
  refine wpQuiet_nil ?_
  go_wp2_with (refine wpList_store_row rfl 62 (.tmp 4) (.tmp 17) rfl gb C rfl rfl 62 _ G2.out (by rw [HC1.out];exact infoMap) (by rw [HC1.out];exact size_zeroMap) HC2.out ?_)
  have B3:=Lib.hid (below_setRow B2.out L2.out C)
  have G3:=Lib.hid (setRow_heap _ gb _ C _ _ G2.out)
  refine ⟨⟨⟨_,B3.out⟩,rfl⟩,?_⟩
  try simp only [Act.put,List.setIfInBounds_toArray,List.set_cons_zero,List.set_cons_succ]
  rw [wpWays_done4]
  try simp only [List.map_cons,List.map_nil,opAt,List.getElem?_toArray,List.getElem?_cons_zero,List.getElem?_cons_succ,Option.getD_some]
  repeat (first
   | go_big_quiet_step (fail))
  refine wpQuiet_nil ?_
  obtain ⟨x5,hx5⟩:∃ x5,x5=World.setRow x2 gb C:=⟨_,rfl⟩
  rw [← hx5] at B3 G3 ⊢
  have HCG:=Lib.hid (H.out.below B3.out)
  have HTH:Hid (x5.there gc 1 C.size):=Lib.hid (HCG.out.thM HU.out HV.out _ HC1.out)
  clear hx5
  go_wp2_with (first
   | (refine wpList_load_row rfl 62 (.tmp 4) rfl gb rfl 62 C (0,0) _ G3.out Tryz.underlying62 rfl (by rw [HC1.out];exact infoMap) ?_)
   | (refine wpList_store_mid rfl 62 (.tmp 44) (.tmp 42) rfl gc 1 C rfl rfl HTH.out (by rw [HC1.out];exact infoMap) HC2.out ?_))
  go_ret2
  refine ⟨rfl,?_,?_⟩
  ·rw [HCL.out]
   exact HCG.out.setM (by rw [HU'.out,HU.out])
  ·exact (outerX_of_below B3.out).grown (grown_setCells gc _ _ _) (fun k hk=>.inl (by cases hk;rfl))
 ·go_wp2_with fail
  obtain ⟨gb,hgb⟩:∃ gb,gb=wd.heap.size:=⟨_,rfl⟩
  obtain ⟨x2,hx2⟩:∃ x2,x2=wd.alloc (.cells (Tryz.zeroCells62) 62):=⟨_,rfl⟩
  have G1:Hid (x2.heap[gb]?=some (.cells (Tryz.zeroCells62) 62 (0,0))):=Lib.hid (by rw [hx2,hgb];exact heap_alloc_new _ _)
  have B1:=Lib.hid (B0.out.trans ((alloc_bel hx2).mono B0.out.size))
  have L2:Hid (w.heap.size≤gb):=Lib.hid (by rw [hgb];exact B0.out.size)
  rw [← hx2,← hgb]
  clear hx2 hgb
  refine ⟨⟨⟨_,B1.out⟩,rfl⟩,?_⟩
  try simp only [Act.put,List.setIfInBounds_toArray,List.set_cons_zero,List.set_cons_succ]
  rw [wpWays_one4]
  try simp only [List.map_cons,List.map_nil,opAt,List.getElem?_toArray,List.getElem?_cons_zero,List.getElem?_cons_succ,Option.getD_some]
  refine wpQuiet_nil ?_
  go_wp2_with (go_at_call 120;refine (HT.out _).mono ?_;rintro e x3 ⟨rfl,hb1⟩;have B2:=Lib.hid (B1.out.trans (hb1.mono B1.out.size));have G2:=Lib.hid (row_stays G1.out hb1);clear hb1)
  refine ⟨⟨⟨_,B2.out⟩,rfl⟩,?_⟩
  try simp only [Act.put,List.setIfInBounds_toArray,List.set_cons_zero,List.set_cons_succ]
  rw [wpWays_one4]
  try simp only [List.map_cons,List.map_nil,opAt,List.getElem?_toArray,List.getElem?_cons_zero,List.getElem?_cons_succ,Option.getD_some]
  repeat (first
   | go_big_quiet_step (fail))
  refine wpQuiet_nil ?_
  go_wp2_with (refine wpList_store_row rfl 62 (.tmp 4) (.tmp 17) rfl gb C rfl rfl 62 _ G2.out (by rw [HC1.out];exact infoMap) (by rw [HC1.out];exact size_zeroMap) HC2.out ?_)
  have B3:=Lib.hid (below_setRow B2.out L2.out C)
  have G3:=Lib.hid (setRow_heap _ gb _ C _ _ G2.out)
  refine ⟨⟨⟨_,B3.out⟩,rfl⟩,?_⟩
  try simp only [Act.put,List.setIfInBounds_toArray,List.set_cons_zero,List.set_cons_succ]
  rw [wpWays_done4]
  try simp only [List.map_cons,List.map_nil,opAt,List.getElem?_toArray,List.getElem?_cons_zero,List.getElem?_cons_succ,Option.getD_some]
  repeat (first
   | go_big_quiet_step (fail))
  refine wpQuiet_nil ?_
  obtain ⟨x5,hx5⟩:∃ x5,x5=World.setRow x3 gb C:=⟨_,rfl⟩
  rw [← hx5] at B3 G3 ⊢
  have HCG:=Lib.hid (H.out.below B3.out)
  have HTH:Hid (x5.there gc 1 C.size):=Lib.hid (HCG.out.thM HU.out HV.out _ HC1.out)
  clear hx5
  go_wp2_with (first
   | (refine wpList_load_row rfl 62 (.tmp 4) rfl gb rfl 62 C (0,0) _ G3.out Tryz.underlying62 rfl (by rw [HC1.out];exact infoMap) ?_)
   | (refine wpList_store_mid rfl 62 (.tmp 44) (.tmp 42) rfl gc 1 C rfl rfl HTH.out (by rw [HC1.out];exact infoMap) HC2.out ?_))
  go_ret2
  refine ⟨rfl,?_,?_⟩
  ·rw [HCL.out]
   exact HCG.out.setM (by rw [HU'.out,HU.out])
  ·exact (outerX_of_below B3.out).grown (grown_setCells gc _ _ _) (fun k hk=>.inl (by cases hk;rfl))
end Go.Proofs.YtgkddhncfaeidaaGreat
