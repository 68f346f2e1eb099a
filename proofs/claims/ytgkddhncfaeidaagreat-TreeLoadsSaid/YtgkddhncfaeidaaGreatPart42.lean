/- Squeezed: the texts as they are written lie in wip/tpl. -/
import Derived.Test.YtgkddhncfaeidaaGreatPart24
import Derived.Test.YtgkddhncfaeidaaGreatPart23
import Derived.Test.YtgkddhncfaeidaaGreatPart30
import Derived.Test.YtgkddhncfaeidaaGreatPart15
import Derived.Test.YtgkddhncfaeidaaGreatPart25
import Derived.Test.YtgkddhncfaeidaaGreatTiWy
import Derived.Test.YtgkddhncfaeidaaGreatPart28
set_option maxRecDepth 100000
set_option maxHeartbeats 8000000
set_option linter.unnecessarySimpa false
set_option linter.unusedSimpArgs false
set_option linter.unusedVariables false
namespace Go.Proofs.YtgkddhncfaeidaaGreat
open Go.RowKit Go.ChangeShapes Go.WideShapes Go.ChangeAt CrcM PageM
theorem rising_no (es:List EntD) (p e:EntD) (hp0:es[0]?=some p) (he0:es[1]?=some e) (hno:apartB p e=false) (A:Option Addr) (n c:Nat) (hn:es.length=n) (hnc:n≤c) (hc:c≤maxLen) (hm:n≤1000000) (hr:∀ e ∈ es,okEnt e) (w:World) (hx:EnAt w A es) :
 Calls Tryz.prog 27 #[.slice A n c] w fun e' w'=>e'=.returned (.int .i64 8)∧Below w.heap.size w w':=by
 have HN:=Lib.hid hn
 have HR:=Lib.hid hr
 have HX:=Lib.hid hx
 have HCM:Hid (c≤9223372036854775807):=Lib.hid hc
 have HNO:Hid (¬ okNode ⟨true,[p,e],[],[]⟩):=Lib.hid (fun h=>by
  obtain ⟨x,h1,_,h3⟩:=h.2.2.2.2 1 (by simp)
  obtain rfl:e=x:=by simpa using h1
  rcases h3 with h3 | ⟨y,h3,h4⟩
  ·cases h3
  ·obtain rfl:p=y:=by simpa using h3
   rw [hno] at h4
   cases h4)
 have HP0:=Lib.hid hp0
 have HE0:=Lib.hid he0
 have HN2:Hid (2≤n):=Lib.hid (by have:=(List.getElem?_eq_some_iff.1 he0).1;omega)
 clear hn hr hx hc hp0 he0 hno
 go_enter Tryz.func27,Tryz.ntmps27
 go_upto_region 2 with fail
 go_loopw [8] (fun i wr=>∃ k:Nat,k≤n∧i=.int .i64 (k:Int)∧Hid (Below w.heap.size w wr)) (fun i _=>n - (intOf i).toNat)
 case atStart=>exact ⟨0,Nat.zero_le _,rfl,Lib.hid (Below.refl _ _)⟩
 case round =>
  obtain ⟨k,hk,rfl,HB⟩:=hrel
  have hkw:wrap64 ((k:Int)+1)=(k:Int)+1:=by unfold wrap64;omega
  by_cases hlt:k<n
  ·obtain ⟨q,he⟩:∃ q,es[k]?=some q:=⟨_,List.getElem?_eq_getElem (by rw [HN.out];exact hlt)⟩
   have HE:=Lib.hid (HR.out q (List.mem_of_getElem? he))
   obtain ⟨b,off,hA,hcs⟩:=HX.out (by intro h;rw [h] at he;simp at he)
   subst hA
   obtain ⟨e0,e1,e2,e3,e4,e5,e6,e7⟩:=(hcs k q he).below HB.out
   have hkm:decide ((k:Int)<(n:Int))=true:=by simp;omega
   clear he hcs
   go_upto_region 4 with fail
   obtain ⟨wa,hwa⟩:∃ wa,wa=wr.alloc (.cells #[.int .i64 q.se,.int .i64 q.st,.int .i64 q.en,.int .i64 q.ad,.int .i64 q.le,.int .i64 q.cn,.int .i64 q.co,.int .u32 q.cr] 40):=⟨_,rfl⟩
   have GA:Hid (wa.heap[wr.heap.size]?=some (.cells #[.int .i64 q.se,.int .i64 q.st,.int .i64 q.en,.int .i64 q.ad,.int .i64 q.le,.int .i64 q.cn,.int .i64 q.co,.int .u32 q.cr] 40 (0,0))):=Lib.hid (by rw [hwa];exact heap_alloc_new _ _)
   have BA:=Lib.hid (alloc_bel hwa)
   rw [← hwa]
   clear hwa e0 e1 e2 e3 e4 e5 e6 e7
   go_wp2_with (first
    | (refine wpList_load_row rfl 40 (.tmp 4) rfl wr.heap.size rfl 40 _ (0,0) _ GA.out Tryz.underlying40 rfl (by kernel_rfl) ?_)
    | (go_at_call 39;refine (rightEntry_yes q HE.out _).mono ?_;rintro e2 w2 ⟨rfl,hb2⟩;have B2:=Lib.hid (BA.out.trans (hb2.mono BA.out.size));clear hb2))
   have B3:=Lib.hid (HB.out.trans (B2.out.mono HB.out.size))
   go_roundw
   case rel=>exact ⟨k+1,by omega,by go_num,B3⟩
   case measure=>first | exact meas_step5 hlt rfl | exact meas_step5 hlt hkw
  ·obtain rfl:k=n:=by omega
   have hkm:decide ((k:Int)<(k:Int))=false:=by simp
   go_upto_region 8 with fail
   clear hkm hkw
   obtain ⟨w1,hw1⟩:∃ w1,w1=wr:=⟨_,rfl⟩
   rw [← hw1] at HB ⊢
   clear hw1
   go_loopw [5] (fun i w2=>∃ j:Nat,j=0∧i=.int .i64 ((j:Int)+1)∧Hid (Below w.heap.size w w2)) (fun i _=>k+1 - (intOf i).toNat)
   case atStart=>exact ⟨0,rfl,rfl,HB⟩
   case round =>
    clear HB
    obtain ⟨j,hj0,rfl,HB⟩:=hrel
    have hj:=Lib.hid hj0
    clear hj0
    have hw1:wrap64 ((j:Int)+1 - 1)=(j:Int):=by have:=hj.out;unfold wrap64;omega
    have hw2:wrap64 ((j:Int)+1+1)=(j:Int)+1+1:=by have:=hj.out;unfold wrap64;omega
    have hw3:wrap64 (j:Int)=(j:Int):=by have:=hj.out;unfold wrap64;omega
    by_cases hlj:j+1<k
    ·have hkm:decide ((j:Int)+1<(k:Int))=true:=by simp;omega
     have hp:es[j]?=some p:=by rw [hj.out];exact HP0.out
     have he:es[j+1]?=some e:=by rw [hj.out];exact HE0.out
     obtain ⟨b,off,hA,hcs⟩:=HX.out (by intro h;rw [h] at hp;simp at hp)
     subst hA
     have HAT:Hid (∀ W,Below w.heap.size w W→NodeAt W ⟨true,[p,e],[],[]⟩ ⟨some ⟨b,off+j*8,none⟩,c - j,none,0,none,0⟩):=Lib.hid (fun W hW =>
      { e:=fun _=>⟨b,off+j*8,rfl,fun i x hx=>by
          rcases i with _ | i
          ·obtain rfl:p=x:=by simpa using hx
           exact (hcs j p hp).below hW
          ·have hi0:i=0:=by
            have:=(List.getElem?_eq_some_iff.1 hx).1
            simp at this
            omega
           subst hi0
           obtain rfl:e=x:=by simpa using hx
           have h1:=(hcs (j+1) e he).below hW
           rwa [show off+j*8+(0+1)*8=off+(j+1)*8 by omega]⟩
        k:=fun h=>absurd rfl h,d:=fun h=>absurd rfl h,ec:=by show 2≤c - j;omega,kc:=Nat.le_refl _,dc:=Nat.le_refl _,em:=by show c - j≤maxLen;have:=HCM.out;unfold maxLen;omega,km:=Nat.zero_le _,dm:=Nat.zero_le _ })
     have hjc:j+1+1≤c:=by omega
     have hcne:¬ c=j:=by omega
     have HRI:Hid (∀ W,Below w.heap.size w W→Calls Tryz.prog 49 #[.agg #[.bool true,.slice (some ⟨b,off+j*8,none⟩) 2 (c - j),.slice none 0 0,.slice none 0 0]] W fun e w'=>e=.returned (.bool false)∧Below W.heap.size W w'):=Lib.hid (fun W hW=>right_any ⟨true,[p,e],[],[]⟩ ⟨some ⟨b,off+j*8,none⟩,c - j,none,0,none,0⟩ false (IsB.mkF HNO.out) W (HAT.out W hW))
     have h2:j+1+1 - j=2:=by omega
     rw [← h2] at HRI
     clear hp he hcs HAT h2
     have hcm:=HCM.out
     go_wp2_with (go_at_call 49;refine (HRI.out _ HB.out).mono ?_;rintro e2 w3 ⟨rfl,hb3⟩;have B3:=Lib.hid (HB.out.trans (hb3.mono HB.out.size));clear hb3)
     go_ret
     exact ⟨rfl,B3.out⟩
    ·exact absurd (show j+1<k from by have:=HN2.out;have:=hj.out;omega) hlj
theorem load_order (gv g gen p:Nat) (U V:List Bool) (es:List EntD) (pe e:EntD) (hp0:es[0]?=some pe) (he0:es[1]?=some e) (hno:apartB pe e=false) (A:Option Addr) (n c:Nat) (hn:es.length=n) (hnc:n≤c) (hc:c≤maxLen) (hm:n≤1000000) (hr:∀ e ∈ es,okEnt e) (w:World) (hx:EnAt w A es) (hv:ViewAt w gv g gen (p:Int) U V) :
 Calls Tryz.prog 10 #[.pointer (some ⟨gv,0,none⟩),.slice A n c] w fun e w'=>e=.returned (.tuple #[.agg #[.int .i64 0,.int .i64 0],.int .i64 8])∧Below w.heap.size w w':=by
 have HRS:=Lib.hid (fun W (hW:Below w.heap.size w W)=>rising_no es pe e hp0 he0 hno A n c hn hnc hc hm hr W (EnAt.below hx hW))
 have HVW:=Lib.hid hv
 clear hp0 he0 hno hn hnc hc hm hr hx hv
 go_enter Tryz.func10,Tryz.ntmps10
 go_upto_region 1 with fail
 obtain ⟨w1,hw1⟩:∃ w1,w1=w.alloc (.cells #[.int .i64 0,.int .i64 0] 43):=⟨_,rfl⟩
 have G1:Hid (w1.heap[w.heap.size]?=some (.cells #[.int .i64 0,.int .i64 0] 43 (0,0))):=Lib.hid (by rw [hw1];exact heap_alloc_new _ _)
 have B1:=Lib.hid (alloc_bel hw1)
 rw [← hw1]
 clear hw1
 have HV1:=Lib.hid (HVW.out.below B1.out)
 go_wp2_with (first
  | (go_at_call 26;refine (open_yes gv g gen p U V _ HV1.out).mono ?_;rintro e w2 ⟨rfl,rfl⟩)
  | (go_at_call 27;refine (HRS.out _ B1.out).mono ?_;rintro e w2 ⟨rfl,hb2⟩;have B2:=Lib.hid (B1.out.trans (hb2.mono B1.out.size));have G2:=Lib.hid (row_stays G1.out hb2);clear hb2)
  | (refine wpList_store_row rfl 43 (.tmp 4) (.tmp 16) rfl w.heap.size #[.int .i64 0,.int .i64 0] rfl rfl 43 _ G2.out (by kernel_rfl) rfl (by simp [Value.oneCell']) ?_))
 exact bodyPost_ret (v:=.tuple #[.agg #[.int .i64 0,.int .i64 0],.int .i64 8]) (results_cell_tmpB (p:=4) (u:=5) (ty:=43) rfl _ _ w.heap.size 43 _ (0,0) _ rfl (setRow_heap _ _ _ _ _ _ G2.out) Tryz.underlying43 rfl (by kernel_rfl)) rfl ⟨rfl,below_setRow B2.out (Nat.le_refl _) _⟩
theorem map_any (gv g gen p:Nat) (U V:List Bool) (hU:U.length=512) (w:World) (hv:ViewAt w gv g gen (p:Int) U V) :
 Calls Tryz.prog 20 #[.pointer (some ⟨gv,0,none⟩)] w fun e w'=>e=.returned (.agg (mapC (p:Int) U))∧Below w.heap.size w w':=by
 obtain ⟨L,eL⟩:∃ L,L=mapL (p:Int) U:=⟨_,rfl⟩
 obtain ⟨C,eC⟩:∃ C:Array Value,C=L.toArray:=⟨_,rfl⟩
 have hCC:mapC (p:Int) U=C:=by rw [eC,eL];rfl
 rw [hCC]
 have hS:Hid (some 513=some C.size):=Lib.hid (by rw [← hCC,size_mapC hU])
 have hO:Hid (C.all (·.oneCell')=true):=Lib.hid (by rw [← hCC];exact one_mapC _ _)
 obtain ⟨w1,hw1⟩:∃ w1,w1=w.alloc (.cells Tryz.zeroCells62 62):=⟨_,rfl⟩
 have G1:Hid (w1.heap[w.heap.size]?=some (.cells Tryz.zeroCells62 62 (0,0))):=Lib.hid (by rw [hw1];exact heap_alloc_new _ _)
 have B1:=Lib.hid (alloc_bel hw1)
 have V1:=Lib.hid (hv.below B1.out)
 have HR:Hid (w1.rangeAt gv 258 L):=Lib.hid (by rw [eL];exact V1.out.cm)
 have HI:Hid ((Tryz.prog.info? 62).map (·.size)=some L.length):=Lib.hid (by rw [eL];exact infoMapL _ hU)
 have EC:=Lib.hid eC
 have HW1:=Lib.hid hw1
 clear hv hU eL eC hCC hw1
 go_enter Tryz.func20,Tryz.ntmps20
 go_upto_region 1 with fail
 rw [← HW1.out]
 clear HW1
 go_upto_region 3 with (go_at_call 26;refine (open_yes gv g gen p U V _ V1.out).mono ?_;rintro e w0 ⟨rfl,rfl⟩)
 go_wp2_with (first
  | (refine wpList_load_mid rfl 62 (.tmp 9) rfl gv 258 rfl L _ HR.out Tryz.underlying62 rfl HI.out ?_;rw [← EC.out])
  | (refine wpList_store_row rfl 62 (.tmp 2) (.tmp 10) rfl w.heap.size C rfl rfl 62 Tryz.zeroCells62 G1.out (infoMap.trans hS.out) (size_zeroMap.trans (Option.some.inj hS.out)) hO.out ?_))
 exact bodyPost_ret (v:=.agg C) (results_cell_row (p:=2) (ty:=62) rfl _ _ w.heap.size 62 C (0,0) _ rfl (setRow_heap _ _ Tryz.zeroCells62 _ _ _ G1.out) Tryz.underlying62 rfl (infoMap.trans hS.out)) rfl ⟨rfl,below_setRow B1.out (Nat.le_refl _) _⟩
def gx:EntD:=⟨1,5,6,2,9,2,0,0⟩
theorem gx_ok:okEnt gx:=by unfold okEnt okKey okAddr gx;decide
theorem gx_in:inNode ⟨true,[gx],[],[]⟩:=⟨fun e h=>by rw [List.mem_singleton.1 h];unfold inEnt inJ gx;decide,fun k h=>by cases h⟩
theorem gx_at:atK [gx] gx.key=some gx:=rfl
theorem gx_tree {nw nw':List UInt8} {Lx:List (Nat × (NodeD × NdL))} {Ls:Nat} (hL:768≤Ls) (h:PgsOf 1 nw nw' Lx) (hl:Lx.map strip=[(2,⟨true,[gx],[],[]⟩)]):TreeQ nw' Ls 2 1 [gx]:=by
 refine .inr ⟨0,⟨true,[gx],[],[]⟩,rfl,by decide,⟨rfl,rfl,rfl,rfl⟩,⟨okNode_one gx_ok,gx_in,by omega,1,by decide,?_⟩,by decide⟩
 have hm:(2,(⟨true,[gx],[],[]⟩:NodeD)) ∈ Lx.map strip:=by rw [hl];exact List.mem_singleton.2 rfl
 obtain ⟨y,hy,he⟩:=List.mem_map.1 hm
 have h1:=h.1 y hy
 have e1:y.1=2:=congrArg Prod.fst he
 have e2:y.2.1=⟨true,[gx],[],[]⟩:=congrArg Prod.snd he
 rw [putPg,e1,e2] at h1
 exact h1
theorem gx_free:freeN (marks map0 [2]) 20=17:=by decide
theorem grows_any (w:World) :
 Calls Tryz.prog 7 #[] w fun e w'=>e=.returned (.bool true)∧Below w.heap.size w w':=by
 have N0:=Lib.hid (Below.refl w.heap.size w)
 go_enter Tryz.func7,Tryz.ntmps7
 go_upto_region 4 with (go_at_call 6;refine (begin_any 20 (by decide) (by decide) _).mono ?_;rintro e w1 ⟨gv,g,B,N,gs,gn,cs,cn,rfl,hv,hd,hgv,hB,hb⟩;have V1:=Lib.hid hv;have D1:=Lib.hid hd;have GV:=Lib.hid hgv;have GB:=Lib.hid hB;have B1:=Lib.hid hb;clear hv hd hgv hB hb)
 go_upto_region 5 with fail
 obtain ⟨w2,hw2⟩:∃ w2,w2=w1.alloc (.cells #[.int .i64 1,.int .i64 5,.int .i64 6,.int .i64 2,.int .i64 9,.int .i64 2,.int .i64 0,.int .u32 0] 40):=⟨_,rfl⟩
 obtain ⟨g4,hg4⟩:∃ g4,g4=w1.heap.size:=⟨_,rfl⟩
 have G2:Hid (w2.heap[g4]?=some (.cells #[.int .i64 1,.int .i64 5,.int .i64 6,.int .i64 2,.int .i64 9,.int .i64 2,.int .i64 0,.int .u32 0] 40 (0,0))):=Lib.hid (by rw [hw2,hg4];exact heap_alloc_new _ _)
 have A2:=Lib.hid (alloc_bel hw2)
 have B2:=Lib.hid (B1.out.trans (A2.out.mono B1.out.size))
 have V2:=Lib.hid (V1.out.below A2.out)
 have D2:=Lib.hid (D1.out.below A2.out)
 have P2:Hid (Picks 20 (orK map0 map0 512) map0 [2]):=Lib.hid (by rw [orK_self length_map0];exact picks_new 20 1 (by decide) (by decide))
 have HIN:=Lib.hid (insert_first gv g 1 20 map0 map0 length_map0 length_map0 (okM_zero 20 (by decide) (by decide)) (okM_zero 20 (by decide) (by decide)) (by decide) gx gx_ok 0 2 P2.out (by decide) (by decide) w2 V2.out D2.out)
 have hX:¬ (DkX g gn (.slice none 0 0) g4∨g4=gv):=fun hx=>by
  rcases hx with hx | hx
  ·exact D2.out.notX G2.out (by decide) (.inl (by decide)) (by decide) hx
  ·have h1:=V2.out
   have h2:=G2.out
   unfold ViewAt at h1
   rw [hx,h1] at h2
   cases h2
 have HX:=Lib.hid hX
 clear hX P2
 dsimp only [gx] at HIN
 rw [← hw2,← hg4]
 clear hw2 hg4
 go_upto_region 6 with (first
  | (refine wpList_load_row rfl 40 (.tmp 4) rfl g4 rfl 40 _ (0,0) _ G2.out Tryz.underlying40 rfl (by kernel_rfl) ?_)
  | (go_at_call 17;refine HIN.out.mono ?_;rintro e w3 ⟨rfl,Lx,hlx,hw⟩;have W3:=Lib.hid hw;have L3:=Lib.hid hlx;have G3:=Lib.hid (hw.out.heap G2.out HX.out);clear hw hlx))
 obtain ⟨w4,hw4⟩:∃ w4,w4=w3.alloc (.cells #[.int .i64 2,.int .i64 1] 43):=⟨_,rfl⟩
 obtain ⟨g5,hg5⟩:∃ g5,g5=w3.heap.size:=⟨_,rfl⟩
 have G5:Hid (w4.heap[g5]?=some (.cells #[.int .i64 2,.int .i64 1] 43 (0,0))):=Lib.hid (by rw [hw4,hg5];exact heap_alloc_new _ _)
 have A4:=Lib.hid (alloc_bel hw4)
 have G4:=Lib.hid (row_stays G3.out A4.out)
 obtain ⟨rw',ws',nw',d1,-,d3,-⟩:=W3.out.disk
 have T3:Hid (TreeQ nw' (20*256) 2 1 [gx]):=Lib.hid (gx_tree (by decide) d3 L3.out)
 have V4:=Lib.hid (W3.out.view.below A4.out)
 have D4:=Lib.hid (d1.below A4.out)
 have HUP:Hid (Up [gx]):=Lib.hid (List.pairwise_singleton _ _)
 have B4:Hid (Below w.heap.size w w4):=Lib.hid (by
  have h1:=W3.out.out
  have h2:=A4.out
  have hgB:=D1.out.gB
  have hnB:=(OwnB.parts D1.out.now).1
  have hW:Below w.heap.size w2 w3:=⟨h1.os,h1.tape,h1.output,h1.size,fun q hq=>h1.block q (Nat.lt_of_lt_of_le hq B2.out.size) (fun hx=>by
   have:=GB.out
   have:=GV.out
   rcases hx with (hx | hx | hx) | hx
   ·omega
   ·omega
   ·cases hx
   ·omega)⟩
  exact (B2.out.trans hW).trans (h2.mono (Nat.le_trans B2.out.size h1.size)))
 have HFD:=Lib.hid (fun W (hW:Below w4.heap.size w4 W)=>find_any gv g 1 20 2 1 (marks map0 [2]) map0 [gx] gx.key T3.out HUP.out W (V4.out.below hW) (D4.out.below hW))
 have HIK:=Lib.hid (fun W (hW:Below w4.heap.size w4 W)=>insert_known gv g 1 20 2 1 (marks map0 [2]) map0 [gx] gx gx gx_ok T3.out HUP.out gx_at W (V4.out.below hW) (D4.out.below hW))
 rw [gx_at] at HFD
 dsimp only [gx,EntD.key,enV] at HFD HIK
 have HMP:=Lib.hid (fun W (hW:Below w4.heap.size w4 W)=>map_any gv g 1 20 (marks map0 [2]) map0 (by rw [length_marks];exact length_map0) W (V4.out.below hW))
 obtain ⟨C,hC⟩:∃ C,C=mapC ((20:Nat):Int) (marks map0 [2]):=⟨_,rfl⟩
 have HFR:=Lib.hid (fun W=>free_bm 20 (marks map0 [2]) (by rw [length_marks];exact length_map0) (by decide) W C hC 17 gx_free.symm)
 rw [← hC] at HMP
 clear hC d1 d3 T3 HIN W3 L3
 rw [← hw4,← hg5]
 clear hw4 hg5
 have z0:=nd_cell G4.out 0 (.int .i64 1) rfl
 have z1:=nd_cell G4.out 1 (.int .i64 5) rfl
 go_upto_region 7 with (first
  | (refine wpList_load_row rfl 43 (.tmp 5) rfl g5 rfl 43 _ (0,0) _ G5.out Tryz.underlying43 rfl (by kernel_rfl) ?_)
  | (go_at_call 14;refine (HFD.out _ (Below.refl _ _)).mono ?_;rintro e w5 ⟨rfl,hb5⟩;have B5:=Lib.hid hb5;clear hb5))
 clear z0 z1
 obtain ⟨w6,hw6⟩:∃ w6,w6=w5.alloc (.cells #[.int .i64 1,.int .i64 5,.int .i64 6,.int .i64 2,.int .i64 9,.int .i64 2,.int .i64 0,.int .u32 0] 40):=⟨_,rfl⟩
 obtain ⟨g7,hg7⟩:∃ g7,g7=w5.heap.size:=⟨_,rfl⟩
 have G7:Hid (w6.heap[g7]?=some (.cells #[.int .i64 1,.int .i64 5,.int .i64 6,.int .i64 2,.int .i64 9,.int .i64 2,.int .i64 0,.int .u32 0] 40 (0,0))):=Lib.hid (by rw [hw6,hg7];exact heap_alloc_new _ _)
 have A6:=Lib.hid (alloc_bel hw6)
 have B6:Hid (Below w4.heap.size w4 w6):=Lib.hid (B5.out.trans (A6.out.mono B5.out.size))
 rw [← hw6,← hg7]
 clear hw6 hg7
 have H4:=Lib.hid (row_stays G4.out B6.out)
 have H5:=Lib.hid (row_stays G5.out B6.out)
 go_upto_region 8 with (first
  | (refine wpList_load_row rfl 43 (.tmp 5) rfl g5 rfl 43 _ (0,0) _ H5.out Tryz.underlying43 rfl (by kernel_rfl) ?_)
  | (refine wpList_load_row rfl 40 (.tmp 4) rfl g4 rfl 40 _ (0,0) _ H4.out Tryz.underlying40 rfl (by kernel_rfl) ?_)
  | (go_at_call 17;refine (HIK.out _ B6.out).mono ?_;rintro e w7 ⟨rfl,hb7⟩;have B7:=Lib.hid hb7;clear hb7))
 obtain ⟨w8,hw8⟩:∃ w8,w8=w7.alloc (.cells #[.int .i64 0,.int .i64 0] 43):=⟨_,rfl⟩
 have A8:=Lib.hid (alloc_bel hw8)
 have B8:Hid (Below w4.heap.size w4 w8):=Lib.hid (B6.out.trans ((B7.out.trans (A8.out.mono B7.out.size)).mono B6.out.size))
 have J4:=Lib.hid (row_stays G4.out B8.out)
 have J5:=Lib.hid (row_stays G5.out B8.out)
 have J7:=Lib.hid (row_stays G7.out (B7.out.trans (A8.out.mono B7.out.size)))
 rw [← hw8]
 clear hw8
 have z5:=nd_cell J5.out 1 (.int .i64 1) rfl
 have y40:=nd_cell J4.out 0 (.int .i64 1) rfl
 have y70:=nd_cell J7.out 0 (.int .i64 1) rfl
 have y41:=nd_cell J4.out 1 (.int .i64 5) rfl
 have y71:=nd_cell J7.out 1 (.int .i64 5) rfl
 have y42:=nd_cell J4.out 2 (.int .i64 6) rfl
 have y72:=nd_cell J7.out 2 (.int .i64 6) rfl
 have y43:=nd_cell J4.out 3 (.int .i64 2) rfl
 have y73:=nd_cell J7.out 3 (.int .i64 2) rfl
 have y44:=nd_cell J4.out 4 (.int .i64 9) rfl
 have y74:=nd_cell J7.out 4 (.int .i64 9) rfl
 have y45:=nd_cell J4.out 5 (.int .i64 2) rfl
 have y75:=nd_cell J7.out 5 (.int .i64 2) rfl
 have y46:=nd_cell J4.out 6 (.int .i64 0) rfl
 have y76:=nd_cell J7.out 6 (.int .i64 0) rfl
 have y47:=nd_cell J4.out 7 (.int .u32 0) rfl
 have y77:=nd_cell J7.out 7 (.int .u32 0) rfl
 go_wp2_with (first
  | (go_at_call 20;refine (HMP.out _ B8.out).mono ?_;rintro e w9 ⟨rfl,hb9⟩;have B9:=Lib.hid hb9;clear hb9)
  | (go_at_call 25;refine (HFR.out _).mono ?_;rintro e w10 ⟨rfl,hb10⟩;have B10:=Lib.hid hb10;clear hb10))
 go_ret
 exact ⟨rfl,B4.out.trans ((B8.out.trans ((B9.out.trans (B10.out.mono B9.out.size)).mono B8.out.size)).mono B4.out.size)⟩
theorem infoEnt_all:(Tryz.prog.info? 40).map (fun i=>(i.zero,i.size,i.bytes))=some (some (.agg #[.int .i64 0,.int .i64 0,.int .i64 0,.int .i64 0,.int .i64 0,.int .i64 0,.int .i64 0,.int .u32 0]),8,64):=by kernel_rfl
theorem all1_any (ga base m c:Nat) (A:Option Addr) (es:List EntD) (z:Int) (n:NodeD) (l:NdL) (hm:m≤100000) (hn:n.es.length≤100000) (w:World) (hg:w.heap[ga]?=some (.cells #[.slice A m c] 29 (0,0))) (hb:base≤w.heap.size) (hr:w.ownsRow base 40 8 (.slice A m c) m (es.flatMap enC)) (hx:NodeAt w n l) :
 Calls Tryz.prog 33 #[.int .i64 z,.agg #[.bool n.leaf,.slice l.EA n.es.length l.ec,.slice l.KA n.ks.length l.kc,.slice l.DA n.ds.length l.dc],.pointer (some ⟨ga,0,none⟩)] w fun e w'=>e=.returned (.tuple #[])∧∃ A' c',w'.heap[ga]?=some (.cells #[.slice A' (m+n.es.length) c'] 29 (0,0))∧w'.ownsRow base 40 8 (.slice A' (m+n.es.length) c') (m+n.es.length) ((es ++ n.es).flatMap enC)∧OuterX (fun k=>k=ga∨(Value.slice A m c).ownBlock=some k) w w':=by
 obtain ⟨lf,hlf⟩:∃ lf,lf=n.leaf:=⟨_,rfl⟩
 obtain ⟨ne,hne⟩:∃ ne,ne=n.es.length:=⟨_,rfl⟩
 obtain ⟨nk,hnk⟩:∃ nk,nk=n.ks.length:=⟨_,rfl⟩
 obtain ⟨nd,hnd⟩:∃ nd,nd=n.ds.length:=⟨_,rfl⟩
 rw [← hlf,← hne,← hnk,← hnd]
 obtain ⟨w1,hw1⟩:∃ w1,w1=w.alloc (.cells #[.bool lf,.slice l.EA ne l.ec,.slice l.KA nk l.kc,.slice l.DA nd l.dc] 86):=⟨_,rfl⟩
 have G1:Hid (w1.heap[w.heap.size]?=some (.cells #[.bool lf,.slice l.EA ne l.ec,.slice l.KA nk l.kc,.slice l.DA nd l.dc] 86 (0,0))):=Lib.hid (by rw [hw1];exact heap_alloc_new _ _)
 have B1:=Lib.hid (alloc_bel hw1)
 have GA:=Lib.hid (row_stays hg B1.out)
 have R1:=Lib.hid (row_below hr B1.out)
 have CE:Hid (CellsAt w1 l.EA (n.es.flatMap enC)):=Lib.hid ((hx.below B1.out).e.cells)
 have HL:Hid ((n.es.flatMap enC).length=ne*8):=Lib.hid (by rw [hne];exact flatV_len lenEnC n.es)
 have HO:Hid (∀ u ∈ n.es.flatMap enC,u.oneCell'=true):=Lib.hid (fun u hu=>by
  obtain ⟨e,_,he⟩:=List.mem_flatMap.1 hu
  exact enC_one e u he)
 have HB:=Lib.hid hb
 have HM:=Lib.hid hm
 have HNM:Hid (ne≤100000):=Lib.hid (by rw [hne];exact hn)
 have HW1:=Lib.hid hw1
 have HGL:Hid (ga<w.heap.size):=Lib.hid (Array.getElem?_eq_some_iff.1 hg).1
 clear hlf hne hnk hnd hw1 hx hg hb hr hm hn
 go_enter Tryz.func33,Tryz.ntmps33
 go_upto_region 1 with fail
 rw [← HW1.out]
 clear HW1
 have z1:=nd_cell G1.out 1 (.slice l.EA ne l.ec) rfl
 have za:=nd_cell GA.out 0 (.slice A m c) rfl
 go_wp2_with (at_builtin;refine wpList_append_row rfl (.tmp 5) (.tmp 7) 29 rfl Tryz.underlying29 (.agg #[.int .i64 0,.int .i64 0,.int .i64 0,.int .i64 0,.int .i64 0,.int .i64 0,.int .i64 0,.int .u32 0]) 64 infoEnt_all (by rfl) (by decide) _ rfl R1.out l.EA l.ec ne rfl HL.out CE.out HO.out (by have:=HM.out;have:=HNM.out;omega) (by have:=HM.out;have:=HNM.out;unfold maxLen;omega) (by have:=HB.out;have:=B1.out.size;omega) (m+ne) rfl _ rfl ?_;intro A2 c2 w2 ho hg;have R2:=Lib.hid ho;have GG:=Lib.hid hg;have G2:=Lib.hid ((typed_kept R1.out hg (by decide) GA.out).trans GA.out);have k1:=nd_frozen G2.out (i:=0);have k2:=nd_cell G2.out 0 (.slice A m c) rfl;clear ho hg)
 refine bodyPost_end (results_none rfl _ _ _) rfl ⟨rfl,A2,c2,heap_setCell_same w2 ga 0 _ _ _ G2.out,?_,?_⟩
 ·rw [List.flatMap_append]
  exact row_set R2.out G2.out (by decide)
 ·have h1:OuterX (fun k=>k=ga∨(Value.slice A m c).ownBlock=some k) w w2:=(outerX_of_below B1.out).grown GG.out (fun k hk=>.inl (.inr hk))
  exact h1.grown (grown_setC (World.grownBy.refl w2 _) 0 _) (fun k hk=>.inl (.inl (by cases hk;rfl)))
structure FrT (b:Nat) (w w1:World):Prop where
 os:w1.os=w.os
 tape:w1.tape=w.tape
 output:w1.output=w.output
 size:w.heap.size≤w1.heap.size
 kept:∀ (k:Nat) (cs:Array Value) (T:TypeId) (fr:Nat × Nat),w.heap[k]?=some (.cells cs T fr)→T≠40→T≠29→w1.heap[k]?=w.heap[k]?
 old:∀ k,k<b→w1.heap[k]?=w.heap[k]?
theorem FrT.of_below {b:Nat} {w w1:World} (h:Below w.heap.size w w1) (hb:b≤w.heap.size):FrT b w w1:=⟨h.os,h.tape,h.output,h.size,fun k cs T fr hk _ _=>h.block k (Array.getElem?_eq_some_iff.1 hk).1,fun k hk=>h.block k (Nat.lt_of_lt_of_le hk hb)⟩
theorem FrT.trans {b:Nat} {w w1 w2:World} (h:FrT b w w1) (h2:FrT b w1 w2):FrT b w w2:=⟨h2.os.trans h.os,h2.tape.trans h.tape,h2.output.trans h.output,Nat.le_trans h.size h2.size,fun k cs T fr hk h3 h4=>by
 have h5:=h.kept k cs T fr hk h3 h4
 exact (h2.kept k cs T fr (h5.trans hk) h3 h4).trans h5,fun k hk=>(h2.old k hk).trans (h.old k hk)⟩
theorem FrT.heap {b:Nat} {w w1:World} (h:FrT b w w1) {k:Nat} {cs:Array Value} {T:TypeId} {fr:Nat × Nat} (hk:w.heap[k]?=some (.cells cs T fr)) (h3:T≠40) (h4:T≠29):w1.heap[k]?=some (.cells cs T fr):=(h.kept k cs T fr hk h3 h4).trans hk
theorem FrT.dk {b:Nat} {w w1:World} (hk:FrT b w w1) {B N g gs gn Ls cs cn:Nat} {rw:Value} {st nw:List UInt8} {ws:List (Nat × List UInt8)} (d:Dk w B N g gs gn rw Ls cs cn st nw ws true (-1)):Dk w1 B N g gs gn rw Ls cs cn st nw ws true (-1):=by
 have tn:=d.tyN
 obtain ⟨curN,hcN⟩:=tn
 obtain ⟨_,_,_,curS,hcS,_⟩:=d.stay.parts
 exact d.keepX hk.size (hk.kept _ _ _ _ d.head (by decide) (by decide)) (hk.kept _ _ _ _ hcS (by decide) (by decide)) (hk.kept _ _ _ _ hcN (by decide) (by decide)) (fun k e=>by
  rcases d.wait.2 with ⟨e0,_⟩ | ⟨q,cap,cur,hv,_,hq,_⟩
  ·rw [e0] at e
   simp [Value.ownBlock] at e
  ·rw [hv] at e
   obtain rfl:q=k:=by simpa [Value.ownBlock] using e
   exact hk.kept _ _ _ _ hq (by decide) (by decide))
def GaT (ga base:Nat) (s:List EntD) (W:World):Prop:=(base≤W.heap.size∧base≤ga)∧∃ A c,W.heap[ga]?=some (.cells #[.slice A s.length c] 29 (0,0))∧W.ownsRow base 40 8 (.slice A s.length c) s.length (s.flatMap enC)
theorem GaT.below {ga base:Nat} {s:List EntD} {W W':World} (h:GaT ga base s W) (hb:Below W.heap.size W W'):GaT ga base s W':=by
 obtain ⟨h0,A,c,h1,h2⟩:=h
 exact ⟨⟨Nat.le_trans h0.1 hb.size,h0.2⟩,A,c,row_stays h1 hb,row_below h2 hb⟩
theorem all1_ga (ga base:Nat) (s:List EntD) (z:Int) (n:NodeD) (l:NdL) (hs:s.length≤100000) (hn:n.es.length≤100000) (w:World) (h:GaT ga base s w) (hx:NodeAt w n l) :
 Calls Tryz.prog 33 #[.int .i64 z,.agg #[.bool n.leaf,.slice l.EA n.es.length l.ec,.slice l.KA n.ks.length l.kc,.slice l.DA n.ds.length l.dc],.pointer (some ⟨ga,0,none⟩)] w fun e w'=>e=.returned (.tuple #[])∧GaT ga base (s ++ n.es) w'∧FrT base w w':=by
 obtain ⟨h0,A,c,h1,h2⟩:=h
 refine (all1_any ga base s.length c A s z n l hs hn w h1 h0.1 h2 hx).mono ?_
 rintro e w' ⟨rfl,A',c',k1,k2,k3⟩
 refine ⟨rfl,⟨⟨Nat.le_trans h0.1 k3.size,h0.2⟩,A',c',by rw [List.length_append];exact k1,by rw [List.length_append];exact k2⟩,⟨k3.os,k3.tape,k3.output,k3.size,fun k cs T fr hk h3 h4=>k3.block k (Array.getElem?_eq_some_iff.1 hk).1 ?_,fun k hk=>k3.block k (Nat.lt_of_lt_of_le hk h0.1) (fun hx=>?_)⟩⟩
 rotate_left
 ·have h3:=h0.2
  rcases hx with e | e
  ·omega
  ·have:=(World.ownsRow.lt h2 k e).1
   omega
 rintro (e | e)
 ·subst e
  rw [h1] at hk
  injection hk with hk
  injection hk with _ hk
  exact h4 hk.symm
 ·rcases h2.2 with ⟨e0,_⟩ | ⟨q,cap,cur,hv,_,hq,_⟩
  ·rw [e0] at e
   simp [Value.ownBlock] at e
  ·rw [hv] at e
   obtain rfl:q=k:=by simpa [Value.ownBlock] using e
   rw [hq] at hk
   injection hk with hk
   injection hk with _ hk
   exact h3 hk.symm
def VisC (gv g gen p ga base:Nat) (U V:List Bool) (B N gs gn Ls cs cn:Nat) (rw:Value) (st nw:List UInt8) (ws:List (Nat × List UInt8)) (a:Nat) (hh:Int) (es:List EntD):Prop :=
 ∀ (s:List EntD) (W:World),GaT ga base s W→s.length+es.length≤100000→ViewAt W gv g gen (p:Int) U V→Dk W B N g gs gn rw Ls cs cn st nw ws true (-1) →
   Calls Tryz.prog 32 #[.pointer (some ⟨gv,0,none⟩),.agg #[.int .i64 (a:Int),.int .i64 hh],.func (.func 33) #[] #[.pointer (some ⟨ga,0,none⟩)]] W fun e w'=>e=.returned (.int .i64 0)∧GaT ga base (s ++ es) w'∧FrT base W w'
theorem visit_node (gv g gen p ga base a h:Nat) (U V:List Bool) {B N gs gn Ls cs cn:Nat} {rw:Value} {st nw:List UInt8} {ws:List (Nat × List UInt8)} (n:NodeD) (es:List EntD) (parts:List (Nat × (NodeD × List EntD))) (hr:rdQ nw Ls a n) (hlf:n.leaf=decide (h=0)) (hds:n.ds=parts.map (fun x=>kidI x.1)) (hes:es=n.es ++ parts.flatMap (fun x=>x.2.2)) (h4:h≤4)
 (hsub:∀ x ∈ parts,VisC gv g gen p ga base U V B N gs gn Ls cs cn rw st nw ws x.1 (h:Int) x.2.2):VisC gv g gen p ga base U V B N gs gn Ls cs cn rw st nw ws a ((h:Int)+1) es:=by
 intro s W hG hlen hv hd
 obtain ⟨hh,ehh⟩:∃ hh:Int,hh=(h:Int)+1:=⟨_,rfl⟩
 rw [← ehh]
 have HV:=Lib.hid hv
 have HD:=Lib.hid hd
 have HG:=Lib.hid hG
 have HLN:=Lib.hid hlen
 have HDS:=Lib.hid hds
 have HES:=Lib.hid hes
 have HSUB:=Lib.hid hsub
 have H4:=Lib.hid h4
 have HHH:=Lib.hid ehh
 obtain ⟨lf,hl⟩:∃ lf,lf=n.leaf:=⟨_,rfl⟩
 have HNY:Hid (∀ (X:World),Below W.heap.size W X→Calls Tryz.prog 57 #[.pointer (some ⟨gv,0,none⟩),.int .i64 (a:Int),.bool lf] X fun e w'=>(∃ l':NdL,e=.returned (.tuple #[.agg #[.bool n.leaf,.slice l'.EA n.es.length l'.ec,.slice l'.KA n.ks.length l'.kc,.slice l'.DA n.ds.length l'.dc],.int .i64 0])∧NodeAt w' n l'∧NdNew w' X.heap.size n l')∧Below X.heap.size X w'):=Lib.hid (fun X hX=>by
  obtain ⟨k1,k2,k3,gg,k4,k5⟩:=hr
  exact node_yes gv g gen p a gg U V n k1 k2 k3 k4 k5 lf hl _ rfl X (hv.below hX) (hd.below hX))
 have HRF:Hid (∀ X,Below W.heap.size W X→Calls Tryz.prog 56 #[.pointer (some ⟨gv,0,none⟩),.agg #[.int .i64 (a:Int),.int .i64 hh]] X fun e w'=>e=.returned (.int .i64 0)∧Below X.heap.size X w'):=Lib.hid (fun X hX=>trefused_ok gv g gen p U V _ _ (by omega) (by omega) X (hv.below hX))
 have HCB:Hid (∀ (X:World) (l:NdL),GaT ga base s X→NodeAt X n l→Calls Tryz.prog 33 #[.int .i64 (a:Int),.agg #[.bool n.leaf,.slice l.EA n.es.length l.ec,.slice l.KA n.ks.length l.kc,.slice l.DA n.ds.length l.dc],.pointer (some ⟨ga,0,none⟩)] X fun e w'=>e=.returned (.tuple #[])∧GaT ga base (s ++ n.es) w'∧FrT base X w'):=Lib.hid (fun X l h1 h2=>all1_ga ga base s (a:Int) n l (by omega) (by have:=congrArg List.length hes;rw [List.length_append] at this;omega) X h1 h2)
 obtain ⟨ne,hne⟩:∃ ne,ne=n.es.length:=⟨_,rfl⟩
 obtain ⟨nk,hnk⟩:∃ nk,nk=n.ks.length:=⟨_,rfl⟩
 obtain ⟨nd,hnd⟩:∃ nd,nd=n.ds.length:=⟨_,rfl⟩
 rw [← hl,← hne,← hnk,← hnd] at HNY HCB
 have HND:=Lib.hid hnd
 have HNB:Hid (nd≤16):=Lib.hid (by
  have h1:=hr.1
  rw [hnd]
  unfold okNode at h1
  split at h1
  ·rw [h1.2.1];simp
  ·rw [← h1.2.1];exact h1.2.2.1.2.1)
 have q1:(hh == 1)=lf:=by
  rw [hl,hlf]
  by_cases h0:h=0
  ·subst h0;rw [ehh];rfl
  ·rw [decide_eq_false h0,beq_eq_false_iff_ne];omega
 have q2:(hh == 0)=false:=by rw [beq_eq_false_iff_ne];omega
 have q3:1≤hh:=by omega
 have q4:hh≤5:=by omega
 clear hv hd hG hlen hds hes hsub h4 ehh hr hlf hl hne hnk hnd
 obtain ⟨w1,hw1⟩:∃ w1,w1=W.alloc (.cells #[.int .i64 (a:Int),.int .i64 hh] 43):=⟨_,rfl⟩
 have G1:Hid (w1.heap[W.heap.size]?=some (.cells #[.int .i64 (a:Int),.int .i64 hh] 43 (0,0))):=Lib.hid (by rw [hw1];exact heap_alloc_new _ _)
 have B1:=Lib.hid (alloc_bel hw1)
 have HW1:=Lib.hid hw1
 clear hw1
 go_enter Tryz.func32,Tryz.ntmps32
 go_upto_region 1 with fail
 rw [← HW1.out]
 clear HW1
 go_upto_region 2 with (first
  | (refine wpList_load_row rfl 43 (.tmp 4) rfl W.heap.size rfl 43 _ (0,0) _ G1.out Tryz.underlying43 rfl (by kernel_rfl) ?_)
  | (go_at_call 56;refine (HRF.out _ B1.out).mono ?_;rintro e w2 ⟨rfl,hb2⟩;have RB:=Lib.hid hb2;clear hb2))
 have G2:=Lib.hid (row_stays G1.out RB.out)
 have B2:=Lib.hid (B1.out.trans (RB.out.mono B1.out.size))
 have z0:=nd_cell G2.out 0 (.int .i64 (a:Int)) rfl
 have z1:=nd_cell G2.out 1 (.int .i64 hh) rfl
 go_upto_region 5 with (go_at_call 57;refine (HNY.out _ B2.out).mono ?_;rintro e w3 ⟨⟨l',rfl,hn3,hw3⟩,hb3⟩;have N3:=Lib.hid hn3;have O3:=Lib.hid hw3;have B3:=Lib.hid hb3;clear hn3 hw3 hb3)
 clear z0 z1
 obtain ⟨g8,hg8⟩:∃ g8,g8=w3.heap.size:=⟨_,rfl⟩
 obtain ⟨w4,hw4⟩:∃ w4,w4=w3.alloc (.cells #[.bool lf,.slice l'.EA ne l'.ec,.slice l'.KA nk l'.kc,.slice l'.DA nd l'.dc] 86):=⟨_,rfl⟩
 have G8:Hid (w4.heap[g8]?=some (.cells #[.bool lf,.slice l'.EA ne l'.ec,.slice l'.KA nk l'.kc,.slice l'.DA nd l'.dc] 86 (0,0))):=Lib.hid (by rw [hw4,hg8];exact heap_alloc_new _ _)
 have A4:=Lib.hid (alloc_bel hw4)
 have C4:=Lib.hid (B3.out.trans (A4.out.mono B3.out.size))
 have R4:=Lib.hid (row_stays G2.out C4.out)
 have B4:=Lib.hid (B2.out.trans (C4.out.mono B2.out.size))
 have N4:=Lib.hid (N3.out.below A4.out)
 have O4:=Lib.hid (O3.out.below A4.out)
 have GA4:=Lib.hid (HG.out.below B4.out)
 rw [← hw4,← hg8]
 clear hw4 hg8
 have z0:=nd_cell R4.out 0 (.int .i64 (a:Int)) rfl
 go_upto_region 8 with (first
  | (refine wpList_load_row rfl 86 (.tmp 8) rfl g8 rfl 86 _ (0,0) _ G8.out Tryz.underlying86 rfl (by kernel_rfl) ?_)
  | (go_at_call 33;refine (HCB.out _ l' GA4.out N4.out).mono ?_;rintro e w5 ⟨rfl,hg5,hf5⟩;have GA5:=Lib.hid hg5;have F5:=Lib.hid hf5;clear hg5 hf5))
 clear z0
 have G9:=Lib.hid (F5.out.heap G8.out (by decide) (by decide))
 have R5:=Lib.hid (F5.out.heap R4.out (by decide) (by decide))
 have FW:=Lib.hid ((FrT.of_below B4.out HG.out.1.1).trans F5.out)
 have RD:=Lib.hid (row_keep O4.out.rd (fun k cur _ hc=>F5.out.kept k cur _ (0,0) hc (by decide) (by decide)))
 have z3:=nd_cell G9.out 3 (.slice l'.DA nd l'.dc) rfl
 have HPL:Hid (nd=parts.length):=Lib.hid (by rw [HND.out,HDS.out,List.length_map])
 clear HNY HRF HCB GA4 N4 O4 A4 B3 B4 C4 N3 O3 G8 R4 G2 RB B1 B2 F5
 go_upto_region 9 with fail
 go_loopw [45] (fun iv wr=>∃ i:Nat,i≤nd∧iv=.int .i64 (i:Int)∧Hid (GaT ga base (s ++ n.es ++ (parts.take i).flatMap (fun x=>x.2.2)) wr∧FrT base w5 wr)) (fun iv _=>nd - (intOf iv).toNat)
 case atStart=>exact ⟨0,Nat.zero_le _,rfl,Lib.hid ⟨by simpa using GA5.out,FrT.of_below (Below.refl _ _) GA5.out.1.1⟩⟩
 case round =>
  obtain ⟨i,hi,rfl,HR⟩:=hrel
  clear z3
  obtain ⟨V0,rfl⟩:∃ V0,V0=wr:=⟨_,rfl⟩
  by_cases hlt:i<nd
  ·obtain ⟨x,hx⟩:∃ x,parts[i]?=some x:=⟨_,List.getElem?_eq_getElem (by rw [← HPL.out];exact hlt)⟩
   have hxd:n.ds[i]?=some (kidI x.1):=by rw [HDS.out,List.getElem?_map,hx];rfl
   have HTK:Hid ((parts.take (i+1)).flatMap (fun x=>x.2.2)=(parts.take i).flatMap (fun x=>x.2.2) ++ x.2.2):=Lib.hid (by
    rw [List.take_add_one,hx,List.flatMap_append]
    simp)
   have HLE:Hid ((s ++ n.es ++ (parts.take i).flatMap (fun x=>x.2.2)).length+x.2.2.length≤100000):=Lib.hid (by
    have h1:=HLN.out
    have h2:(parts.flatMap (fun x=>x.2.2)).length=((parts.take (i+1)).flatMap (fun x=>x.2.2)).length+((parts.drop (i+1)).flatMap (fun x=>x.2.2)).length:=by
     rw [← List.length_append,← List.flatMap_append,List.take_append_drop]
    rw [HTK.out,List.length_append] at h2
    rw [HES.out,List.length_append] at h1
    rw [List.length_append,List.length_append]
    omega)
   have FV:=Lib.hid (FW.out.trans HR.out.2)
   have HCL:=Lib.hid (HSUB.out x (List.mem_of_getElem? hx) _ V0 HR.out.1 HLE.out (HV.out.keep (FV.out.kept _ _ _ _ HV.out (by decide) (by decide))) (FV.out.dk HD.out))
   have RV:=row_keep RD.out (fun k cur _ hc=>HR.out.2.kept k cur _ (0,0) hc (by decide) (by decide))
   rw [← HND.out] at RV
   obtain ⟨bk,o,hDA,hcell⟩:=KdAt.of_row RV (by intro e;rw [e] at hxd;simp at hxd)
   have hkc:=hcell i _ hxd
   have q5:decide ((i:Int)<(nd:Int))=true:=by simp;omega
   have q6:(i:Int)<(nd:Int):=by omega
   have z1:=nd_cell (HR.out.2.heap R5.out (by decide) (by decide)) 1 (.int .i64 hh) rfl
   have e9:hh - 1=(h:Int):=by have:=HHH.out;omega
   have HHN:=Lib.hid hlt
   have hib:(i:Int)≤100:=by have:=HNB.out;omega
   rw [hDA]
   clear hcell RV hxd hx q1 q2 hDA
   go_wp2_with (go_at_call 32;refine HCL.out.mono ?_;rintro e w6 ⟨rfl,hg6,hf6⟩;have GA6:=Lib.hid hg6;have F6:=Lib.hid hf6;clear hg6 hf6)
   go_roundw
   case rel=>exact ⟨i+1,by have:=HHN.out;omega,by go_num,Lib.hid ⟨by rw [HTK.out,← List.append_assoc];exact GA6.out,HR.out.2.trans F6.out⟩⟩
   case measure=>have:=HHN.out;first | (simp [intOf];done) | (simp [intOf];omega)
  ·have q5:decide ((i:Int)<(nd:Int))=false:=by simp;omega
   have HIN:Hid (i=parts.length):=Lib.hid (by rw [← HPL.out];omega)
   go_wp2_with fail
   go_ret
   refine ⟨rfl,?_,FW.out.trans HR.out.2⟩
   have h1:=HR.out.1
   rw [HIN.out,List.take_length,List.append_assoc,← HES.out] at h1
   exact h1
theorem visit_tree (gv g gen p ga base:Nat) (U V:List Bool) {B N gs gn Ls cs cn:Nat} {rw:Value} {st nw:List UInt8} {ws:List (Nat × List UInt8)}:∀ (h a:Nat) (n:NodeD) (es:List EntD),Tre (rdQ nw Ls) h n es→rdQ nw Ls a n→h≤4→VisC gv g gen p ga base U V B N gs gn Ls cs cn rw st nw ws a ((h:Int)+1) es
 | 0,a,n,es,⟨h1,h2,h3,h5⟩,hr,h4=>visit_node gv g gen p ga base a 0 U V n es [] hr (by rw [h1];rfl) (by rw [h5];rfl) (by rw [h2];simp) h4 (fun x hx=>by cases hx)
 | h+1,a,n,es,⟨h1,h2,parts,e1,e2,e3,e4,e5⟩,hr,h4=>visit_node gv g gen p ga base a (h+1) U V n es parts hr (by rw [h1];simp) e1 (by rw [h2,e4];rfl) h4 (fun x hx=>by
     have h9:=visit_tree gv g gen p ga base U V (B:=B) (N:=N) (gs:=gs) (gn:=gn) (cs:=cs) (cn:=cn) (rw:=rw) (st:=st) (ws:=ws) h x.1 x.2.1 x.2.2 (e3 x hx).2.1 (e3 x hx).1 (by omega)
     rw [show ((h+1:Nat):Int)=(h:Int)+1 from by omega]
     exact h9)
end Go.Proofs.YtgkddhncfaeidaaGreat
