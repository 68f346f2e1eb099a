/- Squeezed: the texts as they are written lie in wip/tpl. -/
import Derived.Test.YtgkddhncfaeidaaGreatPart35
import Derived.Test.YtgkddhncfaeidaaGreatPart25
import Derived.Test.YtgkddhncfaeidaaGreatPart29
import Derived.Test.YtgkddhncfaeidaaGreatPart15
import Derived.Test.YtgkddhncfaeidaaGreatPart22
import Derived.Test.YtgkddhncfaeidaaGreatPart26
import Derived.Test.YtgkddhncfaeidaaGreatPart28
import Derived.Test.YtgkddhncfaeidaaGreatPart05
set_option maxRecDepth 100000
set_option maxHeartbeats 8000000
set_option linter.unusedSimpArgs false
set_option linter.unusedVariables false
namespace Go.Proofs.YtgkddhncfaeidaaGreat
set_option linter.unnecessarySimpa false
open Go.RowKit CrcM PageM
theorem leaf_size (l:List EntD):(lfD l).size=l.length:=rfl
theorem leaf_few {l:List EntD} (h:3≤l.length):fewB (lfD l)=false:=by
 unfold fewB lfD
 simp
 exact h
theorem split_eight {l:List EntD} {ps:List NodeD} (h:SplitOf (lfD l) ps) (h8:l.length=8):ps=[lfD (l.take 4),lfD (l.drop 4)]:=by
 have h1:=h.half (by show 7<(lfD l).size;rw [leaf_size];omega) (by show (lfD l).size≤14;rw [leaf_size];omega)
 rw [h1,leaf_size,h8]
 simp [partA,partB,lfD]
end Go.Proofs.YtgkddhncfaeidaaGreat
namespace Go.Proofs.YtgkddhncfaeidaaGreat
open Go.RowKit Go.ChangeShapes Go.WideShapes Go.ChangeAt CrcM PageM
theorem nodeT_one (w:World) (x:EntD):NodeT (w.alloc (.cells #[.int .i64 x.se,.int .i64 x.st,.int .i64 x.en,.int .i64 x.ad,.int .i64 x.le,.int .i64 x.cn,.int .i64 x.co,.int .u32 x.cr] 40)) ⟨true,[x],[],[]⟩ ⟨some ⟨w.heap.size,0,none⟩,1,none,0,none,0⟩ where
 at_:=one_at w x
 te:=fun _=>⟨w.heap.size,0,_,_,rfl,heap_alloc_new _ _⟩
 tk:=fun h=>absurd rfl h
 td:=fun h=>absurd rfl h
theorem load_one (gv g gen p:Nat) (U V:List Bool) (hU:U.length=512) (hV:V.length=512) (okU:okM (p:Int) U) (okV:okM (p:Int) V) (hg:gen<18446744073709551616) {B N gs gn Ls cs cn:Nat} {rw:Value} {st nw:List UInt8} {ws:List (Nat × List UInt8)}
 (x:EntD) (he:okEnt x) (A:Option Addr) (c a:Nat) (hp:Picks p (orK U V 512) U [a]) (ha:256*a+256≤Ls) (hws:ws.length+4≤500) (w:World) (hx:NodeT w ⟨true,[x],[],[]⟩ ⟨A,c,none,0,none,0⟩) (hv:ViewAt w gv g gen (p:Int) U V) (hd:Dk w B N g gs gn rw Ls cs cn st nw ws true (-1)) :
 Calls Tryz.prog 10 #[.pointer (some ⟨gv,0,none⟩),.slice A 1 c] w fun e w'=>e=.returned (.tuple #[.agg #[.int .i64 (a:Int),.int .i64 1],.int .i64 0])∧∃ Lx,Lx.map strip=[(a,⟨true,[x],[],[]⟩)]∧Wrote w w' gv g gen p (marks U [a]) V B gs gn Ls cs cn rw st nw ws Lx:=by
 have h0:lvlE [x]=[⟨true,[x],[],[]⟩]:=by
  have hc:chs 7 1 1=[(0,1)]:=by decide
  unfold lvlE
  have hk:([x].length+6) / 7=1:=by simp
  rw [hk,List.length_singleton,hc]
  rfl
 exact load_yes gv g gen p U V hU hV okU okV hg [x] A 1 c rfl (by decide) ⟨fun e h=>by rw [List.mem_singleton.1 h];exact he,fun i p' e h1 h2=>by simp at h2⟩ [] ⟨true,[x],[],[]⟩ 1 a (by rw [h0];exact Tops.stop _ _) (by decide) (fun h=>by cases h) hp (fun y hy=>by
  rw [List.nil_append,List.mem_singleton] at hy
  rw [hy]
  exact ⟨okNode_one he,ha⟩) (by simpa using hws) w hx hv hd
theorem insert_first (gv g gen p:Nat) (U V:List Bool) (hU:U.length=512) (hV:V.length=512) (okU:okM (p:Int) U) (okV:okM (p:Int) V) (hg:gen<18446744073709551616) {B N gs gn Ls cs cn:Nat} {rw:Value} {st nw:List UInt8} {ws:List (Nat × List UInt8)} (x:EntD) (he:okEnt x) (a:Int) (b:Nat) (hp:Picks p (orK U V 512) U [b]) (hb:256*b+256≤Ls) (hws:ws.length+4≤500) (w:World) (hv:ViewAt w gv g gen (p:Int) U V) (hd:Dk w B N g gs gn rw Ls cs cn st nw ws true (-1)) :
 Calls Tryz.prog 17 #[.pointer (some ⟨gv,0,none⟩),.agg #[.int .i64 a,.int .i64 0],.agg #[.int .i64 x.se,.int .i64 x.st,.int .i64 x.en,.int .i64 x.ad,.int .i64 x.le,.int .i64 x.cn,.int .i64 x.co,.int .u32 x.cr]] w fun e w'=>e=.returned (.tuple #[.agg #[.int .i64 (b:Int),.int .i64 1],.int .i64 0])∧∃ Lx,Lx.map strip=[(b,⟨true,[x],[],[]⟩)]∧Wrote w w' gv g gen p (marks U [b]) V B gs gn Ls cs cn rw st nw ws Lx:=by
 have HWY:Hid (∀ W,Below w.heap.size w W→Calls Tryz.prog 35 #[.pointer (some ⟨gv,0,none⟩),.agg #[.int .i64 a,.int .i64 0],.agg #[.int .i64 x.se,.int .i64 x.st]] W fun e w'=>e=.returned (.tuple #[.slice none 0 0,.int .i64 0])∧Below W.heap.size W w'):=Lib.hid (fun W hW=>way_nil gv g gen p a U V x.key W (hv.below hW))
 have HKN:Hid (∀ W,Calls Tryz.prog 36 #[.slice none 0 0,.agg #[.int .i64 x.se,.int .i64 x.st]] W fun e w'=>e=.returned (.tuple #[.agg #[.int .i64 0,.int .i64 0,.int .i64 0,.int .i64 0,.int .i64 0,.int .i64 0,.int .i64 0,.int .u32 0],.bool false])∧Below W.heap.size W w'):=Lib.hid (fun W=>known_nil 0 x.key W)
 have HLD:Hid (∀ (W:World) (A:Option Addr),Below w.heap.size w W→NodeT W ⟨true,[x],[],[]⟩ ⟨A,1,none,0,none,0⟩→Calls Tryz.prog 10 #[.pointer (some ⟨gv,0,none⟩),.slice A 1 1] W fun e w'=>e=.returned (.tuple #[.agg #[.int .i64 (b:Int),.int .i64 1],.int .i64 0])∧∃ Lx,Lx.map strip=[(b,⟨true,[x],[],[]⟩)]∧Wrote W w' gv g gen p (marks U [b]) V B gs gn Ls cs cn rw st nw ws Lx):=Lib.hid (fun W A hW hn=>load_one gv g gen p U V hU hV okU okV hg x he A 1 b hp hb hws W hn (hv.below hW) (hd.below hW))
 have HE:=Lib.hid he
 have HV:=Lib.hid hv
 have HD:=Lib.hid hd
 clear hv hd he hU hV okU okV hg hp hb hws
 obtain ⟨w3,hw3⟩:∃ w3,w3=((w.alloc (.cells #[.int .i64 a,.int .i64 0] 43)).alloc (.cells #[.int .i64 x.se,.int .i64 x.st,.int .i64 x.en,.int .i64 x.ad,.int .i64 x.le,.int .i64 x.cn,.int .i64 x.co,.int .u32 x.cr] 40)).alloc (.cells #[.int .i64 0,.int .i64 0] 43):=⟨_,rfl⟩
 have G1:Hid (w3.heap[w.heap.size]?=some (.cells #[.int .i64 a,.int .i64 0] 43 (0,0))):=Lib.hid (by
  rw [hw3]
  exact row_stays (row_stays (heap_alloc_new w _) (alloc_bel rfl)) (alloc_bel rfl))
 have G2:Hid (w3.heap[w.heap.size+1]?=some (.cells #[.int .i64 x.se,.int .i64 x.st,.int .i64 x.en,.int .i64 x.ad,.int .i64 x.le,.int .i64 x.cn,.int .i64 x.co,.int .u32 x.cr] 40 (0,0))):=Lib.hid (by
  rw [hw3]
  have h1:=heap_alloc_new (w.alloc (.cells #[.int .i64 a,.int .i64 0] 43)) (.cells #[.int .i64 x.se,.int .i64 x.st,.int .i64 x.en,.int .i64 x.ad,.int .i64 x.le,.int .i64 x.cn,.int .i64 x.co,.int .u32 x.cr] 40)
  rw [World.size_alloc] at h1
  exact row_stays h1 (alloc_bel rfl))
 have G3:Hid (w3.heap[w.heap.size+1+1]?=some (.cells #[.int .i64 0,.int .i64 0] 43 (0,0))):=Lib.hid (by
  rw [hw3]
  have h1:=heap_alloc_new ((w.alloc (.cells #[.int .i64 a,.int .i64 0] 43)).alloc (.cells #[.int .i64 x.se,.int .i64 x.st,.int .i64 x.en,.int .i64 x.ad,.int .i64 x.le,.int .i64 x.cn,.int .i64 x.co,.int .u32 x.cr] 40)) (.cells #[.int .i64 0,.int .i64 0] 43)
  rw [World.size_alloc,World.size_alloc] at h1
  exact h1)
 have B3:Hid (Below w.heap.size w w3):=Lib.hid (by
  rw [hw3]
  exact (((Below.refl _ w).alloc (Nat.le_refl _) _).alloc (by simp) _).alloc (by simp;omega) _)
 have HW3:=Lib.hid hw3
 clear hw3
 go_enter Tryz.func17,Tryz.ntmps17
 go_upto_region 1 with fail
 rw [← HW3.out]
 clear HW3
 go_upto_region 3 with (first
  | (refine wpList_load_row rfl 40 (.tmp 5) rfl (w.heap.size+1) rfl 40 _ (0,0) _ G2.out Tryz.underlying40 rfl (by kernel_rfl) ?_)
  | (go_at_call 39;refine (rightEntry_yes x HE.out _).mono ?_;rintro e w4 ⟨rfl,hb4⟩;have R1:=Lib.hid (row_stays G1.out hb4);have R2:=Lib.hid (row_stays G2.out hb4);have R3:=Lib.hid (row_stays G3.out hb4);have B4:=Lib.hid (B3.out.trans (hb4.mono B3.out.size));clear hb4))
 have z0:=nd_cell R2.out 0 (.int .i64 x.se) rfl
 have z1:=nd_cell R2.out 1 (.int .i64 x.st) rfl
 go_upto_region 6 with (first
  | (refine wpList_load_row rfl 43 (.tmp 4) rfl w.heap.size rfl 43 _ (0,0) _ R1.out Tryz.underlying43 rfl (by kernel_rfl) ?_)
  | (go_at_call 35;refine (HWY.out _ B4.out).mono ?_;rintro e w5 ⟨rfl,hb5⟩;have S2:=Lib.hid (row_stays R2.out hb5);have S3:=Lib.hid (row_stays R3.out hb5);have B5:=Lib.hid (B4.out.trans (hb5.mono B4.out.size));clear hb5))
 clear z0 z1
 have z0:=nd_cell S2.out 0 (.int .i64 x.se) rfl
 have z1:=nd_cell S2.out 1 (.int .i64 x.st) rfl
 go_upto_region 7 with (go_at_call 36;refine (HKN.out _).mono ?_;rintro e w6 ⟨rfl,hb6⟩;have T2:=Lib.hid (row_stays S2.out hb6);have T3:=Lib.hid (row_stays S3.out hb6);have B6:=Lib.hid (B5.out.trans (hb6.mono B5.out.size));clear hb6)
 clear z0 z1
 obtain ⟨w7,hw7⟩:∃ w7,w7=w6.alloc (.cells #[.int .i64 0,.int .i64 0,.int .i64 0,.int .i64 0,.int .i64 0,.int .i64 0,.int .i64 0,.int .u32 0] 40):=⟨_,rfl⟩
 have A7:=Lib.hid (alloc_bel hw7)
 have U2:=Lib.hid (row_stays T2.out A7.out)
 have U3:=Lib.hid (row_stays T3.out A7.out)
 have B7:=Lib.hid (B6.out.trans (A7.out.mono B6.out.size))
 rw [← hw7]
 clear hw7
 go_upto_region 11 with (first
  | (refine wpList_load_row rfl 40 (.tmp 5) rfl (w.heap.size+1) rfl 40 _ (0,0) _ U2.out Tryz.underlying40 rfl (by kernel_rfl) ?_)
  | (go_at_call 40;refine (meets_nil 0 x _).mono ?_;rintro e w8 ⟨rfl,hb8⟩;have V2:=Lib.hid (row_stays U2.out hb8);have V3:=Lib.hid (row_stays U3.out hb8);have B8:=Lib.hid (B7.out.trans (hb8.mono B7.out.size));clear hb8))
 obtain ⟨w9,hw9⟩:∃ w9,w9=w8.alloc (.cells #[.int .i64 x.se,.int .i64 x.st,.int .i64 x.en,.int .i64 x.ad,.int .i64 x.le,.int .i64 x.cn,.int .i64 x.co,.int .u32 x.cr] 40):=⟨_,rfl⟩
 have A9:=Lib.hid (alloc_bel hw9)
 have N9:Hid (NodeT w9 ⟨true,[x],[],[]⟩ ⟨some ⟨w8.heap.size,0,none⟩,1,none,0,none,0⟩):=Lib.hid (by rw [hw9];exact nodeT_one w8 x)
 have X3:=Lib.hid (row_stays V3.out A9.out)
 have B9:=Lib.hid (B8.out.trans (A9.out.mono B8.out.size))
 have HLN:=Lib.hid (HLD.out _ _ B9.out N9.out)
 have HW9:=Lib.hid hw9
 clear hw9
 have hX:¬ (DkX g gn rw (w.heap.size+1+1)∨(w.heap.size+1+1)=gv):=fun hx=>by
  rcases hx with hx | hx
  ·exact (HD.out.below B9.out).notX X3.out (by decide) (.inl (by decide)) (by decide) hx
  ·have h1:=HV.out.below B9.out
   have h2:=X3.out
   unfold ViewAt at h1
   rw [hx,h1] at h2
   cases h2
 have HX:=Lib.hid hX
 clear hX
 go_upto_region 12 with fail
 go_wp2_with (first
  | (refine wpList_load_row rfl 40 (.tmp 5) rfl (w.heap.size+1) rfl 40 _ (0,0) _ V2.out Tryz.underlying40 rfl (by kernel_rfl) ?_)
  | (rw [← HW9.out];go_at_call 10;refine HLN.out.mono ?_;rintro e w10 ⟨rfl,Lx,hlx,hw⟩;have W10:=Lib.hid hw;have L10:=Lib.hid hlx;have G10:=Lib.hid (hw.out.heap X3.out HX.out);clear hw hlx)
  | (refine wpList_store_row rfl 43 (.tmp 6) (.tmp 50) rfl (w.heap.size+1+1) #[.int .i64 (b:Int),.int .i64 1] rfl rfl 43 _ G10.out (by kernel_rfl) rfl (by simp [Value.oneCell']) ?_))
 refine bodyPost_ret (v:=.tuple #[.agg #[.int .i64 (b:Int),.int .i64 1],.int .i64 0]) (results_cell_tmpB (p:=6) (u:=7) (ty:=43) rfl _ _ (w.heap.size+1+1) 43 _ (0,0) _ rfl (setRow_heap _ _ _ _ _ _ G10.out) Tryz.underlying43 rfl (by kernel_rfl)) rfl ⟨rfl,Lx,L10.out,?_⟩
 exact (W10.out.pre B9.out).post (KeptNot.of_setRow G10.out _) (below_setRow (Below.refl _ _) (by omega) _) (by decide) (by decide) (by decide) (by decide)
theorem okM_zero (p:Nat) (h8:8≤p) (hp:p≤512):okM (p:Int) map0:=(BtInv.init p).ok h8 hp
theorem begin_any (p:Nat) (h8:8≤p) (h5:p≤512) (w:World) :
 Calls Tryz.prog 6 #[.int .i64 (p:Int)] w fun e w'=>∃ gv g B N gs gn cs cn,e=.returned (.tuple #[.pointer (some ⟨gv,0,none⟩),.pointer (some ⟨g,0,none⟩),.bool true])∧ViewAt w' gv g 1 (p:Int) map0 map0∧Dk w' B N g gs gn (.slice none 0 0) (p*256) cs cn (List.replicate (p*256) 0) (List.replicate (p*256) 0) [] true (-1)∧w.heap.size≤gv∧w.heap.size≤B∧Below w.heap.size w w':=by
 obtain ⟨C,hC⟩:∃ C,C=mapC (p:Int) map0:=⟨_,rfl⟩
 obtain ⟨T,hT⟩:∃ T,T=tab:=⟨_,rfl⟩
 obtain ⟨z,hz⟩:∃ z:Int,z=(p:Int):=⟨_,rfl⟩
 have HBM:Hid (∀ W,Calls Tryz.prog 18 #[.int .i64 z] W fun e w'=>e=.returned (.agg C)∧Below W.heap.size W w'):=Lib.hid (fun W=>by rw [hC,hz];exact new_bm (p:Int) p (by omega) W)
 have HCR:Hid (∀ W,Calls Tryz.prog 23 #[] W fun e w'=>e=.returned (.agg T)∧Below W.heap.size W w'):=Lib.hid (fun W=>by rw [hT];exact new_any W)
 have HDN:Hid (∀ W,Calls Tryz.prog 24 #[.int .i64 z] W fun e w'=>∃ g gs gn cs cn,e=.returned (.tuple #[.pointer (some ⟨g,0,none⟩),.int .i64 0])∧Dk w' W.heap.size w'.heap.size g gs gn (.slice none 0 0) (p*256) cs cn (List.replicate (p*256) 0) (List.replicate (p*256) 0) [] true (-1)∧Below W.heap.size W w'):=Lib.hid (fun W=>by rw [hz];exact new_ok p h8 h5 W)
 have HOP:Hid (∀ (g:Nat) (B N gs gn Ls cs cn:Nat) (rw:Value) (st nw:List UInt8) (ws:List (Nat × List UInt8)) (W:World),Ls / 256=p→Dk W B N g gs gn rw Ls cs cn st nw ws true (-1)→Calls Tryz.prog 22 #[.agg T,.pointer (some ⟨g,0,none⟩),.int .u64 1,.agg C,.agg C] W fun e w'=>∃ gv,e=.returned (.tuple #[.pointer (some ⟨gv,0,none⟩),.int .i64 0])∧W.heap.size≤gv∧ViewAt w' gv g 1 (p:Int) map0 map0∧Below W.heap.size W w'):=Lib.hid (fun g B N gs gn Ls cs cn rw st nw ws W h1 h2=>by
  rw [hT]
  exact topen_yes g 1 p map0 map0 length_map0 length_map0 (okM_zero p h8 h5) (okM_zero p h8 h5) h1 C C hC hC W h2)
 rw [← hz] at HOP ⊢
 have HZ:=Lib.hid hz
 clear hT hC hz
 have N0:=Lib.hid (Below.refl w.heap.size w)
 go_enter Tryz.func6,Tryz.ntmps6
 go_upto_region 2 with (go_at_call 24;refine (HDN.out _).mono ?_;rintro e w2 ⟨g,gs,gn,cs,cn,rfl,hd,hb⟩;have D2:=Lib.hid hd;have B2:=Lib.hid hb;clear hd hb)
 clear N0
 have N2:=Lib.hid (Below.refl w2.heap.size w2)
 go_upto_region 3 with (first
  | (go_at_call 23;refine (HCR.out _).mono ?_;rintro e w3 ⟨rfl,hb⟩;have N3:=Lib.hid hb;clear hb N2 HCR)
  | (have hq:=N3;clear hq;go_at_call 18;refine (HBM.out _).mono ?_;rintro e w4 ⟨rfl,hb⟩;have N4:=Lib.hid (N3.out.trans (hb.mono N3.out.size));clear hb N3)
  | (have hq:=N4;clear hq;go_at_call 18;refine (HBM.out _).mono ?_;rintro e w5 ⟨rfl,hb⟩;have N5:=Lib.hid (N4.out.trans (hb.mono N4.out.size));clear hb N4 HBM)
  | (have hq:=N5;clear hq;go_at_call 22;refine (HOP.out g _ _ _ _ _ _ _ _ _ _ _ _ (by omega) (D2.out.below N5.out)).mono ?_;rintro e wo ⟨gv,rfl,hgv,hv,hb⟩;have GV:=Lib.hid (Nat.le_trans (Nat.le_trans B2.out.size N5.out.size) hgv);have V6:=Lib.hid hv;have N6:=Lib.hid (N5.out.trans (hb.mono N5.out.size));clear hb hv hgv N5 HOP))
 have BO:Hid (Below w.heap.size w wo):=Lib.hid (B2.out.trans (N6.out.mono B2.out.size))
 have D6:=Lib.hid (D2.out.below N6.out)
 go_wp2_with fail
 go_ret3
 exact ⟨gv,g,_,_,gs,gn,cs,cn,rfl,V6.out,D6.out,GV.out,Nat.le_refl _,BO.out⟩
def entM (i:Nat):EntD:=⟨0,((7*i:Nat):Int),((7*i:Nat):Int),3,2,1,1,1⟩
def entsM (k:Nat):List EntD:=(List.range k).map entM
theorem entsM_len (k:Nat):(entsM k).length=k:=by simp [entsM]
theorem entsM_succ (k:Nat):entsM (k+1)=entsM k ++ [entM k]:=by simp [entsM,List.range_succ]
theorem entM_ok {i:Nat} (hi:i<100):okEnt (entM i):=by
 refine ⟨⟨by simp [entM],by simp [entM]⟩,by simp only [entM];omega,by simp only [entM];omega,by simp only [entM];omega,⟨by simp only [entM];omega,by simp only [entM];omega⟩,by simp only [entM];omega,by simp only [entM];omega,by simp only [entM];omega,by simp only [entM];omega,by simp only [entM];omega⟩
theorem entM_in {i:Nat} (hi:i<100):inEnt (entM i):=by
 refine ⟨⟨?_,?_⟩,⟨?_,?_⟩,?_,?_⟩ <;> simp only [entM] <;> omega
theorem entM_less {i j:Nat} (h:i<j):apartB (entM i) (entM j)=true:=by
 have h1:((7*i:Nat):Int)<((7*j:Nat):Int):=by omega
 unfold apartB
 have e1:lessB (entM i).key (entM j).key=true:=lessB_iff.2 (.inr ⟨rfl,h1⟩)
 have e2:decide ((entM i).en<(entM j).st)=true:=decide_eq_true h1
 rw [e1,e2,Bool.or_true]
 rfl
theorem entsM_apart {k:Nat}:∀ x ∈ entsM k,apartB x (entM k)=true:=fun x hx=>by
 obtain ⟨i,hi,rfl⟩:=List.mem_map.1 hx
 exact entM_less (List.mem_range.1 hi)
theorem entsM_good {k:Nat} (hk:k≤100):GoodE (entsM k):=by
 refine ⟨?_,fun e he=>?_⟩
 ·unfold Apt
  refine List.pairwise_iff_getElem.2 fun i j hi hj hij=>?_
  simp only [entsM,List.getElem_map,List.getElem_range]
  exact entM_less hij
 ·obtain ⟨i,hi,rfl⟩:=List.mem_map.1 he
  have:=List.mem_range.1 hi
  exact ⟨entM_ok (by omega),entM_in (by omega)⟩
theorem act_entryM (i:Nat) (hi:i<100) (w:World) :
 Calls Tryz.prog 8 #[.agg #[.int .i64 0,.int .i64 0,.int .i64 ((7*i:Nat):Int),.int .i64 0,.int .i64 1]] w fun e w'=>e=.returned (.agg (enC (entM i)).toArray)∧Below w.heap.size w w':=by
 obtain ⟨t,ht⟩:∃ t,t=7*i:=⟨_,rfl⟩
 have ht3:t≤693:=by omega
 have e2:(t:Int) % 1000=(t:Int):=by omega
 have hC:enC (entM i)=[.int .i64 0,.int .i64 (t:Int),.int .i64 (t:Int),.int .i64 3,.int .i64 2,.int .i64 1,.int .i64 1,.int .u32 1]:=by
  rw [ht]
  rfl
 rw [hC,← ht]
 clear ht hC
 go_enter Tryz.func8,Tryz.ntmps8
 go_upto_region 2 with fail
 go_wp2_with fail
 refine bodyPost_ret (v:=.agg #[.int .i64 0,.int .i64 (t:Int),.int .i64 (t:Int),.int .i64 3,.int .i64 2,.int .i64 1,.int .i64 1,.int .u32 1]) (results_cell_row (p:=2) (ty:=34) rfl _ _ (w.heap.size+1) 34 _ (0,0) _ rfl (heap_alloc2_new _ _ _) Tryz.underlying34 rfl (by kernel_rfl)) rfl ⟨rfl,below_two (Below.refl _ _)⟩
theorem filter_one_less {X:List Nat} (hX:X.Nodup) (a:Nat):X.length≤(X.filter (fun x=>decide (x≠a))).length+1:=by
 induction X with
 | nil=>simp
 | cons x X ih =>
   have h:=List.nodup_cons.1 hX
   by_cases hx:x=a
   ·subst hx
    have h1:X.filter (fun y=>decide (y≠x))=X:=List.filter_eq_self.2 (fun y hy=>decide_eq_true (fun e=>h.1 (e ▸ hy)))
    rw [List.filter_cons_of_neg (by simp),h1]
    simp
   ·rw [List.filter_cons_of_pos (by simp [hx])]
    have:=ih h.2
    simp only [List.length_cons]
    omega
theorem filter_less:∀ (W X:List Nat),X.Nodup→X.length≤(X.filter (fun x=>decide (x ∉ W))).length+W.length
 | [],X,_=>by
   rw [List.filter_eq_self.2 (fun y _=>by simp)]
   simp
 | a :: W,X,hX=>by
   have h1:=filter_less W X hX
   have h2:=filter_one_less (hX.sublist List.filter_sublist) a (X:=X.filter (fun x=>decide (x ∉ W)))
   have h3:(X.filter (fun x=>decide (x ∉ W))).filter (fun x=>decide (x≠a))=X.filter (fun x=>decide (x ∉ a :: W)):=by
    rw [List.filter_filter]
    refine List.filter_congr (fun x _=>?_)
    simp [not_or]
   rw [h3] at h2
   rw [List.length_cons]
   omega
theorem room_list {p n:Nat} {U V:List Bool} {W:List Nat} (hV:V.length=512) (hp:p≤512) (hW:∀ b,b<p→U.getD b false=true∨V.getD b false=true→b ∈ W) (hc:W.length+n≤p):RoomP p (orK U V 512) U n:=by
 have h1:=filter_less W (List.range p) List.nodup_range
 rw [List.length_range] at h1
 refine ⟨((List.range p).filter (fun x=>decide (x ∉ W))).take n,by rw [List.length_take];omega,(List.nodup_range.sublist List.filter_sublist).sublist (List.take_sublist _ _),fun a ha=>?_⟩
 have h2:=List.mem_filter.1 (List.mem_of_mem_take ha)
 have h3:=List.mem_range.1 h2.1
 have h4:a ∉ W:=of_decide_eq_true h2.2
 have hU:U.getD a false=false:=by
  cases h5:U.getD a false with
  | false=>rfl
  | true=>exact absurd (hW a h3 (.inl h5)) h4
 have hV2:V.getD a false=false:=by
  cases h5:V.getD a false with
  | false=>rfl
  | true=>exact absurd (hW a h3 (.inr h5)) h4
 refine fits_one.2 ⟨by omega,hU,?_⟩
 rw [getD_orK _ _ _ _ (by rw [hV];exact Nat.le_refl _),if_pos (by omega),hU,hV2]
 rfl
end Go.Proofs.YtgkddhncfaeidaaGreat
