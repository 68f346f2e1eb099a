/- Squeezed: the texts as they are written lie in wip/tpl. -/
import Derived.Test.YtgkddhncfaeidaaGreatPart28
import Derived.Test.YtgkddhncfaeidaaGreatPart24
import Derived.Test.YtgkddhncfaeidaaGreatPart23
import Derived.Test.YtgkddhncfaeidaaGreatPart15
set_option maxRecDepth 100000
set_option maxHeartbeats 8000000
set_option linter.unnecessarySimpa false
set_option linter.unusedSimpArgs false
set_option linter.unusedVariables false
namespace Go.Proofs.YtgkddhncfaeidaaGreat
open Go.RowKit Go.ChangeShapes Go.WideShapes Go.ChangeAt CrcM PageM
theorem meets_nil (c:Nat) (x:EntD) (w:World) :
 Calls Tryz.prog 40 #[.slice none 0 c,.agg #[.int .i64 x.se,.int .i64 x.st,.int .i64 x.en,.int .i64 x.ad,.int .i64 x.le,.int .i64 x.cn,.int .i64 x.co,.int .u32 x.cr]] w fun e w'=>e=.returned (.bool false)∧Below w.heap.size w w':=by
 go_enter Tryz.func40,Tryz.ntmps40
 go_wp2_with fail
 go_ret
 exact ⟨rfl,(Below.refl _ _).alloc (Nat.le_refl _) _⟩
theorem insert_known (gv g gen p a hh:Nat) (U V:List Bool) {B N gs gn Ls cs cn:Nat} {rw:Value} {st nw:List UInt8} {ws:List (Nat × List UInt8)} (es:List EntD) (x y:EntD) (he:okEnt x) (ht:TreeQ nw Ls a hh es) (hu:Up es) (hk:atK es x.key=some y) (w:World) (hv:ViewAt w gv g gen (p:Int) U V) (hd:Dk w B N g gs gn rw Ls cs cn st nw ws true (-1)) :
 Calls Tryz.prog 17 #[.pointer (some ⟨gv,0,none⟩),.agg #[.int .i64 (a:Int),.int .i64 (hh:Int)],.agg #[.int .i64 x.se,.int .i64 x.st,.int .i64 x.en,.int .i64 x.ad,.int .i64 x.le,.int .i64 x.cn,.int .i64 x.co,.int .u32 x.cr]] w fun e w'=>e=.returned (.tuple #[.agg #[.int .i64 0,.int .i64 0],.int .i64 11])∧Below w.heap.size w w':=by
 have HWY:=Lib.hid (fun W hW=>wayK_any gv g gen p a hh U V es x.key ht hu w hv hd W hW)
 rw [hk] at HWY
 dsimp only [enV,EntD.key] at HWY
 have HE:=Lib.hid he
 clear ht hu hk hv hd he
 obtain ⟨hi,hhi⟩:∃ hi:Int,hi=(hh:Int):=⟨_,rfl⟩
 rw [← hhi] at HWY ⊢
 clear hhi
 obtain ⟨w3,hw3⟩:∃ w3,w3=((w.alloc (.cells #[.int .i64 (a:Int),.int .i64 hi] 43)).alloc (.cells #[.int .i64 x.se,.int .i64 x.st,.int .i64 x.en,.int .i64 x.ad,.int .i64 x.le,.int .i64 x.cn,.int .i64 x.co,.int .u32 x.cr] 40)).alloc (.cells #[.int .i64 0,.int .i64 0] 43):=⟨_,rfl⟩
 have G1:Hid (w3.heap[w.heap.size]?=some (.cells #[.int .i64 (a:Int),.int .i64 hi] 43 (0,0))):=Lib.hid (by
  rw [hw3]
  exact row_stays (row_stays (heap_alloc_new w _) (alloc_bel rfl)) (alloc_bel rfl))
 have G2:Hid (w3.heap[w.heap.size+1]?=some (.cells #[.int .i64 x.se,.int .i64 x.st,.int .i64 x.en,.int .i64 x.ad,.int .i64 x.le,.int .i64 x.cn,.int .i64 x.co,.int .u32 x.cr] 40 (0,0))):=Lib.hid (by
  rw [hw3]
  have h1:=heap_alloc_new (w.alloc (.cells #[.int .i64 (a:Int),.int .i64 hi] 43)) (.cells #[.int .i64 x.se,.int .i64 x.st,.int .i64 x.en,.int .i64 x.ad,.int .i64 x.le,.int .i64 x.cn,.int .i64 x.co,.int .u32 x.cr] 40)
  rw [World.size_alloc] at h1
  exact row_stays h1 (alloc_bel rfl))
 have G3:Hid (w3.heap[w.heap.size+1+1]?=some (.cells #[.int .i64 0,.int .i64 0] 43 (0,0))):=Lib.hid (by
  rw [hw3]
  have h1:=heap_alloc_new ((w.alloc (.cells #[.int .i64 (a:Int),.int .i64 hi] 43)).alloc (.cells #[.int .i64 x.se,.int .i64 x.st,.int .i64 x.en,.int .i64 x.ad,.int .i64 x.le,.int .i64 x.cn,.int .i64 x.co,.int .u32 x.cr] 40)) (.cells #[.int .i64 0,.int .i64 0] 43)
  rw [World.size_alloc,World.size_alloc] at h1
  exact h1)
 have B3:Hid (Below w.heap.size w w3):=Lib.hid (by
  rw [hw3]
  exact (((Below.refl _ w).alloc (Nat.le_refl _) _).alloc (by simp) _).alloc (by simp;omega) _)
 have HW3:=Lib.hid hw3
 clear hw3
 go_enter Tryz.func17,Tryz.ntmps17
 go_upto_region 1 with fail
 rw [← HW3.out]
 clear HW3
 go_upto_region 3 with (first
  | (refine wpList_load_row rfl 40 (.tmp 5) rfl (w.heap.size+1) rfl 40 _ (0,0) _ G2.out Tryz.underlying40 rfl (by kernel_rfl) ?_)
  | (go_at_call 39;refine (rightEntry_yes x HE.out _).mono ?_;rintro e w4 ⟨rfl,hb4⟩;have R1:=Lib.hid (row_stays G1.out hb4);have R2:=Lib.hid (row_stays G2.out hb4);have R3:=Lib.hid (row_stays G3.out hb4);have B4:=Lib.hid (B3.out.trans (hb4.mono B3.out.size));clear hb4))
 have z0:=nd_cell R2.out 0 (.int .i64 x.se) rfl
 have z1:=nd_cell R2.out 1 (.int .i64 x.st) rfl
 go_upto_region 6 with (first
  | (refine wpList_load_row rfl 43 (.tmp 4) rfl w.heap.size rfl 43 _ (0,0) _ R1.out Tryz.underlying43 rfl (by kernel_rfl) ?_)
  | (go_at_call 35;refine (HWY.out _ B4.out).mono ?_;rintro e w5 ⟨A,n,c,rfl,hb5,hk5⟩;have HK:=Lib.hid hk5;have S2:=Lib.hid (row_stays R2.out hb5);have S3:=Lib.hid (row_stays R3.out hb5);have B5:=Lib.hid (B4.out.trans (hb5.mono B4.out.size));clear hb5 hk5))
 clear z0 z1
 have z0:=nd_cell S2.out 0 (.int .i64 x.se) rfl
 have z1:=nd_cell S2.out 1 (.int .i64 x.st) rfl
 go_upto_region 7 with (go_at_call 36;refine (HK.out _ (Below.refl _ _)).mono ?_;rintro e w6 ⟨rfl,hb6⟩;have T3:=Lib.hid (row_stays S3.out hb6);have B6:=Lib.hid (B5.out.trans (hb6.mono B5.out.size));clear hb6)
 clear z0 z1
 obtain ⟨w7,hw7⟩:∃ w7,w7=w6.alloc (.cells #[.int .i64 y.se,.int .i64 y.st,.int .i64 y.en,.int .i64 y.ad,.int .i64 y.le,.int .i64 y.cn,.int .i64 y.co,.int .u32 y.cr] 40):=⟨_,rfl⟩
 have A7:=Lib.hid (alloc_bel hw7)
 have G7:=Lib.hid (row_stays T3.out A7.out)
 have B7:=Lib.hid (B6.out.trans (A7.out.mono B6.out.size))
 rw [← hw7]
 clear hw7
 go_wp2_with (refine wpList_store_row rfl 43 (.tmp 6) (.tmp 38) rfl (w.heap.size+1+1) _ rfl rfl 43 _ G7.out (by kernel_rfl) rfl (by simp [Value.oneCell']) ?_)
 refine bodyPost_ret (v:=.tuple #[.agg #[.int .i64 0,.int .i64 0],.int .i64 11]) (results_cell_tmpB (p:=6) (u:=7) (ty:=43) rfl _ _ (w.heap.size+1+1) 43 _ (0,0) _ rfl (setRow_heap _ _ _ _ _ _ G7.out) Tryz.underlying43 rfl (by kernel_rfl)) rfl ⟨rfl,?_⟩
 exact below_setRow B7.out (by omega) _
theorem nodeT_one (w:World) (x:EntD):NodeT (w.alloc (.cells #[.int .i64 x.se,.int .i64 x.st,.int .i64 x.en,.int .i64 x.ad,.int .i64 x.le,.int .i64 x.cn,.int .i64 x.co,.int .u32 x.cr] 40)) ⟨true,[x],[],[]⟩ ⟨some ⟨w.heap.size,0,none⟩,1,none,0,none,0⟩ where
 at_:=one_at w x
 te:=fun _=>⟨w.heap.size,0,_,_,rfl,heap_alloc_new _ _⟩
 tk:=fun h=>absurd rfl h
 td:=fun h=>absurd rfl h
theorem load_one (gv g gen p:Nat) (U V:List Bool) (hU:U.length=512) (hV:V.length=512) (okU:okM (p:Int) U) (okV:okM (p:Int) V) (hg:gen<18446744073709551616) {B N gs gn Ls cs cn:Nat} {rw:Value} {st nw:List UInt8} {ws:List (Nat × List UInt8)}
 (x:EntD) (he:okEnt x) (A:Option Addr) (c a:Nat) (hp:Picks p (orK U V 512) U [a]) (ha:256*a+256≤Ls) (hws:ws.length+4≤500) (w:World) (hx:NodeT w ⟨true,[x],[],[]⟩ ⟨A,c,none,0,none,0⟩) (hv:ViewAt w gv g gen (p:Int) U V) (hd:Dk w B N g gs gn rw Ls cs cn st nw ws true (-1)) :
 Calls Tryz.prog 10 #[.pointer (some ⟨gv,0,none⟩),.slice A 1 c] w fun e w'=>e=.returned (.tuple #[.agg #[.int .i64 (a:Int),.int .i64 1],.int .i64 0])∧∃ Lx,Lx.map strip=[(a,⟨true,[x],[],[]⟩)]∧Wrote w w' gv g gen p (marks U [a]) V B gs gn Ls cs cn rw st nw ws Lx:=by
 have h0:lvlE [x]=[⟨true,[x],[],[]⟩]:=by
  have hc:chs 7 1 1=[(0,1)]:=by decide
  unfold lvlE
  have hk:([x].length+6) / 7=1:=by simp
  rw [hk,List.length_singleton,hc]
  rfl
 exact load_yes gv g gen p U V hU hV okU okV hg [x] A 1 c rfl (by decide) ⟨fun e h=>by rw [List.mem_singleton.1 h];exact he,fun i p' e h1 h2=>by simp at h2⟩ [] ⟨true,[x],[],[]⟩ 1 a (by rw [h0];exact Tops.stop _ _) (by decide) (fun h=>by cases h) hp (fun y hy=>by
  rw [List.nil_append,List.mem_singleton] at hy
  rw [hy]
  exact ⟨okNode_one he,ha⟩) (by simpa using hws) w hx hv hd
theorem insert_first (gv g gen p:Nat) (U V:List Bool) (hU:U.length=512) (hV:V.length=512) (okU:okM (p:Int) U) (okV:okM (p:Int) V) (hg:gen<18446744073709551616) {B N gs gn Ls cs cn:Nat} {rw:Value} {st nw:List UInt8} {ws:List (Nat × List UInt8)} (x:EntD) (he:okEnt x) (a:Int) (b:Nat) (hp:Picks p (orK U V 512) U [b]) (hb:256*b+256≤Ls) (hws:ws.length+4≤500) (w:World) (hv:ViewAt w gv g gen (p:Int) U V) (hd:Dk w B N g gs gn rw Ls cs cn st nw ws true (-1)) :
 Calls Tryz.prog 17 #[.pointer (some ⟨gv,0,none⟩),.agg #[.int .i64 a,.int .i64 0],.agg #[.int .i64 x.se,.int .i64 x.st,.int .i64 x.en,.int .i64 x.ad,.int .i64 x.le,.int .i64 x.cn,.int .i64 x.co,.int .u32 x.cr]] w fun e w'=>e=.returned (.tuple #[.agg #[.int .i64 (b:Int),.int .i64 1],.int .i64 0])∧∃ Lx,Lx.map strip=[(b,⟨true,[x],[],[]⟩)]∧Wrote w w' gv g gen p (marks U [b]) V B gs gn Ls cs cn rw st nw ws Lx:=by
 have HWY:Hid (∀ W,Below w.heap.size w W→Calls Tryz.prog 35 #[.pointer (some ⟨gv,0,none⟩),.agg #[.int .i64 a,.int .i64 0],.agg #[.int .i64 x.se,.int .i64 x.st]] W fun e w'=>e=.returned (.tuple #[.slice none 0 0,.int .i64 0])∧Below W.heap.size W w'):=Lib.hid (fun W hW=>way_nil gv g gen p a U V x.key W (hv.below hW))
 have HKN:Hid (∀ W,Calls Tryz.prog 36 #[.slice none 0 0,.agg #[.int .i64 x.se,.int .i64 x.st]] W fun e w'=>e=.returned (.tuple #[.agg #[.int .i64 0,.int .i64 0,.int .i64 0,.int .i64 0,.int .i64 0,.int .i64 0,.int .i64 0,.int .u32 0],.bool false])∧Below W.heap.size W w'):=Lib.hid (fun W=>known_nil 0 x.key W)
 have HLD:Hid (∀ (W:World) (A:Option Addr),Below w.heap.size w W→NodeT W ⟨true,[x],[],[]⟩ ⟨A,1,none,0,none,0⟩→Calls Tryz.prog 10 #[.pointer (some ⟨gv,0,none⟩),.slice A 1 1] W fun e w'=>e=.returned (.tuple #[.agg #[.int .i64 (b:Int),.int .i64 1],.int .i64 0])∧∃ Lx,Lx.map strip=[(b,⟨true,[x],[],[]⟩)]∧Wrote W w' gv g gen p (marks U [b]) V B gs gn Ls cs cn rw st nw ws Lx):=Lib.hid (fun W A hW hn=>load_one gv g gen p U V hU hV okU okV hg x he A 1 b hp hb hws W hn (hv.below hW) (hd.below hW))
 have HE:=Lib.hid he
 have HV:=Lib.hid hv
 have HD:=Lib.hid hd
 clear hv hd he hU hV okU okV hg hp hb hws
 obtain ⟨w3,hw3⟩:∃ w3,w3=((w.alloc (.cells #[.int .i64 a,.int .i64 0] 43)).alloc (.cells #[.int .i64 x.se,.int .i64 x.st,.int .i64 x.en,.int .i64 x.ad,.int .i64 x.le,.int .i64 x.cn,.int .i64 x.co,.int .u32 x.cr] 40)).alloc (.cells #[.int .i64 0,.int .i64 0] 43):=⟨_,rfl⟩
 have G1:Hid (w3.heap[w.heap.size]?=some (.cells #[.int .i64 a,.int .i64 0] 43 (0,0))):=Lib.hid (by
  rw [hw3]
  exact row_stays (row_stays (heap_alloc_new w _) (alloc_bel rfl)) (alloc_bel rfl))
 have G2:Hid (w3.heap[w.heap.size+1]?=some (.cells #[.int .i64 x.se,.int .i64 x.st,.int .i64 x.en,.int .i64 x.ad,.int .i64 x.le,.int .i64 x.cn,.int .i64 x.co,.int .u32 x.cr] 40 (0,0))):=Lib.hid (by
  rw [hw3]
  have h1:=heap_alloc_new (w.alloc (.cells #[.int .i64 a,.int .i64 0] 43)) (.cells #[.int .i64 x.se,.int .i64 x.st,.int .i64 x.en,.int .i64 x.ad,.int .i64 x.le,.int .i64 x.cn,.int .i64 x.co,.int .u32 x.cr] 40)
  rw [World.size_alloc] at h1
  exact row_stays h1 (alloc_bel rfl))
 have G3:Hid (w3.heap[w.heap.size+1+1]?=some (.cells #[.int .i64 0,.int .i64 0] 43 (0,0))):=Lib.hid (by
  rw [hw3]
  have h1:=heap_alloc_new ((w.alloc (.cells #[.int .i64 a,.int .i64 0] 43)).alloc (.cells #[.int .i64 x.se,.int .i64 x.st,.int .i64 x.en,.int .i64 x.ad,.int .i64 x.le,.int .i64 x.cn,.int .i64 x.co,.int .u32 x.cr] 40)) (.cells #[.int .i64 0,.int .i64 0] 43)
  rw [World.size_alloc,World.size_alloc] at h1
  exact h1)
 have B3:Hid (Below w.heap.size w w3):=Lib.hid (by
  rw [hw3]
  exact (((Below.refl _ w).alloc (Nat.le_refl _) _).alloc (by simp) _).alloc (by simp;omega) _)
 have HW3:=Lib.hid hw3
 clear hw3
 go_enter Tryz.func17,Tryz.ntmps17
 go_upto_region 1 with fail
 rw [← HW3.out]
 clear HW3
 go_upto_region 3 with (first
  | (refine wpList_load_row rfl 40 (.tmp 5) rfl (w.heap.size+1) rfl 40 _ (0,0) _ G2.out Tryz.underlying40 rfl (by kernel_rfl) ?_)
  | (go_at_call 39;refine (rightEntry_yes x HE.out _).mono ?_;rintro e w4 ⟨rfl,hb4⟩;have R1:=Lib.hid (row_stays G1.out hb4);have R2:=Lib.hid (row_stays G2.out hb4);have R3:=Lib.hid (row_stays G3.out hb4);have B4:=Lib.hid (B3.out.trans (hb4.mono B3.out.size));clear hb4))
 have z0:=nd_cell R2.out 0 (.int .i64 x.se) rfl
 have z1:=nd_cell R2.out 1 (.int .i64 x.st) rfl
 go_upto_region 6 with (first
  | (refine wpList_load_row rfl 43 (.tmp 4) rfl w.heap.size rfl 43 _ (0,0) _ R1.out Tryz.underlying43 rfl (by kernel_rfl) ?_)
  | (go_at_call 35;refine (HWY.out _ B4.out).mono ?_;rintro e w5 ⟨rfl,hb5⟩;have S2:=Lib.hid (row_stays R2.out hb5);have S3:=Lib.hid (row_stays R3.out hb5);have B5:=Lib.hid (B4.out.trans (hb5.mono B4.out.size));clear hb5))
 clear z0 z1
 have z0:=nd_cell S2.out 0 (.int .i64 x.se) rfl
 have z1:=nd_cell S2.out 1 (.int .i64 x.st) rfl
 go_upto_region 7 with (go_at_call 36;refine (HKN.out _).mono ?_;rintro e w6 ⟨rfl,hb6⟩;have T2:=Lib.hid (row_stays S2.out hb6);have T3:=Lib.hid (row_stays S3.out hb6);have B6:=Lib.hid (B5.out.trans (hb6.mono B5.out.size));clear hb6)
 clear z0 z1
 obtain ⟨w7,hw7⟩:∃ w7,w7=w6.alloc (.cells #[.int .i64 0,.int .i64 0,.int .i64 0,.int .i64 0,.int .i64 0,.int .i64 0,.int .i64 0,.int .u32 0] 40):=⟨_,rfl⟩
 have A7:=Lib.hid (alloc_bel hw7)
 have U2:=Lib.hid (row_stays T2.out A7.out)
 have U3:=Lib.hid (row_stays T3.out A7.out)
 have B7:=Lib.hid (B6.out.trans (A7.out.mono B6.out.size))
 rw [← hw7]
 clear hw7
 go_upto_region 11 with (first
  | (refine wpList_load_row rfl 40 (.tmp 5) rfl (w.heap.size+1) rfl 40 _ (0,0) _ U2.out Tryz.underlying40 rfl (by kernel_rfl) ?_)
  | (go_at_call 40;refine (meets_nil 0 x _).mono ?_;rintro e w8 ⟨rfl,hb8⟩;have V2:=Lib.hid (row_stays U2.out hb8);have V3:=Lib.hid (row_stays U3.out hb8);have B8:=Lib.hid (B7.out.trans (hb8.mono B7.out.size));clear hb8))
 obtain ⟨w9,hw9⟩:∃ w9,w9=w8.alloc (.cells #[.int .i64 x.se,.int .i64 x.st,.int .i64 x.en,.int .i64 x.ad,.int .i64 x.le,.int .i64 x.cn,.int .i64 x.co,.int .u32 x.cr] 40):=⟨_,rfl⟩
 have A9:=Lib.hid (alloc_bel hw9)
 have N9:Hid (NodeT w9 ⟨true,[x],[],[]⟩ ⟨some ⟨w8.heap.size,0,none⟩,1,none,0,none,0⟩):=Lib.hid (by rw [hw9];exact nodeT_one w8 x)
 have X3:=Lib.hid (row_stays V3.out A9.out)
 have B9:=Lib.hid (B8.out.trans (A9.out.mono B8.out.size))
 have HLN:=Lib.hid (HLD.out _ _ B9.out N9.out)
 have HW9:=Lib.hid hw9
 clear hw9
 have hX:¬ (DkX g gn rw (w.heap.size+1+1)∨(w.heap.size+1+1)=gv):=fun hx=>by
  rcases hx with hx | hx
  ·exact (HD.out.below B9.out).notX X3.out (by decide) (.inl (by decide)) (by decide) hx
  ·have h1:=HV.out.below B9.out
   have h2:=X3.out
   unfold ViewAt at h1
   rw [hx,h1] at h2
   cases h2
 have HX:=Lib.hid hX
 clear hX
 go_upto_region 12 with fail
 go_wp2_with (first
  | (refine wpList_load_row rfl 40 (.tmp 5) rfl (w.heap.size+1) rfl 40 _ (0,0) _ V2.out Tryz.underlying40 rfl (by kernel_rfl) ?_)
  | (rw [← HW9.out];go_at_call 10;refine HLN.out.mono ?_;rintro e w10 ⟨rfl,Lx,hlx,hw⟩;have W10:=Lib.hid hw;have L10:=Lib.hid hlx;have G10:=Lib.hid (hw.out.heap X3.out HX.out);clear hw hlx)
  | (refine wpList_store_row rfl 43 (.tmp 6) (.tmp 50) rfl (w.heap.size+1+1) #[.int .i64 (b:Int),.int .i64 1] rfl rfl 43 _ G10.out (by kernel_rfl) rfl (by simp [Value.oneCell']) ?_))
 refine bodyPost_ret (v:=.tuple #[.agg #[.int .i64 (b:Int),.int .i64 1],.int .i64 0]) (results_cell_tmpB (p:=6) (u:=7) (ty:=43) rfl _ _ (w.heap.size+1+1) 43 _ (0,0) _ rfl (setRow_heap _ _ _ _ _ _ G10.out) Tryz.underlying43 rfl (by kernel_rfl)) rfl ⟨rfl,Lx,L10.out,?_⟩
 exact (W10.out.pre B9.out).post (KeptNot.of_setRow G10.out _) (below_setRow (Below.refl _ _) (by omega) _) (by decide) (by decide) (by decide) (by decide)
theorem top_none (gc:Nat) (A:Option Addr) (c:Nat) (w:World) :
 Calls Tryz.prog 30 #[.pointer (some ⟨gc,0,none⟩),.slice A 0 c,.int .i64 1] w fun e w'=>e=.returned (.tuple #[.agg #[.int .i64 0,.int .i64 0],.int .i64 0])∧Below w.heap.size w w':=by
 go_enter Tryz.func30,Tryz.ntmps30
 go_upto_region 1 with fail
 obtain ⟨w1,hw1⟩:∃ w1,w1=w.alloc (.cells #[.int .i64 0,.int .i64 0] 43):=⟨_,rfl⟩
 have G1:Hid (w1.heap[w.heap.size]?=some (.cells #[.int .i64 0,.int .i64 0] 43 (0,0))):=Lib.hid (by rw [hw1];exact heap_alloc_new _ _)
 have B1:=Lib.hid (alloc_bel hw1)
 rw [← hw1]
 clear hw1
 go_loopw [1,2] (fun l i wr=>l=.slice A 0 c∧i=.int .i64 1∧Hid (wr=w1)) (fun _ _ _=>0)
 case atStart=>exact ⟨rfl,rfl,Lib.hid rfl⟩
 case round =>
  obtain ⟨rfl,rfl,HW⟩:=hrel
  obtain ⟨W0,rfl⟩:∃ W0,W0=wr:=⟨_,rfl⟩
  have G2:Hid (W0.heap[w.heap.size]?=some (.cells #[.int .i64 0,.int .i64 0] 43 (0,0))):=Lib.hid (by rw [HW.out];exact G1.out)
  have hd:decide ((0:Int) > 1)=false:=by simp
  go_wp2_with (refine wpList_store_row rfl 43 (.tmp 6) (.tmp 38) rfl w.heap.size #[.int .i64 0,.int .i64 0] rfl rfl 43 _ G2.out (by kernel_rfl) rfl (by simp [Value.oneCell']) ?_)
  refine bodyPost_ret (v:=.tuple #[.agg #[.int .i64 0,.int .i64 0],.int .i64 0]) (results_cell_tmpB (p:=6) (u:=7) (ty:=43) rfl _ _ w.heap.size 43 _ (0,0) _ rfl (setRow_heap _ _ _ _ _ _ G2.out) Tryz.underlying43 rfl (by kernel_rfl)) rfl ⟨rfl,?_⟩
  rw [HW.out]
  exact below_setRow B1.out (Nat.le_refl _) _
theorem load_none (gv g gen p:Nat) (U V:List Bool) (hU:U.length=512) (hV:V.length=512) (okU:okM (p:Int) U) (hg:gen<18446744073709551616) {B N gs gn Ls cs cn:Nat} {rw:Value} {st nw:List UInt8} {ws:List (Nat × List UInt8)}
 (hws:ws.length≤500) (w:World) (hv:ViewAt w gv g gen (p:Int) U V) (hd:Dk w B N g gs gn rw Ls cs cn st nw ws true (-1)) :
 Calls Tryz.prog 10 #[.pointer (some ⟨gv,0,none⟩),.slice none 0 0] w fun e w'=>e=.returned (.tuple #[.agg #[.int .i64 0,.int .i64 0],.int .i64 0])∧Wrote w w' gv g gen p U V B gs gn Ls cs cn rw st nw ws []:=by
 have HU:=Lib.hid hU
 have HV:=Lib.hid hV
 have HOU:=Lib.hid okU
 have HG:=Lib.hid hg
 have HWS:=Lib.hid hws
 have HVW:=Lib.hid hv
 have HD:=Lib.hid hd
 have HPB:Hid (p≤512):=Lib.hid (by have:=okU.2.1;omega)
 have HX:Hid (NodeT w ⟨true,[],[],[]⟩ ⟨none,0,none,0,none,0⟩):=Lib.hid { at_:={ e:=fun h=>absurd rfl h,k:=fun h=>absurd rfl h,d:=fun h=>absurd rfl h,ec:=Nat.le_refl _,kc:=Nat.le_refl _,dc:=Nat.le_refl _,em:=by unfold maxLen;simp,km:=by unfold maxLen;simp,dm:=by unfold maxLen;simp },te:=fun h=>absurd rfl h,tk:=fun h=>absurd rfl h,td:=fun h=>absurd rfl h }
 clear hU hV okU hg hws hv hd
 go_enter Tryz.func10,Tryz.ntmps10
 go_upto_region 1 with fail
 obtain ⟨w1,hw1⟩:∃ w1,w1=w.alloc (.cells #[.int .i64 0,.int .i64 0] 43):=⟨_,rfl⟩
 have G1:Hid (w1.heap[w.heap.size]?=some (.cells #[.int .i64 0,.int .i64 0] 43 (0,0))):=Lib.hid (by rw [hw1];exact heap_alloc_new _ _)
 have B1:=Lib.hid (alloc_bel hw1)
 rw [← hw1]
 clear hw1
 have HV1:=Lib.hid (HVW.out.below B1.out)
 go_upto_region 6 with (first
  | (go_at_call 26;refine (open_yes gv g gen p U V _ HV1.out).mono ?_;rintro e w2 ⟨rfl,rfl⟩)
  | (go_at_call 27;refine (rising_yes [] none 0 0 rfl (Nat.le_refl _) (by unfold maxLen;simp) (by decide) ⟨by simp,by simp⟩ _ (fun h=>absurd rfl h)).mono ?_;rintro e w2 ⟨rfl,hb2⟩;have B2:=Lib.hid (B1.out.trans (hb2.mono B1.out.size));have G2:=Lib.hid (row_stays G1.out hb2);clear hb2))
 have HV2:=Lib.hid (HVW.out.below B2.out)
 go_upto_region 7 with (go_at_call 28;refine (begin_yes gv g gen p U V HU.out HV.out _ HV2.out).mono ?_;rintro e w3 ⟨gc,rfl,hc3,hb3⟩;have C3:=Lib.hid hc3;have B23:=Lib.hid hb3;have G3:=Lib.hid (row_stays G2.out hb3);clear hc3 hb3)
 have BW3:Hid (Below w.heap.size w w3):=Lib.hid (B2.out.trans (B23.out.mono B2.out.size))
 have HX3:=Lib.hid (HX.out.below BW3.out)
 have HFI:Hid (Calls Tryz.prog 31 #[.agg #[.bool true,.slice none 0 0,.slice none 0 0,.slice none 0 0]] w3 fun e w'=>(∃ A4 c4,e=.returned (.slice A4 0 c4))∧Below w3.heap.size w3 w'):=Lib.hid (by
  have h1:=filled_any ⟨true,[],[],[]⟩ ⟨none,0,none,0,none,0⟩ rfl (by simp) (by simp) w3 HX3.out.at_
  have h2:(fillP ⟨true,[],[],[]⟩ ⟨none,0,none,0,none,0⟩).length=0:=rfl
  rw [h2] at h1
  refine h1.mono ?_
  rintro e w' ⟨⟨A4,c4,h3,h4⟩,h5⟩
  exact ⟨⟨A4,c4,h3⟩,h5⟩)
 go_wp2_with (first
  | (go_at_call 31;refine HFI.out.mono ?_;rintro e w4 ⟨⟨A4,c4,rfl⟩,hb4⟩;have B34:=Lib.hid hb4;clear hb4)
  | (go_at_call 30;refine (top_none gc A4 c4 _).mono ?_;rintro e w5 ⟨rfl,hb5⟩;have B45:=Lib.hid hb5;clear hb5))
 have B35:Hid (Below w3.heap.size w3 w5):=Lib.hid (B34.out.trans (B45.out.mono B34.out.size))
 have B25:Hid (Below w2.heap.size w2 w5):=Lib.hid (B23.out.trans (B35.out.mono B23.out.size))
 have BW5:Hid (Below w.heap.size w w5):=Lib.hid (B2.out.trans (B25.out.mono B2.out.size))
 have D5:=Lib.hid (HD.out.below BW5.out)
 have V5:=Lib.hid (HVW.out.below BW5.out)
 have G5:=Lib.hid (row_stays G3.out B35.out)
 have C5:=Lib.hid (C3.out.below B35.out)
 refine (done_yes 0 0 gc gv g gen p U U V [] w5 D5.out V5.out (fun W hW=>?_)).mono ?_
 ·refine (write_yes gc gv p w2.heap.size gen U U V (orK U V 512) _ [] HU.out HU.out (by rw [length_orK];exact HV.out) HV.out HG.out (by
   have:=HWS.out
   simpa using this) (by simp) (fun x hx=>by cases hx) W (fun x hx=>by cases hx) (C5.out.below hW) (V5.out.below hW) (D5.out.below hW)).mono ?_
  rintro e w' ⟨h1,h2,h3,h4⟩
  exact ⟨h1,⟨h2,h3,h4⟩⟩
 ·rintro e w6 ⟨rfl,hw6⟩
  have W6:=Lib.hid hw6
  clear hw6
  have hX:¬ (DkX g gn rw w.heap.size∨w.heap.size=gv):=fun hx=>by
   rcases hx with hx | hx
   ·exact D5.out.notX G5.out (by decide) (.inl (by decide)) (by decide) hx
   ·have h1:=V5.out
    have h2:=G5.out
    unfold ViewAt at h1
    rw [hx,h1] at h2
    cases h2
  have G6:=Lib.hid (W6.out.out.heap G5.out hX)
  clear hX
  go_wp2_with (refine wpList_store_row rfl 43 (.tmp 4) (.tmp 29) rfl w.heap.size #[.int .i64 ((0:Nat):Int),.int .i64 ((0:Nat):Int)] rfl rfl 43 _ G6.out (by kernel_rfl) rfl (by simp [Value.oneCell']) ?_)
  refine bodyPost_ret (v:=.tuple #[.agg #[.int .i64 ((0:Nat):Int),.int .i64 ((0:Nat):Int)],.int .i64 0]) (results_cell_tmpB (p:=4) (u:=5) (ty:=43) rfl _ _ w.heap.size 43 _ (0,0) _ rfl (setRow_heap _ _ _ _ _ _ G6.out) Tryz.underlying43 rfl (by kernel_rfl)) rfl ⟨rfl,?_⟩
  exact (W6.out.pre BW5.out).post (KeptNot.of_setRow G6.out _) (below_setRow (Below.refl _ _) (Nat.le_refl _) _) (by decide) (by decide) (by decide) (by decide)
theorem takes_yes (gv g gen p:Nat) (U V M:List Bool) {B N gs gn Ls cs cn:Nat} {rw:Value} {st nw:List UInt8} {ws:List (Nat × List UInt8)} (hM:M.length=512) (okU:okM (p:Int) M) (hp:Ls / 256=p) (C:Array Value) (hC:C=mapC (p:Int) M) (w:World) (hv:ViewAt w gv g gen (p:Int) U V) (hd:Dk w B N g gs gn rw Ls cs cn st nw ws true (-1)) :
 Calls Tryz.prog 43 #[.pointer (some ⟨gv,0,none⟩),.agg C] w fun e w'=>e=.returned (.bool true)∧Below w.heap.size w w':=by
 have HV:=Lib.hid hv
 have HD:=Lib.hid hd
 have HM:=Lib.hid hM
 have HOM:=Lib.hid okU
 have HP:=Lib.hid hp
 have HC:=Lib.hid hC
 have HC1:Hid (C.size=513):=Lib.hid (by rw [hC];exact size_mapC hM)
 clear hv hd hM okU hp hC
 obtain ⟨w1,hw1⟩:∃ w1,w1=w.alloc (.cells C 62):=⟨_,rfl⟩
 have G1:Hid (w1.heap[w.heap.size]?=some (.cells C 62 (0,0))):=Lib.hid (by rw [hw1];exact heap_alloc_new _ _)
 have B1:=Lib.hid (alloc_bel hw1)
 have HV1:=Lib.hid (HV.out.below B1.out)
 have HD1:=Lib.hid (HD.out.below B1.out)
 go_enter Tryz.func43,Tryz.ntmps43
 go_upto_region 1 with fail
 rw [← hw1]
 clear hw1
 have g1:∀ y:SubW w1.heap.size w1,y.at_.heap[w.heap.size]?=some (.cells C 62 (0,0)):=fun y=>row_stays G1.out y.ok_
 have g2:∀ y:SubW w1.heap.size w1,y.at_.cell? ⟨gv,256,none⟩=some (.pointer (some ⟨g,0,none⟩)):=fun y=>(HV1.out.below y.ok_).cd
 have g3:∀ y:SubW w1.heap.size w1,y.at_.cell? ⟨w.heap.size,0,none⟩=some (.int .i64 (p:Int)):=fun y=>nd_cell (g1 y) 0 _ (by rw [HC.out];exact mapC_0 _ _)
 refine region_below w1.heap.size w1 (Below.refl _ _) (by kernel_rfl) (by kernel_rfl) ?_
 repeat (first
  | (go_big_quiet_want;refine quiet_load_row 62 (.tmp 3) rfl w.heap.size rfl 62 C (0,0) _ g1 Tryz.underlying62 rfl (by rw [HC1.out];exact infoMap) ?_;simp only [Act.put,List.setIfInBounds_toArray,List.set_cons_zero,List.set_cons_succ];go_big_quiet_on)
  | go_big_quiet_step (first
   | (go_at_call 26;exact calls_sub (Nat.le_refl _) ((open_yes gv g gen p U V _ (HV1.out.below (SubW.ok_ _))).mono (fun e w' h=>⟨h.1,by rw [← h.2];exact Below.refl _ _⟩)))
   | (go_at_call 66;exact calls_sub (Nat.le_refl _) (right_bmC p M HM.out _ C HC.out true (decide_eq_true HOM.out).symm))
   | (go_at_call 67;exact calls_sub (Nat.le_refl _) ((pages_any (HD1.out.below (SubW.ok_ _))).mono (fun e w' h=>⟨h.1,by rw [← h.2];exact Below.refl _ _⟩)))))
 refine wpQuiet_nil ?_
 rintro w' ⟨y,rfl⟩
 have HY:=Lib.hid (B1.out.trans (y.ok_.mono B1.out.size))
 clear g1 g2 g3
 go_wp2_with fail
 go_ret
 refine ⟨nd_retB ?_,HY.out⟩
 have:=HP.out
 simp only [beq_iff_eq]
 omega
theorem built_view (parts:List (Nat × Value)):Tryz.prog.built 105 parts=Instr.fill (fun i=>([(0,256),(256,1),(257,1),(258,513),(771,513)].toArray:Array (Nat × Nat))[i]?) Tryz.zeroCells105 parts:=by kernel_rfl
theorem size_zeroView:(Tryz.zeroCells105).size=1284:=by kernel_rfl
theorem fold_mid (X V Y:List Value) (h:V.length≤Y.length):(V.zipIdx 0).foldl (fun cs (x:Value × Nat)=>cs.setIfInBounds (X.length+x.2) x.1) (X ++ Y).toArray=((X ++ V) ++ Y.drop V.length).toArray:=by
 obtain ⟨s1,q1⟩:=Great.foldl_set X.length V 0 (X ++ Y).toArray
 apply Array.ext_getElem?
 intro k
 have e1:(X ++ Y).toArray[k]?=(X ++ Y)[k]?:=by simp
 have e2:((X ++ V) ++ Y.drop V.length).toArray[k]?=((X ++ V) ++ Y.drop V.length)[k]?:=by simp
 have e3:(X ++ Y).toArray.size=X.length+Y.length:=by simp
 rw [q1 k,e1,e2,e3]
 by_cases h1:k<X.length
 ·rw [if_neg (by omega),List.append_assoc,List.getElem?_append_left h1,List.getElem?_append_left h1]
 ·by_cases h2:k<X.length+V.length
  ·rw [if_pos (by omega),List.append_assoc,List.getElem?_append_right (by omega),List.getElem?_append_left (by omega)]
   congr 1
  ·rw [if_neg (by omega),List.getElem?_append_right (by omega),List.getElem?_append_right (by rw [List.length_append];omega),List.getElem?_drop,List.length_append]
   congr 1
   omega
theorem fill_next {place:Nat→Option (Nat × Nat)} {X Y V:List Value} {i:Nat} {v:Value} {rest:List (Nat × Value)} (hv:v.cells=V.toArray) (hp:place i=some (X.length,V.length)) (hs:V.length≤Y.length) :
 Instr.fill place (X ++ Y).toArray ((i,v) :: rest)=Instr.fill place ((X ++ V) ++ Y.drop V.length).toArray rest:=by
 rw [fill_one hv hp (by simp;omega),fold_mid X V Y hs]
theorem view_built (g gen p:Nat) (U V:List Bool) (hU:U.length=512) (hV:V.length=512) :
 Tryz.prog.built 105 [(0,.agg tab),(1,.pointer (some ⟨g,0,none⟩)),(2,.int .u64 (gen:Int)),(3,.agg (mapL (p:Int) U).toArray),(4,.agg (mapL (p:Int) V).toArray)]=some (viewL g gen (p:Int) U V).toArray:=by
 rw [built_view]
 have lU:=mapL_len (p:Int) hU
 have lV:=mapL_len (p:Int) hV
 obtain ⟨Z,hZ⟩:∃ Z,Z=(Tryz.zeroCells105).toList:=⟨_,rfl⟩
 have lZ:Z.length=1284:=by rw [hZ,Array.length_toList];exact size_zeroView
 have e0:Tryz.zeroCells105=([] ++ Z).toArray:=by rw [hZ];simp
 rw [e0]
 rw [fill_next (V:=tab.toList) (by rw [Array.toArray_toList];rfl) (by rw [tab_len];rfl) (by rw [tab_len,lZ];simp)]
 rw [fill_next (V:=[.pointer (some ⟨g,0,none⟩)]) rfl (by rw [List.nil_append,tab_len];rfl) (by rw [List.length_drop,lZ,tab_len];simp)]
 rw [fill_next (V:=[.int .u64 (gen:Int)]) rfl (by rw [List.nil_append,List.length_append,tab_len];rfl) (by rw [List.length_drop,List.length_drop,lZ,tab_len];simp)]
 rw [fill_next (V:=mapL (p:Int) U) rfl (by rw [List.nil_append,List.length_append,List.length_append,tab_len,lU];rfl) (by rw [List.length_drop,List.length_drop,List.length_drop,lZ,tab_len,lU];simp)]
 rw [fill_next (V:=mapL (p:Int) V) rfl (by rw [List.nil_append,List.length_append,List.length_append,List.length_append,tab_len,lU,lV];rfl) (by rw [List.length_drop,List.length_drop,List.length_drop,List.length_drop,lZ,tab_len,lU,lV];simp)]
 rw [Instr.fill]
 congr 1
 rw [List.drop_drop,List.drop_drop,List.drop_drop,List.drop_drop,List.drop_eq_nil_of_le (by rw [lZ,tab_len,lU,lV];simp)]
 simp [viewL]
theorem topen_yes (g gen p:Nat) (U V:List Bool) {B N gs gn Ls cs cn:Nat} {rw:Value} {st nw:List UInt8} {ws:List (Nat × List UInt8)} (hU:U.length=512) (hV:V.length=512) (okU:okM (p:Int) U) (okV:okM (p:Int) V) (hp:Ls / 256=p) (CU CV:Array Value) (hCU:CU=mapC (p:Int) U) (hCV:CV=mapC (p:Int) V) (w:World) (hd:Dk w B N g gs gn rw Ls cs cn st nw ws true (-1)) :
 Calls Tryz.prog 22 #[.agg tab,.pointer (some ⟨g,0,none⟩),.int .u64 (gen:Int),.agg CU,.agg CV] w fun e w'=>∃ gv,e=.returned (.tuple #[.pointer (some ⟨gv,0,none⟩),.int .i64 0])∧w.heap.size≤gv∧ViewAt w' gv g gen (p:Int) U V∧Below w.heap.size w w':=by
 have HD:=Lib.hid hd
 have HU1:Hid (CU.size=513):=Lib.hid (by rw [hCU];exact size_mapC hU)
 have HV1:Hid (CV.size=513):=Lib.hid (by rw [hCV];exact size_mapC hV)
 have HBU:Hid (Tryz.prog.built 105 [(0,.agg tab),(1,.pointer (some ⟨g,0,none⟩)),(2,.int .u64 (gen:Int)),(3,.agg CU),(4,.agg CV)]=some (viewL g gen (p:Int) U V).toArray):=Lib.hid (by rw [hCU,hCV];exact view_built g gen p U V hU hV)
 have HTU:Hid (∀ gv W,ViewAt W gv g gen (p:Int) U V→Dk W B N g gs gn rw Ls cs cn st nw ws true (-1)→Calls Tryz.prog 43 #[.pointer (some ⟨gv,0,none⟩),.agg CU] W fun e w'=>e=.returned (.bool true)∧Below W.heap.size W w'):=Lib.hid (fun gv W h1 h2=>takes_yes gv g gen p U V U hU okU hp CU hCU W h1 h2)
 have HTV:Hid (∀ gv W,ViewAt W gv g gen (p:Int) U V→Dk W B N g gs gn rw Ls cs cn st nw ws true (-1)→Calls Tryz.prog 43 #[.pointer (some ⟨gv,0,none⟩),.agg CV] W fun e w'=>e=.returned (.bool true)∧Below W.heap.size W w'):=Lib.hid (fun gv W h1 h2=>takes_yes gv g gen p U V V hV okV hp CV hCV W h1 h2)
 obtain ⟨C,hC⟩:∃ C,C=(viewL g gen (p:Int) U V).toArray:=⟨_,rfl⟩
 rw [← hC] at HBU
 have HC:=Lib.hid hC
 obtain ⟨T,hT⟩:∃ T,T=tab:=⟨_,rfl⟩
 have HT1:Hid (T.size=256):=Lib.hid (by rw [hT];exact size_tab)
 rw [← hT] at HBU ⊢
 clear hd hU hV okU okV hp hCU hCV hC hT
 go_enter Tryz.func22,Tryz.ntmps22
 go_upto_region 1 with fail
 obtain ⟨w3,hw3⟩:∃ w3,w3=(((w.alloc (.cells T 71)).alloc (.cells CU 62)).alloc (.cells CV 62)):=⟨_,rfl⟩
 have B3:Hid (Below w.heap.size w w3):=Lib.hid (by rw [hw3];exact (((Below.refl _ _).alloc (Nat.le_refl _) _).alloc (by simp) _).alloc (by simp;omega) _)
 have G5:Hid (w3.heap[w.heap.size]?=some (.cells T 71 (0,0))):=Lib.hid (by
  rw [hw3]
  exact row_stays (row_stays (heap_alloc_new w _) (alloc_bel rfl)) (alloc_bel rfl))
 have G8:Hid (w3.heap[w.heap.size+1]?=some (.cells CU 62 (0,0))):=Lib.hid (by
  rw [hw3]
  have h1:=heap_alloc_new (w.alloc (.cells T 71)) (.cells CU 62)
  rw [World.size_alloc] at h1
  exact row_stays h1 (alloc_bel rfl))
 have G9:Hid (w3.heap[w.heap.size+1+1]?=some (.cells CV 62 (0,0))):=Lib.hid (by
  rw [hw3]
  have h1:=heap_alloc_new ((w.alloc (.cells T 71)).alloc (.cells CU 62)) (.cells CV 62)
  rw [World.size_alloc,World.size_alloc] at h1
  exact h1)
 rw [← hw3]
 clear hw3
 go_upto_region 2 with (first
  | (refine wpList_load_row rfl 71 (.tmp 5) rfl w.heap.size rfl 71 T (0,0) _ G5.out Tryz.underlying71 rfl (by rw [HT1.out];exact info64) ?_)
  | (refine wpList_load_row rfl 62 (.tmp 8) rfl (w.heap.size+1) rfl 62 CU (0,0) _ G8.out Tryz.underlying62 rfl (by rw [HU1.out];exact infoMap) ?_)
  | (refine wpList_load_row rfl 62 (.tmp 9) rfl (w.heap.size+1+1) rfl 62 CV (0,0) _ G9.out Tryz.underlying62 rfl (by rw [HV1.out];exact infoMap) ?_)
  | (refine wpList_buildTo rfl 105 _ rfl (some 18) rfl C (by simp only [List.map_toArray,List.map_cons,List.map_nil];exact HBU.out) ?_))
 obtain ⟨gv,hgv⟩:∃ gv,gv=w3.heap.size:=⟨_,rfl⟩
 obtain ⟨w4,hw4⟩:∃ w4,w4=w3.alloc (.cells C 105):=⟨_,rfl⟩
 have B4:=Lib.hid (B3.out.trans ((alloc_bel hw4).mono B3.out.size))
 have HV4:Hid (ViewAt w4 gv g gen (p:Int) U V):=Lib.hid (by rw [hw4,hgv,HC.out];exact heap_alloc_new _ _)
 have G84:=Lib.hid (row_stays G8.out (alloc_bel hw4))
 have G94:=Lib.hid (row_stays G9.out (alloc_bel hw4))
 have HD4:=Lib.hid (HD.out.below B4.out)
 have HGV:Hid (w.heap.size≤gv):=Lib.hid (by rw [hgv];exact B3.out.size)
 rw [← hw4,← hgv]
 clear hw4 hgv HBU HC G5 G8 G9 B3
 go_upto_region 4 with (first
  | (refine wpList_load_row rfl 62 (.tmp 8) rfl (w.heap.size+1) rfl 62 CU (0,0) _ G84.out Tryz.underlying62 rfl (by rw [HU1.out];exact infoMap) ?_)
  | (go_at_call 43;refine (HTU.out gv _ HV4.out HD4.out).mono ?_;clear HTU;rintro e w5 ⟨rfl,hb5⟩;have B5:=Lib.hid (B4.out.trans (hb5.mono B4.out.size));have HV5:=Lib.hid (HV4.out.below hb5);have G95:=Lib.hid (row_stays G94.out hb5);have HD5:=Lib.hid (HD4.out.below hb5);clear hb5))
 refine wp_load_row 62 (.tmp 9) rfl (w.heap.size+1+1) rfl 62 CV (0,0) _ G95.out Tryz.underlying62 rfl (by rw [HV1.out];exact infoMap) ?_
 rename_i K2 hK2
 refine hK2 _ _ ?_
 clear hK2
 simp only [Act.put,List.setIfInBounds_toArray,List.set_cons_zero,List.set_cons_succ]
 go_wp2_with (go_at_call 43;refine (HTV.out gv _ HV5.out HD5.out).mono ?_;rintro e w6 ⟨rfl,hb6⟩;have B6:=Lib.hid (B5.out.trans (hb6.mono B5.out.size));have HV6:=Lib.hid (HV5.out.below hb6);clear hb6)
 go_ret2
 exact ⟨gv,rfl,HGV.out,HV6.out,B6.out⟩
end Go.Proofs.YtgkddhncfaeidaaGreat
