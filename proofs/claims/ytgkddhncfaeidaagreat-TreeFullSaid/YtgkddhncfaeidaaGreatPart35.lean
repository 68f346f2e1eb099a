/- Squeezed: the texts as they are written lie in wip/tpl. -/
import Derived.Test.YtgkddhncfaeidaaGreatPart27
import Derived.Test.YtgkddhncfaeidaaGreatPart28
import Derived.Test.YtgkddhncfaeidaaGreatPart30
import Derived.Test.YtgkddhncfaeidaaGreatPart08
import Derived.Test.YtgkddhncfaeidaaGreatPart17
import Derived.Test.YtgkddhncfaeidaaGreatTjCl
import Derived.Test.YtgkddhncfaeidaaGreatPart22
import Derived.Test.YtgkddhncfaeidaaGreatPart24
import Derived.Test.YtgkddhncfaeidaaGreatPart34
set_option maxRecDepth 100000
set_option maxHeartbeats 16000000
set_option linter.unusedSimpArgs false
set_option linter.unusedVariables false
namespace Go.Proofs.YtgkddhncfaeidaaGreat
open Go.RowKit Go.ChangeShapes Go.WideShapes Go.ChangeAt CrcM PageM
theorem ins_end (base n c d:Nat) (A B:Option Addr) (us vs:List Value) (w:World) (h:w.ownsRow base 40 8 (.slice A n c) n us) (hn:1≤n) (hv:CellsAt w B vs) (hvl:vs.length=8) (hm:n≤1000000) (h2:∀ u ∈ vs,u.oneCell'=true) (hbase:base≤w.heap.size) :
 Calls Tryz.prog 41 #[.slice A n c,.int .i64 (n:Int),.slice B 1 d] w fun e w'=>(∃ A' c',e=.returned (.slice A' (n+1) c')∧w'.ownsRow base 40 8 (.slice A' (n+1) c') (n+1) (us ++ vs))∧w.grownBy w' (Value.slice A n c).ownBlock:=by
 have HR:=Lib.hid h
 have HV:=Lib.hid hv
 have HVL:=Lib.hid hvl
 have H2:=Lib.hid h2
 have HBW:=Lib.hid hbase
 obtain ⟨hlen,⟨_,h0⟩ | ⟨g,cap,cu,hv,hb,hg,hnc,hcm,hcs,htk⟩⟩:=h
 ·omega
 injection hv with hA _ hc
 subst hA hc
 have hcm':=hcm
 unfold maxLen at hcm'
 clear hlen hv hb hg hcm hcs htk hvl h2 hbase
 have q1:(n:Int)≤(c:Int):=by omega
 by_cases hcn:c=n
 ·subst hcn
  go_enter Tryz.func41,Tryz.ntmps41
  go_wp2_with (at_builtin;refine wpList_append_row rfl (.tmp 23) (.tmp 24) 29 rfl Tryz.underlying29 (.agg #[.int .i64 0,.int .i64 0,.int .i64 0,.int .i64 0,.int .i64 0,.int .i64 0,.int .i64 0,.int .u32 0]) 64 info_del_ent (by rfl) (by decide) _ rfl HR.out _ _ 1 rfl (by have:=HVL.out;omega) HV.out H2.out (by omega) (by unfold maxLen;omega) HBW.out (c+1) rfl _ rfl ?_;intro A1 c1 x1 R1 g1;have RX:=Lib.hid R1;have GX:=Lib.hid g1;clear R1 g1)
  go_ret
  exact ⟨⟨_,_,rfl,RX.out⟩,GX.out⟩
 ·have q3:¬ c=n:=hcn
  go_enter Tryz.func41,Tryz.ntmps41
  go_wp2_with (at_builtin;refine wpList_append_row rfl (.tmp 23) (.tmp 24) 29 rfl Tryz.underlying29 (.agg #[.int .i64 0,.int .i64 0,.int .i64 0,.int .i64 0,.int .i64 0,.int .i64 0,.int .i64 0,.int .u32 0]) 64 info_del_ent (by rfl) (by decide) _ rfl HR.out _ _ 1 rfl (by have:=HVL.out;omega) HV.out H2.out (by omega) (by unfold maxLen;omega) HBW.out (n+1) rfl _ rfl ?_;intro A1 c1 x1 R1 g1;have RX:=Lib.hid R1;have GX:=Lib.hid g1;clear R1 g1)
  go_ret
  exact ⟨⟨_,_,rfl,RX.out⟩,GX.out⟩
end Go.Proofs.YtgkddhncfaeidaaGreat
namespace Go.Proofs.YtgkddhncfaeidaaGreat
open Go.ChangeShapes Go.WideShapes Go.ChangeAt Go.RowKit CrcM PageM
theorem kindB_inj {a b:Bool} (h:kindB a=kindB b):a=b:=by
 cases a <;> cases b <;> first | rfl | (exfalso;revert h;decide)
theorem nodeB_inj {n m:NodeD} (hl:n.leaf=m.leaf) (hn:okNode n) (hm:okNode m) (in_:inNode n) (im:inNode m) (h:nodeB n=nodeB m):n=m:=by
 have h2:n.es.flatMap enB ++ (n.ks.zip n.ds).flatMap kidB=m.es.flatMap enB ++ (m.ks.zip m.ds).flatMap kidB:=by
  unfold nodeB at h
  exact (List.cons.inj h).2
 obtain ⟨lf,es,ks,ds⟩:=n
 obtain ⟨lf2,es2,ks2,ds2⟩:=m
 dsimp only at hl h2
 subst hl
 unfold okNode at hn hm
 dsimp only at hn hm
 cases lf with
 | true =>
   rw [if_pos rfl] at hn hm
   obtain ⟨rfl,rfl,e1⟩:=hn
   obtain ⟨rfl,rfl,e2⟩:=hm
   simp only [List.zip_nil_left,List.flatMap_nil,List.append_nil] at h2
   have hlen:es.length=es2.length:=by
    have:=congrArg List.length h2
    rw [flat_len length_enB,flat_len length_enB] at this
    omega
   have q1:=entsP_enB es (fun e he=>⟨okEnts_mem e1 e he,in_.1 e he⟩)
   have q2:=entsP_enB es2 (fun e he=>⟨okEnts_mem e2 e he,im.1 e he⟩)
   rw [h2,hlen,q2] at q1
   rw [q1]
 | false =>
   rw [if_neg (by decide)] at hn hm
   obtain ⟨rfl,l1,k1,d1⟩:=hn
   obtain ⟨rfl,l2,k2,d2⟩:=hm
   simp only [List.flatMap_nil,List.nil_append] at h2
   have hz1:(ks.zip ds).map Prod.fst=ks:=List.map_fst_zip (by omega)
   have hz2:(ks2.zip ds2).map Prod.fst=ks2:=List.map_fst_zip (by omega)
   have hy1:(ks.zip ds).map Prod.snd=ds:=List.map_snd_zip (by omega)
   have hy2:(ks2.zip ds2).map Prod.snd=ds2:=List.map_snd_zip (by omega)
   have hlen:(ks.zip ds).length=(ks2.zip ds2).length:=by
    have:=congrArg List.length h2
    rw [flat_len length_kidB,flat_len length_kidB] at this
    omega
   have okK:∀ {ks:List KeyD},okKeys ks→∀ k ∈ ks,okKey k.se:=fun h k hk=>by
    obtain ⟨i,hi⟩:=List.mem_iff_getElem?.1 hk
    obtain ⟨e,q1,q2,_⟩:=h.2.2 i (List.getElem?_eq_some_iff.1 hi).1
    rw [hi] at q1
    cases q1
    exact q2
   have q1:=keysP_kidB (ks.zip ds) (fun p hp=>⟨okK k1 p.1 (List.of_mem_zip hp).1,in_.2 p.1 (List.of_mem_zip hp).1⟩)
   have q2:=keysP_kidB (ks2.zip ds2) (fun p hp=>⟨okK k2 p.1 (List.of_mem_zip hp).1,im.2 p.1 (List.of_mem_zip hp).1⟩)
   have r1:=kidsP_kidB (ks.zip ds) (fun p hp=>okKids_mem d1 p.2 (List.of_mem_zip hp).2)
   have r2:=kidsP_kidB (ks2.zip ds2) (fun p hp=>okKids_mem d2 p.2 (List.of_mem_zip hp).2)
   rw [h2,hlen,q2,hz1,hz2] at q1
   rw [h2,hlen,r2,hy1,hy2] at r1
   rw [q1,r1]
theorem rdQ_fun {nw:List UInt8} {Ls a:Nat} {n m:NodeD} (ha:a<512) (h:rdQ nw Ls a n) (h':rdQ nw Ls a m):n=m:=by
 obtain ⟨a1,a2,a3,g,a4,a5⟩:=h
 obtain ⟨b1,b2,b3,g',b4,b5⟩:=h'
 have p1:=(parse_put (kindB n.leaf) a g (nodeB n) ha a4 (nd_len a1).1).2
 have p2:=(parse_put (kindB m.leaf) a g' (nodeB m) ha b4 (nd_len b1).1).2
 rw [← a5,b5,p2] at p1
 injection p1 with e1 e2 e3 e4
 exact nodeB_inj (kindB_inj e1).symm a1 b1 a2 b2 e4.symm
theorem rdL_read {U:List Bool} {nw nw':List UInt8} {Ls p gen:Nat} {V:List Bool} {rd:Nat→NodeD→Prop} {L:List (Nat × (NodeD × NdL))} (hrd:∀ a n,rd a n→rdQ nw Ls a n∧2≤a∧a<p∧V.getD a false=true) (hL:LaidOk p U V (L.map Prod.fst)) (hg:∀ x ∈ L,okNode x.2.1∧inNode x.2.1) (hLs:256*p≤Ls) (hgen:gen<18446744073709551616) (hp:PgsOf gen nw nw' L):∀ a n,rdL rd L a n→rdQ nw' Ls a n:=fun a n h=>by
 rcases h with h | ⟨l,h⟩
 ·obtain ⟨⟨a1,a2,a3,g,a4,a5⟩,_,_,hv⟩:=hrd a n h
  refine ⟨a1,a2,a3,g,a4,?_⟩
  rw [hp.2 a (fun hm=>by have:=(hL.2 a hm).2.2.2;rw [hv] at this;cases this)]
  exact a5
 ·have h1:=hL.2 a (List.mem_map_of_mem h)
  exact ⟨(hg _ h).1,(hg _ h).2,by have:=h1.2.1;omega,gen,hgen,hp.1 _ h⟩
end Go.Proofs.YtgkddhncfaeidaaGreat
namespace Go.Proofs.YtgkddhncfaeidaaGreat
open Go.RowKit Go.ChangeShapes Go.WideShapes Go.ChangeAt CrcM PageM
def rdU (nw:List UInt8) (Ls p:Nat) (U:List Bool) (a:Nat) (n:NodeD):Prop:=rdQ nw Ls a n∧2≤a∧a<p∧U.getD a false=true
theorem chain_sub {rd:Nat→NodeD→Prop} {h:Nat} {E:Nat→List EntD} (hl:∀ j,j<h→∃ (s:StepD) (parts:List PartD),LinkD rd j s (E j) (E (j+1)) parts):∀ d j,j+d=h→(E j).Sublist (E h)
 | 0,j,e=>by rw [show j=h by omega];exact List.Sublist.refl _
 | d+1,j,e=>by
   obtain ⟨s,parts,hk⟩:=hl j (by omega)
   obtain ⟨x,hx,hE⟩:=hk.at_
   have h1:=chain_sub hl d (j+1) (by omega)
   refine List.Sublist.trans ?_ h1
   rw [← hE,← hk.sum]
   exact parts_sub (List.mem_of_getElem? hx)
theorem meets_nil (c:Nat) (x:EntD) (w:World) :
 Calls Tryz.prog 40 #[.slice none 0 c,.agg #[.int .i64 x.se,.int .i64 x.st,.int .i64 x.en,.int .i64 x.ad,.int .i64 x.le,.int .i64 x.cn,.int .i64 x.co,.int .u32 x.cr]] w fun e w'=>e=.returned (.bool false)∧Below w.heap.size w w':=by
 go_enter Tryz.func40,Tryz.ntmps40
 go_wp2_with fail
 go_ret
 exact ⟨rfl,(Below.refl _ _).alloc (Nat.le_refl _) _⟩
theorem insert_known (gv g gen p a hh:Nat) (U V:List Bool) {B N gs gn Ls cs cn:Nat} {rw:Value} {st nw:List UInt8} {ws:List (Nat × List UInt8)} (es:List EntD) (x y:EntD) (he:okEnt x) (ht:TreeQ nw Ls a hh es) (hu:Up es) (hk:atK es x.key=some y) (w:World) (hv:ViewAt w gv g gen (p:Int) U V) (hd:Dk w B N g gs gn rw Ls cs cn st nw ws true (-1)) :
 Calls Tryz.prog 17 #[.pointer (some ⟨gv,0,none⟩),.agg #[.int .i64 (a:Int),.int .i64 (hh:Int)],.agg #[.int .i64 x.se,.int .i64 x.st,.int .i64 x.en,.int .i64 x.ad,.int .i64 x.le,.int .i64 x.cn,.int .i64 x.co,.int .u32 x.cr]] w fun e w'=>e=.returned (.tuple #[.agg #[.int .i64 0,.int .i64 0],.int .i64 11])∧Below w.heap.size w w':=by
 have HWY:=Lib.hid (fun W hW=>wayK_any gv g gen p a hh U V es x.key ht hu w hv hd W hW)
 rw [hk] at HWY
 dsimp only [enV,EntD.key] at HWY
 have HE:=Lib.hid he
 clear ht hu hk hv hd he
 obtain ⟨hi,hhi⟩:∃ hi:Int,hi=(hh:Int):=⟨_,rfl⟩
 rw [← hhi] at HWY ⊢
 clear hhi
 obtain ⟨w3,hw3⟩:∃ w3,w3=((w.alloc (.cells #[.int .i64 (a:Int),.int .i64 hi] 43)).alloc (.cells #[.int .i64 x.se,.int .i64 x.st,.int .i64 x.en,.int .i64 x.ad,.int .i64 x.le,.int .i64 x.cn,.int .i64 x.co,.int .u32 x.cr] 40)).alloc (.cells #[.int .i64 0,.int .i64 0] 43):=⟨_,rfl⟩
 have G1:Hid (w3.heap[w.heap.size]?=some (.cells #[.int .i64 (a:Int),.int .i64 hi] 43 (0,0))):=Lib.hid (by
  rw [hw3]
  exact row_stays (row_stays (heap_alloc_new w _) (alloc_bel rfl)) (alloc_bel rfl))
 have G2:Hid (w3.heap[w.heap.size+1]?=some (.cells #[.int .i64 x.se,.int .i64 x.st,.int .i64 x.en,.int .i64 x.ad,.int .i64 x.le,.int .i64 x.cn,.int .i64 x.co,.int .u32 x.cr] 40 (0,0))):=Lib.hid (by
  rw [hw3]
  have h1:=heap_alloc_new (w.alloc (.cells #[.int .i64 (a:Int),.int .i64 hi] 43)) (.cells #[.int .i64 x.se,.int .i64 x.st,.int .i64 x.en,.int .i64 x.ad,.int .i64 x.le,.int .i64 x.cn,.int .i64 x.co,.int .u32 x.cr] 40)
  rw [World.size_alloc] at h1
  exact row_stays h1 (alloc_bel rfl))
 have G3:Hid (w3.heap[w.heap.size+1+1]?=some (.cells #[.int .i64 0,.int .i64 0] 43 (0,0))):=Lib.hid (by
  rw [hw3]
  have h1:=heap_alloc_new ((w.alloc (.cells #[.int .i64 (a:Int),.int .i64 hi] 43)).alloc (.cells #[.int .i64 x.se,.int .i64 x.st,.int .i64 x.en,.int .i64 x.ad,.int .i64 x.le,.int .i64 x.cn,.int .i64 x.co,.int .u32 x.cr] 40)) (.cells #[.int .i64 0,.int .i64 0] 43)
  rw [World.size_alloc,World.size_alloc] at h1
  exact h1)
 have B3:Hid (Below w.heap.size w w3):=Lib.hid (by
  rw [hw3]
  exact (((Below.refl _ w).alloc (Nat.le_refl _) _).alloc (by simp) _).alloc (by simp;omega) _)
 have HW3:=Lib.hid hw3
 clear hw3
 go_enter Tryz.func17,Tryz.ntmps17
 go_upto_region 1 with fail
 rw [← HW3.out]
 clear HW3
 go_upto_region 3 with (first
  | (refine wpList_load_row rfl 40 (.tmp 5) rfl (w.heap.size+1) rfl 40 _ (0,0) _ G2.out Tryz.underlying40 rfl (by kernel_rfl) ?_)
  | (go_at_call 39;refine (rightEntry_yes x HE.out _).mono ?_;rintro e w4 ⟨rfl,hb4⟩;have R1:=Lib.hid (row_stays G1.out hb4);have R2:=Lib.hid (row_stays G2.out hb4);have R3:=Lib.hid (row_stays G3.out hb4);have B4:=Lib.hid (B3.out.trans (hb4.mono B3.out.size));clear hb4))
 have z0:=nd_cell R2.out 0 (.int .i64 x.se) rfl
 have z1:=nd_cell R2.out 1 (.int .i64 x.st) rfl
 go_upto_region 6 with (first
  | (refine wpList_load_row rfl 43 (.tmp 4) rfl w.heap.size rfl 43 _ (0,0) _ R1.out Tryz.underlying43 rfl (by kernel_rfl) ?_)
  | (go_at_call 35;refine (HWY.out _ B4.out).mono ?_;rintro e w5 ⟨A,n,c,rfl,hb5,hk5⟩;have HK:=Lib.hid hk5;have S2:=Lib.hid (row_stays R2.out hb5);have S3:=Lib.hid (row_stays R3.out hb5);have B5:=Lib.hid (B4.out.trans (hb5.mono B4.out.size));clear hb5 hk5))
 clear z0 z1
 have z0:=nd_cell S2.out 0 (.int .i64 x.se) rfl
 have z1:=nd_cell S2.out 1 (.int .i64 x.st) rfl
 go_upto_region 7 with (go_at_call 36;refine (HK.out _ (Below.refl _ _)).mono ?_;rintro e w6 ⟨rfl,hb6⟩;have T3:=Lib.hid (row_stays S3.out hb6);have B6:=Lib.hid (B5.out.trans (hb6.mono B5.out.size));clear hb6)
 clear z0 z1
 obtain ⟨w7,hw7⟩:∃ w7,w7=w6.alloc (.cells #[.int .i64 y.se,.int .i64 y.st,.int .i64 y.en,.int .i64 y.ad,.int .i64 y.le,.int .i64 y.cn,.int .i64 y.co,.int .u32 y.cr] 40):=⟨_,rfl⟩
 have A7:=Lib.hid (alloc_bel hw7)
 have G7:=Lib.hid (row_stays T3.out A7.out)
 have B7:=Lib.hid (B6.out.trans (A7.out.mono B6.out.size))
 rw [← hw7]
 clear hw7
 go_wp2_with (refine wpList_store_row rfl 43 (.tmp 6) (.tmp 38) rfl (w.heap.size+1+1) _ rfl rfl 43 _ G7.out (by kernel_rfl) rfl (by simp [Value.oneCell']) ?_)
 refine bodyPost_ret (v:=.tuple #[.agg #[.int .i64 0,.int .i64 0],.int .i64 11]) (results_cell_tmpB (p:=6) (u:=7) (ty:=43) rfl _ _ (w.heap.size+1+1) 43 _ (0,0) _ rfl (setRow_heap _ _ _ _ _ _ G7.out) Tryz.underlying43 rfl (by kernel_rfl)) rfl ⟨rfl,?_⟩
 exact below_setRow B7.out (by omega) _
theorem okN_small {n:NodeD} (h:okNode n):n.es.length≤7∧n.ks.length≤16:=by
 unfold okNode at h
 split at h
 ·have h1:=h.2.2.2.1
  rw [h.1]
  exact ⟨h1,Nat.zero_le _⟩
 ·have h1:=h.2.2.1.2.1
  rw [h.1]
  exact ⟨Nat.zero_le _,h1⟩
def SmI (h:Nat) (pre:List StepM) (n0:NodeD) (U:List Bool) (j:Nat) (n:NodeD) (L:List (Nat × (NodeD × NdL))) (U1:List Bool):Prop :=
 (j=0→n=n0∧L=[]∧U1=gaveN U (pre.map fun x=>x.s.a))∧(j=1→fewB n0=false→∃ x,pre[h - 1]?=some x∧WiS x.s n0 n L (gaveN U (pre.map fun x=>x.s.a)) U1)
theorem smI_zero (h:Nat) (pre:List StepM) (n0:NodeD) (U:List Bool):SmI h pre n0 U 0 n0 [] (gaveN U (pre.map fun x=>x.s.a)):=⟨fun _=>⟨rfl,rfl,rfl⟩,fun h=>by cases h⟩
theorem smI_step (h:Nat) (pre:List StepM) (n0:NodeD) (U:List Bool):∀ (j:Nat) (x:StepM) (n n':NodeD) (L Lx:List (Nat × (NodeD × NdL))) (U1 U':List Bool),j<h→pre[h - 1 - j]?=some x→SmI h pre n0 U j n L U1→(fewB n=false→WiS x.s n n' Lx U1 U')→SmI h pre n0 U (j+1) n' (L ++ Lx) U':=fun j x n n' L Lx U1 U' hj hx hs hw=>by
 refine ⟨fun h=>by omega,fun h1 hf=>?_⟩
 obtain rfl:j=0:=by omega
 obtain ⟨rfl,rfl,rfl⟩:=hs.1 rfl
 exact ⟨x,hx,hw hf⟩
def InsS (h:Nat) (ss:List StepD) (n0:NodeD) (U:List Bool) (a' hh':Nat) (L':List (Nat × (NodeD × NdL))) (U':List Bool):Prop :=
 (h=0→TopS n0 0 [] (gaveN U (ss.map fun x=>x.a)) a' hh' L' U') ∧
 (h=1→fewB n0=false→∃ s n Lx U1,ss[0]?=some s∧WiS s n0 n Lx (gaveN U (ss.map fun x=>x.a)) U1∧TopS n 1 Lx U1 a' hh' L' U')
structure InsR (nw:List UInt8) (Ls p gen:Nat) (U V:List Bool) (h a:Nat) (nr:NodeD) (es:List EntD) (e:EntD) (a' hh':Nat) (U':List Bool) (L':List (Nat × (NodeD × NdL))):Prop where
 fit:FitU p (orK U V 512) U' 0 (L'.map Prod.fst)
 cnt:L'.length≤2*h+3
 tree:∀ nw',PgsOf gen nw nw' L'→(∀ b n,rdL (rdU nw Ls p U) L' b n→rdQ nw' Ls b n)∧TreeOf (rdQ nw' Ls) a' hh' (es ++ [e])
 shape:∃ (ss:List StepD) (sl:StepD),Down (rdU nw Ls p U) e.key h a nr es ss∧ss[h]?=some sl∧InsS h ss ⟨true,sl.n.es ++ [e],[],[]⟩ U a' hh' L' U'
theorem insert_last (gv g gen p a h:Nat) (U V:List Bool) {B N gs gn Ls cs cn:Nat} {rw:Value} {st nw:List UInt8} {ws:List (Nat × List UInt8)} (nr:NodeD) (es:List EntD) (e:EntD)
 (hr:rdU nw Ls p U a nr) (ht:Tre (rdU nw Ls p U) h nr es) (h3:h≤3) (h1e:1≤es.length) (hg:GoodE es) (hoe:okEnt e∧inEnt e) (hap:∀ x ∈ es,apartB x e=true) (hU:U.length=512) (hV:V.length=512) (okU:okM (p:Int) U) (okV:okM (p:Int) V) (hroom:RoomP p (orK U V 512) U (2*h+3)) (hgen:gen<18446744073709551616) (hws:ws.length+36≤990) (hLs:256*p≤Ls) (w:World) (hv:ViewAt w gv g gen (p:Int) U V) (hd:Dk w B N g gs gn rw Ls cs cn st nw ws true (-1)) :
 Calls Tryz.prog 17 #[.pointer (some ⟨gv,0,none⟩),.agg #[.int .i64 (a:Int),.int .i64 ((h:Int)+1)],.agg #[.int .i64 e.se,.int .i64 e.st,.int .i64 e.en,.int .i64 e.ad,.int .i64 e.le,.int .i64 e.cn,.int .i64 e.co,.int .u32 e.cr]] w fun e' w'=>∃ (a' hh':Nat) (U':List Bool) (L:List (Nat × (NodeD × NdL))),e'=.returned (.tuple #[.agg #[.int .i64 (a':Int),.int .i64 (hh':Int)],.int .i64 0])∧Wrote w w' gv g gen p U' V B gs gn Ls cs cn rw st nw ws L∧InsR nw Ls p gen U V h a nr es e a' hh' U' L:=by
 have h4:h≤4:=by omega
 have hp5:p≤512:=by have:=okU.2.1;omega
 have hup:∀ x ∈ es,lessB x.key e.key=true:=fun x hx=>apt_less (hap x hx)
 have HWY:=Lib.hid (fun W (hW:Below w.heap.size w W)=>way_of gv g gen p a h U V nr es e.key (fun a n (h:rdU nw Ls p U a n)=>h.1) hr ht h1e h4 W (hv.below hW) (hd.below hW) ((h:Int)+1) rfl)
 dsimp only [EntD.key] at HWY
 have HR:=Lib.hid hr
 have HT:=Lib.hid ht
 have HG:=Lib.hid hg
 have HE:=Lib.hid hoe
 have HAP:=Lib.hid hap
 have HUP:=Lib.hid hup
 have HU:=Lib.hid hU
 have HV:=Lib.hid hV
 have HOU:=Lib.hid okU
 have HOV:=Lib.hid okV
 have HRM:=Lib.hid hroom
 have HGN:=Lib.hid hgen
 have HWS:=Lib.hid hws
 have HLS:=Lib.hid hLs
 have HVW:=Lib.hid hv
 have HD:=Lib.hid hd
 have HP5:=Lib.hid hp5
 have H3:=Lib.hid h3
 clear hr ht hg hoe hap hup hU hV okU okV hroom hgen hws hLs hv hd hp5 h1e h3
 obtain ⟨w3,hw3⟩:∃ w3,w3=((w.alloc (.cells #[.int .i64 (a:Int),.int .i64 ((h:Int)+1)] 43)).alloc (.cells #[.int .i64 e.se,.int .i64 e.st,.int .i64 e.en,.int .i64 e.ad,.int .i64 e.le,.int .i64 e.cn,.int .i64 e.co,.int .u32 e.cr] 40)).alloc (.cells #[.int .i64 0,.int .i64 0] 43):=⟨_,rfl⟩
 have G1:Hid (w3.heap[w.heap.size]?=some (.cells #[.int .i64 (a:Int),.int .i64 ((h:Int)+1)] 43 (0,0))):=Lib.hid (by
  rw [hw3]
  exact row_stays (row_stays (heap_alloc_new w _) (alloc_bel rfl)) (alloc_bel rfl))
 have G2:Hid (w3.heap[w.heap.size+1]?=some (.cells #[.int .i64 e.se,.int .i64 e.st,.int .i64 e.en,.int .i64 e.ad,.int .i64 e.le,.int .i64 e.cn,.int .i64 e.co,.int .u32 e.cr] 40 (0,0))):=Lib.hid (by
  rw [hw3]
  have h1:=heap_alloc_new (w.alloc (.cells #[.int .i64 (a:Int),.int .i64 ((h:Int)+1)] 43)) (.cells #[.int .i64 e.se,.int .i64 e.st,.int .i64 e.en,.int .i64 e.ad,.int .i64 e.le,.int .i64 e.cn,.int .i64 e.co,.int .u32 e.cr] 40)
  rw [World.size_alloc] at h1
  exact row_stays h1 (alloc_bel rfl))
 have G3:Hid (w3.heap[w.heap.size+1+1]?=some (.cells #[.int .i64 0,.int .i64 0] 43 (0,0))):=Lib.hid (by
  rw [hw3]
  have h1:=heap_alloc_new ((w.alloc (.cells #[.int .i64 (a:Int),.int .i64 ((h:Int)+1)] 43)).alloc (.cells #[.int .i64 e.se,.int .i64 e.st,.int .i64 e.en,.int .i64 e.ad,.int .i64 e.le,.int .i64 e.cn,.int .i64 e.co,.int .u32 e.cr] 40)) (.cells #[.int .i64 0,.int .i64 0] 43)
  rw [World.size_alloc,World.size_alloc] at h1
  exact h1)
 have B3:Hid (Below w.heap.size w w3):=Lib.hid (by
  rw [hw3]
  exact (((Below.refl _ w).alloc (Nat.le_refl _) _).alloc (by simp) _).alloc (by simp;omega) _)
 have Z3:Hid (w3.heap.size=w.heap.size+3):=Lib.hid (by rw [hw3];simp)
 have HW3:=Lib.hid hw3
 clear hw3
 go_enter Tryz.func17,Tryz.ntmps17
 go_upto_region 1 with fail
 rw [← HW3.out]
 clear HW3
 obtain ⟨b6,hb6⟩:∃ b6,b6=w.heap.size+1+1:=⟨_,rfl⟩
 rw [← hb6] at G3 ⊢
 have HB6:=Lib.hid hb6
 clear hb6
 go_upto_region 3 with (first
  | (refine wpList_load_row rfl 40 (.tmp 5) rfl (w.heap.size+1) rfl 40 _ (0,0) _ G2.out Tryz.underlying40 rfl (by kernel_rfl) ?_)
  | (go_at_call 39;refine (rightEntry_yes e HE.out.1 _).mono ?_;rintro e' w4 ⟨rfl,hb4⟩;have R1:=Lib.hid (row_stays G1.out hb4);have R2:=Lib.hid (row_stays G2.out hb4);have R3:=Lib.hid (row_stays G3.out hb4);have B4:=Lib.hid (B3.out.trans (hb4.mono B3.out.size));have Z4:=Lib.hid hb4.size;clear hb4))
 have z0:=nd_cell R2.out 0 (.int .i64 e.se) rfl
 have z1:=nd_cell R2.out 1 (.int .i64 e.st) rfl
 go_upto_region 4 with (first
  | (refine wpList_load_row rfl 43 (.tmp 4) rfl w.heap.size rfl 43 _ (0,0) _ R1.out Tryz.underlying43 rfl (by kernel_rfl) ?_)
  | (go_at_call 35;refine (HWY.out _ B4.out).mono ?_;rintro e5 w5 ⟨pre,A,c,rfl,hs5,hdn⟩;have HS:=Lib.hid hs5;have HDN:=Lib.hid hdn;have S2:=Lib.hid (row_stays R2.out hs5.bel);have S3:=Lib.hid (row_stays R3.out hs5.bel);clear hs5 hdn))
 clear z0 z1 R1 R2 R3 HWY
 have B5:Hid (Below w.heap.size w w5):=Lib.hid (B4.out.trans (HS.out.bel.mono B4.out.size))
 have hlen:pre.length=h+1:=by have:=HDN.out.len;rw [List.length_map] at this;exact this
 have HLEN:=Lib.hid hlen
 rw [hlen]
 obtain ⟨E,hEh,⟨sl,hsl,hsleaf,hslE,hslk,hsld,hslr,hslp⟩,hlk⟩:=HDN.out.chain HR.out HT.out
 obtain ⟨hri,s9,Y,hs9,hat9,hYs⟩:=Down.right HT.out HDN.out HUP.out
 have hs9':s9=sl:=by rw [hs9] at hsl;cases hsl;rfl
 subst hs9'
 obtain ⟨x,hx,hxs⟩:∃ x:StepM,pre[h]?=some x∧x.s=s9:=by
  rw [List.getElem?_map] at hsl
  exact Option.map_eq_some_iff.1 hsl
 subst hxs
 obtain ⟨⟨xa,⟨lf,ls,ks,ds⟩,r⟩,xl⟩:=x
 dsimp only at hsl hsleaf hslE hslk hsld hslr hslp hat9 hYs hs9
 subst hsleaf hslk hsld
 clear hslp hs9
 have HX:=Lib.hid hx
 have HLK:=Lib.hid hlk
 have HEH:=Lib.hid hEh
 have HE0:=Lib.hid hslE
 have HXR:=Lib.hid hslr
 have HRI:=Lib.hid hri
 have HY:=Lib.hid hYs
 have HSL:=Lib.hid hsl
 obtain ⟨n,hn⟩:∃ n,n=ls.length:=⟨_,rfl⟩
 have hrn:r=n:=by rw [hn];exact hat9
 have hn7:1≤n∧n≤7:=by
  have h1:=hslr.1.1
  unfold okNode at h1
  rw [if_pos rfl] at h1
  rw [hn]
  exact ⟨h1.2.2.1,h1.2.2.2.1⟩
 have HN:=Lib.hid hn
 clear hat9
 subst hrn
 have HALL:Hid (∀ y ∈ pre,rdU nw Ls p U y.s.a y.s.n):=Lib.hid (fun y hy=>by
  obtain ⟨i,hi⟩:=List.mem_iff_getElem?.1 hy
  have hil:=(List.getElem?_eq_some_iff.1 hi).1
  by_cases hih:i=h
  ·subst hih
   rw [HX.out] at hi
   cases hi
   exact HXR.out
  ·obtain ⟨s,parts,q1,q2⟩:=HLK.out (h - 1 - i) (by have:=HLEN.out;omega)
   rw [show h - 1 - (h - 1 - i)=i by have:=HLEN.out;omega,List.getElem?_map,hi] at q1
   cases q1
   exact q2.rd_)
 have HRJ:Hid (∀ (i:Nat) (y:StepM),pre[i]?=some y→i<h→y.s.at_+1=y.s.n.ds.length∧y.s.n.ks.length=y.s.n.ds.length):=Lib.hid (fun i y hy hi=>HRI.out i y.s (by rw [List.getElem?_map,hy];rfl) hi)
 have HSZ:Hid (∀ y ∈ pre,y.s.n.es.length≤1000∧y.s.n.ks.length≤1000∧y.s.at_≤1000):=Lib.hid (fun y hy=>by
  have h1:=okN_small (HALL.out y hy).1.1
  obtain ⟨i,hi⟩:=List.mem_iff_getElem?.1 hy
  have hil:=(List.getElem?_eq_some_iff.1 hi).1
  refine ⟨by omega,by omega,?_⟩
  by_cases hih:i=h
  ·subst hih
   rw [HX.out] at hi
   cases hi
   show r≤1000
   omega
  ·have h2:=HRJ.out i y hi (by have:=HLEN.out;omega)
   omega)
 have hxm:=List.mem_of_getElem? hx
 have hpx:pre=pre.take h ++ [⟨⟨xa,⟨true,ls,[],[]⟩,r⟩,xl⟩]:=by
  have h1:=List.take_append_drop h pre
  have h2:=List.drop_eq_getElem_cons (List.getElem?_eq_some_iff.1 hx).1
  have h3:pre.drop (h+1)=[]:=List.drop_eq_nil_of_le (by omega)
  rw [(List.getElem?_eq_some_iff.1 hx).2,h3] at h2
  rw [h2] at h1
  exact h1.symm
 have HRW:Hid (w5.ownsRow w4.heap.size 96 6 (.slice A (h+1) c) (h+1) (pre.flatMap stC)):=Lib.hid (by have h1:=HS.out.row;rw [hlen] at h1;exact h1)
 have HKN:Hid (∀ X,Below w5.heap.size w5 X→Calls Tryz.prog 36 #[.slice A (h+1) c,.agg #[.int .i64 e.se,.int .i64 e.st]] X fun e' w'=>e'=.returned (.tuple #[.agg #[.int .i64 0,.int .i64 0,.int .i64 0,.int .i64 0,.int .i64 0,.int .i64 0,.int .i64 0,.int .u32 0],.bool false])∧Below X.heap.size X w'):=Lib.hid (fun X hX=>by
  have h1:=row_below HRW.out hX
  rw [hpx] at h1
  have hkn:=known_last (pre.take h) ⟨⟨xa,⟨true,ls,[],[]⟩,r⟩,xl⟩ A c (h+1) _ e.key X (by rw [List.length_take,hlen];omega) (by omega) h1 ((HS.out.below hX).nod _ hxm).own.at (by show ls.length≤_;omega) (by show r≤ls.length;omega)
  refine hkn.mono ?_
  rintro e' w'' ⟨rfl,hb⟩
  refine ⟨?_,hb⟩
  have h2:knV ls r e.key=[zeV,.bool false]:=by
   unfold knV
   rw [List.getElem?_eq_none (by omega)]
  show Ending.returned (Value.tuple (knV ls r e.key).toArray)=_
  rw [h2]
  rfl)
 have HME:Hid (∀ X,Below w5.heap.size w5 X→Calls Tryz.prog 40 #[.slice A (h+1) c,.agg #[.int .i64 e.se,.int .i64 e.st,.int .i64 e.en,.int .i64 e.ad,.int .i64 e.le,.int .i64 e.cn,.int .i64 e.co,.int .u32 e.cr]] X fun e' w'=>e'=.returned (.bool false)∧Below X.heap.size X w'):=Lib.hid (fun X hX =>
  meets_no pre A c h w4.heap.size w4.heap.size ⟨⟨xa,⟨true,ls,[],[]⟩,r⟩,xl⟩ e HLEN.out h4 HX.out X (row_below HRW.out hX) (fun y hy=>((HS.out.below hX).nod y hy).own) HSZ.out (by show r≤ls.length;omega)
   (fun y h0 hy hc=>by
    have hye:y ∈ es:=by rw [HY.out];exact List.mem_append_right _ (List.mem_of_getElem? hy)
    have h1:=HAP.out y hye
    unfold apartB at h1
    simp only [Bool.and_eq_true,Bool.or_eq_true,decide_eq_true_eq] at h1
    omega)
   (fun y hy=>by
    dsimp only at hy
    rw [List.getElem?_eq_none (by omega)] at hy
    cases hy)
   (fun i y k hi hy hk=>by
    have h1:=HRJ.out i y hy hi
    rw [List.getElem?_eq_none (by omega)] at hk
    cases hk))
 obtain ⟨b,hAb,hbw,hnc,hcm,hsr⟩:=SRow.of_row HRW.out hlen.symm (by omega)
 subst hAb
 have HSR:=Lib.hid hsr
 unfold maxLen at hcm
 clear hsr hx hlk hEh hslE hslr hn hxm hri hYs hsl hpx
 go_upto_region 6 with fail
 have z0:=nd_cell S2.out 0 (.int .i64 e.se) rfl
 have z1:=nd_cell S2.out 1 (.int .i64 e.st) rfl
 go_upto_region 7 with (go_at_call 36;refine (HKN.out _ (Below.refl _ _)).mono ?_;rintro e6 w6 ⟨rfl,hb6⟩;have B56:=Lib.hid hb6;clear hb6)
 clear z0 z1
 obtain ⟨w7,hw7⟩:∃ w7,w7=w6.alloc (.cells #[.int .i64 0,.int .i64 0,.int .i64 0,.int .i64 0,.int .i64 0,.int .i64 0,.int .i64 0,.int .u32 0] 40):=⟨_,rfl⟩
 have B57:Hid (Below w5.heap.size w5 w7):=Lib.hid (B56.out.trans ((alloc_bel hw7).mono B56.out.size))
 rw [← hw7]
 clear hw7
 have U2:=Lib.hid (row_stays S2.out B57.out)
 have hq0:((((h+1:Nat):Int)) == 0)=false:=by simp;omega
 have hq1:((h:Int)+1 == 0)=false:=by simp;omega
 go_upto_region 13 with (first
  | (refine wpList_load_row rfl 40 (.tmp 5) rfl (w.heap.size+1) rfl 40 _ (0,0) _ U2.out Tryz.underlying40 rfl (by kernel_rfl) ?_)
  | (go_at_call 40;refine (HME.out _ B57.out).mono ?_;rintro e8 w8 ⟨rfl,hb8⟩;have V2:=Lib.hid (row_stays U2.out hb8);have B58:=Lib.hid (B57.out.trans (hb8.mono B57.out.size));clear hb8))
 clear hq0 hq1
 have HS8:=Lib.hid (HS.out.below B58.out)
 have SR8:Hid (SRow w8 b pre):=Lib.hid (by
  obtain ⟨cur,q1,_⟩:=HSR.out
  exact HSR.out.same (B58.out.block b (Array.getElem?_eq_some_iff.1 q1).1))
 have HRG:Hid (w8.rangeAt b (h*6) [.int .i64 (xa:Int),.bool true,.slice xl.EA r xl.ec,.slice xl.KA 0 xl.kc,.slice xl.DA 0 xl.dc,.int .i64 (r:Int)]):=Lib.hid (by
  have h1:=SR8.out.range HX.out
  have h2:=HN.out
  rw [h2]
  rw [h2] at h1
  exact h1)
 have hw1:wrap64 (((h+1:Nat):Int) - 1)=(h:Int):=by unfold wrap64;omega
 have hw2:wrap64 ((h:Int)+1 - 1)=(h:Int):=by unfold wrap64;omega
 have hh1:(h:Int)<(h:Int)+1:=by omega
 have hh2:(h:Int)<((h+1:Nat):Int):=by omega
 go_upto_region 14 with (first
  | (refine wpList_load_mid rfl 96 (.tmp 56) rfl b (h*6) rfl [.int .i64 (xa:Int),.bool true,.slice xl.EA r xl.ec,.slice xl.KA 0 xl.kc,.slice xl.DA 0 xl.dc,.int .i64 (r:Int)] _ HRG.out Tryz.underlying96 rfl (by kernel_rfl) ?_)
  | (refine wpList_store_row rfl 96 (.tmp 12) (.tmp 57) rfl w8.heap.size #[.int .i64 (xa:Int),.bool true,.slice xl.EA r xl.ec,.slice xl.KA 0 xl.kc,.slice xl.DA 0 xl.dc,.int .i64 (r:Int)] rfl rfl 96 _ (heap_alloc_new _ _) (by kernel_rfl) rfl (by simp [Value.oneCell']) ?_))
 obtain ⟨b12,hb12⟩:∃ b12,b12=w8.heap.size:=⟨_,rfl⟩
 obtain ⟨w9,hw9⟩:∃ w9,w9=(w8.alloc (.cells #[.int .i64 0,.bool false,.slice none 0 0,.slice none 0 0,.slice none 0 0,.int .i64 0] 96)).setRow b12 #[.int .i64 (xa:Int),.bool true,.slice xl.EA r xl.ec,.slice xl.KA 0 xl.kc,.slice xl.DA 0 xl.dc,.int .i64 (r:Int)]:=⟨_,rfl⟩
 have B89:Hid (Below w8.heap.size w8 w9):=Lib.hid (by rw [hw9,hb12];exact below_setRow (alloc_bel rfl) (Nat.le_refl _) _)
 have K12:Hid (w9.heap[b12]?=some (.cells #[.int .i64 (xa:Int),.bool true,.slice xl.EA r xl.ec,.slice xl.KA 0 xl.kc,.slice xl.DA 0 xl.dc,.int .i64 (r:Int)] 96 (0,0))):=Lib.hid (by
  rw [hw9]
  exact setRow_heap _ _ _ _ _ _ (by rw [hb12];exact heap_alloc_new _ _))
 have HB12:Hid (w5.heap.size≤b12):=Lib.hid (by rw [hb12];exact B58.out.size)
 rw [← hb12,← hw9]
 clear hw9 hb12 hw1 hw2 hh1 hh2
 try simp only [Act.put,List.setIfInBounds_toArray,List.set_cons_zero,List.set_cons_succ]
 obtain ⟨w10,hw10⟩:∃ w10,w10=w9.alloc (.cells #[.int .i64 e.se,.int .i64 e.st,.int .i64 e.en,.int .i64 e.ad,.int .i64 e.le,.int .i64 e.cn,.int .i64 e.co,.int .u32 e.cr] 40):=⟨_,rfl⟩
 have BLIT:Hid (Below w9.heap.size w9 w10):=Lib.hid (alloc_bel hw10)
 have CL10:Hid (CellsAt w10 (some ⟨w9.heap.size,0,none⟩) (enC e)):=Lib.hid (by
  have h0:w10.heap[w9.heap.size]?=some (.cells (enC e).toArray 40 (0,0)):=by rw [hw10];exact heap_alloc_new _ _
  intro _
  refine ⟨w9.heap.size,0,rfl,fun j hj=>?_⟩
  rw [Nat.zero_add]
  exact nd_cell h0 j _ (by simp [hj]))
 have HW10:=Lib.hid hw10
 clear hw10
 have B510:Hid (Below w5.heap.size w5 w10):=Lib.hid (B58.out.trans ((B89.out.trans (BLIT.out.mono B89.out.size)).mono B58.out.size))
 have HS10:=Lib.hid (HS.out.below B510.out)
 have SR10:Hid (SRow w10 b pre):=Lib.hid (by
  obtain ⟨cur,q1,_⟩:=HSR.out
  exact HSR.out.same (B510.out.block b (Array.getElem?_eq_some_iff.1 q1).1))
 have G12:Hid (w10.heap[b12]?=some (.cells #[.int .i64 (xa:Int),.bool true,.slice xl.EA r xl.ec,.slice xl.KA 0 xl.kc,.slice xl.DA 0 xl.dc,.int .i64 (r:Int)] 96 (0,0))):=Lib.hid (row_stays K12.out BLIT.out)
 have RE10:Hid (w10.ownsRow w4.heap.size 40 8 (.slice xl.EA r xl.ec) r (ls.flatMap enC)):=Lib.hid (by
  have h1:=(HS10.out.nod _ (List.mem_of_getElem? HX.out)).re
  dsimp only at h1
  rw [← HN.out] at h1
  exact h1)
 have BW10':Hid (Below w.heap.size w w10):=Lib.hid (B5.out.trans (B510.out.mono B5.out.size))
 have HIN:=Lib.hid (ins_end w4.heap.size r xl.ec 1 xl.EA (some ⟨w9.heap.size,0,none⟩) (ls.flatMap enC) (enC e) w10 RE10.out hn7.1 CL10.out (by simp [enC]) (by omega) (fun u hu=>flat_one enC_one [e] u (by simpa using hu)) (by have:=HS10.out.bel.size;omega))
 have W2:=Lib.hid (row_stays V2.out B89.out)
 have c2:=nd_cell K12.out 2 (.slice xl.EA r xl.ec) rfl
 have c5:=nd_cell K12.out 5 (.int .i64 (r:Int)) rfl
 go_upto_region 15 with (first
  | (refine wpList_load_row rfl 40 (.tmp 5) rfl (w.heap.size+1) rfl 40 _ (0,0) _ W2.out Tryz.underlying40 rfl (by kernel_rfl) ?_)
  | (rw [← HW10.out];go_at_call 41;refine HIN.out.mono ?_;rintro e8 w11 ⟨⟨A',c',rfl,hr8⟩,hg8⟩;have R8:=Lib.hid hr8;have G8:=Lib.hid hg8;have G128:=Lib.hid ((typed_kept RE10.out hg8 (by decide) G12.out).trans G12.out);have c28:=nd_cell G128.out 2 (.slice xl.EA r xl.ec) rfl;have f28:w11.frozen? ⟨b12,2,none⟩=false:=(by simp [World.frozen?,G128.out]);clear hr8 hg8))
 clear c2 c5
 obtain ⟨vE,hvE⟩:∃ vE,vE=Value.slice A' (r+1) c':=⟨_,rfl⟩
 obtain ⟨w12,hw12⟩:∃ w12,w12=w11.setCell ⟨b12,2,none⟩ vE:=⟨_,rfl⟩
 have O89:Hid (∀ k,k≠b12→w12.heap[k]?=w11.heap[k]?):=Lib.hid (fun k hk=>by rw [hw12];exact Below.heap_setCell w11 ⟨b12,2,none⟩ vE k hk)
 have S89:Hid (w12.heap.size=w11.heap.size∧w12.os=w11.os∧w12.tape=w11.tape∧w12.output=w11.output):=Lib.hid (by rw [hw12];exact ⟨by simp,rfl,rfl,rfl⟩)
 have G129:Hid (w12.heap[b12]?=some (.cells #[.int .i64 (xa:Int),.bool true,vE,.slice xl.KA 0 xl.kc,.slice xl.DA 0 xl.dc,.int .i64 (r:Int)] 96 (0,0))):=Lib.hid (by
  rw [hw12]
  have h1:=heap_setCell_same w11 b12 2 _ _ vE G128.out
  simpa using h1)
 rw [← hvE,← hw12]
 have HVE:=Lib.hid hvE
 clear hw12 hvE c28 f28
 have KE:Hid (KeptNot 40 w10 w11):=Lib.hid (KeptNot.of_row RE10.out G8.out)
 have KT:Hid (∀ (j:Nat) (cs:Array Value) (T:TypeId) (fr:Nat × Nat),w10.heap[j]?=some (Obj.cells cs T fr)→T≠40→j≠b12→w12.heap[j]?=some (Obj.cells cs T fr)):=Lib.hid (fun j cs T fr hj hT hne=>(O89.out j hne).trans (KE.out.heap hj hT))
 have B410:Hid (Below w4.heap.size w4 w10):=Lib.hid (HS10.out.bel)
 have BW7:Hid (Below w.heap.size w w10):=BW10'
 have S79:Hid (w10.heap.size≤w12.heap.size):=Lib.hid (by rw [S89.out.1];exact G8.out.size)
 have BW9:Hid (Below w.heap.size w w12):=Lib.hid (by
  refine ⟨S89.out.2.1.trans (G8.out.os.trans BW7.out.os),S89.out.2.2.1.trans (G8.out.tape.trans BW7.out.tape),S89.out.2.2.2.trans (G8.out.output.trans BW7.out.output),Nat.le_trans BW7.out.size S79.out,fun j hj=>?_⟩
  have hb:j≠b12:=by have:=HB12.out;have:=B5.out.size;omega
  refine (O89.out j hb).trans ((G8.out.block j (Nat.lt_of_lt_of_le hj BW7.out.size) (fun e=>?_)).trans (BW7.out.block j hj))
  have:=(World.ownsRow.lt RE10.out j e.symm).1
  have:=B4.out.size
  omega)
 have V9:=Lib.hid (HVW.out.below BW9.out)
 have HBG:=Lib.hid (begin_yes gv g gen p U V HU.out HV.out w12 V9.out)
 go_upto_region 16 with (go_at_call 28;refine HBG.out.mono ?_;rintro e10 w13 ⟨gc,rfl,hc10,hb10⟩;have C10:=Lib.hid hc10;have B910:=Lib.hid hb10;clear hc10 hb10)
 have BW10:Hid (Below w.heap.size w w13):=Lib.hid (BW9.out.trans (B910.out.mono BW9.out.size))
 have V10:=Lib.hid (HVW.out.below BW10.out)
 have D10:=Lib.hid (HD.out.below BW10.out)
 have G1210:=Lib.hid (row_stays G129.out B910.out)
 obtain ⟨El,hEl⟩:∃ El,El=ls ++ [e]:=⟨_,rfl⟩
 have hEn:El.length=r+1:=by rw [hEl,List.length_append,← HN.out];rfl
 have HEN:=Lib.hid hEn
 have HEL:=Lib.hid hEl
 have ON10:Hid (OwnN w13 w4.heap.size ⟨true,El,[],[]⟩ ⟨A',c',xl.KA,xl.kc,xl.DA,xl.dc⟩):=Lib.hid (by
  have hnx:=HS10.out.nod _ (List.mem_of_getElem? HX.out)
  refine OwnN.below ⟨?_,?_,?_⟩ B910.out
  ·show w12.ownsRow w4.heap.size 40 8 (.slice A' El.length c') El.length (El.flatMap enC)
   have h1:=R8.out
   rw [show ls.flatMap enC ++ enC e=El.flatMap enC by rw [hEl,List.flatMap_append];simp,← hEn] at h1
   exact row_keep h1 (fun j cur _ hj=>O89.out j (fun e=>by rw [e,G128.out] at hj;cases hj))
  ·exact row_keep hnx.rk (fun j cur _ hj=>(KT.out j _ _ _ hj (by decide) (fun e=>by rw [e,G12.out] at hj;cases hj)).trans hj.symm)
  ·exact row_keep hnx.rd (fun j cur _ hj=>(KT.out j _ _ _ hj (by decide) (fun e=>by rw [e,G12.out] at hj;cases hj)).trans hj.symm))
 have RW10:Hid (w13.ownsRow w4.heap.size 96 6 (.slice (some ⟨b,0,none⟩) (h+1) c) (h+1) (pre.flatMap stC)):=Lib.hid (by
  have h1:=row_below HRW.out B510.out
  refine row_below (base:=w4.heap.size) (w:=w12) ?_ B910.out
  rcases h1.2 with ⟨h0,_⟩ | ⟨g',cap,cur,hv',hb',hg',rest⟩
  ·cases h0
  ·have hgb:b=g':=by
    injection hv' with q1 _ _
    simpa using q1
   have h2:=(World.ownsRow.lt HRW.out b rfl).2
   exact ⟨h1.1,.inr ⟨g',cap,cur,hv',hb',KT.out g' _ _ _ hg' (by decide) (fun e=>by have:=HB12.out;omega),rest⟩⟩)
 have HCL:=Lib.hid (climb_all gc gv g gen p w12.heap.size h 0 1 w4.heap.size w4.heap.size (SmI h pre ⟨true,El,[],[]⟩ U) U U V (orK U V 512) pre (some ⟨b,0,none⟩) c w4.heap.size ⟨true,El,[],[]⟩ ⟨A',c',xl.KA,xl.kc,xl.DA,xl.dc⟩ (rdU nw Ls p U) E El
  (fun a n hn=>⟨hn.1,hn.2.1,hn.2.2.1,by rw [getD_orK U V a 512 (by rw [HV.out];exact Nat.le_refl _),if_pos (by have:=hn.2.2.1;have:=HP5.out;omega),hn.2.2.2];simp⟩)
  (fun a m m' h1 h2=>rdQ_fun (by have:=h1.2.2.1;have:=HP5.out;omega) h1.1 h2.1) HLEN.out h4
  HALL.out
  (fun j hj=>by
   obtain ⟨s,parts,q1,q2⟩:=HLK.out j hj
   rw [List.getElem?_map] at q1
   obtain ⟨y,hy,hys⟩:=Option.map_eq_some_iff.1 q1
   subst hys
   exact ⟨y,parts,hy,q2⟩)
  ⟨rfl,rfl,rfl,rfl⟩ (by show El.length≤7+1;omega) (Nat.le_refl 1) (.inr H3.out) (.inr (fun i y hy hi=>(HRJ.out i y hy hi).1)) (smI_zero _ _ _ _) (smI_step _ _ _ _)
  (fun j hj E' hrep=>by
   rw [← HE0.out,HEL.out] at hrep
   have h2:=chain_sub (fun j hj=>by obtain ⟨s,parts,_,q2⟩:=HLK.out j hj;exact ⟨s,parts,q2⟩) (h - j) j (by omega)
   rw [HEH.out] at h2
   exact (good_last HG.out HE.out HAP.out HY.out (by have:=HN.out;omega) h2 hrep).2)
  (by rw [length_orK];exact HV.out) (okM_or HOU.out HOV.out HV.out) ⟨HU.out,HOU.out,HRM.out,List.nodup_nil,fun a ha=>by cases ha⟩ w13 C10.out V10.out D10.out RW10.out
  (fun i y hi hih=>by
   have hny:=HS10.out.nod y (List.mem_of_getElem? hi)
   obtain ⟨sb,⟨se,sk,sd⟩,te,tk,td⟩:=List.pairwise_iff_getElem.1 HS10.out.dis i h (List.getElem?_eq_some_iff.1 hi).1 (List.getElem?_eq_some_iff.1 HX.out).1 hih
   rw [(List.getElem?_eq_some_iff.1 hi).2] at se sk sd
   rw [(List.getElem?_eq_some_iff.1 HX.out).2] at te
   refine OwnN.below (hny.own.keepT fun bb cs T fr hb hA hT=>?_) B910.out
   have hbs:bb<sb:=by
    rcases hA with hA | hA | hA
    ·obtain ⟨z,hz,rfl⟩:=Option.map_eq_some_iff.1 hA
     exact se z hz
    ·obtain ⟨z,hz,rfl⟩:=Option.map_eq_some_iff.1 hA
     exact sk z hz
    ·obtain ⟨z,hz,rfl⟩:=Option.map_eq_some_iff.1 hA
     exact sd z hz
   refine (O89.out bb (fun e=>?_)).trans (G8.out.block bb (Array.getElem?_eq_some_iff.1 hb).1 (fun e=>?_))
   ·rw [e,G12.out] at hb
    cases hb
    revert hT
    decide
   ·have h1:=own_map e.symm
    obtain ⟨z,hz,hzb⟩:=Option.map_eq_some_iff.1 h1
    have:=te z hz
    omega)
  HS10.out.dis
  (fun y hy z hz=>by
   have h1:=own_blk (HS10.out.nod y hy).own z (.inr hz)
   have:=S79.out
   omega)
  ON10.out (by have:=HS10.out.bel.size;have:=S79.out;have:=B910.out.size;omega) B910.out.size)
 have HC2:Hid (Calls Tryz.prog 38 #[.pointer (some ⟨gc,0,none⟩),.slice (some ⟨b,0,none⟩) (h+1) c,.agg #[.bool true,.slice A' (r+1) c',.slice xl.KA 0 xl.kc,.slice xl.DA 0 xl.dc]] w13 fun e w'=>∃ (a hh:Nat) (L':List (Nat × (NodeD × NdL))) (U':List Bool) (lv':Value) (E':List EntD),e=.returned (.tuple #[.agg #[.int .i64 (a:Int),.int .i64 (hh:Int)],.int .i64 0]) ∧
  ChgS w' gc gv p w12.heap.size U' (orK U V 512) lv' L'∧FitU p (orK U V 512) U' 0 (L'.map Prod.fst)∧(∀ x ∈ L',NodeT w' x.2.1 x.2.2)∧(∀ x ∈ L',okNode x.2.1∧inNode x.2.1)∧OutS gc w12.heap.size (WayX pre) w13 w'∧Rep (E 0) El (E h) E'∧TreeOf (rdL (rdU nw Ls p U) L') a hh E'∧L'.length≤2*h+1+2*1∧∃ n L U1,SmI h pre ⟨true,El,[],[]⟩ U h n L U1∧TopS n h L U1 a hh L' U'):=Lib.hid (by
  have h1:=HCL.out
  dsimp only [List.length_nil] at h1
  rw [HEN.out] at h1
  exact h1)
 have HRG2:Hid (w13.rangeAt b12 1 [.bool true,.slice A' (r+1) c',.slice xl.KA 0 xl.kc,.slice xl.DA 0 xl.dc]):=Lib.hid (fun j u hu=>by
  have h1:=G1210.out
  rw [HVE.out] at h1
  refine nd_cell h1 (1+j) u ?_
  rcases j with _ | _ | _ | _ | j
  ·exact hu
  ·exact hu
  ·exact hu
  ·exact hu
  ·simp at hu)
 clear HCL HBG HIN hEl hEn
 have G610:Hid (w13.heap[b6]?=some (.cells #[.int .i64 0,.int .i64 0] 43 (0,0))):=Lib.hid (row_stays (KT.out b6 _ _ _ (row_stays S3.out B510.out) (by decide) (by have:=HB6.out;have:=HB12.out;have:=HS.out.bel.size;have:=Z3.out;have:=Z4.out;omega)) B910.out)
 go_wp2_with (first
  | (refine wpList_load_mid rfl 86 (.tmp 73) rfl b12 1 rfl [.bool true,.slice A' (r+1) c',.slice xl.KA 0 xl.kc,.slice xl.DA 0 xl.dc] _ HRG2.out Tryz.underlying86 rfl (by kernel_rfl) ?_)
  | (go_at_call 38;refine HC2.out.mono ?_;rintro e11 w14 ⟨ra,rh,L',U',lv',E',rfl,hc11,hf11,hl11,hg11,ho11,hr11,ht11,hn11,hs11⟩;have C11:=Lib.hid hc11;have F11:=Lib.hid hf11;have LY11:=Lib.hid hl11;have GD11:=Lib.hid hg11;have S11:=Lib.hid ho11;have RP11:=Lib.hid hr11;have TR11:=Lib.hid ht11;have CN11:=Lib.hid hn11;have SM11:=Lib.hid hs11;clear hc11 hf11 hl11 hg11 ho11 hr11 ht11 hn11 hs11))
 have HWX:Hid (∀ k,WayX pre k→w4.heap.size≤k):=Lib.hid (fun k hk=>by
  obtain ⟨y,hy,hyk⟩:=hk
  have h1:=own_blk (HS10.out.nod y hy).own
  rcases hyk with hyk | hyk
  ·obtain ⟨z,hz,rfl⟩:=Option.map_eq_some_iff.1 hyk
   exact (h1 z (.inr (.inl hz))).1
  ·obtain ⟨z,hz,rfl⟩:=Option.map_eq_some_iff.1 hyk
   exact (h1 z (.inr (.inr hz))).1)
 have BW11:Hid (Below w.heap.size w w14):=Lib.hid (by
  refine ⟨S11.out.os.trans BW10.out.os,S11.out.tape.trans BW10.out.tape,S11.out.output.trans BW10.out.output,Nat.le_trans BW10.out.size S11.out.size,fun j hj=>?_⟩
  have h9:=BW9.out.size
  refine (S11.out.block j (Nat.lt_of_lt_of_le hj BW10.out.size) (fun e=>?_) (fun hx=>?_) (fun hb=>?_)).trans (BW10.out.block j hj)
  ·have:=C10.out.B0
   omega
  ·have:=HWX.out j hx
   have:=Z3.out
   have:=Z4.out
   omega
  ·omega)
 have D11:=Lib.hid (HD.out.below BW11.out)
 have V11:=Lib.hid (HVW.out.below BW11.out)
 have G611:Hid (w14.heap[b6]?=some (.cells #[.int .i64 0,.int .i64 0] 43 (0,0))):=Lib.hid (S11.out.typed C10.out.chg G610.out (by decide) (by decide) (fun hx=>by have:=HWX.out b6 hx;have:=HB6.out;have:=Z3.out;have:=Z4.out;omega))
 refine (done_yes ra rh gc gv g gen p U' U V L' w14 D11.out V11.out (fun W hW=>?_)).mono ?_
 ·refine (write_yes gc gv p w12.heap.size gen U' U V (orK U V 512) lv' L' F11.out.len HU.out (by rw [length_orK];exact HV.out) HV.out HGN.out (by have:=CN11.out;have:=HWS.out;have:=H3.out;omega) F11.out.laid.1 (fun x hx=>⟨(GD11.out x hx).1,by have:=(F11.out.laid.2 x.1 (List.mem_map_of_mem hx)).2.1;have:=HLS.out;omega⟩) W (fun x hx=>((LY11.out x hx).below hW)) (C11.out.below hW) (V11.out.below hW) (D11.out.below hW)).mono ?_
  rintro e' w' ⟨h1,h2,h3,h4⟩
  exact ⟨h1,⟨h2,h3,h4⟩⟩
 ·rintro e12 w15 ⟨rfl,hw12⟩
  have W12:=Lib.hid hw12
  clear hw12
  have hX:¬ (DkX g gn rw b6∨b6=gv):=fun hx=>by
   rcases hx with hx | hx
   ·exact D11.out.notX G611.out (by decide) (.inl (by decide)) (by decide) hx
   ·have h1:=V11.out
    have h2:=G611.out
    unfold ViewAt at h1
    rw [hx,h1] at h2
    cases h2
  have G612:=Lib.hid (W12.out.out.heap G611.out hX)
  clear hX
  go_wp2_with (refine wpList_store_row rfl 43 (.tmp 6) (.tmp 79) rfl b6 #[.int .i64 (ra:Int),.int .i64 (rh:Int)] rfl rfl 43 _ G612.out (by kernel_rfl) rfl (by simp [Value.oneCell']) ?_)
  refine bodyPost_ret (v:=.tuple #[.agg #[.int .i64 (ra:Int),.int .i64 (rh:Int)],.int .i64 0]) (results_cell_tmpB (p:=6) (u:=7) (ty:=43) rfl _ _ b6 43 _ (0,0) _ rfl (setRow_heap _ _ _ _ _ _ G612.out) Tryz.underlying43 rfl (by kernel_rfl)) rfl ?_
  have hrep:=RP11.out
  rw [← HE0.out,HEH.out,HEL.out] at hrep
  have hEE:=(good_last HG.out HE.out HAP.out HY.out (by have:=HN.out;omega) (List.Sublist.refl _) hrep).1
  refine ⟨ra,rh,U',L',rfl,(W12.out.pre BW11.out).post (KeptNot.of_setRow G612.out _) (below_setRow (Below.refl _ _) ?_ _) (by decide) (by decide) (by decide) (by decide),{ fit:=F11.out,cnt:=by have:=CN11.out;omega,tree:=fun nw' hp=>?_,shape:=?_ }⟩
  ·have:=HB6.out;omega
  ·rw [← hEE]
   have hread:=rdL_read (V:=orK U V 512) (fun a n (hn:rdU nw Ls p U a n)=>⟨hn.1,hn.2.1,hn.2.2.1,by rw [getD_orK U V a 512 (by rw [HV.out];exact Nat.le_refl _),if_pos (by have:=hn.2.2.1;have:=HP5.out;omega),hn.2.2.2];simp⟩) F11.out.laid GD11.out HLS.out HGN.out hp
   refine ⟨fun b n hb=>hread b n hb,?_⟩
   rcases TR11.out with ⟨q1,q2⟩ | ⟨h9,n9,q1,q2,q3,q4,q5⟩
   ·exact .inl ⟨q1,q2⟩
   ·exact .inr ⟨h9,n9,q1,q2,Tre.mono hread q3,hread _ _ q4,q5⟩
  ·refine ⟨pre.map StepM.s,_,HDN.out,HSL.out,?_⟩
   obtain ⟨n1,L1,U1,s1,s2⟩:=SM11.out
   rw [HEL.out] at s1
   have hm:(pre.map StepM.s).map (fun x=>x.a)=pre.map fun x=>x.s.a:=by rw [List.map_map];rfl
   refine ⟨fun h0=>?_,fun h1 hf=>?_⟩
   ·obtain ⟨rfl,rfl,rfl⟩:=s1.1 h0
    subst h0
    rw [hm]
    exact s2
   ·obtain ⟨x,hx,hw⟩:=s1.2 h1 hf
    subst h1
    exact ⟨x.s,n1,L1,U1,by rw [List.getElem?_map,hx];rfl,by rw [hm];exact hw,s2⟩
end Go.Proofs.YtgkddhncfaeidaaGreat
