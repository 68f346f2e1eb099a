/- Squeezed: the texts as they are written lie in wip/tpl. -/
import Derived.Test.YtgkddhncfaeidaaGreatPart35
import Derived.Test.YtgkddhncfaeidaaGreatTfCl
import Derived.Test.YtgkddhncfaeidaaGreatPart40
set_option maxRecDepth 100000
set_option maxHeartbeats 16000000
set_option linter.unusedSimpArgs false
set_option linter.unusedVariables false
namespace Go.Proofs.YtgkddhncfaeidaaGreat
set_option linter.unnecessarySimpa false
open Go.RowKit Go.ChangeShapes Go.WideShapes Go.ChangeAt CrcM PageM
def SmG (ss:List StepD) (n0:NodeD) (U0:List Bool) (qs:List Nat) (j:Nat) (n:NodeD) (L:List (Nat × (NodeD × NdL))) (U1:List Bool):Prop :=
 (j=0→n=n0∧L=[]∧U1=U0)∧(j=1→L.map Prod.fst=qs∧U1=marks U0 qs∧∃ s,ss[0]?=some s∧WiS s n0 n L U0 U1)
theorem SmF.toG {pre:List StepM} {n0:NodeD} {U0:List Bool} {qs:List Nat} {j:Nat} {n:NodeD} {L:List (Nat × (NodeD × NdL))} {U1:List Bool} (h:SmF pre n0 U0 qs j n L U1):SmG (pre.map StepM.s) n0 U0 qs j n L U1:=⟨h.1,fun hj=>by
 obtain ⟨h1,h2,x,h3,h4⟩:=h.2 hj
 exact ⟨h1,h2,x.s,by rw [List.getElem?_map,h3];rfl,h4⟩⟩
theorem insert_by (gv g gen p a h pb:Nat) (qs:List Nat) (l:List EntD) (U V:List Bool) (Rs:Int→Int→List (Nat × (NodeD × NdL))→List Bool→Prop) (ss0:List StepD) {B N gs gn Ls cs cn:Nat} {rw:Value} {st nw:List UInt8} {ws:List (Nat × List UInt8)} (nr:NodeD) (es:List EntD) (e:EntD)
 (hr:rdU nw Ls p U a nr) (ht:Tre (rdU nw Ls p U) h nr es) (hh1:h≤1) (h1e:1≤es.length) (hg:GoodE es) (hoe:okEnt e∧inEnt e) (hap:∀ x ∈ es,apartB x e=true) (hU:U.length=512) (hV:V.length=512) (okU:okM (p:Int) U) (okV:okM (p:Int) V) (hgen:gen<18446744073709551616) (hws:ws.length+36≤990) (hLs:256*p≤Ls) (hrs:∀ ra rh L' U',Rs ra rh L' U'→(∃ a2 h2:Nat,ra=(a2:Int)∧rh=(h2:Int))∧U'.length=512∧L'.length≤3∧(L'.map Prod.fst).Nodup∧(∀ b ∈ L'.map Prod.fst,b<p)∧∀ x ∈ L',okNode x.2.1∧inNode x.2.1) (hway:∀ ss,Down (rdU nw Ls p U) e.key h a nr es ss→ss=ss0) (hss0:ss0[h]?=some ⟨pb,lfD l,l.length⟩)
 (hfw:h=1→fewB (lfD (l ++ [e]))=false) (hqs:h=1→∀ ps,SplitOf (lfD (l ++ [e])) ps→qs.length=ps.length) (htk:h=1→∀ gc,TakS gc gv g gen p U V (orK U V 512) (gaveN U (ss0.map fun x=>x.a)) qs) (hcl:∀ n L U1,SmG ss0 (lfD (l ++ [e])) (gaveN U (ss0.map fun x=>x.a)) qs h n L U1→cleanN n∧n.size≤32)
 (htop:∀ (gc B0:Nat) (W W1:World) (n:NodeD) (l':NdL) (L:List (Nat × (NodeD × NdL))) (lv:Value) (U1:List Bool) (A:Option Addr) (c:Nat) (ps:List (NodeD × NdL)),ViewAt W gv g gen (p:Int) U V→ChgS W gc gv p B0 U1 (orK U V 512) lv L→(∀ x ∈ L,OwnN W B0 x.2.1 x.2.2)→B0≤W.heap.size→SmG ss0 (lfD (l ++ [e])) (gaveN U (ss0.map fun x=>x.a)) qs h n L U1→Below W.heap.size W W1→SplitOf n (ps.map Prod.fst)→W1.ownsRow W.heap.size 86 4 (.slice A ps.length c) ps.length (ps.flatMap ndP)→(∀ x ∈ ps,OwnN W1 W.heap.size x.1 x.2) →
  Calls Tryz.prog 30 #[.pointer (some ⟨gc,0,none⟩),.slice A ps.length c,.int .i64 ((h:Int)+1)] W1 fun e9 w'=>∃ (ra rh:Int),e9=.returned (.tuple #[.agg #[.int .i64 ra,.int .i64 rh],.int .i64 0])∧OutS gc B0 (fun _=>False) W1 w'∧((0:Int)=0→∃ (L':List (Nat × (NodeD × NdL))) (U':List Bool) (lv':Value),ChgS w' gc gv p B0 U' (orK U V 512) lv' L'∧(∀ x ∈ L',NodeT w' x.2.1 x.2.2)∧Rs ra rh L' U')) (w:World) (hv:ViewAt w gv g gen (p:Int) U V) (hd:Dk w B N g gs gn rw Ls cs cn st nw ws true (-1)) :
 Calls Tryz.prog 17 #[.pointer (some ⟨gv,0,none⟩),.agg #[.int .i64 (a:Int),.int .i64 ((h:Int)+1)],.agg #[.int .i64 e.se,.int .i64 e.st,.int .i64 e.en,.int .i64 e.ad,.int .i64 e.le,.int .i64 e.cn,.int .i64 e.co,.int .u32 e.cr]] w fun e' w'=>∃ (ra rh:Int) (L':List (Nat × (NodeD × NdL))) (U':List Bool),e'=.returned (.tuple #[.agg #[.int .i64 ra,.int .i64 rh],.int .i64 0])∧Wrote w w' gv g gen p U' V B gs gn Ls cs cn rw st nw ws L'∧Rs ra rh L' U':=by
 have h4:h≤4:=by omega
 have h3:h≤3:=by omega
 have hp5:p≤512:=by have:=okU.2.1;omega
 have hup:∀ x ∈ es,lessB x.key e.key=true:=fun x hx=>apt_less (hap x hx)
 have HWY:=Lib.hid (fun W (hW:Below w.heap.size w W)=>way_of gv g gen p a h U V nr es e.key (fun a n (h:rdU nw Ls p U a n)=>h.1) hr ht h1e h4 W (hv.below hW) (hd.below hW) ((h:Int)+1) rfl)
 dsimp only [EntD.key] at HWY
 have HR:=Lib.hid hr
 have HT:=Lib.hid ht
 have HG:=Lib.hid hg
 have HE:=Lib.hid hoe
 have HAP:=Lib.hid hap
 have HUP:=Lib.hid hup
 have HU:=Lib.hid hU
 have HV:=Lib.hid hV
 have HOU:=Lib.hid okU
 have HOV:=Lib.hid okV
 have HWAY:=Lib.hid hway
 have HSS0:=Lib.hid hss0
 have HFW:=Lib.hid hfw
 have HQS:=Lib.hid hqs
 have HTK:=Lib.hid htk
 have HCLN:=Lib.hid hcl
 have HTO:=Lib.hid htop
 have HH1:=Lib.hid hh1
 have HRS:=Lib.hid hrs
 have HGN:=Lib.hid hgen
 have HWS:=Lib.hid hws
 have HLS:=Lib.hid hLs
 have HVW:=Lib.hid hv
 have HD:=Lib.hid hd
 have HP5:=Lib.hid hp5
 have H3:=Lib.hid h3
 clear hr ht hg hoe hap hup hU hV okU okV hgen hws hLs hrs hway hss0 hfw hqs htk hcl htop hh1 hv hd hp5 h1e h3
 obtain ⟨w3,hw3⟩:∃ w3,w3=((w.alloc (.cells #[.int .i64 (a:Int),.int .i64 ((h:Int)+1)] 43)).alloc (.cells #[.int .i64 e.se,.int .i64 e.st,.int .i64 e.en,.int .i64 e.ad,.int .i64 e.le,.int .i64 e.cn,.int .i64 e.co,.int .u32 e.cr] 40)).alloc (.cells #[.int .i64 0,.int .i64 0] 43):=⟨_,rfl⟩
 have G1:Hid (w3.heap[w.heap.size]?=some (.cells #[.int .i64 (a:Int),.int .i64 ((h:Int)+1)] 43 (0,0))):=Lib.hid (by
  rw [hw3]
  exact row_stays (row_stays (heap_alloc_new w _) (alloc_bel rfl)) (alloc_bel rfl))
 have G2:Hid (w3.heap[w.heap.size+1]?=some (.cells #[.int .i64 e.se,.int .i64 e.st,.int .i64 e.en,.int .i64 e.ad,.int .i64 e.le,.int .i64 e.cn,.int .i64 e.co,.int .u32 e.cr] 40 (0,0))):=Lib.hid (by
  rw [hw3]
  have h1:=heap_alloc_new (w.alloc (.cells #[.int .i64 (a:Int),.int .i64 ((h:Int)+1)] 43)) (.cells #[.int .i64 e.se,.int .i64 e.st,.int .i64 e.en,.int .i64 e.ad,.int .i64 e.le,.int .i64 e.cn,.int .i64 e.co,.int .u32 e.cr] 40)
  rw [World.size_alloc] at h1
  exact row_stays h1 (alloc_bel rfl))
 have G3:Hid (w3.heap[w.heap.size+1+1]?=some (.cells #[.int .i64 0,.int .i64 0] 43 (0,0))):=Lib.hid (by
  rw [hw3]
  have h1:=heap_alloc_new ((w.alloc (.cells #[.int .i64 (a:Int),.int .i64 ((h:Int)+1)] 43)).alloc (.cells #[.int .i64 e.se,.int .i64 e.st,.int .i64 e.en,.int .i64 e.ad,.int .i64 e.le,.int .i64 e.cn,.int .i64 e.co,.int .u32 e.cr] 40)) (.cells #[.int .i64 0,.int .i64 0] 43)
  rw [World.size_alloc,World.size_alloc] at h1
  exact h1)
 have B3:Hid (Below w.heap.size w w3):=Lib.hid (by
  rw [hw3]
  exact (((Below.refl _ w).alloc (Nat.le_refl _) _).alloc (by simp) _).alloc (by simp;omega) _)
 have Z3:Hid (w3.heap.size=w.heap.size+3):=Lib.hid (by rw [hw3];simp)
 have HW3:=Lib.hid hw3
 clear hw3
 go_enter Tryz.func17,Tryz.ntmps17
 go_upto_region 1 with fail
 rw [← HW3.out]
 clear HW3
 obtain ⟨b6,hb6⟩:∃ b6,b6=w.heap.size+1+1:=⟨_,rfl⟩
 rw [← hb6] at G3 ⊢
 have HB6:=Lib.hid hb6
 clear hb6
 go_upto_region 3 with (first
  | (refine wpList_load_row rfl 40 (.tmp 5) rfl (w.heap.size+1) rfl 40 _ (0,0) _ G2.out Tryz.underlying40 rfl (by kernel_rfl) ?_)
  | (go_at_call 39;refine (rightEntry_yes e HE.out.1 _).mono ?_;rintro e' w4 ⟨rfl,hb4⟩;have R1:=Lib.hid (row_stays G1.out hb4);have R2:=Lib.hid (row_stays G2.out hb4);have R3:=Lib.hid (row_stays G3.out hb4);have B4:=Lib.hid (B3.out.trans (hb4.mono B3.out.size));have Z4:=Lib.hid hb4.size;clear hb4))
 have z0:=nd_cell R2.out 0 (.int .i64 e.se) rfl
 have z1:=nd_cell R2.out 1 (.int .i64 e.st) rfl
 go_upto_region 4 with (first
  | (refine wpList_load_row rfl 43 (.tmp 4) rfl w.heap.size rfl 43 _ (0,0) _ R1.out Tryz.underlying43 rfl (by kernel_rfl) ?_)
  | (go_at_call 35;refine (HWY.out _ B4.out).mono ?_;rintro e5 w5 ⟨pre,A,c,rfl,hs5,hdn⟩;have HS:=Lib.hid hs5;have HDN:=Lib.hid hdn;have S2:=Lib.hid (row_stays R2.out hs5.bel);have S3:=Lib.hid (row_stays R3.out hs5.bel);clear hs5 hdn))
 clear z0 z1 R1 R2 R3 HWY
 have B5:Hid (Below w.heap.size w w5):=Lib.hid (B4.out.trans (HS.out.bel.mono B4.out.size))
 have hlen:pre.length=h+1:=by have:=HDN.out.len;rw [List.length_map] at this;exact this
 have HLEN:=Lib.hid hlen
 rw [hlen]
 obtain ⟨E,hEh,⟨sl,hsl,hsleaf,hslE,hslk,hsld,hslr,hslp⟩,hlk⟩:=HDN.out.chain HR.out HT.out
 obtain ⟨hri,s9,Y,hs9,hat9,hYs⟩:=Down.right HT.out HDN.out HUP.out
 have hs9':s9=sl:=by rw [hs9] at hsl;cases hsl;rfl
 subst hs9'
 obtain ⟨x,hx,hxs⟩:∃ x:StepM,pre[h]?=some x∧x.s=s9:=by
  rw [List.getElem?_map] at hsl
  exact Option.map_eq_some_iff.1 hsl
 subst hxs
 obtain ⟨⟨xa,⟨lf,ls,ks,ds⟩,r⟩,xl⟩:=x
 dsimp only at hsl hsleaf hslE hslk hsld hslr hslp hat9 hYs hs9
 subst hsleaf hslk hsld
 have hss:=HWAY.out _ HDN.out
 have HPS:Hid (pre.map StepM.s=ss0):=Lib.hid hss
 have HPA:Hid (pre.map (fun x=>x.s.a)=ss0.map (fun x=>x.a)):=Lib.hid (by rw [← hss,List.map_map];rfl)
 have HLL2:Hid (ls=l):=Lib.hid (by
  have h1:=hsl
  rw [hss,HSS0.out] at h1
  simp at h1
  have h2:=congrArg (fun s:NodeD=>s.es) h1.2.1
  exact h2.symm)
 clear hss
 clear hslp hs9
 have HX:=Lib.hid hx
 have HLK:=Lib.hid hlk
 have HEH:=Lib.hid hEh
 have HE0:=Lib.hid hslE
 have HXR:=Lib.hid hslr
 have HRI:=Lib.hid hri
 have HY:=Lib.hid hYs
 have HSL:=Lib.hid hsl
 obtain ⟨n,hn⟩:∃ n,n=ls.length:=⟨_,rfl⟩
 have hrn:r=n:=by rw [hn];exact hat9
 have hn7:1≤n∧n≤7:=by
  have h1:=hslr.1.1
  unfold okNode at h1
  rw [if_pos rfl] at h1
  rw [hn]
  exact ⟨h1.2.2.1,h1.2.2.2.1⟩
 have HN:=Lib.hid hn
 clear hat9
 subst hrn
 have HALL:Hid (∀ y ∈ pre,rdU nw Ls p U y.s.a y.s.n):=Lib.hid (fun y hy=>by
  obtain ⟨i,hi⟩:=List.mem_iff_getElem?.1 hy
  have hil:=(List.getElem?_eq_some_iff.1 hi).1
  by_cases hih:i=h
  ·subst hih
   rw [HX.out] at hi
   cases hi
   exact HXR.out
  ·obtain ⟨s,parts,q1,q2⟩:=HLK.out (h - 1 - i) (by have:=HLEN.out;omega)
   rw [show h - 1 - (h - 1 - i)=i by have:=HLEN.out;omega,List.getElem?_map,hi] at q1
   cases q1
   exact q2.rd_)
 have HRJ:Hid (∀ (i:Nat) (y:StepM),pre[i]?=some y→i<h→y.s.at_+1=y.s.n.ds.length∧y.s.n.ks.length=y.s.n.ds.length):=Lib.hid (fun i y hy hi=>HRI.out i y.s (by rw [List.getElem?_map,hy];rfl) hi)
 have HSZ:Hid (∀ y ∈ pre,y.s.n.es.length≤1000∧y.s.n.ks.length≤1000∧y.s.at_≤1000):=Lib.hid (fun y hy=>by
  have h1:=okN_small (HALL.out y hy).1.1
  obtain ⟨i,hi⟩:=List.mem_iff_getElem?.1 hy
  have hil:=(List.getElem?_eq_some_iff.1 hi).1
  refine ⟨by omega,by omega,?_⟩
  by_cases hih:i=h
  ·subst hih
   rw [HX.out] at hi
   cases hi
   show r≤1000
   omega
  ·have h2:=HRJ.out i y hi (by have:=HLEN.out;omega)
   omega)
 have hxm:=List.mem_of_getElem? hx
 have hpx:pre=pre.take h ++ [⟨⟨xa,⟨true,ls,[],[]⟩,r⟩,xl⟩]:=by
  have h1:=List.take_append_drop h pre
  have h2:=List.drop_eq_getElem_cons (List.getElem?_eq_some_iff.1 hx).1
  have h3:pre.drop (h+1)=[]:=List.drop_eq_nil_of_le (by omega)
  rw [(List.getElem?_eq_some_iff.1 hx).2,h3] at h2
  rw [h2] at h1
  exact h1.symm
 have HRW:Hid (w5.ownsRow w4.heap.size 96 6 (.slice A (h+1) c) (h+1) (pre.flatMap stC)):=Lib.hid (by have h1:=HS.out.row;rw [hlen] at h1;exact h1)
 have HKN:Hid (∀ X,Below w5.heap.size w5 X→Calls Tryz.prog 36 #[.slice A (h+1) c,.agg #[.int .i64 e.se,.int .i64 e.st]] X fun e' w'=>e'=.returned (.tuple #[.agg #[.int .i64 0,.int .i64 0,.int .i64 0,.int .i64 0,.int .i64 0,.int .i64 0,.int .i64 0,.int .u32 0],.bool false])∧Below X.heap.size X w'):=Lib.hid (fun X hX=>by
  have h1:=row_below HRW.out hX
  rw [hpx] at h1
  have hkn:=known_last (pre.take h) ⟨⟨xa,⟨true,ls,[],[]⟩,r⟩,xl⟩ A c (h+1) _ e.key X (by rw [List.length_take,hlen];omega) (by omega) h1 ((HS.out.below hX).nod _ hxm).own.at (by show ls.length≤_;omega) (by show r≤ls.length;omega)
  refine hkn.mono ?_
  rintro e' w'' ⟨rfl,hb⟩
  refine ⟨?_,hb⟩
  have h2:knV ls r e.key=[zeV,.bool false]:=by
   unfold knV
   rw [List.getElem?_eq_none (by omega)]
  show Ending.returned (Value.tuple (knV ls r e.key).toArray)=_
  rw [h2]
  rfl)
 have HME:Hid (∀ X,Below w5.heap.size w5 X→Calls Tryz.prog 40 #[.slice A (h+1) c,.agg #[.int .i64 e.se,.int .i64 e.st,.int .i64 e.en,.int .i64 e.ad,.int .i64 e.le,.int .i64 e.cn,.int .i64 e.co,.int .u32 e.cr]] X fun e' w'=>e'=.returned (.bool false)∧Below X.heap.size X w'):=Lib.hid (fun X hX =>
  meets_no pre A c h w4.heap.size w4.heap.size ⟨⟨xa,⟨true,ls,[],[]⟩,r⟩,xl⟩ e HLEN.out h4 HX.out X (row_below HRW.out hX) (fun y hy=>((HS.out.below hX).nod y hy).own) HSZ.out (by show r≤ls.length;omega)
   (fun y h0 hy hc=>by
    have hye:y ∈ es:=by rw [HY.out];exact List.mem_append_right _ (List.mem_of_getElem? hy)
    have h1:=HAP.out y hye
    unfold apartB at h1
    simp only [Bool.and_eq_true,Bool.or_eq_true,decide_eq_true_eq] at h1
    omega)
   (fun y hy=>by
    dsimp only at hy
    rw [List.getElem?_eq_none (by omega)] at hy
    cases hy)
   (fun i y k hi hy hk=>by
    have h1:=HRJ.out i y hy hi
    rw [List.getElem?_eq_none (by omega)] at hk
    cases hk))
 obtain ⟨b,hAb,hbw,hnc,hcm,hsr⟩:=SRow.of_row HRW.out hlen.symm (by omega)
 subst hAb
 have HSR:=Lib.hid hsr
 unfold maxLen at hcm
 clear hsr hx hlk hEh hslE hslr hn hxm hri hYs hsl hpx
 go_upto_region 6 with fail
 have z0:=nd_cell S2.out 0 (.int .i64 e.se) rfl
 have z1:=nd_cell S2.out 1 (.int .i64 e.st) rfl
 go_upto_region 7 with (go_at_call 36;refine (HKN.out _ (Below.refl _ _)).mono ?_;rintro e6 w6 ⟨rfl,hb6⟩;have B56:=Lib.hid hb6;clear hb6)
 clear z0 z1
 obtain ⟨w7,hw7⟩:∃ w7,w7=w6.alloc (.cells #[.int .i64 0,.int .i64 0,.int .i64 0,.int .i64 0,.int .i64 0,.int .i64 0,.int .i64 0,.int .u32 0] 40):=⟨_,rfl⟩
 have B57:Hid (Below w5.heap.size w5 w7):=Lib.hid (B56.out.trans ((alloc_bel hw7).mono B56.out.size))
 rw [← hw7]
 clear hw7
 have U2:=Lib.hid (row_stays S2.out B57.out)
 have hq0:((((h+1:Nat):Int)) == 0)=false:=by simp;omega
 have hq1:((h:Int)+1 == 0)=false:=by simp;omega
 go_upto_region 13 with (first
  | (refine wpList_load_row rfl 40 (.tmp 5) rfl (w.heap.size+1) rfl 40 _ (0,0) _ U2.out Tryz.underlying40 rfl (by kernel_rfl) ?_)
  | (go_at_call 40;refine (HME.out _ B57.out).mono ?_;rintro e8 w8 ⟨rfl,hb8⟩;have V2:=Lib.hid (row_stays U2.out hb8);have B58:=Lib.hid (B57.out.trans (hb8.mono B57.out.size));clear hb8))
 clear hq0 hq1
 have HS8:=Lib.hid (HS.out.below B58.out)
 have SR8:Hid (SRow w8 b pre):=Lib.hid (by
  obtain ⟨cur,q1,_⟩:=HSR.out
  exact HSR.out.same (B58.out.block b (Array.getElem?_eq_some_iff.1 q1).1))
 have HRG:Hid (w8.rangeAt b (h*6) [.int .i64 (xa:Int),.bool true,.slice xl.EA r xl.ec,.slice xl.KA 0 xl.kc,.slice xl.DA 0 xl.dc,.int .i64 (r:Int)]):=Lib.hid (by
  have h1:=SR8.out.range HX.out
  have h2:=HN.out
  rw [h2]
  rw [h2] at h1
  exact h1)
 have hw1:wrap64 (((h+1:Nat):Int) - 1)=(h:Int):=by unfold wrap64;omega
 have hw2:wrap64 ((h:Int)+1 - 1)=(h:Int):=by unfold wrap64;omega
 have hh1:(h:Int)<(h:Int)+1:=by omega
 have hh2:(h:Int)<((h+1:Nat):Int):=by omega
 go_upto_region 14 with (first
  | (refine wpList_load_mid rfl 96 (.tmp 56) rfl b (h*6) rfl [.int .i64 (xa:Int),.bool true,.slice xl.EA r xl.ec,.slice xl.KA 0 xl.kc,.slice xl.DA 0 xl.dc,.int .i64 (r:Int)] _ HRG.out Tryz.underlying96 rfl (by kernel_rfl) ?_)
  | (refine wpList_store_row rfl 96 (.tmp 12) (.tmp 57) rfl w8.heap.size #[.int .i64 (xa:Int),.bool true,.slice xl.EA r xl.ec,.slice xl.KA 0 xl.kc,.slice xl.DA 0 xl.dc,.int .i64 (r:Int)] rfl rfl 96 _ (heap_alloc_new _ _) (by kernel_rfl) rfl (by simp [Value.oneCell']) ?_))
 obtain ⟨b12,hb12⟩:∃ b12,b12=w8.heap.size:=⟨_,rfl⟩
 obtain ⟨w9,hw9⟩:∃ w9,w9=(w8.alloc (.cells #[.int .i64 0,.bool false,.slice none 0 0,.slice none 0 0,.slice none 0 0,.int .i64 0] 96)).setRow b12 #[.int .i64 (xa:Int),.bool true,.slice xl.EA r xl.ec,.slice xl.KA 0 xl.kc,.slice xl.DA 0 xl.dc,.int .i64 (r:Int)]:=⟨_,rfl⟩
 have B89:Hid (Below w8.heap.size w8 w9):=Lib.hid (by rw [hw9,hb12];exact below_setRow (alloc_bel rfl) (Nat.le_refl _) _)
 have K12:Hid (w9.heap[b12]?=some (.cells #[.int .i64 (xa:Int),.bool true,.slice xl.EA r xl.ec,.slice xl.KA 0 xl.kc,.slice xl.DA 0 xl.dc,.int .i64 (r:Int)] 96 (0,0))):=Lib.hid (by
  rw [hw9]
  exact setRow_heap _ _ _ _ _ _ (by rw [hb12];exact heap_alloc_new _ _))
 have HB12:Hid (w5.heap.size≤b12):=Lib.hid (by rw [hb12];exact B58.out.size)
 rw [← hb12,← hw9]
 clear hw9 hb12 hw1 hw2 hh1 hh2
 try simp only [Act.put,List.setIfInBounds_toArray,List.set_cons_zero,List.set_cons_succ]
 obtain ⟨w10,hw10⟩:∃ w10,w10=w9.alloc (.cells #[.int .i64 e.se,.int .i64 e.st,.int .i64 e.en,.int .i64 e.ad,.int .i64 e.le,.int .i64 e.cn,.int .i64 e.co,.int .u32 e.cr] 40):=⟨_,rfl⟩
 have BLIT:Hid (Below w9.heap.size w9 w10):=Lib.hid (alloc_bel hw10)
 have CL10:Hid (CellsAt w10 (some ⟨w9.heap.size,0,none⟩) (enC e)):=Lib.hid (by
  have h0:w10.heap[w9.heap.size]?=some (.cells (enC e).toArray 40 (0,0)):=by rw [hw10];exact heap_alloc_new _ _
  intro _
  refine ⟨w9.heap.size,0,rfl,fun j hj=>?_⟩
  rw [Nat.zero_add]
  exact nd_cell h0 j _ (by simp [hj]))
 have HW10:=Lib.hid hw10
 clear hw10
 have B510:Hid (Below w5.heap.size w5 w10):=Lib.hid (B58.out.trans ((B89.out.trans (BLIT.out.mono B89.out.size)).mono B58.out.size))
 have HS10:=Lib.hid (HS.out.below B510.out)
 have SR10:Hid (SRow w10 b pre):=Lib.hid (by
  obtain ⟨cur,q1,_⟩:=HSR.out
  exact HSR.out.same (B510.out.block b (Array.getElem?_eq_some_iff.1 q1).1))
 have G12:Hid (w10.heap[b12]?=some (.cells #[.int .i64 (xa:Int),.bool true,.slice xl.EA r xl.ec,.slice xl.KA 0 xl.kc,.slice xl.DA 0 xl.dc,.int .i64 (r:Int)] 96 (0,0))):=Lib.hid (row_stays K12.out BLIT.out)
 have RE10:Hid (w10.ownsRow w4.heap.size 40 8 (.slice xl.EA r xl.ec) r (ls.flatMap enC)):=Lib.hid (by
  have h1:=(HS10.out.nod _ (List.mem_of_getElem? HX.out)).re
  dsimp only at h1
  rw [← HN.out] at h1
  exact h1)
 have BW10':Hid (Below w.heap.size w w10):=Lib.hid (B5.out.trans (B510.out.mono B5.out.size))
 have HIN:=Lib.hid (ins_end w4.heap.size r xl.ec 1 xl.EA (some ⟨w9.heap.size,0,none⟩) (ls.flatMap enC) (enC e) w10 RE10.out hn7.1 CL10.out (by simp [enC]) (by omega) (fun u hu=>flat_one enC_one [e] u (by simpa using hu)) (by have:=HS10.out.bel.size;omega))
 have W2:=Lib.hid (row_stays V2.out B89.out)
 have c2:=nd_cell K12.out 2 (.slice xl.EA r xl.ec) rfl
 have c5:=nd_cell K12.out 5 (.int .i64 (r:Int)) rfl
 go_upto_region 15 with (first
  | (refine wpList_load_row rfl 40 (.tmp 5) rfl (w.heap.size+1) rfl 40 _ (0,0) _ W2.out Tryz.underlying40 rfl (by kernel_rfl) ?_)
  | (rw [← HW10.out];go_at_call 41;refine HIN.out.mono ?_;rintro e8 w11 ⟨⟨A',c',rfl,hr8⟩,hg8⟩;have R8:=Lib.hid hr8;have G8:=Lib.hid hg8;have G128:=Lib.hid ((typed_kept RE10.out hg8 (by decide) G12.out).trans G12.out);have c28:=nd_cell G128.out 2 (.slice xl.EA r xl.ec) rfl;have f28:w11.frozen? ⟨b12,2,none⟩=false:=(by simp [World.frozen?,G128.out]);clear hr8 hg8))
 clear c2 c5
 obtain ⟨vE,hvE⟩:∃ vE,vE=Value.slice A' (r+1) c':=⟨_,rfl⟩
 obtain ⟨w12,hw12⟩:∃ w12,w12=w11.setCell ⟨b12,2,none⟩ vE:=⟨_,rfl⟩
 have O89:Hid (∀ k,k≠b12→w12.heap[k]?=w11.heap[k]?):=Lib.hid (fun k hk=>by rw [hw12];exact Below.heap_setCell w11 ⟨b12,2,none⟩ vE k hk)
 have S89:Hid (w12.heap.size=w11.heap.size∧w12.os=w11.os∧w12.tape=w11.tape∧w12.output=w11.output):=Lib.hid (by rw [hw12];exact ⟨by simp,rfl,rfl,rfl⟩)
 have G129:Hid (w12.heap[b12]?=some (.cells #[.int .i64 (xa:Int),.bool true,vE,.slice xl.KA 0 xl.kc,.slice xl.DA 0 xl.dc,.int .i64 (r:Int)] 96 (0,0))):=Lib.hid (by
  rw [hw12]
  have h1:=heap_setCell_same w11 b12 2 _ _ vE G128.out
  simpa using h1)
 rw [← hvE,← hw12]
 have HVE:=Lib.hid hvE
 clear hw12 hvE c28 f28
 have KE:Hid (KeptNot 40 w10 w11):=Lib.hid (KeptNot.of_row RE10.out G8.out)
 have KT:Hid (∀ (j:Nat) (cs:Array Value) (T:TypeId) (fr:Nat × Nat),w10.heap[j]?=some (Obj.cells cs T fr)→T≠40→j≠b12→w12.heap[j]?=some (Obj.cells cs T fr)):=Lib.hid (fun j cs T fr hj hT hne=>(O89.out j hne).trans (KE.out.heap hj hT))
 have B410:Hid (Below w4.heap.size w4 w10):=Lib.hid (HS10.out.bel)
 have BW7:Hid (Below w.heap.size w w10):=BW10'
 have S79:Hid (w10.heap.size≤w12.heap.size):=Lib.hid (by rw [S89.out.1];exact G8.out.size)
 have BW9:Hid (Below w.heap.size w w12):=Lib.hid (by
  refine ⟨S89.out.2.1.trans (G8.out.os.trans BW7.out.os),S89.out.2.2.1.trans (G8.out.tape.trans BW7.out.tape),S89.out.2.2.2.trans (G8.out.output.trans BW7.out.output),Nat.le_trans BW7.out.size S79.out,fun j hj=>?_⟩
  have hb:j≠b12:=by have:=HB12.out;have:=B5.out.size;omega
  refine (O89.out j hb).trans ((G8.out.block j (Nat.lt_of_lt_of_le hj BW7.out.size) (fun e=>?_)).trans (BW7.out.block j hj))
  have:=(World.ownsRow.lt RE10.out j e.symm).1
  have:=B4.out.size
  omega)
 have V9:=Lib.hid (HVW.out.below BW9.out)
 have HBG:=Lib.hid (begin_yes gv g gen p U V HU.out HV.out w12 V9.out)
 go_upto_region 16 with (go_at_call 28;refine HBG.out.mono ?_;rintro e10 w13 ⟨gc,rfl,hc10,hb10⟩;have C10:=Lib.hid hc10;have B910:=Lib.hid hb10;clear hc10 hb10)
 have BW10:Hid (Below w.heap.size w w13):=Lib.hid (BW9.out.trans (B910.out.mono BW9.out.size))
 have V10:=Lib.hid (HVW.out.below BW10.out)
 have D10:=Lib.hid (HD.out.below BW10.out)
 have G1210:=Lib.hid (row_stays G129.out B910.out)
 obtain ⟨El,hEl⟩:∃ El,El=ls ++ [e]:=⟨_,rfl⟩
 have hEn:El.length=r+1:=by rw [hEl,List.length_append,← HN.out];rfl
 have HEN:=Lib.hid hEn
 have HEL:=Lib.hid hEl
 have ON10:Hid (OwnN w13 w4.heap.size ⟨true,El,[],[]⟩ ⟨A',c',xl.KA,xl.kc,xl.DA,xl.dc⟩):=Lib.hid (by
  have hnx:=HS10.out.nod _ (List.mem_of_getElem? HX.out)
  refine OwnN.below ⟨?_,?_,?_⟩ B910.out
  ·show w12.ownsRow w4.heap.size 40 8 (.slice A' El.length c') El.length (El.flatMap enC)
   have h1:=R8.out
   rw [show ls.flatMap enC ++ enC e=El.flatMap enC by rw [hEl,List.flatMap_append];simp,← hEn] at h1
   exact row_keep h1 (fun j cur _ hj=>O89.out j (fun e=>by rw [e,G128.out] at hj;cases hj))
  ·exact row_keep hnx.rk (fun j cur _ hj=>(KT.out j _ _ _ hj (by decide) (fun e=>by rw [e,G12.out] at hj;cases hj)).trans hj.symm)
  ·exact row_keep hnx.rd (fun j cur _ hj=>(KT.out j _ _ _ hj (by decide) (fun e=>by rw [e,G12.out] at hj;cases hj)).trans hj.symm))
 have RW10:Hid (w13.ownsRow w4.heap.size 96 6 (.slice (some ⟨b,0,none⟩) (h+1) c) (h+1) (pre.flatMap stC)):=Lib.hid (by
  have h1:=row_below HRW.out B510.out
  refine row_below (base:=w4.heap.size) (w:=w12) ?_ B910.out
  rcases h1.2 with ⟨h0,_⟩ | ⟨g',cap,cur,hv',hb',hg',rest⟩
  ·cases h0
  ·have hgb:b=g':=by
    injection hv' with q1 _ _
    simpa using q1
   have h2:=(World.ownsRow.lt HRW.out b rfl).2
   exact ⟨h1.1,.inr ⟨g',cap,cur,hv',hb',KT.out g' _ _ _ hg' (by decide) (fun e=>by have:=HB12.out;omega),rest⟩⟩)
 have HSMG:Hid (∀ n L U1,SmF pre ⟨true,El,[],[]⟩ (gaveN U (pre.map fun x=>x.s.a)) qs h n L U1→SmG ss0 (lfD (l ++ [e])) (gaveN U (ss0.map fun x=>x.a)) qs h n L U1):=Lib.hid (fun n L U1 hs=>by
  have h1:=hs.toG
  rw [HPA.out,HPS.out,HEL.out,HLL2.out] at h1
  exact h1)
 have HCL:=Lib.hid (climb_by gc gv g gen p w12.heap.size h w4.heap.size w4.heap.size 0 Rs qs U U V (orK U V 512) pre (some ⟨b,0,none⟩) c w4.heap.size ⟨true,El,[],[]⟩ ⟨A',c',xl.KA,xl.kc,xl.DA,xl.dc⟩ (rdU nw Ls p U) E El
  (fun a n hn=>⟨hn.1,hn.2.1,hn.2.2.1,by rw [getD_orK U V a 512 (by rw [HV.out];exact Nat.le_refl _),if_pos (by have:=hn.2.2.1;have:=HP5.out;omega),hn.2.2.2];simp⟩)
  HLEN.out HH1.out
  HALL.out
  (fun j hj=>by
   obtain ⟨s,parts,q1,q2⟩:=HLK.out j hj
   rw [List.getElem?_map] at q1
   obtain ⟨y,hy,hys⟩:=Option.map_eq_some_iff.1 q1
   subst hys
   exact ⟨y,parts,hy,q2⟩)
  ⟨rfl,rfl,rfl,rfl⟩ (by show El.length≤7+1;omega) (fun i y hy hi=>(HRJ.out i y hy hi).1) (by rw [HEL.out,HLL2.out];exact HFW.out) (by rw [HEL.out,HLL2.out];exact HQS.out) (fun h9=>by rw [HPA.out];exact HTK.out h9 gc) (fun n L U1 hs=>HCLN.out n L U1 (HSMG.out n L U1 hs))
  (by rw [length_orK];exact HV.out) (okM_or HOU.out HOV.out HV.out) HU.out HOU.out w13 C10.out V10.out D10.out RW10.out
  (fun i y hi hih=>by
   have hny:=HS10.out.nod y (List.mem_of_getElem? hi)
   obtain ⟨sb,⟨se,sk,sd⟩,te,tk,td⟩:=List.pairwise_iff_getElem.1 HS10.out.dis i h (List.getElem?_eq_some_iff.1 hi).1 (List.getElem?_eq_some_iff.1 HX.out).1 hih
   rw [(List.getElem?_eq_some_iff.1 hi).2] at se sk sd
   rw [(List.getElem?_eq_some_iff.1 HX.out).2] at te
   refine OwnN.below (hny.own.keepT fun bb cs T fr hb hA hT=>?_) B910.out
   have hbs:bb<sb:=by
    rcases hA with hA | hA | hA
    ·obtain ⟨z,hz,rfl⟩:=Option.map_eq_some_iff.1 hA
     exact se z hz
    ·obtain ⟨z,hz,rfl⟩:=Option.map_eq_some_iff.1 hA
     exact sk z hz
    ·obtain ⟨z,hz,rfl⟩:=Option.map_eq_some_iff.1 hA
     exact sd z hz
   refine (O89.out bb (fun e=>?_)).trans (G8.out.block bb (Array.getElem?_eq_some_iff.1 hb).1 (fun e=>?_))
   ·rw [e,G12.out] at hb
    cases hb
    revert hT
    decide
   ·have h1:=own_map e.symm
    obtain ⟨z,hz,hzb⟩:=Option.map_eq_some_iff.1 h1
    have:=te z hz
    omega)
  HS10.out.dis
  (fun y hy z hz=>by
   have h1:=own_blk (HS10.out.nod y hy).own z (.inr hz)
   have:=S79.out
   omega)
  ON10.out (by have:=HS10.out.bel.size;have:=S79.out;have:=B910.out.size;omega) B910.out.size (fun W W1 n l' L lv U1 A c ps ho hvw hc hL hB hs hb hsp hrow how=>(HTO.out gc w12.heap.size W W1 n l' L lv U1 A c ps hvw hc hL hB (HSMG.out n L U1 hs) hb hsp hrow how).mono (by
   rintro e9 w9 ⟨ra,rh,q1,q2,q3⟩
   exact ⟨ra,rh,q1,q2,fun _=>q3 trivial⟩)))
 have HC2:Hid (Calls Tryz.prog 38 #[.pointer (some ⟨gc,0,none⟩),.slice (some ⟨b,0,none⟩) (h+1) c,.agg #[.bool true,.slice A' (r+1) c',.slice xl.KA 0 xl.kc,.slice xl.DA 0 xl.dc]] w13 fun e9 w'=>∃ (ra rh:Int),e9=.returned (.tuple #[.agg #[.int .i64 ra,.int .i64 rh],.int .i64 0])∧OutS gc w12.heap.size (WayX pre) w13 w'∧((0:Int)=0→∃ (L':List (Nat × (NodeD × NdL))) (U':List Bool) (lv':Value),ChgS w' gc gv p w12.heap.size U' (orK U V 512) lv' L'∧(∀ x ∈ L',NodeT w' x.2.1 x.2.2)∧Rs ra rh L' U')):=Lib.hid (by
  have h1:=HCL.out
  dsimp only [List.length_nil] at h1
  rw [HEN.out] at h1
  exact h1)
 have HRG2:Hid (w13.rangeAt b12 1 [.bool true,.slice A' (r+1) c',.slice xl.KA 0 xl.kc,.slice xl.DA 0 xl.dc]):=Lib.hid (fun j u hu=>by
  have h1:=G1210.out
  rw [HVE.out] at h1
  refine nd_cell h1 (1+j) u ?_
  rcases j with _ | _ | _ | _ | j
  ·exact hu
  ·exact hu
  ·exact hu
  ·exact hu
  ·simp at hu)
 clear HCL HBG HIN hEl hEn HSMG
 have G610:Hid (w13.heap[b6]?=some (.cells #[.int .i64 0,.int .i64 0] 43 (0,0))):=Lib.hid (row_stays (KT.out b6 _ _ _ (row_stays S3.out B510.out) (by decide) (by have:=HB6.out;have:=HB12.out;have:=HS.out.bel.size;have:=Z3.out;have:=Z4.out;omega)) B910.out)
 go_wp2_with (first
  | (refine wpList_load_mid rfl 86 (.tmp 73) rfl b12 1 rfl [.bool true,.slice A' (r+1) c',.slice xl.KA 0 xl.kc,.slice xl.DA 0 xl.dc] _ HRG2.out Tryz.underlying86 rfl (by kernel_rfl) ?_)
  | (go_at_call 38;refine HC2.out.mono ?_;rintro e11 w14 ⟨ra,rh,rfl,ho11,hrs⟩;have S11:=Lib.hid ho11;have TR11:=Lib.hid (hrs rfl);clear ho11 hrs))
 have HWX:Hid (∀ k,WayX pre k→w4.heap.size≤k):=Lib.hid (fun k hk=>by
  obtain ⟨y,hy,hyk⟩:=hk
  have h1:=own_blk (HS10.out.nod y hy).own
  rcases hyk with hyk | hyk
  ·obtain ⟨z,hz,rfl⟩:=Option.map_eq_some_iff.1 hyk
   exact (h1 z (.inr (.inl hz))).1
  ·obtain ⟨z,hz,rfl⟩:=Option.map_eq_some_iff.1 hyk
   exact (h1 z (.inr (.inr hz))).1)
 have BW11:Hid (Below w.heap.size w w14):=Lib.hid (by
  refine ⟨S11.out.os.trans BW10.out.os,S11.out.tape.trans BW10.out.tape,S11.out.output.trans BW10.out.output,Nat.le_trans BW10.out.size S11.out.size,fun j hj=>?_⟩
  have h9:=BW9.out.size
  refine (S11.out.block j (Nat.lt_of_lt_of_le hj BW10.out.size) (fun e=>?_) (fun hx=>?_) (fun hb=>?_)).trans (BW10.out.block j hj)
  ·have:=C10.out.B0
   omega
  ·have:=HWX.out j hx
   have:=Z3.out
   have:=Z4.out
   omega
  ·omega)
 have D11:=Lib.hid (HD.out.below BW11.out)
 have V11:=Lib.hid (HVW.out.below BW11.out)
 have G611:Hid (w14.heap[b6]?=some (.cells #[.int .i64 0,.int .i64 0] 43 (0,0))):=Lib.hid (S11.out.typed C10.out.chg G610.out (by decide) (by decide) (fun hx=>by have:=HWX.out b6 hx;have:=HB6.out;have:=Z3.out;have:=Z4.out;omega))
 obtain ⟨L',U',lv',C11',LY11',hrs'⟩:=TR11.out
 have C11:=Lib.hid C11'
 have LY11:=Lib.hid LY11'
 obtain ⟨⟨a2,h2,rfl,rfl⟩,hUl,hcnt,hnd,hlt,hgd⟩:=HRS.out _ _ _ _ hrs'
 have HGD:=Lib.hid hgd
 have HCNT:=Lib.hid hcnt
 have HUL:=Lib.hid hUl
 have HNDP:=Lib.hid hnd
 have HLTP:=Lib.hid hlt
 have HRSX:=Lib.hid hrs'
 clear C11' LY11' hgd hcnt hUl hnd hlt hrs' TR11
 refine (done_yes a2 h2 gc gv g gen p U' U V L' w14 D11.out V11.out (fun W hW=>?_)).mono ?_
 ·refine (write_yes gc gv p w12.heap.size gen U' U V (orK U V 512) lv' L' HUL.out HU.out (by rw [length_orK];exact HV.out) HV.out HGN.out (by have:=HCNT.out;have:=HWS.out;omega) HNDP.out (fun x hx=>⟨(HGD.out x hx).1,by have:=HLTP.out x.1 (List.mem_map_of_mem hx);have:=HLS.out;omega⟩) W (fun x hx=>((LY11.out x hx).below hW)) (C11.out.below hW) (V11.out.below hW) (D11.out.below hW)).mono ?_
  rintro e' w' ⟨h1,h2,h3,h4⟩
  exact ⟨h1,⟨h2,h3,h4⟩⟩
 ·rintro e12 w15 ⟨rfl,hw12⟩
  have W12:=Lib.hid hw12
  clear hw12
  have hX:¬ (DkX g gn rw b6∨b6=gv):=fun hx=>by
   rcases hx with hx | hx
   ·exact D11.out.notX G611.out (by decide) (.inl (by decide)) (by decide) hx
   ·have h1:=V11.out
    have h2:=G611.out
    unfold ViewAt at h1
    rw [hx,h1] at h2
    cases h2
  have G612:=Lib.hid (W12.out.out.heap G611.out hX)
  clear hX
  go_wp2_with (refine wpList_store_row rfl 43 (.tmp 6) (.tmp 79) rfl b6 #[.int .i64 (a2:Int),.int .i64 (h2:Int)] rfl rfl 43 _ G612.out (by kernel_rfl) rfl (by simp [Value.oneCell']) ?_)
  refine bodyPost_ret (v:=.tuple #[.agg #[.int .i64 (a2:Int),.int .i64 (h2:Int)],.int .i64 0]) (results_cell_tmpB (p:=6) (u:=7) (ty:=43) rfl _ _ b6 43 _ (0,0) _ rfl (setRow_heap _ _ _ _ _ _ G612.out) Tryz.underlying43 rfl (by kernel_rfl)) rfl ?_
  have hb6w:w.heap.size≤b6:=by have:=HB6.out;omega
  exact ⟨_,_,L',U',rfl,(W12.out.pre BW11.out).post (KeptNot.of_setRow G612.out _) (below_setRow (Below.refl _ _) hb6w _) (by decide) (by decide) (by decide) (by decide),HRSX.out⟩
theorem insert_no (gv g gen p a h pb:Nat) (qs:List Nat) (l:List EntD) (U V:List Bool) (Rs:Int→Int→List (Nat × (NodeD × NdL))→List Bool→Prop) (ss0:List StepD) {B N gs gn Ls cs cn:Nat} {rw:Value} {st nw:List UInt8} {ws:List (Nat × List UInt8)} (nr:NodeD) (es:List EntD) (e:EntD)
 (hr:rdU nw Ls p U a nr) (ht:Tre (rdU nw Ls p U) h nr es) (hh1:h≤1) (h1e:1≤es.length) (hg:GoodE es) (hoe:okEnt e∧inEnt e) (hap:∀ x ∈ es,apartB x e=true) (hU:U.length=512) (hV:V.length=512) (okU:okM (p:Int) U) (okV:okM (p:Int) V) (hway:∀ ss,Down (rdU nw Ls p U) e.key h a nr es ss→ss=ss0) (hss0:ss0[h]?=some ⟨pb,lfD l,l.length⟩)
 (hfw:h=1→fewB (lfD (l ++ [e]))=false) (hqs:h=1→∀ ps,SplitOf (lfD (l ++ [e])) ps→qs.length=ps.length) (htk:h=1→∀ gc,TakS gc gv g gen p U V (orK U V 512) (gaveN U (ss0.map fun x=>x.a)) qs) (hcl:∀ n L U1,SmG ss0 (lfD (l ++ [e])) (gaveN U (ss0.map fun x=>x.a)) qs h n L U1→cleanN n∧n.size≤32)
 (htop:∀ (gc B0:Nat) (W W1:World) (n:NodeD) (l':NdL) (L:List (Nat × (NodeD × NdL))) (lv:Value) (U1:List Bool) (A:Option Addr) (c:Nat) (ps:List (NodeD × NdL)),ViewAt W gv g gen (p:Int) U V→ChgS W gc gv p B0 U1 (orK U V 512) lv L→(∀ x ∈ L,OwnN W B0 x.2.1 x.2.2)→B0≤W.heap.size→SmG ss0 (lfD (l ++ [e])) (gaveN U (ss0.map fun x=>x.a)) qs h n L U1→Below W.heap.size W W1→SplitOf n (ps.map Prod.fst)→W1.ownsRow W.heap.size 86 4 (.slice A ps.length c) ps.length (ps.flatMap ndP)→(∀ x ∈ ps,OwnN W1 W.heap.size x.1 x.2) →
  Calls Tryz.prog 30 #[.pointer (some ⟨gc,0,none⟩),.slice A ps.length c,.int .i64 ((h:Int)+1)] W1 fun e9 w'=>∃ (ra rh:Int),e9=.returned (.tuple #[.agg #[.int .i64 ra,.int .i64 rh],.int .i64 5])∧OutS gc B0 (fun _=>False) W1 w'∧((5:Int)=0→∃ (L':List (Nat × (NodeD × NdL))) (U':List Bool) (lv':Value),ChgS w' gc gv p B0 U' (orK U V 512) lv' L'∧(∀ x ∈ L',NodeT w' x.2.1 x.2.2)∧Rs ra rh L' U')) (w:World) (hv:ViewAt w gv g gen (p:Int) U V) (hd:Dk w B N g gs gn rw Ls cs cn st nw ws true (-1)) :
 Calls Tryz.prog 17 #[.pointer (some ⟨gv,0,none⟩),.agg #[.int .i64 (a:Int),.int .i64 ((h:Int)+1)],.agg #[.int .i64 e.se,.int .i64 e.st,.int .i64 e.en,.int .i64 e.ad,.int .i64 e.le,.int .i64 e.cn,.int .i64 e.co,.int .u32 e.cr]] w fun e' w'=>e'=.returned (.tuple #[.agg #[.int .i64 0,.int .i64 0],.int .i64 5])∧Below w.heap.size w w':=by
 have h4:h≤4:=by omega
 have h3:h≤3:=by omega
 have hp5:p≤512:=by have:=okU.2.1;omega
 have hup:∀ x ∈ es,lessB x.key e.key=true:=fun x hx=>apt_less (hap x hx)
 have HWY:=Lib.hid (fun W (hW:Below w.heap.size w W)=>way_of gv g gen p a h U V nr es e.key (fun a n (h:rdU nw Ls p U a n)=>h.1) hr ht h1e h4 W (hv.below hW) (hd.below hW) ((h:Int)+1) rfl)
 dsimp only [EntD.key] at HWY
 have HR:=Lib.hid hr
 have HT:=Lib.hid ht
 have HG:=Lib.hid hg
 have HE:=Lib.hid hoe
 have HAP:=Lib.hid hap
 have HUP:=Lib.hid hup
 have HU:=Lib.hid hU
 have HV:=Lib.hid hV
 have HOU:=Lib.hid okU
 have HOV:=Lib.hid okV
 have HWAY:=Lib.hid hway
 have HSS0:=Lib.hid hss0
 have HFW:=Lib.hid hfw
 have HQS:=Lib.hid hqs
 have HTK:=Lib.hid htk
 have HCLN:=Lib.hid hcl
 have HTO:=Lib.hid htop
 have HH1:=Lib.hid hh1
 have HVW:=Lib.hid hv
 have HD:=Lib.hid hd
 have HP5:=Lib.hid hp5
 have H3:=Lib.hid h3
 clear hr ht hg hoe hap hup hU hV okU okV hway hss0 hfw hqs htk hcl htop hh1 hv hd hp5 h1e h3
 obtain ⟨w3,hw3⟩:∃ w3,w3=((w.alloc (.cells #[.int .i64 (a:Int),.int .i64 ((h:Int)+1)] 43)).alloc (.cells #[.int .i64 e.se,.int .i64 e.st,.int .i64 e.en,.int .i64 e.ad,.int .i64 e.le,.int .i64 e.cn,.int .i64 e.co,.int .u32 e.cr] 40)).alloc (.cells #[.int .i64 0,.int .i64 0] 43):=⟨_,rfl⟩
 have G1:Hid (w3.heap[w.heap.size]?=some (.cells #[.int .i64 (a:Int),.int .i64 ((h:Int)+1)] 43 (0,0))):=Lib.hid (by
  rw [hw3]
  exact row_stays (row_stays (heap_alloc_new w _) (alloc_bel rfl)) (alloc_bel rfl))
 have G2:Hid (w3.heap[w.heap.size+1]?=some (.cells #[.int .i64 e.se,.int .i64 e.st,.int .i64 e.en,.int .i64 e.ad,.int .i64 e.le,.int .i64 e.cn,.int .i64 e.co,.int .u32 e.cr] 40 (0,0))):=Lib.hid (by
  rw [hw3]
  have h1:=heap_alloc_new (w.alloc (.cells #[.int .i64 (a:Int),.int .i64 ((h:Int)+1)] 43)) (.cells #[.int .i64 e.se,.int .i64 e.st,.int .i64 e.en,.int .i64 e.ad,.int .i64 e.le,.int .i64 e.cn,.int .i64 e.co,.int .u32 e.cr] 40)
  rw [World.size_alloc] at h1
  exact row_stays h1 (alloc_bel rfl))
 have G3:Hid (w3.heap[w.heap.size+1+1]?=some (.cells #[.int .i64 0,.int .i64 0] 43 (0,0))):=Lib.hid (by
  rw [hw3]
  have h1:=heap_alloc_new ((w.alloc (.cells #[.int .i64 (a:Int),.int .i64 ((h:Int)+1)] 43)).alloc (.cells #[.int .i64 e.se,.int .i64 e.st,.int .i64 e.en,.int .i64 e.ad,.int .i64 e.le,.int .i64 e.cn,.int .i64 e.co,.int .u32 e.cr] 40)) (.cells #[.int .i64 0,.int .i64 0] 43)
  rw [World.size_alloc,World.size_alloc] at h1
  exact h1)
 have B3:Hid (Below w.heap.size w w3):=Lib.hid (by
  rw [hw3]
  exact (((Below.refl _ w).alloc (Nat.le_refl _) _).alloc (by simp) _).alloc (by simp;omega) _)
 have Z3:Hid (w3.heap.size=w.heap.size+3):=Lib.hid (by rw [hw3];simp)
 have HW3:=Lib.hid hw3
 clear hw3
 go_enter Tryz.func17,Tryz.ntmps17
 go_upto_region 1 with fail
 rw [← HW3.out]
 clear HW3
 obtain ⟨b6,hb6⟩:∃ b6,b6=w.heap.size+1+1:=⟨_,rfl⟩
 rw [← hb6] at G3 ⊢
 have HB6:=Lib.hid hb6
 clear hb6
 go_upto_region 3 with (first
  | (refine wpList_load_row rfl 40 (.tmp 5) rfl (w.heap.size+1) rfl 40 _ (0,0) _ G2.out Tryz.underlying40 rfl (by kernel_rfl) ?_)
  | (go_at_call 39;refine (rightEntry_yes e HE.out.1 _).mono ?_;rintro e' w4 ⟨rfl,hb4⟩;have R1:=Lib.hid (row_stays G1.out hb4);have R2:=Lib.hid (row_stays G2.out hb4);have R3:=Lib.hid (row_stays G3.out hb4);have B4:=Lib.hid (B3.out.trans (hb4.mono B3.out.size));have Z4:=Lib.hid hb4.size;clear hb4))
 have z0:=nd_cell R2.out 0 (.int .i64 e.se) rfl
 have z1:=nd_cell R2.out 1 (.int .i64 e.st) rfl
 go_upto_region 4 with (first
  | (refine wpList_load_row rfl 43 (.tmp 4) rfl w.heap.size rfl 43 _ (0,0) _ R1.out Tryz.underlying43 rfl (by kernel_rfl) ?_)
  | (go_at_call 35;refine (HWY.out _ B4.out).mono ?_;rintro e5 w5 ⟨pre,A,c,rfl,hs5,hdn⟩;have HS:=Lib.hid hs5;have HDN:=Lib.hid hdn;have S2:=Lib.hid (row_stays R2.out hs5.bel);have S3:=Lib.hid (row_stays R3.out hs5.bel);clear hs5 hdn))
 clear z0 z1 R1 R2 R3 HWY
 have B5:Hid (Below w.heap.size w w5):=Lib.hid (B4.out.trans (HS.out.bel.mono B4.out.size))
 have hlen:pre.length=h+1:=by have:=HDN.out.len;rw [List.length_map] at this;exact this
 have HLEN:=Lib.hid hlen
 rw [hlen]
 obtain ⟨E,hEh,⟨sl,hsl,hsleaf,hslE,hslk,hsld,hslr,hslp⟩,hlk⟩:=HDN.out.chain HR.out HT.out
 obtain ⟨hri,s9,Y,hs9,hat9,hYs⟩:=Down.right HT.out HDN.out HUP.out
 have hs9':s9=sl:=by rw [hs9] at hsl;cases hsl;rfl
 subst hs9'
 obtain ⟨x,hx,hxs⟩:∃ x:StepM,pre[h]?=some x∧x.s=s9:=by
  rw [List.getElem?_map] at hsl
  exact Option.map_eq_some_iff.1 hsl
 subst hxs
 obtain ⟨⟨xa,⟨lf,ls,ks,ds⟩,r⟩,xl⟩:=x
 dsimp only at hsl hsleaf hslE hslk hsld hslr hslp hat9 hYs hs9
 subst hsleaf hslk hsld
 have hss:=HWAY.out _ HDN.out
 have HPS:Hid (pre.map StepM.s=ss0):=Lib.hid hss
 have HPA:Hid (pre.map (fun x=>x.s.a)=ss0.map (fun x=>x.a)):=Lib.hid (by rw [← hss,List.map_map];rfl)
 have HLL2:Hid (ls=l):=Lib.hid (by
  have h1:=hsl
  rw [hss,HSS0.out] at h1
  simp at h1
  have h2:=congrArg (fun s:NodeD=>s.es) h1.2.1
  exact h2.symm)
 clear hss
 clear hslp hs9
 have HX:=Lib.hid hx
 have HLK:=Lib.hid hlk
 have HEH:=Lib.hid hEh
 have HE0:=Lib.hid hslE
 have HXR:=Lib.hid hslr
 have HRI:=Lib.hid hri
 have HY:=Lib.hid hYs
 have HSL:=Lib.hid hsl
 obtain ⟨n,hn⟩:∃ n,n=ls.length:=⟨_,rfl⟩
 have hrn:r=n:=by rw [hn];exact hat9
 have hn7:1≤n∧n≤7:=by
  have h1:=hslr.1.1
  unfold okNode at h1
  rw [if_pos rfl] at h1
  rw [hn]
  exact ⟨h1.2.2.1,h1.2.2.2.1⟩
 have HN:=Lib.hid hn
 clear hat9
 subst hrn
 have HALL:Hid (∀ y ∈ pre,rdU nw Ls p U y.s.a y.s.n):=Lib.hid (fun y hy=>by
  obtain ⟨i,hi⟩:=List.mem_iff_getElem?.1 hy
  have hil:=(List.getElem?_eq_some_iff.1 hi).1
  by_cases hih:i=h
  ·subst hih
   rw [HX.out] at hi
   cases hi
   exact HXR.out
  ·obtain ⟨s,parts,q1,q2⟩:=HLK.out (h - 1 - i) (by have:=HLEN.out;omega)
   rw [show h - 1 - (h - 1 - i)=i by have:=HLEN.out;omega,List.getElem?_map,hi] at q1
   cases q1
   exact q2.rd_)
 have HRJ:Hid (∀ (i:Nat) (y:StepM),pre[i]?=some y→i<h→y.s.at_+1=y.s.n.ds.length∧y.s.n.ks.length=y.s.n.ds.length):=Lib.hid (fun i y hy hi=>HRI.out i y.s (by rw [List.getElem?_map,hy];rfl) hi)
 have HSZ:Hid (∀ y ∈ pre,y.s.n.es.length≤1000∧y.s.n.ks.length≤1000∧y.s.at_≤1000):=Lib.hid (fun y hy=>by
  have h1:=okN_small (HALL.out y hy).1.1
  obtain ⟨i,hi⟩:=List.mem_iff_getElem?.1 hy
  have hil:=(List.getElem?_eq_some_iff.1 hi).1
  refine ⟨by omega,by omega,?_⟩
  by_cases hih:i=h
  ·subst hih
   rw [HX.out] at hi
   cases hi
   show r≤1000
   omega
  ·have h2:=HRJ.out i y hi (by have:=HLEN.out;omega)
   omega)
 have hxm:=List.mem_of_getElem? hx
 have hpx:pre=pre.take h ++ [⟨⟨xa,⟨true,ls,[],[]⟩,r⟩,xl⟩]:=by
  have h1:=List.take_append_drop h pre
  have h2:=List.drop_eq_getElem_cons (List.getElem?_eq_some_iff.1 hx).1
  have h3:pre.drop (h+1)=[]:=List.drop_eq_nil_of_le (by omega)
  rw [(List.getElem?_eq_some_iff.1 hx).2,h3] at h2
  rw [h2] at h1
  exact h1.symm
 have HRW:Hid (w5.ownsRow w4.heap.size 96 6 (.slice A (h+1) c) (h+1) (pre.flatMap stC)):=Lib.hid (by have h1:=HS.out.row;rw [hlen] at h1;exact h1)
 have HKN:Hid (∀ X,Below w5.heap.size w5 X→Calls Tryz.prog 36 #[.slice A (h+1) c,.agg #[.int .i64 e.se,.int .i64 e.st]] X fun e' w'=>e'=.returned (.tuple #[.agg #[.int .i64 0,.int .i64 0,.int .i64 0,.int .i64 0,.int .i64 0,.int .i64 0,.int .i64 0,.int .u32 0],.bool false])∧Below X.heap.size X w'):=Lib.hid (fun X hX=>by
  have h1:=row_below HRW.out hX
  rw [hpx] at h1
  have hkn:=known_last (pre.take h) ⟨⟨xa,⟨true,ls,[],[]⟩,r⟩,xl⟩ A c (h+1) _ e.key X (by rw [List.length_take,hlen];omega) (by omega) h1 ((HS.out.below hX).nod _ hxm).own.at (by show ls.length≤_;omega) (by show r≤ls.length;omega)
  refine hkn.mono ?_
  rintro e' w'' ⟨rfl,hb⟩
  refine ⟨?_,hb⟩
  have h2:knV ls r e.key=[zeV,.bool false]:=by
   unfold knV
   rw [List.getElem?_eq_none (by omega)]
  show Ending.returned (Value.tuple (knV ls r e.key).toArray)=_
  rw [h2]
  rfl)
 have HME:Hid (∀ X,Below w5.heap.size w5 X→Calls Tryz.prog 40 #[.slice A (h+1) c,.agg #[.int .i64 e.se,.int .i64 e.st,.int .i64 e.en,.int .i64 e.ad,.int .i64 e.le,.int .i64 e.cn,.int .i64 e.co,.int .u32 e.cr]] X fun e' w'=>e'=.returned (.bool false)∧Below X.heap.size X w'):=Lib.hid (fun X hX =>
  meets_no pre A c h w4.heap.size w4.heap.size ⟨⟨xa,⟨true,ls,[],[]⟩,r⟩,xl⟩ e HLEN.out h4 HX.out X (row_below HRW.out hX) (fun y hy=>((HS.out.below hX).nod y hy).own) HSZ.out (by show r≤ls.length;omega)
   (fun y h0 hy hc=>by
    have hye:y ∈ es:=by rw [HY.out];exact List.mem_append_right _ (List.mem_of_getElem? hy)
    have h1:=HAP.out y hye
    unfold apartB at h1
    simp only [Bool.and_eq_true,Bool.or_eq_true,decide_eq_true_eq] at h1
    omega)
   (fun y hy=>by
    dsimp only at hy
    rw [List.getElem?_eq_none (by omega)] at hy
    cases hy)
   (fun i y k hi hy hk=>by
    have h1:=HRJ.out i y hy hi
    rw [List.getElem?_eq_none (by omega)] at hk
    cases hk))
 obtain ⟨b,hAb,hbw,hnc,hcm,hsr⟩:=SRow.of_row HRW.out hlen.symm (by omega)
 subst hAb
 have HSR:=Lib.hid hsr
 unfold maxLen at hcm
 clear hsr hx hlk hEh hslE hslr hn hxm hri hYs hsl hpx
 go_upto_region 6 with fail
 have z0:=nd_cell S2.out 0 (.int .i64 e.se) rfl
 have z1:=nd_cell S2.out 1 (.int .i64 e.st) rfl
 go_upto_region 7 with (go_at_call 36;refine (HKN.out _ (Below.refl _ _)).mono ?_;rintro e6 w6 ⟨rfl,hb6⟩;have B56:=Lib.hid hb6;clear hb6)
 clear z0 z1
 obtain ⟨w7,hw7⟩:∃ w7,w7=w6.alloc (.cells #[.int .i64 0,.int .i64 0,.int .i64 0,.int .i64 0,.int .i64 0,.int .i64 0,.int .i64 0,.int .u32 0] 40):=⟨_,rfl⟩
 have B57:Hid (Below w5.heap.size w5 w7):=Lib.hid (B56.out.trans ((alloc_bel hw7).mono B56.out.size))
 rw [← hw7]
 clear hw7
 have U2:=Lib.hid (row_stays S2.out B57.out)
 have hq0:((((h+1:Nat):Int)) == 0)=false:=by simp;omega
 have hq1:((h:Int)+1 == 0)=false:=by simp;omega
 go_upto_region 13 with (first
  | (refine wpList_load_row rfl 40 (.tmp 5) rfl (w.heap.size+1) rfl 40 _ (0,0) _ U2.out Tryz.underlying40 rfl (by kernel_rfl) ?_)
  | (go_at_call 40;refine (HME.out _ B57.out).mono ?_;rintro e8 w8 ⟨rfl,hb8⟩;have V2:=Lib.hid (row_stays U2.out hb8);have B58:=Lib.hid (B57.out.trans (hb8.mono B57.out.size));clear hb8))
 clear hq0 hq1
 have HS8:=Lib.hid (HS.out.below B58.out)
 have SR8:Hid (SRow w8 b pre):=Lib.hid (by
  obtain ⟨cur,q1,_⟩:=HSR.out
  exact HSR.out.same (B58.out.block b (Array.getElem?_eq_some_iff.1 q1).1))
 have HRG:Hid (w8.rangeAt b (h*6) [.int .i64 (xa:Int),.bool true,.slice xl.EA r xl.ec,.slice xl.KA 0 xl.kc,.slice xl.DA 0 xl.dc,.int .i64 (r:Int)]):=Lib.hid (by
  have h1:=SR8.out.range HX.out
  have h2:=HN.out
  rw [h2]
  rw [h2] at h1
  exact h1)
 have hw1:wrap64 (((h+1:Nat):Int) - 1)=(h:Int):=by unfold wrap64;omega
 have hw2:wrap64 ((h:Int)+1 - 1)=(h:Int):=by unfold wrap64;omega
 have hh1:(h:Int)<(h:Int)+1:=by omega
 have hh2:(h:Int)<((h+1:Nat):Int):=by omega
 go_upto_region 14 with (first
  | (refine wpList_load_mid rfl 96 (.tmp 56) rfl b (h*6) rfl [.int .i64 (xa:Int),.bool true,.slice xl.EA r xl.ec,.slice xl.KA 0 xl.kc,.slice xl.DA 0 xl.dc,.int .i64 (r:Int)] _ HRG.out Tryz.underlying96 rfl (by kernel_rfl) ?_)
  | (refine wpList_store_row rfl 96 (.tmp 12) (.tmp 57) rfl w8.heap.size #[.int .i64 (xa:Int),.bool true,.slice xl.EA r xl.ec,.slice xl.KA 0 xl.kc,.slice xl.DA 0 xl.dc,.int .i64 (r:Int)] rfl rfl 96 _ (heap_alloc_new _ _) (by kernel_rfl) rfl (by simp [Value.oneCell']) ?_))
 obtain ⟨b12,hb12⟩:∃ b12,b12=w8.heap.size:=⟨_,rfl⟩
 obtain ⟨w9,hw9⟩:∃ w9,w9=(w8.alloc (.cells #[.int .i64 0,.bool false,.slice none 0 0,.slice none 0 0,.slice none 0 0,.int .i64 0] 96)).setRow b12 #[.int .i64 (xa:Int),.bool true,.slice xl.EA r xl.ec,.slice xl.KA 0 xl.kc,.slice xl.DA 0 xl.dc,.int .i64 (r:Int)]:=⟨_,rfl⟩
 have B89:Hid (Below w8.heap.size w8 w9):=Lib.hid (by rw [hw9,hb12];exact below_setRow (alloc_bel rfl) (Nat.le_refl _) _)
 have K12:Hid (w9.heap[b12]?=some (.cells #[.int .i64 (xa:Int),.bool true,.slice xl.EA r xl.ec,.slice xl.KA 0 xl.kc,.slice xl.DA 0 xl.dc,.int .i64 (r:Int)] 96 (0,0))):=Lib.hid (by
  rw [hw9]
  exact setRow_heap _ _ _ _ _ _ (by rw [hb12];exact heap_alloc_new _ _))
 have HB12:Hid (w5.heap.size≤b12):=Lib.hid (by rw [hb12];exact B58.out.size)
 rw [← hb12,← hw9]
 clear hw9 hb12 hw1 hw2 hh1 hh2
 try simp only [Act.put,List.setIfInBounds_toArray,List.set_cons_zero,List.set_cons_succ]
 obtain ⟨w10,hw10⟩:∃ w10,w10=w9.alloc (.cells #[.int .i64 e.se,.int .i64 e.st,.int .i64 e.en,.int .i64 e.ad,.int .i64 e.le,.int .i64 e.cn,.int .i64 e.co,.int .u32 e.cr] 40):=⟨_,rfl⟩
 have BLIT:Hid (Below w9.heap.size w9 w10):=Lib.hid (alloc_bel hw10)
 have CL10:Hid (CellsAt w10 (some ⟨w9.heap.size,0,none⟩) (enC e)):=Lib.hid (by
  have h0:w10.heap[w9.heap.size]?=some (.cells (enC e).toArray 40 (0,0)):=by rw [hw10];exact heap_alloc_new _ _
  intro _
  refine ⟨w9.heap.size,0,rfl,fun j hj=>?_⟩
  rw [Nat.zero_add]
  exact nd_cell h0 j _ (by simp [hj]))
 have HW10:=Lib.hid hw10
 clear hw10
 have B510:Hid (Below w5.heap.size w5 w10):=Lib.hid (B58.out.trans ((B89.out.trans (BLIT.out.mono B89.out.size)).mono B58.out.size))
 have HS10:=Lib.hid (HS.out.below B510.out)
 have SR10:Hid (SRow w10 b pre):=Lib.hid (by
  obtain ⟨cur,q1,_⟩:=HSR.out
  exact HSR.out.same (B510.out.block b (Array.getElem?_eq_some_iff.1 q1).1))
 have G12:Hid (w10.heap[b12]?=some (.cells #[.int .i64 (xa:Int),.bool true,.slice xl.EA r xl.ec,.slice xl.KA 0 xl.kc,.slice xl.DA 0 xl.dc,.int .i64 (r:Int)] 96 (0,0))):=Lib.hid (row_stays K12.out BLIT.out)
 have RE10:Hid (w10.ownsRow w4.heap.size 40 8 (.slice xl.EA r xl.ec) r (ls.flatMap enC)):=Lib.hid (by
  have h1:=(HS10.out.nod _ (List.mem_of_getElem? HX.out)).re
  dsimp only at h1
  rw [← HN.out] at h1
  exact h1)
 have BW10':Hid (Below w.heap.size w w10):=Lib.hid (B5.out.trans (B510.out.mono B5.out.size))
 have HIN:=Lib.hid (ins_end w4.heap.size r xl.ec 1 xl.EA (some ⟨w9.heap.size,0,none⟩) (ls.flatMap enC) (enC e) w10 RE10.out hn7.1 CL10.out (by simp [enC]) (by omega) (fun u hu=>flat_one enC_one [e] u (by simpa using hu)) (by have:=HS10.out.bel.size;omega))
 have W2:=Lib.hid (row_stays V2.out B89.out)
 have c2:=nd_cell K12.out 2 (.slice xl.EA r xl.ec) rfl
 have c5:=nd_cell K12.out 5 (.int .i64 (r:Int)) rfl
 go_upto_region 15 with (first
  | (refine wpList_load_row rfl 40 (.tmp 5) rfl (w.heap.size+1) rfl 40 _ (0,0) _ W2.out Tryz.underlying40 rfl (by kernel_rfl) ?_)
  | (rw [← HW10.out];go_at_call 41;refine HIN.out.mono ?_;rintro e8 w11 ⟨⟨A',c',rfl,hr8⟩,hg8⟩;have R8:=Lib.hid hr8;have G8:=Lib.hid hg8;have G128:=Lib.hid ((typed_kept RE10.out hg8 (by decide) G12.out).trans G12.out);have c28:=nd_cell G128.out 2 (.slice xl.EA r xl.ec) rfl;have f28:w11.frozen? ⟨b12,2,none⟩=false:=(by simp [World.frozen?,G128.out]);clear hr8 hg8))
 clear c2 c5
 obtain ⟨vE,hvE⟩:∃ vE,vE=Value.slice A' (r+1) c':=⟨_,rfl⟩
 obtain ⟨w12,hw12⟩:∃ w12,w12=w11.setCell ⟨b12,2,none⟩ vE:=⟨_,rfl⟩
 have O89:Hid (∀ k,k≠b12→w12.heap[k]?=w11.heap[k]?):=Lib.hid (fun k hk=>by rw [hw12];exact Below.heap_setCell w11 ⟨b12,2,none⟩ vE k hk)
 have S89:Hid (w12.heap.size=w11.heap.size∧w12.os=w11.os∧w12.tape=w11.tape∧w12.output=w11.output):=Lib.hid (by rw [hw12];exact ⟨by simp,rfl,rfl,rfl⟩)
 have G129:Hid (w12.heap[b12]?=some (.cells #[.int .i64 (xa:Int),.bool true,vE,.slice xl.KA 0 xl.kc,.slice xl.DA 0 xl.dc,.int .i64 (r:Int)] 96 (0,0))):=Lib.hid (by
  rw [hw12]
  have h1:=heap_setCell_same w11 b12 2 _ _ vE G128.out
  simpa using h1)
 rw [← hvE,← hw12]
 have HVE:=Lib.hid hvE
 clear hw12 hvE c28 f28
 have KE:Hid (KeptNot 40 w10 w11):=Lib.hid (KeptNot.of_row RE10.out G8.out)
 have KT:Hid (∀ (j:Nat) (cs:Array Value) (T:TypeId) (fr:Nat × Nat),w10.heap[j]?=some (Obj.cells cs T fr)→T≠40→j≠b12→w12.heap[j]?=some (Obj.cells cs T fr)):=Lib.hid (fun j cs T fr hj hT hne=>(O89.out j hne).trans (KE.out.heap hj hT))
 have B410:Hid (Below w4.heap.size w4 w10):=Lib.hid (HS10.out.bel)
 have BW7:Hid (Below w.heap.size w w10):=BW10'
 have S79:Hid (w10.heap.size≤w12.heap.size):=Lib.hid (by rw [S89.out.1];exact G8.out.size)
 have BW9:Hid (Below w.heap.size w w12):=Lib.hid (by
  refine ⟨S89.out.2.1.trans (G8.out.os.trans BW7.out.os),S89.out.2.2.1.trans (G8.out.tape.trans BW7.out.tape),S89.out.2.2.2.trans (G8.out.output.trans BW7.out.output),Nat.le_trans BW7.out.size S79.out,fun j hj=>?_⟩
  have hb:j≠b12:=by have:=HB12.out;have:=B5.out.size;omega
  refine (O89.out j hb).trans ((G8.out.block j (Nat.lt_of_lt_of_le hj BW7.out.size) (fun e=>?_)).trans (BW7.out.block j hj))
  have:=(World.ownsRow.lt RE10.out j e.symm).1
  have:=B4.out.size
  omega)
 have V9:=Lib.hid (HVW.out.below BW9.out)
 have HBG:=Lib.hid (begin_yes gv g gen p U V HU.out HV.out w12 V9.out)
 go_upto_region 16 with (go_at_call 28;refine HBG.out.mono ?_;rintro e10 w13 ⟨gc,rfl,hc10,hb10⟩;have C10:=Lib.hid hc10;have B910:=Lib.hid hb10;clear hc10 hb10)
 have BW10:Hid (Below w.heap.size w w13):=Lib.hid (BW9.out.trans (B910.out.mono BW9.out.size))
 have V10:=Lib.hid (HVW.out.below BW10.out)
 have D10:=Lib.hid (HD.out.below BW10.out)
 have G1210:=Lib.hid (row_stays G129.out B910.out)
 obtain ⟨El,hEl⟩:∃ El,El=ls ++ [e]:=⟨_,rfl⟩
 have hEn:El.length=r+1:=by rw [hEl,List.length_append,← HN.out];rfl
 have HEN:=Lib.hid hEn
 have HEL:=Lib.hid hEl
 have ON10:Hid (OwnN w13 w4.heap.size ⟨true,El,[],[]⟩ ⟨A',c',xl.KA,xl.kc,xl.DA,xl.dc⟩):=Lib.hid (by
  have hnx:=HS10.out.nod _ (List.mem_of_getElem? HX.out)
  refine OwnN.below ⟨?_,?_,?_⟩ B910.out
  ·show w12.ownsRow w4.heap.size 40 8 (.slice A' El.length c') El.length (El.flatMap enC)
   have h1:=R8.out
   rw [show ls.flatMap enC ++ enC e=El.flatMap enC by rw [hEl,List.flatMap_append];simp,← hEn] at h1
   exact row_keep h1 (fun j cur _ hj=>O89.out j (fun e=>by rw [e,G128.out] at hj;cases hj))
  ·exact row_keep hnx.rk (fun j cur _ hj=>(KT.out j _ _ _ hj (by decide) (fun e=>by rw [e,G12.out] at hj;cases hj)).trans hj.symm)
  ·exact row_keep hnx.rd (fun j cur _ hj=>(KT.out j _ _ _ hj (by decide) (fun e=>by rw [e,G12.out] at hj;cases hj)).trans hj.symm))
 have RW10:Hid (w13.ownsRow w4.heap.size 96 6 (.slice (some ⟨b,0,none⟩) (h+1) c) (h+1) (pre.flatMap stC)):=Lib.hid (by
  have h1:=row_below HRW.out B510.out
  refine row_below (base:=w4.heap.size) (w:=w12) ?_ B910.out
  rcases h1.2 with ⟨h0,_⟩ | ⟨g',cap,cur,hv',hb',hg',rest⟩
  ·cases h0
  ·have hgb:b=g':=by
    injection hv' with q1 _ _
    simpa using q1
   have h2:=(World.ownsRow.lt HRW.out b rfl).2
   exact ⟨h1.1,.inr ⟨g',cap,cur,hv',hb',KT.out g' _ _ _ hg' (by decide) (fun e=>by have:=HB12.out;omega),rest⟩⟩)
 have HSMG:Hid (∀ n L U1,SmF pre ⟨true,El,[],[]⟩ (gaveN U (pre.map fun x=>x.s.a)) qs h n L U1→SmG ss0 (lfD (l ++ [e])) (gaveN U (ss0.map fun x=>x.a)) qs h n L U1):=Lib.hid (fun n L U1 hs=>by
  have h1:=hs.toG
  rw [HPA.out,HPS.out,HEL.out,HLL2.out] at h1
  exact h1)
 have HCL:=Lib.hid (climb_by gc gv g gen p w12.heap.size h w4.heap.size w4.heap.size 5 Rs qs U U V (orK U V 512) pre (some ⟨b,0,none⟩) c w4.heap.size ⟨true,El,[],[]⟩ ⟨A',c',xl.KA,xl.kc,xl.DA,xl.dc⟩ (rdU nw Ls p U) E El
  (fun a n hn=>⟨hn.1,hn.2.1,hn.2.2.1,by rw [getD_orK U V a 512 (by rw [HV.out];exact Nat.le_refl _),if_pos (by have:=hn.2.2.1;have:=HP5.out;omega),hn.2.2.2];simp⟩)
  HLEN.out HH1.out
  HALL.out
  (fun j hj=>by
   obtain ⟨s,parts,q1,q2⟩:=HLK.out j hj
   rw [List.getElem?_map] at q1
   obtain ⟨y,hy,hys⟩:=Option.map_eq_some_iff.1 q1
   subst hys
   exact ⟨y,parts,hy,q2⟩)
  ⟨rfl,rfl,rfl,rfl⟩ (by show El.length≤7+1;omega) (fun i y hy hi=>(HRJ.out i y hy hi).1) (by rw [HEL.out,HLL2.out];exact HFW.out) (by rw [HEL.out,HLL2.out];exact HQS.out) (fun h9=>by rw [HPA.out];exact HTK.out h9 gc) (fun n L U1 hs=>HCLN.out n L U1 (HSMG.out n L U1 hs))
  (by rw [length_orK];exact HV.out) (okM_or HOU.out HOV.out HV.out) HU.out HOU.out w13 C10.out V10.out D10.out RW10.out
  (fun i y hi hih=>by
   have hny:=HS10.out.nod y (List.mem_of_getElem? hi)
   obtain ⟨sb,⟨se,sk,sd⟩,te,tk,td⟩:=List.pairwise_iff_getElem.1 HS10.out.dis i h (List.getElem?_eq_some_iff.1 hi).1 (List.getElem?_eq_some_iff.1 HX.out).1 hih
   rw [(List.getElem?_eq_some_iff.1 hi).2] at se sk sd
   rw [(List.getElem?_eq_some_iff.1 HX.out).2] at te
   refine OwnN.below (hny.own.keepT fun bb cs T fr hb hA hT=>?_) B910.out
   have hbs:bb<sb:=by
    rcases hA with hA | hA | hA
    ·obtain ⟨z,hz,rfl⟩:=Option.map_eq_some_iff.1 hA
     exact se z hz
    ·obtain ⟨z,hz,rfl⟩:=Option.map_eq_some_iff.1 hA
     exact sk z hz
    ·obtain ⟨z,hz,rfl⟩:=Option.map_eq_some_iff.1 hA
     exact sd z hz
   refine (O89.out bb (fun e=>?_)).trans (G8.out.block bb (Array.getElem?_eq_some_iff.1 hb).1 (fun e=>?_))
   ·rw [e,G12.out] at hb
    cases hb
    revert hT
    decide
   ·have h1:=own_map e.symm
    obtain ⟨z,hz,hzb⟩:=Option.map_eq_some_iff.1 h1
    have:=te z hz
    omega)
  HS10.out.dis
  (fun y hy z hz=>by
   have h1:=own_blk (HS10.out.nod y hy).own z (.inr hz)
   have:=S79.out
   omega)
  ON10.out (by have:=HS10.out.bel.size;have:=S79.out;have:=B910.out.size;omega) B910.out.size (fun W W1 n l' L lv U1 A c ps ho hvw hc hL hB hs hb hsp hrow how=>(HTO.out gc w12.heap.size W W1 n l' L lv U1 A c ps hvw hc hL hB (HSMG.out n L U1 hs) hb hsp hrow how).mono (by
   rintro e9 w9 ⟨ra,rh,q1,q2,q3⟩
   exact ⟨ra,rh,q1,q2,fun h=>absurd h (by decide)⟩)))
 have HC2:Hid (Calls Tryz.prog 38 #[.pointer (some ⟨gc,0,none⟩),.slice (some ⟨b,0,none⟩) (h+1) c,.agg #[.bool true,.slice A' (r+1) c',.slice xl.KA 0 xl.kc,.slice xl.DA 0 xl.dc]] w13 fun e9 w'=>∃ (ra rh:Int),e9=.returned (.tuple #[.agg #[.int .i64 ra,.int .i64 rh],.int .i64 5])∧OutS gc w12.heap.size (WayX pre) w13 w'∧((5:Int)=0→∃ (L':List (Nat × (NodeD × NdL))) (U':List Bool) (lv':Value),ChgS w' gc gv p w12.heap.size U' (orK U V 512) lv' L'∧(∀ x ∈ L',NodeT w' x.2.1 x.2.2)∧Rs ra rh L' U')):=Lib.hid (by
  have h1:=HCL.out
  dsimp only [List.length_nil] at h1
  rw [HEN.out] at h1
  exact h1)
 have HRG2:Hid (w13.rangeAt b12 1 [.bool true,.slice A' (r+1) c',.slice xl.KA 0 xl.kc,.slice xl.DA 0 xl.dc]):=Lib.hid (fun j u hu=>by
  have h1:=G1210.out
  rw [HVE.out] at h1
  refine nd_cell h1 (1+j) u ?_
  rcases j with _ | _ | _ | _ | j
  ·exact hu
  ·exact hu
  ·exact hu
  ·exact hu
  ·simp at hu)
 clear HCL HBG HIN hEl hEn HSMG
 have G610:Hid (w13.heap[b6]?=some (.cells #[.int .i64 0,.int .i64 0] 43 (0,0))):=Lib.hid (row_stays (KT.out b6 _ _ _ (row_stays S3.out B510.out) (by decide) (by have:=HB6.out;have:=HB12.out;have:=HS.out.bel.size;have:=Z3.out;have:=Z4.out;omega)) B910.out)
 go_wp2_with (first
  | (refine wpList_load_mid rfl 86 (.tmp 73) rfl b12 1 rfl [.bool true,.slice A' (r+1) c',.slice xl.KA 0 xl.kc,.slice xl.DA 0 xl.dc] _ HRG2.out Tryz.underlying86 rfl (by kernel_rfl) ?_)
  | (go_at_call 38;refine HC2.out.mono ?_;rintro e11 w14 ⟨ra,rh,rfl,ho11,hrs⟩;have S11:=Lib.hid ho11;clear ho11 hrs))
 have HWX:Hid (∀ k,WayX pre k→w4.heap.size≤k):=Lib.hid (fun k hk=>by
  obtain ⟨y,hy,hyk⟩:=hk
  have h1:=own_blk (HS10.out.nod y hy).own
  rcases hyk with hyk | hyk
  ·obtain ⟨z,hz,rfl⟩:=Option.map_eq_some_iff.1 hyk
   exact (h1 z (.inr (.inl hz))).1
  ·obtain ⟨z,hz,rfl⟩:=Option.map_eq_some_iff.1 hyk
   exact (h1 z (.inr (.inr hz))).1)
 have BW11:Hid (Below w.heap.size w w14):=Lib.hid (by
  refine ⟨S11.out.os.trans BW10.out.os,S11.out.tape.trans BW10.out.tape,S11.out.output.trans BW10.out.output,Nat.le_trans BW10.out.size S11.out.size,fun j hj=>?_⟩
  have h9:=BW9.out.size
  refine (S11.out.block j (Nat.lt_of_lt_of_le hj BW10.out.size) (fun e=>?_) (fun hx=>?_) (fun hb=>?_)).trans (BW10.out.block j hj)
  ·have:=C10.out.B0
   omega
  ·have:=HWX.out j hx
   have:=Z3.out
   have:=Z4.out
   omega
  ·omega)
 have D11:=Lib.hid (HD.out.below BW11.out)
 have V11:=Lib.hid (HVW.out.below BW11.out)
 have G611:Hid (w14.heap[b6]?=some (.cells #[.int .i64 0,.int .i64 0] 43 (0,0))):=Lib.hid (S11.out.typed C10.out.chg G610.out (by decide) (by decide) (fun hx=>by have:=HWX.out b6 hx;have:=HB6.out;have:=Z3.out;have:=Z4.out;omega))
 refine (done_no ra rh gc w14).mono ?_
 rintro e12 w15 ⟨rfl,hb12⟩
 have BW12:=Lib.hid (BW11.out.trans (hb12.mono BW11.out.size))
 have G612:=Lib.hid (row_stays G611.out hb12)
 clear hb12
 go_wp2_with (refine wpList_store_row rfl 43 (.tmp 6) (.tmp 79) rfl b6 #[.int .i64 0,.int .i64 0] rfl rfl 43 _ G612.out (by kernel_rfl) rfl (by simp [Value.oneCell']) ?_)
 refine bodyPost_ret (v:=.tuple #[.agg #[.int .i64 0,.int .i64 0],.int .i64 5]) (results_cell_tmpB (p:=6) (u:=7) (ty:=43) rfl _ _ b6 43 _ (0,0) _ rfl (setRow_heap _ _ _ _ _ _ G612.out) Tryz.underlying43 rfl (by kernel_rfl)) rfl ⟨rfl,?_⟩
 exact below_setRow BW12.out (by have:=HB6.out;omega) _
end Go.Proofs.YtgkddhncfaeidaaGreat
