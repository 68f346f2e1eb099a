/- Squeezed: the texts as they are written lie in wip/tpl. -/
import Derived.Test.YtgkddhncfaeidaaGreatPart36
import Derived.Test.YtgkddhncfaeidaaGreatPart09
import Derived.Test.YtgkddhncfaeidaaGreatPart19
import Derived.Test.YtgkddhncfaeidaaGreatTjCl
import Derived.Test.YtgkddhncfaeidaaGreatPart24
import Derived.Test.YtgkddhncfaeidaaGreatPart30
set_option maxRecDepth 100000
set_option maxHeartbeats 16000000
set_option linter.unnecessarySimpa false
set_option linter.unusedSimpArgs false
set_option linter.unusedVariables false
namespace Go.Proofs.YtgkddhncfaeidaaGreat
open Go.ChangeShapes Go.WideShapes Go.ChangeAt Go.RowKit CrcM PageM
theorem kindB_inj {a b:Bool} (h:kindB a=kindB b):a=b:=by
 cases a <;> cases b <;> first | rfl | (exfalso;revert h;decide)
theorem nodeB_inj {n m:NodeD} (hl:n.leaf=m.leaf) (hn:okNode n) (hm:okNode m) (in_:inNode n) (im:inNode m) (h:nodeB n=nodeB m):n=m:=by
 have h2:n.es.flatMap enB ++ (n.ks.zip n.ds).flatMap kidB=m.es.flatMap enB ++ (m.ks.zip m.ds).flatMap kidB:=by
  unfold nodeB at h
  exact (List.cons.inj h).2
 obtain ⟨lf,es,ks,ds⟩:=n
 obtain ⟨lf2,es2,ks2,ds2⟩:=m
 dsimp only at hl h2
 subst hl
 unfold okNode at hn hm
 dsimp only at hn hm
 cases lf with
 | true =>
   rw [if_pos rfl] at hn hm
   obtain ⟨rfl,rfl,e1⟩:=hn
   obtain ⟨rfl,rfl,e2⟩:=hm
   simp only [List.zip_nil_left,List.flatMap_nil,List.append_nil] at h2
   have hlen:es.length=es2.length:=by
    have:=congrArg List.length h2
    rw [flat_len length_enB,flat_len length_enB] at this
    omega
   have q1:=entsP_enB es (fun e he=>⟨okEnts_mem e1 e he,in_.1 e he⟩)
   have q2:=entsP_enB es2 (fun e he=>⟨okEnts_mem e2 e he,im.1 e he⟩)
   rw [h2,hlen,q2] at q1
   rw [q1]
 | false =>
   rw [if_neg (by decide)] at hn hm
   obtain ⟨rfl,l1,k1,d1⟩:=hn
   obtain ⟨rfl,l2,k2,d2⟩:=hm
   simp only [List.flatMap_nil,List.nil_append] at h2
   have hz1:(ks.zip ds).map Prod.fst=ks:=List.map_fst_zip (by omega)
   have hz2:(ks2.zip ds2).map Prod.fst=ks2:=List.map_fst_zip (by omega)
   have hy1:(ks.zip ds).map Prod.snd=ds:=List.map_snd_zip (by omega)
   have hy2:(ks2.zip ds2).map Prod.snd=ds2:=List.map_snd_zip (by omega)
   have hlen:(ks.zip ds).length=(ks2.zip ds2).length:=by
    have:=congrArg List.length h2
    rw [flat_len length_kidB,flat_len length_kidB] at this
    omega
   have okK:∀ {ks:List KeyD},okKeys ks→∀ k ∈ ks,okKey k.se:=fun h k hk=>by
    obtain ⟨i,hi⟩:=List.mem_iff_getElem?.1 hk
    obtain ⟨e,q1,q2,_⟩:=h.2.2 i (List.getElem?_eq_some_iff.1 hi).1
    rw [hi] at q1
    cases q1
    exact q2
   have q1:=keysP_kidB (ks.zip ds) (fun p hp=>⟨okK k1 p.1 (List.of_mem_zip hp).1,in_.2 p.1 (List.of_mem_zip hp).1⟩)
   have q2:=keysP_kidB (ks2.zip ds2) (fun p hp=>⟨okK k2 p.1 (List.of_mem_zip hp).1,im.2 p.1 (List.of_mem_zip hp).1⟩)
   have r1:=kidsP_kidB (ks.zip ds) (fun p hp=>okKids_mem d1 p.2 (List.of_mem_zip hp).2)
   have r2:=kidsP_kidB (ks2.zip ds2) (fun p hp=>okKids_mem d2 p.2 (List.of_mem_zip hp).2)
   rw [h2,hlen,q2,hz1,hz2] at q1
   rw [h2,hlen,r2,hy1,hy2] at r1
   rw [q1,r1]
theorem rdQ_fun {nw:List UInt8} {Ls a:Nat} {n m:NodeD} (ha:a<512) (h:rdQ nw Ls a n) (h':rdQ nw Ls a m):n=m:=by
 obtain ⟨a1,a2,a3,g,a4,a5⟩:=h
 obtain ⟨b1,b2,b3,g',b4,b5⟩:=h'
 have p1:=(parse_put (kindB n.leaf) a g (nodeB n) ha a4 (nd_len a1).1).2
 have p2:=(parse_put (kindB m.leaf) a g' (nodeB m) ha b4 (nd_len b1).1).2
 rw [← a5,b5,p2] at p1
 injection p1 with e1 e2 e3 e4
 exact nodeB_inj (kindB_inj e1).symm a1 b1 a2 b2 e4.symm
theorem rdL_read {U:List Bool} {nw nw':List UInt8} {Ls p gen:Nat} {V:List Bool} {rd:Nat→NodeD→Prop} {L:List (Nat × (NodeD × NdL))} (hrd:∀ a n,rd a n→rdQ nw Ls a n∧2≤a∧a<p∧V.getD a false=true) (hL:LaidOk p U V (L.map Prod.fst)) (hg:∀ x ∈ L,okNode x.2.1∧inNode x.2.1) (hLs:256*p≤Ls) (hgen:gen<18446744073709551616) (hp:PgsOf gen nw nw' L):∀ a n,rdL rd L a n→rdQ nw' Ls a n:=fun a n h=>by
 rcases h with h | ⟨l,h⟩
 ·obtain ⟨⟨a1,a2,a3,g,a4,a5⟩,_,_,hv⟩:=hrd a n h
  refine ⟨a1,a2,a3,g,a4,?_⟩
  rw [hp.2 a (fun hm=>by have:=(hL.2 a hm).2.2.2;rw [hv] at this;cases this)]
  exact a5
 ·have h1:=hL.2 a (List.mem_map_of_mem h)
  exact ⟨(hg _ h).1,(hg _ h).2,by have:=h1.2.1;omega,gen,hgen,hp.1 _ h⟩
end Go.Proofs.YtgkddhncfaeidaaGreat
namespace Go.Proofs.YtgkddhncfaeidaaGreat
open Go.RowKit Go.ChangeShapes Go.WideShapes Go.ChangeAt CrcM PageM
def rdU (nw:List UInt8) (Ls p:Nat) (U:List Bool) (a:Nat) (n:NodeD):Prop:=rdQ nw Ls a n∧2≤a∧a<p∧U.getD a false=true
theorem chain_sub {rd:Nat→NodeD→Prop} {h:Nat} {E:Nat→List EntD} (hl:∀ j,j<h→∃ (s:StepD) (parts:List PartD),LinkD rd j s (E j) (E (j+1)) parts):∀ d j,j+d=h→(E j).Sublist (E h)
 | 0,j,e=>by rw [show j=h by omega];exact List.Sublist.refl _
 | d+1,j,e=>by
   obtain ⟨s,parts,hk⟩:=hl j (by omega)
   obtain ⟨x,hx,hE⟩:=hk.at_
   have h1:=chain_sub hl d (j+1) (by omega)
   refine List.Sublist.trans ?_ h1
   rw [← hE,← hk.sum]
   exact parts_sub (List.mem_of_getElem? hx)
theorem apt_up {es:List EntD} (h:GoodE es):Up es:=List.Pairwise.imp apt_less h.1
theorem rep_gone {ls es E':List EntD} {r:Nat} {e:EntD} (hr:ls[r]?=some e) (h:Rep ls (ls.take r ++ ls.drop (r+1)) es E'):∃ X Z,es=X ++ e :: Z∧E'=X ++ Z:=by
 obtain ⟨X,Z,h1,h2⟩:=h
 refine ⟨X ++ ls.take r,ls.drop (r+1) ++ Z,?_,?_⟩
 ·have h3:=List.take_append_drop r ls
  have h4:=List.drop_eq_getElem_cons (List.getElem?_eq_some_iff.1 hr).1
  rw [(List.getElem?_eq_some_iff.1 hr).2] at h4
  rw [h4] at h3
  rw [h1]
  conv=>lhs;rw [← h3]
  simp [List.append_assoc]
 ·rw [h2]
  simp [List.append_assoc]
theorem delete_any (gv g gen p a h:Nat) (U V:List Bool) {B N gs gn Ls cs cn:Nat} {rw:Value} {st nw:List UInt8} {ws:List (Nat × List UInt8)} (nr:NodeD) (es:List EntD) (k:KeyD) (e:EntD)
 (hr:rdU nw Ls p U a nr) (ht:Tre (rdU nw Ls p U) h nr es) (h4:h≤4) (hg:GoodE es) (he:e ∈ es) (hk:e.key=k) (hU:U.length=512) (hV:V.length=512) (okU:okM (p:Int) U) (okV:okM (p:Int) V) (hroom:RoomP p (orK U V 512) U (2*h+1)) (hgen:gen<18446744073709551616) (hws:ws.length+36≤500) (hLs:256*p≤Ls) (w:World) (hv:ViewAt w gv g gen (p:Int) U V) (hd:Dk w B N g gs gn rw Ls cs cn st nw ws true (-1)) :
 Calls Tryz.prog 15 #[.pointer (some ⟨gv,0,none⟩),.agg #[.int .i64 (a:Int),.int .i64 ((h:Int)+1)],.agg #[.int .i64 k.se,.int .i64 k.st]] w fun e' w'=>∃ (a' hh':Nat) (U':List Bool) (L:List (Nat × (NodeD × NdL))),e'=.returned (.tuple #[.agg #[.int .i64 (a':Int),.int .i64 (hh':Int)],.int .i64 0])∧Wrote w w' gv g gen p U' V B gs gn Ls cs cn rw st nw ws L∧∃ X Z,es=X ++ e :: Z∧∀ nw',PgsOf gen nw nw' L→TreeOf (rdQ nw' Ls) a' hh' (X ++ Z):=by
 have hp5:p≤512:=by have:=okU.2.1;omega
 have h1e:1≤es.length:=by cases es with
  | nil=>cases he
  | cons x t=>simp
 have HWY:=Lib.hid (fun W (hW:Below w.heap.size w W)=>way_of gv g gen p a h U V nr es k (fun a n (h:rdU nw Ls p U a n)=>h.1) hr ht h1e h4 W (hv.below hW) (hd.below hW) ((h:Int)+1) rfl)
 have HR:=Lib.hid hr
 have HT:=Lib.hid ht
 have HG:=Lib.hid hg
 have HE:=Lib.hid he
 have HK:=Lib.hid hk
 have HU:=Lib.hid hU
 have HV:=Lib.hid hV
 have HOU:=Lib.hid okU
 have HOV:=Lib.hid okV
 have HRM:=Lib.hid hroom
 have HGN:=Lib.hid hgen
 have HWS:=Lib.hid hws
 have HLS:=Lib.hid hLs
 have HVW:=Lib.hid hv
 have HD:=Lib.hid hd
 have HP5:=Lib.hid hp5
 clear hr ht hg he hk hU hV okU okV hroom hgen hws hLs hv hd hp5 h1e
 obtain ⟨kse,hks⟩:∃ x,x=k.se:=⟨_,rfl⟩
 obtain ⟨kst,hkt⟩:∃ x,x=k.st:=⟨_,rfl⟩
 have HKE:=Lib.hid hks
 have HKT:=Lib.hid hkt
 rw [← hks,← hkt] at HWY ⊢
 clear hks hkt
 obtain ⟨w3,hw3⟩:∃ w3,w3=((w.alloc (.cells #[.int .i64 (a:Int),.int .i64 ((h:Int)+1)] 43)).alloc (.cells #[.int .i64 kse,.int .i64 kst] 38)).alloc (.cells #[.int .i64 0,.int .i64 0] 43):=⟨_,rfl⟩
 have A4:Hid (w3.heap[w.heap.size]?=some (.cells #[.int .i64 (a:Int),.int .i64 ((h:Int)+1)] 43 (0,0))):=Lib.hid (by
  rw [hw3]
  exact row_stays (row_stays (heap_alloc_new w _) (alloc_bel rfl)) (alloc_bel rfl))
 have A5:Hid (w3.heap[w.heap.size+1]?=some (.cells #[.int .i64 kse,.int .i64 kst] 38 (0,0))):=Lib.hid (by
  rw [hw3]
  have h1:=heap_alloc_new (w.alloc (.cells #[.int .i64 (a:Int),.int .i64 ((h:Int)+1)] 43)) (.cells #[.int .i64 kse,.int .i64 kst] 38)
  rw [World.size_alloc] at h1
  exact row_stays h1 (alloc_bel rfl))
 have A6:Hid (w3.heap[w.heap.size+1+1]?=some (.cells #[.int .i64 0,.int .i64 0] 43 (0,0))):=Lib.hid (by
  rw [hw3]
  have h1:=heap_alloc_new ((w.alloc (.cells #[.int .i64 (a:Int),.int .i64 ((h:Int)+1)] 43)).alloc (.cells #[.int .i64 kse,.int .i64 kst] 38)) (.cells #[.int .i64 0,.int .i64 0] 43)
  rw [World.size_alloc,World.size_alloc] at h1
  exact h1)
 have B3:Hid (Below w.heap.size w w3):=Lib.hid (by
  rw [hw3]
  exact (((Below.refl _ w).alloc (Nat.le_refl _) _).alloc (by simp) _).alloc (by simp;omega) _)
 have Z3:Hid (w3.heap.size=w.heap.size+3):=Lib.hid (by rw [hw3];simp)
 have HW3:=Lib.hid hw3
 clear hw3
 go_enter Tryz.func15,Tryz.ntmps15
 go_upto_region 1 with fail
 rw [← HW3.out]
 clear HW3
 obtain ⟨b6,hb6⟩:∃ b6,b6=w.heap.size+1+1:=⟨_,rfl⟩
 rw [← hb6] at A6 ⊢
 have HB6:=Lib.hid hb6
 clear hb6
 go_upto_region 2 with (first
  | (refine wpList_load_row rfl 43 (.tmp 4) rfl w.heap.size rfl 43 _ (0,0) _ A4.out Tryz.underlying43 rfl (by kernel_rfl) ?_)
  | (refine wpList_load_row rfl 38 (.tmp 5) rfl (w.heap.size+1) rfl 38 _ (0,0) _ A5.out Tryz.underlying38 rfl (by kernel_rfl) ?_)
  | (go_at_call 35;refine (HWY.out _ B3.out).mono ?_;rintro e4 w4 ⟨pre,A,c,rfl,hs4,hdn⟩;have HS:=Lib.hid hs4;have HDN:=Lib.hid hdn;have G5:=Lib.hid (row_stays A5.out hs4.bel);have G6:=Lib.hid (row_stays A6.out hs4.bel);clear hs4 hdn))
 clear A4 A5 A6 HWY
 have hlen:pre.length=h+1:=by have:=HDN.out.len;rw [List.length_map] at this;exact this
 have HLEN:=Lib.hid hlen
 rw [hlen]
 obtain ⟨E,hEh,⟨sl,hsl,hsleaf,hslE,hslk,hsld,hslr,hslp⟩,hlk⟩:=HDN.out.chain HR.out HT.out
 obtain ⟨x,hx,hxs⟩:∃ x:StepM,pre[h]?=some x∧x.s=sl:=by
  rw [List.getElem?_map] at hsl
  exact Option.map_eq_some_iff.1 hsl
 subst hxs
 obtain ⟨pd,s9,k1,k2,k3,k4,k5,k6,k7⟩:=HDN.out.last HR.out HT.out (apt_up HG.out)
 have hs9:s9=x.s:=by
  have h1:=congrArg List.length k1
  rw [List.length_map,hlen,List.length_append,List.length_singleton] at h1
  rw [k1,List.getElem?_append_right (by omega),show h - pd.length=0 by omega] at hsl
  simpa using hsl
 subst hs9
 have hre:=at_place k5 (by have h1:=k4;unfold PlaceOf at h1;rw [if_pos k3] at h1;exact h1) (k7 e HE.out HK.out) HK.out
 obtain ⟨⟨xa,⟨lf,ls,ks,ds⟩,r⟩,xl⟩:=x
 dsimp only at hsl hsleaf hslE hslk hsld hslr hslp hre k5
 subst hsleaf hslk hsld
 clear k1 k2 k3 k4 k6 k7 hsl hslp
 have HX:=Lib.hid hx
 have HRE:=Lib.hid hre
 have HLK:=Lib.hid hlk
 have HEH:=Lib.hid hEh
 have HE0:=Lib.hid hslE
 have HXR:=Lib.hid hslr
 obtain ⟨n,hn⟩:∃ n,n=ls.length:=⟨_,rfl⟩
 have hrn:r<n:=by rw [hn];exact (List.getElem?_eq_some_iff.1 hre).1
 have hn7:n≤7:=by
  have h1:=hslr.1.1
  unfold okNode at h1
  rw [if_pos rfl] at h1
  rw [hn]
  exact h1.2.2.2.1
 have HN:=Lib.hid hn
 have hpx:pre=pre.take h ++ [⟨⟨xa,⟨true,ls,[],[]⟩,r⟩,xl⟩]:=by
  have h1:=List.take_append_drop h pre
  have h2:=List.drop_eq_getElem_cons (List.getElem?_eq_some_iff.1 hx).1
  have h3:pre.drop (h+1)=[]:=List.drop_eq_nil_of_le (by omega)
  rw [(List.getElem?_eq_some_iff.1 hx).2,h3] at h2
  rw [h2] at h1
  exact h1.symm
 have hxm:=List.mem_of_getElem? hx
 have HRW:Hid (w4.ownsRow w3.heap.size 96 6 (.slice A (h+1) c) (h+1) (pre.flatMap stC)):=Lib.hid (by have h1:=HS.out.row;rw [hlen] at h1;exact h1)
 have HKN:Hid (∀ X,Below w4.heap.size w4 X→Calls Tryz.prog 36 #[.slice A (h+1) c,.agg #[.int .i64 kse,.int .i64 kst]] X fun e' w'=>e'=.returned (.tuple #[.agg #[.int .i64 e.se,.int .i64 e.st,.int .i64 e.en,.int .i64 e.ad,.int .i64 e.le,.int .i64 e.cn,.int .i64 e.co,.int .u32 e.cr],.bool true])∧Below X.heap.size X w'):=Lib.hid (fun X hX=>by
  have h1:=row_below HRW.out hX
  rw [hpx] at h1
  have hkn:=known_last (pre.take h) ⟨⟨xa,⟨true,ls,[],[]⟩,r⟩,xl⟩ A c (h+1) _ k X (by rw [List.length_take,hlen];omega) (by omega) h1 ((HS.out.below hX).nod _ hxm).own.at (by show ls.length≤_;omega) (by show r≤ls.length;omega)
  rw [HKE.out,HKT.out]
  refine hkn.mono ?_
  rintro e' w'' ⟨rfl,hb⟩
  refine ⟨?_,hb⟩
  have h2:knV ls r k=[enV e,.bool true]:=by
   unfold knV
   rw [hre]
   have h3:e.se=k.se∧e.st=k.st:=by rw [← HK.out];exact ⟨rfl,rfl⟩
   simp only [if_pos h3]
  show Ending.returned (Value.tuple (knV ls r k).toArray)=_
  rw [h2]
  rfl)
 obtain ⟨b,hAb,hbw,hnc,hcm,hsr⟩:=SRow.of_row HRW.out hlen.symm (by omega)
 subst hAb
 have HSR:=Lib.hid hsr
 unfold maxLen at hcm
 clear hsr hx hre hlk hEh hslE hslr hn hxm
 go_upto_region 5 with (first
  | (refine wpList_load_row rfl 38 (.tmp 5) rfl (w.heap.size+1) rfl 38 _ (0,0) _ G5.out Tryz.underlying38 rfl (by kernel_rfl) ?_)
  | (go_at_call 36;refine (HKN.out _ (Below.refl _ _)).mono ?_;rintro e5 w5 ⟨rfl,hb5⟩;have B45:=Lib.hid hb5;clear hb5)
  | (refine wpList_store_row rfl 40 (.tmp 10) (.tmp 29) rfl w5.heap.size #[.int .i64 e.se,.int .i64 e.st,.int .i64 e.en,.int .i64 e.ad,.int .i64 e.le,.int .i64 e.cn,.int .i64 e.co,.int .u32 e.cr] rfl rfl 40 _ (heap_alloc_new _ _) (by kernel_rfl) rfl (by simp [Value.oneCell']) ?_))
 obtain ⟨w6,hw6⟩:∃ w6,w6=(w5.alloc (.cells #[.int .i64 0,.int .i64 0,.int .i64 0,.int .i64 0,.int .i64 0,.int .i64 0,.int .i64 0,.int .u32 0] 40)).setRow w5.heap.size #[.int .i64 e.se,.int .i64 e.st,.int .i64 e.en,.int .i64 e.ad,.int .i64 e.le,.int .i64 e.cn,.int .i64 e.co,.int .u32 e.cr]:=⟨_,rfl⟩
 have B46:Hid (Below w4.heap.size w4 w6):=Lib.hid (B45.out.trans ((by rw [hw6];exact below_setRow (alloc_bel rfl) (Nat.le_refl _) _:Below w5.heap.size w5 w6).mono B45.out.size))
 rw [← hw6]
 clear hw6
 have HS6:=Lib.hid (HS.out.below B46.out)
 have SR6:Hid (SRow w6 b pre):=Lib.hid (by
  obtain ⟨cur,q1,_⟩:=HSR.out
  exact HSR.out.same (B46.out.block b (Array.getElem?_eq_some_iff.1 q1).1))
 have HRG:Hid (w6.rangeAt b (h*6) [.int .i64 (xa:Int),.bool true,.slice xl.EA n xl.ec,.slice xl.KA 0 xl.kc,.slice xl.DA 0 xl.dc,.int .i64 (r:Int)]):=Lib.hid (by
  have h1:=SR6.out.range HX.out
  rw [HN.out]
  exact h1)
 have hw1:wrap64 (((h+1:Nat):Int) - 1)=(h:Int):=by unfold wrap64;omega
 have hw2:wrap64 ((h:Int)+1 - 1)=(h:Int):=by unfold wrap64;omega
 have hh1:(h:Int)<(h:Int)+1:=by omega
 have hrw1:wrap64 ((r:Int)+1)=(r:Int)+1:=by unfold wrap64;omega
 go_upto_region 7 with fail
 go_upto_region 8 with (first
  | (refine wpList_load_mid rfl 96 (.tmp 38) rfl b (h*6) rfl [.int .i64 (xa:Int),.bool true,.slice xl.EA n xl.ec,.slice xl.KA 0 xl.kc,.slice xl.DA 0 xl.dc,.int .i64 (r:Int)] _ HRG.out Tryz.underlying96 rfl (by kernel_rfl) ?_)
  | (refine wpList_store_row rfl 96 (.tmp 12) (.tmp 39) rfl w6.heap.size #[.int .i64 (xa:Int),.bool true,.slice xl.EA n xl.ec,.slice xl.KA 0 xl.kc,.slice xl.DA 0 xl.dc,.int .i64 (r:Int)] rfl rfl 96 _ (heap_alloc_new _ _) (by kernel_rfl) rfl (by simp [Value.oneCell']) ?_))
 obtain ⟨b12,hb12⟩:∃ b12,b12=w6.heap.size:=⟨_,rfl⟩
 obtain ⟨w7,hw7⟩:∃ w7,w7=(w6.alloc (.cells #[.int .i64 0,.bool false,.slice none 0 0,.slice none 0 0,.slice none 0 0,.int .i64 0] 96)).setRow b12 #[.int .i64 (xa:Int),.bool true,.slice xl.EA n xl.ec,.slice xl.KA 0 xl.kc,.slice xl.DA 0 xl.dc,.int .i64 (r:Int)]:=⟨_,rfl⟩
 have B67:Hid (Below w6.heap.size w6 w7):=Lib.hid (by rw [hw7,hb12];exact below_setRow (alloc_bel rfl) (Nat.le_refl _) _)
 have G12:Hid (w7.heap[b12]?=some (.cells #[.int .i64 (xa:Int),.bool true,.slice xl.EA n xl.ec,.slice xl.KA 0 xl.kc,.slice xl.DA 0 xl.dc,.int .i64 (r:Int)] 96 (0,0))):=Lib.hid (by
  rw [hw7]
  exact setRow_heap _ _ _ _ _ _ (by rw [hb12];exact heap_alloc_new _ _))
 have HB12:Hid (w4.heap.size≤b12):=Lib.hid (by rw [hb12];exact B46.out.size)
 rw [← hb12,← hw7]
 clear hw7 hb12 hw1 hw2 hh1
 have HS7:=Lib.hid (HS6.out.below B67.out)
 have SR7:Hid (SRow w7 b pre):=Lib.hid (by
  obtain ⟨cur,q1,_⟩:=SR6.out
  exact SR6.out.same (B67.out.block b (Array.getElem?_eq_some_iff.1 q1).1))
 have RE7:Hid (w7.ownsRow w3.heap.size 40 8 (.slice xl.EA n xl.ec) n (ls.flatMap enC)):=Lib.hid (by
  have h1:=(HS7.out.nod _ (List.mem_of_getElem? HX.out)).re
  dsimp only at h1
  rw [← HN.out] at h1
  exact h1)
 have HDL:=Lib.hid (del_ent w3.heap.size n xl.ec r xl.EA (ls.flatMap enC) w7 RE7.out hrn (by omega) (flat_one enC_one _))
 have c2:=nd_cell G12.out 2 (.slice xl.EA n xl.ec) rfl
 have c5:=nd_cell G12.out 5 (.int .i64 (r:Int)) rfl
 try simp only [Act.put,List.setIfInBounds_toArray,List.set_cons_zero,List.set_cons_succ]
 go_upto_region 9 with (go_at_call 37;refine HDL.out.mono ?_;rintro e8 w8 ⟨rfl,hr8,hg8⟩;have R8:=Lib.hid hr8;have G8:=Lib.hid hg8;have G128:=Lib.hid ((typed_kept RE7.out hg8 (by decide) G12.out).trans G12.out);have c28:=nd_cell G128.out 2 (.slice xl.EA n xl.ec) rfl;have f28:w8.frozen? ⟨b12,2,none⟩=false:=(by simp [World.frozen?,G128.out]);clear hr8 hg8)
 clear c2 c5
 obtain ⟨vE,hvE⟩:∃ vE,vE=Value.slice xl.EA (n - 1) xl.ec:=⟨_,rfl⟩
 obtain ⟨w9,hw9⟩:∃ w9,w9=w8.setCell ⟨b12,2,none⟩ vE:=⟨_,rfl⟩
 have O89:Hid (∀ k,k≠b12→w9.heap[k]?=w8.heap[k]?):=Lib.hid (fun k hk=>by rw [hw9];exact Below.heap_setCell w8 ⟨b12,2,none⟩ vE k hk)
 have S89:Hid (w9.heap.size=w8.heap.size∧w9.os=w8.os∧w9.tape=w8.tape∧w9.output=w8.output):=Lib.hid (by rw [hw9];exact ⟨by simp,rfl,rfl,rfl⟩)
 have G129:Hid (w9.heap[b12]?=some (.cells #[.int .i64 (xa:Int),.bool true,vE,.slice xl.KA 0 xl.kc,.slice xl.DA 0 xl.dc,.int .i64 (r:Int)] 96 (0,0))):=Lib.hid (by
  rw [hw9]
  have h1:=heap_setCell_same w8 b12 2 _ _ vE G128.out
  simpa using h1)
 rw [← hvE,← hw9]
 have HVE:=Lib.hid hvE
 clear hw9 hvE c28 f28
 have KE:Hid (KeptNot 40 w7 w8):=Lib.hid (KeptNot.of_row RE7.out G8.out)
 have KT:Hid (∀ (j:Nat) (cs:Array Value) (T:TypeId) (fr:Nat × Nat),w7.heap[j]?=some (Obj.cells cs T fr)→T≠40→j≠b12→w9.heap[j]?=some (Obj.cells cs T fr)):=Lib.hid (fun j cs T fr hj hT hne=>(O89.out j hne).trans (KE.out.heap hj hT))
 have B37:Hid (Below w3.heap.size w3 w7):=Lib.hid (HS7.out.bel)
 have BW7:Hid (Below w.heap.size w w7):=Lib.hid (B3.out.trans (B37.out.mono B3.out.size))
 have S79:Hid (w7.heap.size≤w9.heap.size):=Lib.hid (by rw [S89.out.1];exact G8.out.size)
 have BW9:Hid (Below w.heap.size w w9):=Lib.hid (by
  refine ⟨S89.out.2.1.trans (G8.out.os.trans BW7.out.os),S89.out.2.2.1.trans (G8.out.tape.trans BW7.out.tape),S89.out.2.2.2.trans (G8.out.output.trans BW7.out.output),Nat.le_trans BW7.out.size S79.out,fun j hj=>?_⟩
  have hb:j≠b12:=by have:=HB12.out;have:=HS.out.bel.size;have:=B3.out.size;omega
  refine (O89.out j hb).trans ((G8.out.block j (Nat.lt_of_lt_of_le hj BW7.out.size) (fun e=>?_)).trans (BW7.out.block j hj))
  have:=(World.ownsRow.lt RE7.out j e.symm).1
  have:=B3.out.size
  omega)
 have V9:=Lib.hid (HVW.out.below BW9.out)
 have HBG:=Lib.hid (begin_yes gv g gen p U V HU.out HV.out w9 V9.out)
 go_upto_region 10 with (go_at_call 28;refine HBG.out.mono ?_;rintro e10 w10 ⟨gc,rfl,hc10,hb10⟩;have C10:=Lib.hid hc10;have B910:=Lib.hid hb10;clear hc10 hb10)
 have BW10:Hid (Below w.heap.size w w10):=Lib.hid (BW9.out.trans (B910.out.mono BW9.out.size))
 have V10:=Lib.hid (HVW.out.below BW10.out)
 have D10:=Lib.hid (HD.out.below BW10.out)
 have G1210:=Lib.hid (row_stays G129.out B910.out)
 obtain ⟨El,hEl⟩:∃ El,El=ls.take r ++ ls.drop (r+1):=⟨_,rfl⟩
 have hEn:El.length=n - 1:=by rw [hEl,List.length_append,List.length_take,List.length_drop,← HN.out];omega
 have HEN:=Lib.hid hEn
 have HEL:=Lib.hid hEl
 have hsubE:El.Sublist ls:=by
  rw [hEl]
  conv=>rhs;rw [← List.take_append_drop r ls]
  refine (List.Sublist.refl _).append ?_
  rw [← List.drop_drop]
  exact List.drop_sublist 1 _
 have ON10:Hid (OwnN w10 w3.heap.size ⟨true,El,[],[]⟩ ⟨xl.EA,xl.ec,xl.KA,xl.kc,xl.DA,xl.dc⟩):=Lib.hid (by
  have hnx:=HS7.out.nod _ (List.mem_of_getElem? HX.out)
  refine OwnN.below ⟨?_,?_,?_⟩ B910.out
  ·show w9.ownsRow w3.heap.size 40 8 (.slice xl.EA El.length xl.ec) El.length (El.flatMap enC)
   have h1:=R8.out
   rw [flatR_take lenEnC,flatR_drop lenEnC,← List.flatMap_append,← hEl,← hEn] at h1
   exact row_keep h1 (fun j cur _ hj=>O89.out j (fun e=>by rw [e,G128.out] at hj;cases hj))
  ·exact row_keep hnx.rk (fun j cur _ hj=>(KT.out j _ _ _ hj (by decide) (fun e=>by rw [e,G12.out] at hj;cases hj)).trans hj.symm)
  ·exact row_keep hnx.rd (fun j cur _ hj=>(KT.out j _ _ _ hj (by decide) (fun e=>by rw [e,G12.out] at hj;cases hj)).trans hj.symm))
 have RW10:Hid (w10.ownsRow w3.heap.size 96 6 (.slice (some ⟨b,0,none⟩) (h+1) c) (h+1) (pre.flatMap stC)):=Lib.hid (by
  have h1:=row_below HRW.out (B46.out.trans (B67.out.mono B46.out.size))
  refine row_below (base:=w3.heap.size) (w:=w9) ?_ B910.out
  rcases h1.2 with ⟨h0,_⟩ | ⟨g',cap,cur,hv',hb',hg',rest⟩
  ·cases h0
  ·have hgb:b=g':=by
    injection hv' with q1 _ _
    simpa using q1
   have h2:=(World.ownsRow.lt HRW.out b rfl).2
   exact ⟨h1.1,.inr ⟨g',cap,cur,hv',hb',KT.out g' _ _ _ hg' (by decide) (fun e=>by have:=HB12.out;omega),rest⟩⟩)
 have HCL:=Lib.hid (climb_any gc gv g gen p w9.heap.size h 0 w3.heap.size w3.heap.size U U V (orK U V 512) pre (some ⟨b,0,none⟩) c w3.heap.size ⟨true,El,[],[]⟩ ⟨xl.EA,xl.ec,xl.KA,xl.kc,xl.DA,xl.dc⟩ (rdU nw Ls p U) E El
  (fun a n hn=>⟨hn.1,hn.2.1,hn.2.2.1,by rw [getD_orK U V a 512 (by rw [HV.out];exact Nat.le_refl _),if_pos (by have:=hn.2.2.1;have:=HP5.out;omega),hn.2.2.2];simp⟩)
  (fun a m m' h1 h2=>rdQ_fun (by have:=h1.2.2.1;have:=HP5.out;omega) h1.1 h2.1) HLEN.out h4
  (fun y hy=>by
   obtain ⟨i,hi⟩:=List.mem_iff_getElem?.1 hy
   have hil:=(List.getElem?_eq_some_iff.1 hi).1
   by_cases hih:i=h
   ·subst hih
    rw [HX.out] at hi
    cases hi
    exact HXR.out
   ·obtain ⟨s,parts,q1,q2⟩:=HLK.out (h - 1 - i) (by have:=HLEN.out;omega)
    rw [show h - 1 - (h - 1 - i)=i by have:=HLEN.out;omega,List.getElem?_map,hi] at q1
    cases q1
    exact q2.rd_)
  (fun j hj=>by
   obtain ⟨s,parts,q1,q2⟩:=HLK.out j hj
   rw [List.getElem?_map] at q1
   obtain ⟨y,hy,hys⟩:=Option.map_eq_some_iff.1 q1
   subst hys
   exact ⟨y,parts,hy,q2⟩)
  ⟨rfl,rfl,rfl,rfl⟩ (by show El.length≤7;omega)
  (fun j hj E' hrep=>by
   rw [← HE0.out] at hrep
   have h1:=hrep.sub hsubE
   have h2:=chain_sub (fun j hj=>by obtain ⟨s,parts,_,q2⟩:=HLK.out j hj;exact ⟨s,parts,q2⟩) (h - j) j (by omega)
   rw [HEH.out] at h2
   exact HG.out.sub (h1.trans h2))
  (by rw [length_orK];exact HV.out) (okM_or HOU.out HOV.out HV.out) ⟨HU.out,HOU.out,HRM.out,List.nodup_nil,fun a ha=>by cases ha⟩ w10 C10.out V10.out D10.out RW10.out
  (fun i y hi hih=>by
   have hny:=HS7.out.nod y (List.mem_of_getElem? hi)
   obtain ⟨sb,⟨se,sk,sd⟩,te,tk,td⟩:=List.pairwise_iff_getElem.1 HS7.out.dis i h (List.getElem?_eq_some_iff.1 hi).1 (List.getElem?_eq_some_iff.1 HX.out).1 hih
   rw [(List.getElem?_eq_some_iff.1 hi).2] at se sk sd
   rw [(List.getElem?_eq_some_iff.1 HX.out).2] at te
   refine OwnN.below (hny.own.keepT fun bb cs T fr hb hA hT=>?_) B910.out
   have hbs:bb<sb:=by
    rcases hA with hA | hA | hA
    ·obtain ⟨z,hz,rfl⟩:=Option.map_eq_some_iff.1 hA
     exact se z hz
    ·obtain ⟨z,hz,rfl⟩:=Option.map_eq_some_iff.1 hA
     exact sk z hz
    ·obtain ⟨z,hz,rfl⟩:=Option.map_eq_some_iff.1 hA
     exact sd z hz
   refine (O89.out bb (fun e=>?_)).trans (G8.out.block bb (Array.getElem?_eq_some_iff.1 hb).1 (fun e=>?_))
   ·rw [e,G12.out] at hb
    cases hb
    revert hT
    decide
   ·have h1:=own_map e.symm
    obtain ⟨z,hz,hzb⟩:=Option.map_eq_some_iff.1 h1
    have:=te z hz
    omega)
  HS7.out.dis
  (fun y hy z hz=>by
   have h1:=own_blk (HS7.out.nod y hy).own z (.inr hz)
   have:=S79.out
   omega)
  ON10.out (by have:=HS7.out.bel.size;have:=S79.out;have:=B910.out.size;omega) B910.out.size)
 have HC2:Hid (Calls Tryz.prog 38 #[.pointer (some ⟨gc,0,none⟩),.slice (some ⟨b,0,none⟩) (h+1) c,.agg #[.bool true,.slice xl.EA (n - 1) xl.ec,.slice xl.KA 0 xl.kc,.slice xl.DA 0 xl.dc]] w10 fun e w'=>∃ (a hh:Nat) (L':List (Nat × (NodeD × NdL))) (U':List Bool) (lv':Value) (E':List EntD),e=.returned (.tuple #[.agg #[.int .i64 (a:Int),.int .i64 (hh:Int)],.int .i64 0]) ∧
  ChgS w' gc gv p w9.heap.size U' (orK U V 512) lv' L'∧FitU p (orK U V 512) U' 0 (L'.map Prod.fst)∧(∀ x ∈ L',OwnN w' w9.heap.size x.2.1 x.2.2)∧(∀ x ∈ L',okNode x.2.1∧inNode x.2.1)∧OutS gc w9.heap.size (WayX pre) w10 w'∧Rep (E 0) El (E h) E'∧TreeOf (rdL (rdU nw Ls p U) L') a hh E'∧L'.length≤2*h+1):=Lib.hid (by
  have h1:=HCL.out
  dsimp only [List.length_nil] at h1
  rw [HEN.out] at h1
  exact h1)
 have HRG2:Hid (w10.rangeAt b12 1 [.bool true,.slice xl.EA (n - 1) xl.ec,.slice xl.KA 0 xl.kc,.slice xl.DA 0 xl.dc]):=Lib.hid (fun j u hu=>by
  have h1:=G1210.out
  rw [HVE.out] at h1
  refine nd_cell h1 (1+j) u ?_
  rcases j with _ | _ | _ | _ | j
  ·exact hu
  ·exact hu
  ·exact hu
  ·exact hu
  ·simp at hu)
 clear HCL HBG HDL hEl hEn hsubE
 have G610:Hid (w10.heap[b6]?=some (.cells #[.int .i64 0,.int .i64 0] 43 (0,0))):=Lib.hid (row_stays (KT.out b6 _ _ _ (row_stays (row_stays G6.out B46.out) B67.out) (by decide) (by have:=HB6.out;have:=HB12.out;have:=HS.out.bel.size;have:=Z3.out;omega)) B910.out)
 go_wp2_with (first
  | (refine wpList_load_mid rfl 86 (.tmp 56) rfl b12 1 rfl [.bool true,.slice xl.EA (n - 1) xl.ec,.slice xl.KA 0 xl.kc,.slice xl.DA 0 xl.dc] _ HRG2.out Tryz.underlying86 rfl (by kernel_rfl) ?_)
  | (go_at_call 38;refine HC2.out.mono ?_;rintro e11 w11 ⟨ra,rh,L',U',lv',E',rfl,hc11,hf11,hl11,hg11,ho11,hr11,ht11,hn11⟩;have C11:=Lib.hid hc11;have F11:=Lib.hid hf11;have LY11:=Lib.hid hl11;have GD11:=Lib.hid hg11;have S11:=Lib.hid ho11;have RP11:=Lib.hid hr11;have TR11:=Lib.hid ht11;have CN11:=Lib.hid hn11;clear hc11 hf11 hl11 hg11 ho11 hr11 ht11 hn11))
 have HWX:Hid (∀ k,WayX pre k→w3.heap.size≤k):=Lib.hid (fun k hk=>by
  obtain ⟨y,hy,hyk⟩:=hk
  have h1:=own_blk (HS7.out.nod y hy).own
  rcases hyk with hyk | hyk
  ·obtain ⟨z,hz,rfl⟩:=Option.map_eq_some_iff.1 hyk
   exact (h1 z (.inr (.inl hz))).1
  ·obtain ⟨z,hz,rfl⟩:=Option.map_eq_some_iff.1 hyk
   exact (h1 z (.inr (.inr hz))).1)
 have BW11:Hid (Below w.heap.size w w11):=Lib.hid (by
  refine ⟨S11.out.os.trans BW10.out.os,S11.out.tape.trans BW10.out.tape,S11.out.output.trans BW10.out.output,Nat.le_trans BW10.out.size S11.out.size,fun j hj=>?_⟩
  have h9:=BW9.out.size
  refine (S11.out.block j (Nat.lt_of_lt_of_le hj BW10.out.size) (fun e=>?_) (fun hx=>?_) (fun hb=>?_)).trans (BW10.out.block j hj)
  ·have:=C10.out.B0
   omega
  ·have:=HWX.out j hx
   have:=Z3.out
   omega
  ·omega)
 have D11:=Lib.hid (HD.out.below BW11.out)
 have V11:=Lib.hid (HVW.out.below BW11.out)
 have G611:Hid (w11.heap[b6]?=some (.cells #[.int .i64 0,.int .i64 0] 43 (0,0))):=Lib.hid (S11.out.typed C10.out.chg G610.out (by decide) (by decide) (fun hx=>by have:=HWX.out b6 hx;have:=HB6.out;have:=Z3.out;omega))
 refine (done_yes ra rh gc gv g gen p U' U V L' w11 D11.out V11.out (fun W hW=>?_)).mono ?_
 ·refine (write_yes gc gv p w9.heap.size gen U' U V (orK U V 512) lv' L' F11.out.len HU.out (by rw [length_orK];exact HV.out) HV.out HGN.out (by have:=CN11.out;have:=HWS.out;omega) F11.out.laid.1 (fun x hx=>⟨(GD11.out x hx).1,by have:=(F11.out.laid.2 x.1 (List.mem_map_of_mem hx)).2.1;have:=HLS.out;omega⟩) W (fun x hx=>((LY11.out x hx).below hW).t) (C11.out.below hW) (V11.out.below hW) (D11.out.below hW)).mono ?_
  rintro e' w' ⟨h1,h2,h3,h4⟩
  exact ⟨h1,⟨h2,h3,h4⟩⟩
 ·rintro e12 w12 ⟨rfl,hw12⟩
  have W12:=Lib.hid hw12
  clear hw12
  have hX:¬ (DkX g gn rw b6∨b6=gv):=fun hx=>by
   rcases hx with hx | hx
   ·exact D11.out.notX G611.out (by decide) (.inl (by decide)) (by decide) hx
   ·have h1:=V11.out
    have h2:=G611.out
    unfold ViewAt at h1
    rw [hx,h1] at h2
    cases h2
  have G612:=Lib.hid (W12.out.out.heap G611.out hX)
  clear hX
  go_wp2_with (refine wpList_store_row rfl 43 (.tmp 6) (.tmp 62) rfl b6 #[.int .i64 (ra:Int),.int .i64 (rh:Int)] rfl rfl 43 _ G612.out (by kernel_rfl) rfl (by simp [Value.oneCell']) ?_)
  refine bodyPost_ret (v:=.tuple #[.agg #[.int .i64 (ra:Int),.int .i64 (rh:Int)],.int .i64 0]) (results_cell_tmpB (p:=6) (u:=7) (ty:=43) rfl _ _ b6 43 _ (0,0) _ rfl (setRow_heap _ _ _ _ _ _ G612.out) Tryz.underlying43 rfl (by kernel_rfl)) rfl ?_
  have hrep:=RP11.out
  rw [← HE0.out,HEH.out,HEL.out] at hrep
  obtain ⟨X,Z,x1,x2⟩:=rep_gone HRE.out hrep
  refine ⟨ra,rh,U',L',rfl,(W12.out.pre BW11.out).post (KeptNot.of_setRow G612.out _) (below_setRow (Below.refl _ _) ?_ _) (by decide) (by decide) (by decide) (by decide),X,Z,x1,fun nw' hp=>?_⟩
  ·have:=HB6.out;omega
  ·rw [← x2]
   have hread:=rdL_read (V:=orK U V 512) (fun a n (hn:rdU nw Ls p U a n)=>⟨hn.1,hn.2.1,hn.2.2.1,by rw [getD_orK U V a 512 (by rw [HV.out];exact Nat.le_refl _),if_pos (by have:=hn.2.2.1;have:=HP5.out;omega),hn.2.2.2];simp⟩) F11.out.laid GD11.out HLS.out HGN.out hp
   rcases TR11.out with ⟨q1,q2⟩ | ⟨h9,n9,q1,q2,q3,q4,q5⟩
   ·exact .inl ⟨q1,q2⟩
   ·exact .inr ⟨h9,n9,q1,q2,Tre.mono hread q3,hread _ _ q4,q5⟩
theorem apart_trans {a b c:EntD} (hb:b.st≤b.en) (h1:apartB a b=true) (h2:apartB b c=true):apartB a c=true:=by
 unfold apartB lessB EntD.key at *
 simp only [Bool.and_eq_true,Bool.or_eq_true,decide_eq_true_eq] at *
 omega
theorem RisingD.apt {es:List EntD} (h:RisingD es):Apt es:=by
 refine List.pairwise_iff_getElem.2 fun i j hi hj hij=>?_
 obtain ⟨d,rfl⟩:∃ d,j=i+1+d:=⟨j - (i+1),by omega⟩
 clear hij
 induction d with
 | zero=>exact h.up i _ _ (List.getElem?_eq_getElem hi) (List.getElem?_eq_getElem hj)
 | succ d ih=>exact apart_trans (h.ok _ (List.getElem_mem (show i+1+d<es.length by omega))).2.1 (ih (by omega)) (h.up (i+1+d) _ _ (List.getElem?_eq_getElem (by omega)) (List.getElem?_eq_getElem hj))
theorem RisingD.good {es:List EntD} (h:RisingD es) (hi:∀ e ∈ es,inEnt e):GoodE es:=⟨h.apt,fun e he=>⟨h.ok e he,hi e he⟩⟩
theorem getD_marks:∀ (qs:List Nat) (U:List Bool) (j:Nat),(∀ a ∈ qs,a<U.length)→(marks U qs).getD j false=if j ∈ qs then true else U.getD j false
 | [],U,j,_=>by simp [marks]
 | a :: qs,U,j,h=>by
   have ha:=h a (List.mem_cons_self ..)
   rw [marks_cons,getD_marks qs _ j (fun b hb=>by rw [length_markN];exact h b (List.mem_cons_of_mem _ hb)),getD_mark1 ha]
   by_cases h1:j ∈ qs
   ·rw [if_pos h1,if_pos (List.mem_cons_of_mem _ h1)]
   ·rw [if_neg h1]
    by_cases h2:j=a
    ·rw [if_pos h2,if_pos (by rw [h2];exact List.mem_cons_self ..)]
    ·rw [if_neg h2,if_neg (by intro h3;rcases List.mem_cons.1 h3 with h3 | h3;exact h2 h3;exact h1 h3)]
theorem room_new (m n:Nat) (h:2+m+n≤200):RoomP 200 (orK (marks map0 (List.range' 2 m)) map0 512) (marks map0 (List.range' 2 m)) n:=by
 have hU:∀ j,2+m≤j→(marks map0 (List.range' 2 m)).getD j false=false:=fun j hj=>by
  rw [getD_marks _ _ _ (fun a ha=>by have:=(List.mem_range'_1.1 ha).2;rw [length_map0];omega),if_neg (by rw [List.mem_range'_1];omega),get_map0]
  exact decide_eq_false (by omega)
 refine ⟨List.range' (2+m) n,List.length_range',List.nodup_range',fun a ha=>?_⟩
 have h1:=List.mem_range'_1.1 ha
 refine fits_one.2 ⟨by omega,hU a h1.1,?_⟩
 rw [getD_orK _ _ _ _ (by rw [length_map0];exact Nat.le_refl _),if_pos (by omega),hU a h1.1,get_map0]
 simp
 omega
def TreeW (nw:List UInt8) (Ls p:Nat) (U:List Bool) (a hh:Nat) (es:List EntD):Prop:=∃ h n,hh=h+1∧h≤4∧Tre (rdU nw Ls p U) h n es∧rdU nw Ls p U a n∧1≤es.length
theorem TreeW.q {nw:List UInt8} {Ls p:Nat} {U:List Bool} {a hh:Nat} {es:List EntD} (h:TreeW nw Ls p U a hh es):TreeQ nw Ls a hh es:=by
 obtain ⟨g,n,h1,h2,h3,h4,h5⟩:=h
 exact .inr ⟨g,n,h1,h2,Tre.mono (fun a n h=>h.1) h3,h4.1,h5⟩
theorem loadW {nw:List UInt8} {Ls p a h':Nat} {U:List Bool} {L:List (Nat × NodeD)} {nr:NodeD} (es:List EntD) (h1:1≤es.length) (t:Tops (lvlE es) 1 L nr h') (h5:h'≤5) (hL:∀ x ∈ L ++ [(a,nr)],rdU nw Ls p U x.1 x.2):TreeW nw Ls p U a h' es:=by
 rw [← baseL_fst] at t
 obtain ⟨g,k1,k2,k3⟩:=tops_tre (rd:=rdU nw Ls p U) t 0 (baseL es) rfl rfl (fun x hx=>by
  have h2:=(baseL_full es).2 x.2.length (List.mem_map.2 ⟨x,hx,rfl⟩)
  refine ⟨?_,h2.1⟩
  rw [baseL] at hx
  obtain ⟨y,_,rfl⟩:=List.mem_map.1 hx
  exact ⟨rfl,rfl,rfl,rfl⟩) (fun x hx=>hL x (List.mem_append_left _ hx))
 rw [baseL_flat] at k2
 exact ⟨g,nr,k1,by omega,k2,hL (a,nr) (List.mem_append_right _ (List.mem_singleton.2 rfl)),h1⟩
theorem load_use (gv g b n:Nat) (es:List EntD) (hn:es.length=n) (h1:1≤n) (hm:n≤150) (hr:RisingD es) (hi:∀ e ∈ es,inEnt e) {B N gs gn cs cn:Nat} {rw:Value} {st nw:List UInt8} (A:Option Addr) (c:Nat) (w:World) (hrow:w.ownsRow b 40 8 (.slice A n c) n (es.flatMap enC))
 (hv:ViewAt w gv g 1 ((200:Nat):Int) map0 map0) (hd:Dk w B N g gs gn rw (200*256) cs cn st nw [] true (-1)) :
 Calls Tryz.prog 10 #[.pointer (some ⟨gv,0,none⟩),.slice A n c] w fun e w'=>∃ (a hh:Nat) (U:List Bool) (L:List (Nat × (NodeD × NdL))),e=.returned (.tuple #[.agg #[.int .i64 (a:Int),.int .i64 (hh:Int)],.int .i64 0])∧Wrote w w' gv g 1 200 U map0 B gs gn (200*256) cs cn rw st nw [] L∧1≤hh∧(hh=1 ↔ n<8) ∧
  U.length=512∧okM ((200:Nat):Int) U∧RoomP 200 (orK U map0 512) U 11∧L.length≤44∧∀ nw',PgsOf 1 nw nw' L→TreeW nw' (200*256) 200 U a hh es:=by
 obtain ⟨Lr,nr,h',t1,t2,t3,t4,t5,t6,t7,t8,t9⟩:=load_plan es (by omega) (by omega) hr hi
 have hfst:∀ x ∈ Lr ++ [(2+Lr.length,nr)],2≤x.1∧x.1<2+(Lr.length+1):=fun x hx=>by
  have h1:x.1 ∈ (Lr ++ [(2+Lr.length,nr)]).map Prod.fst:=List.mem_map.2 ⟨x,hx,rfl⟩
  rw [List.map_append] at h1
  have h2:x.1 ∈ List.range' 2 (Lr.length+1):=by rw [← t4];exact h1
  exact List.mem_range'_1.1 h2
 have ok0:=okM_zero 200 (by decide) (by decide)
 have hpk:=picks_new 200 (Lr.length+1) (by decide) (by omega)
 refine (load_yes gv g 1 200 map0 map0 length_map0 length_map0 ok0 ok0 (by decide) es A n c hn (by omega) hr Lr nr (h'+1) (2+Lr.length) t1 t2 t3 (by rw [orK_self length_map0,t4];exact hpk) (fun x hx=>⟨(t6 x hx).1,by have:=hfst x hx;omega⟩) (by simp;omega) w (nodeT_rowQ hn hrow) hv hd).mono ?_
 rintro e w' ⟨rfl,Lx,hLx,hw⟩
 have hll:Lx.length=Lr.length+1:=by
  have h1:=congrArg List.length hLx
  rw [List.length_map,List.length_append,List.length_singleton] at h1
  exact h1
 rw [t4] at hw
 refine ⟨2+Lr.length,h'+1,_,Lx,rfl,hw,by omega,?_,by rw [length_marks];exact length_map0,okM_marks hpk ok0 length_map0,room_new _ _ (by omega),by omega,fun nw' hp=>?_⟩
 ·have c0:capH 0=7:=rfl
  constructor
  ·intro h
   obtain rfl:h'=0:=by omega
   rw [c0] at t7
   omega
  ·intro h
   by_cases h0:h'=0
   ·omega
   ·have:=t8 0 (by omega)
    rw [c0] at this
    omega
 ·refine loadW es (by omega) t1 t2 (fun x hx=>?_)
  have h1:=hx
  rw [← hLx] at h1
  obtain ⟨y,hy,rfl⟩:=List.mem_map.1 h1
  have h2:=hfst _ hx
  refine ⟨⟨(t6 _ hx).1,(t6 _ hx).2,by omega,1,by decide,hp.1 y hy⟩,h2.1,by omega,?_⟩
  rw [getD_marks _ _ _ (fun a ha=>by have:=(List.mem_range'_1.1 ha).2;rw [length_map0];omega),if_pos (List.mem_range'_1.2 ⟨h2.1,h2.2⟩)]
end Go.Proofs.YtgkddhncfaeidaaGreat
