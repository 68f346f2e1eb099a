/- Squeezed: the texts as they are written lie in wip/tpl. -/
import Derived.Test.YtgkddhncfaeidaaGreatPart36
import Derived.Test.YtgkddhncfaeidaaGreatTfIn
import Derived.Test.YtgkddhncfaeidaaGreatTfSt
set_option maxRecDepth 100000
set_option maxHeartbeats 4000000
set_option linter.unnecessarySimpa false
set_option linter.unusedSimpArgs false
set_option linter.unusedVariables false
namespace Go.Proofs.YtgkddhncfaeidaaGreat
open Go.RowKit Go.ChangeShapes Go.WideShapes Go.ChangeAt CrcM PageM
structure InsF (w:World) (gv g B N gs gn cs cn p:Nat) (rw:Value) (st nw:List UInt8) (ws:List (Nat × List UInt8)) (U:List Bool) (a hh k:Nat) (pg:List Nat):Prop where
 view:ViewAt w gv g 1 (p:Int) U map0
 disk:Dk w B N g gs gn rw (p*256) cs cn st nw ws true (-1)
 len:U.length=512
 ok:okM (p:Int) U
 shp:Shp (rdQ nw (p*256)) a hh (entsM k) pg
 use:UseS p map0 U pg
 wait:ws.length≤12*k
theorem sum_four:∀ qs:List (Nat × List EntD),(∀ x ∈ qs,x.2.length=4)→(qs.flatMap Prod.snd).length=4*qs.length
 | [],_=>rfl
 | q :: qs,hq=>by
   rw [List.flatMap_cons,List.length_append,sum_four qs (fun x hx=>hq x (List.mem_cons_of_mem _ hx)),hq q (List.mem_cons_self ..),List.length_cons]
   omega
theorem UseS.cnt {p:Nat} {U:List Bool} {pg:List Nat} (h:UseS p map0 U pg) (h2:2≤p):pg.length+2≤p:=by
 have h1:=pigeon (p:=p) (W:=0 :: 1 :: pg) (List.nodup_cons.2 ⟨fun h0=>by
  rcases List.mem_cons.1 h0 with h0 | h0
  ·cases h0
  ·have:=h.rng _ h0;omega,List.nodup_cons.2 ⟨fun h0=>by have:=h.rng _ h0;omega,h.nd⟩⟩) (fun x hx=>by
  simp only [List.mem_cons] at hx
  rcases hx with rfl | rfl | hx
  ·omega
  ·omega
  ·exact (h.rng x hx).2)
 simp only [List.length_cons] at h1
 omega
theorem InsF.small {w:World} {gv g B N gs gn cs cn p:Nat} {rw:Value} {st nw:List UInt8} {ws:List (Nat × List UInt8)} {U:List Bool} {a hh k:Nat} {pg:List Nat} (h:InsF w gv g B N gs gn cs cn p rw st nw ws U a hh k pg) (h8:8≤p) (h17:p≤17):k≤59:=by
 have hk:=entsM_len k
 have hc:=h.use.cnt (by omega)
 rcases h.shp with ⟨_,h2,h3⟩ | ⟨h1,h2,h3,h4,h5⟩ | ⟨h1,ps,b,l,h2,h3,h4,h5,h6,h7,h8,h9⟩
 ·rw [h2] at hk
  simp at hk
  omega
 ·omega
 ·rw [h8,List.length_append,sum_four ps (fun x hx=>(h3 x hx).2)] at hk
  rw [h9] at hc
  simp only [List.length_cons,List.length_map] at hc
  omega
def InsO (w:World) (gv g B gs gn cs cn p:Nat) (st:List UInt8) (a hh er j:Nat):Prop :=
 (er=0∧∃ (N:Nat) (rw:Value) (nw:List UInt8) (ws:List (Nat × List UInt8)) (U:List Bool) (pg:List Nat),InsF w gv g B N gs gn cs cn p rw st nw ws U a hh (j+1) pg)∨(er=5∧8≤j)
theorem leaf_good {x:List EntD} (hE:GoodE x) (h1:1≤x.length) (h7:x.length≤7):okNode (lfD x)∧inNode (lfD x) :=
 (edge_good (parts:=[(2,x)]) (by simp) (by simp) (by simpa using ⟨h1,h7⟩) (by simp) (by simp) (by simpa using hE)).2 (2,x) (by simp)
theorem wis_node {s:StepD} {n0 n:NodeD} {L:List (Nat × (NodeD × NdL))} {U0 U1:List Bool} {qs:List Nat} (h1:s.at_+1=s.n.ds.length) (h2:s.n.ks.length=s.n.ds.length) (hw:WiS s n0 n L U0 U1) (hq:L.map Prod.fst=qs):n.leaf=false∧n.size=s.at_+qs.length∧cleanN n:=by
 obtain ⟨_,rfl,_⟩:=hw
 have hLn:L.length=qs.length:=by have h8:=congrArg List.length hq;rwa [List.length_map] at h8
 refine ⟨rfl,?_,?_⟩
 ·unfold NodeD.size
  rw [if_neg (by simp)]
  simp only [List.length_append,List.length_take,List.length_map,List.length_drop,hLn]
  omega
 ·unfold cleanN
  rw [if_neg (by simp)]
  refine ⟨rfl,?_⟩
  simp only [List.length_append,List.length_take,List.length_map,List.length_drop]
  omega
def RsL (p a:Nat) (U:List Bool) (x:List EntD) (ra rh:Int) (L':List (Nat × (NodeD × NdL))) (U':List Bool):Prop :=
 ∃ a2 h2:Nat,ra=(a2:Int)∧rh=(h2:Int)∧U'=marks (gaveN U [a]) (L'.map Prod.fst)∧LaidOk p U' (orK U map0 512) (L'.map Prod.fst)∧U'.length=512∧okM (p:Int) U' ∧
   ((h2=1∧x.length≤7∧L'.map strip=[(a2,lfD x)])∨(h2=2∧x.length=8∧∃ q1 q2:Nat,L'.map strip=[(q1,lfD (x.take 4)),(q2,lfD (x.drop 4)),(a2,rootD [(q1,x.take 4),(q2,x.drop 4)])]))
theorem RsL.good {p a:Nat} {U:List Bool} {x:List EntD} {ra rh:Int} {L':List (Nat × (NodeD × NdL))} {U':List Bool} (h:RsL p a U x ra rh L' U') (hp:p≤512) (hE:GoodE x) (h1:1≤x.length):L'.length≤3∧∀ y ∈ L',okNode y.2.1∧inNode y.2.1:=by
 obtain ⟨a2,h2,_,_,_,hl,_,_,hc⟩:=h
 have hm:∀ y ∈ L',(y.1,y.2.1) ∈ L'.map strip:=fun y hy=>List.mem_map.2 ⟨y,hy,rfl⟩
 have hf:(L'.map strip).map Prod.fst=L'.map Prod.fst:=by rw [List.map_map];rfl
 rcases hc with ⟨_,h7,e⟩ | ⟨_,h8,q1,q2,e⟩
 ·refine ⟨by have:=congrArg List.length e;simp at this;omega,fun y hy=>?_⟩
  have h9:=hm y hy
  rw [e,List.mem_singleton,Prod.mk.injEq] at h9
  rw [h9.2]
  exact leaf_good hE h1 h7
 ·rw [e] at hf
  simp only [List.map_cons,List.map_nil] at hf
  rw [← hf] at hl
  have hg:=edge_good (parts:=[(q1,x.take 4),(q2,x.drop 4)]) (by have:=hl.1;simp at this ⊢;exact this.1.1) (fun y hy=>by
   have hy':y=(q1,x.take 4)∨y=(q2,x.drop 4):=by simpa using hy
   rcases hy' with rfl | rfl
   ·have:=hl.2 q1 (by simp);dsimp only;omega
   ·have:=hl.2 q2 (by simp);dsimp only;omega) (fun y hy=>by
   have hy':y=(q1,x.take 4)∨y=(q2,x.drop 4):=by simpa using hy
   rcases hy' with rfl | rfl
   ·dsimp only;rw [List.length_take];omega
   ·dsimp only;rw [List.length_drop];omega) (by simp) (by simp) (by simpa using hE)
  refine ⟨by have:=congrArg List.length e;simp at this;omega,fun y hy=>?_⟩
  have h9:=hm y hy
  rw [e] at h9
  simp only [List.mem_cons,List.not_mem_nil,or_false,Prod.mk.injEq] at h9
  rcases h9 with h9 | h9 | h9
  ·rw [h9.2];exact hg.2 (q1,x.take 4) (by simp)
  ·rw [h9.2];exact hg.2 (q2,x.drop 4) (by simp)
  ·rw [h9.2];exact hg.1
theorem RsL.shp {nw nw':List UInt8} {Ls p gen a:Nat} {U:List Bool} {x:List EntD} {a2 h2:Nat} {L':List (Nat × (NodeD × NdL))} {U':List Bool} (h:RsL p a U x (a2:Int) (h2:Int) L' U') (hp:p≤512) (hE:GoodE x) (h1:1≤x.length) (hU:U.length=512) (hu:UseS p map0 U [a]) (hLs:256*p≤Ls) (hgen:gen<18446744073709551616) (hpg:PgsOf gen nw nw' L'):∃ pg',Shp (rdQ nw' Ls) a2 h2 x pg'∧UseS p map0 U' pg':=by
 obtain ⟨hl3,hgd⟩:=h.good hp hE h1
 obtain ⟨a2',h2',ha,hh,hU',hl,_,_,hc⟩:=h
 obtain rfl:a2=a2':=by omega
 obtain rfl:h2=h2':=by omega
 have hread:=rdL_read (V:=orK U map0 512) (rd:=fun _ _=>False) (p:=p) (Ls:=Ls) (gen:=gen) (nw:=nw) (fun a n h=>h.elim) hl hgd hLs hgen hpg
 have hnew:∀ b n,(b,n) ∈ L'.map strip→rdQ nw' Ls b n:=fun b n hb=>by
  obtain ⟨⟨b',n',l'⟩,hy,hye⟩:=List.mem_map.1 hb
  simp only [strip,Prod.mk.injEq] at hye
  obtain ⟨rfl,rfl⟩:=hye
  exact hread b' n' (.inr ⟨l',hy⟩)
 have hf:(L'.map strip).map Prod.fst=L'.map Prod.fst:=by rw [List.map_map];rfl
 rcases hc with ⟨rfl,h7,e⟩ | ⟨rfl,h8,q1,q2,e⟩
 ·rw [e] at hnew hf
  simp only [List.map_cons,List.map_nil] at hf
  rw [← hf] at hl hU'
  refine ⟨[a2],.inr (.inl ⟨rfl,hnew _ _ (by simp),h1,h7,rfl⟩),?_⟩
  exact hu.next (G:=[a]) (Q:=[a2]) hU length_map0 hp hU' (fun b hb=>hb) (fun b=>by simp) hl (fun _=>by simp)
 ·rw [e] at hnew hf
  simp only [List.map_cons,List.map_nil] at hf
  rw [← hf] at hl hU'
  refine ⟨a2 :: q2 :: [q1],.inr (.inr ⟨rfl,[(q1,x.take 4)],q2,x.drop 4,?_,fun y hy=>?_,hnew _ _ (by simp),by rw [List.length_drop];omega,by rw [List.length_drop];omega,by simp,by simp,rfl⟩),?_⟩
  ·have h9:=hnew a2 (rootD [(q1,x.take 4),(q2,x.drop 4)]) (by simp)
   simpa [rootD] using h9
  ·rw [List.mem_singleton.1 hy]
   exact ⟨hnew _ _ (by simp),by rw [List.length_take];omega⟩
  ·refine hu.next (G:=[a]) (Q:=[q1,q2,a2]) hU length_map0 hp hU' (fun b hb=>hb) (fun b=>?_) hl (fun _=>?_)
   ·simp only [List.mem_cons,List.not_mem_nil,or_false]
    constructor
    ·rintro (h | h | h)
     ·exact .inl (.inr (.inr h))
     ·exact .inl (.inr (.inl h))
     ·exact .inl (.inl h)
    ·rintro ((h | h | h) | ⟨h,h'⟩)
     ·exact .inr (.inr h)
     ·exact .inr (.inl h)
     ·exact .inl h
     ·exact absurd h h'
   ·have h10:=hl.1
    simp at h10 ⊢
    omega
theorem top_leaves (gc gv p B0 a:Nat) (U V:List Bool) (lv:Value) (x:List EntD) (hU:U.length=512) (hok:okM (p:Int) U) (h2a:2≤a) (hap:a<p) (okV:okM (p:Int) map0) (hroom:RoomP p (orK U map0 512) U 3) (h1:1≤x.length) (h8:x.length≤8) (A:Option Addr) (c:Nat) (ps:List (NodeD × NdL)) (W W1:World) (hc:ChgS W gc gv p B0 (gaveN U [a]) (orK U map0 512) lv []) (hB:B0≤W.heap.size) (hb:Below W.heap.size W W1) (hsp:SplitOf (lfD x) (ps.map Prod.fst)) (hrow:W1.ownsRow W.heap.size 86 4 (.slice A ps.length c) ps.length (ps.flatMap ndP)) (how:∀ x ∈ ps,OwnN W1 W.heap.size x.1 x.2) :
 Calls Tryz.prog 30 #[.pointer (some ⟨gc,0,none⟩),.slice A ps.length c,.int .i64 ((1:Nat):Int)] W1 fun e9 w'=>∃ (ra rh:Int),e9=.returned (.tuple #[.agg #[.int .i64 ra,.int .i64 rh],.int .i64 0])∧OutS gc B0 (fun _=>False) W1 w'∧((0:Int)=0→∃ (L':List (Nat × (NodeD × NdL))) (U':List Bool) (lv':Value),ChgS w' gc gv p B0 U' (orK U map0 512) lv' L'∧(∀ x ∈ L',NodeT w' x.2.1 x.2.2)∧RsL p a U x ra rh L' U'):=by
 have hp5:p≤512:=by have:=okV.2.1;omega
 have hps:=split_halves hsp h1 h8
 have hor:(orK U map0 512).length=512:=by rw [length_orK];exact length_map0
 have okor:okM (p:Int) (orK U map0 512):=okM_or hok okV length_map0
 have hU0:(gaveN U [a]).length=512:=by rw [length_gaveN];exact hU
 have okU0:okM (p:Int) (gaveN U [a]):=okM_give hok hU h2a hap
 have hr0:RoomP p (orK U map0 512) (gaveN U [a]) 3:=hroom.give a (by omega)
 have hkd:∀ u ∈ ps,NodeT W1 u.1 u.2∧1≤u.1.size∧(u.1.leaf=false→u.1.ks.length=u.1.ds.length):=fun u hu=>by
  obtain ⟨k1,_,k3,_⟩:=hsp.kind u.1 (List.mem_map_of_mem hu)
  exact ⟨(how u hu).t,k3,fun hl=>by rw [k1] at hl;cases hl⟩
 obtain ⟨Lr,n,hh,k,hT,hn2,hk,hcase⟩:∃ (Lr:List Nat→List (Nat × NodeD)) (n:List Nat→NodeD) (hh k:Nat),(∀ qs:List Nat,qs.length=k→Tops (ps.map Prod.fst) 1 (Lr qs) (n qs) hh∧(Lr qs).map Prod.fst=qs)∧(∀ qs,qs.length=k→(n qs).leaf=false→2≤(n qs).ds.length)∧k≤2∧((hh=1∧x.length≤7∧k=0∧∀ qs,Lr qs=[]∧n qs=lfD x)∨(hh=2∧x.length=8∧k=2∧∀ q1 q2,Lr [q1,q2]=[(q1,lfD (x.take 4)),(q2,lfD (x.drop 4))]∧n [q1,q2]=rootD [(q1,x.take 4),(q2,x.drop 4)])):=by
  by_cases h7:x.length≤7
  ·have hx:halvesE x=[x]:=by unfold halvesE;rw [if_pos h7]
   rw [hx] at hps
   refine ⟨fun _=>[],fun _=>lfD x,1,0,fun qs hq=>⟨?_,?_⟩,(fun qs _ hl=>by cases hl),by omega,.inl ⟨rfl,h7,rfl,fun _=>⟨rfl,rfl⟩⟩⟩
   ·rw [hps]
    exact Tops.stop _ _
   ·rw [List.length_eq_zero_iff.1 hq]
    rfl
  ·have hx:halvesE x=[x.take 4,x.drop 4]:=by unfold halvesE;rw [if_neg h7]
   rw [hx] at hps
   refine ⟨fun qs=>qs.zip [lfD (x.take 4),lfD (x.drop 4)] ++ [],fun qs=>⟨false,[],[leastK (lfD (x.take 4)),leastK (lfD (x.drop 4))],qs.map kidI⟩,2,2,fun qs hq=>⟨?_,?_⟩,(fun qs hq _=>by dsimp only;rw [List.length_map];omega),by omega,.inr ⟨rfl,by omega,rfl,fun q1 q2=>⟨rfl,rfl⟩⟩⟩
   ·rw [hps]
    obtain ⟨q1,q2,rfl⟩:∃ q1 q2,qs=[q1,q2]:=by
     match qs,hq with
     | [x,y],_=>exact ⟨x,y,rfl⟩
    refine Tops.step _ _ _ _ _ _ (by simp) rfl (by omega) ?_
    have hlv:lvl [lfD (x.take 4),lfD (x.drop 4)] [q1,q2]=[⟨false,[],[leastK (lfD (x.take 4)),leastK (lfD (x.drop 4))],[kidI q1,kidI q2]⟩]:=by
     have hch:chs 16 2 1=[(0,2)]:=by decide
     unfold lvl
     rw [show ([q1,q2]:List Nat).length=2 from rfl,show (2+15) / 16=1 from rfl,hch]
     rfl
    rw [show [x.take 4,x.drop 4].map lfD=[lfD (x.take 4),lfD (x.drop 4)] from rfl,hlv]
    exact Tops.stop _ _
   ·dsimp only
    rw [List.append_nil]
    exact List.map_fst_zip (by rw [hq];exact Nat.le_refl _)
 obtain ⟨qt,z1,z2,z3⟩:=RoomP.picks (k+1) 0 (hr0.less (m:=k+1+0) (by omega)) (by omega)
 obtain ⟨qs,t,rfl⟩:∃ qs t,qt=qs ++ [t]:=⟨qt.dropLast,qt.getLast (by intro e;rw [e] at z1;simp at z1),(List.dropLast_concat_getLast _).symm⟩
 have hql:qs.length=k:=by simpa using z1
 obtain ⟨t1,t2⟩:=hT qs hql
 have hlr:(Lr qs).length=k:=by have:=congrArg List.length t2;rw [List.length_map] at this;omega
 refine (top_yes gc gv p B0 (gaveN U [a]) (orK U map0 512) lv [] hU0 hor okU0 okor ps A c 1 (Lr qs) (n qs) hh t t1 (hn2 qs hql) (by rw [t2];exact z2) (by rw [hlr];simp;omega) (by rcases hcase with ⟨h,_⟩ | ⟨h,_⟩ <;> omega) W1 (hc.below hb) (fun u hu=>by cases hu) (ChAt.of_row hrow) hkd).mono ?_
 rintro e w' ⟨rfl,⟨lv',Lx,c1,c2,c3⟩,ho⟩
 rw [List.nil_append] at c1 c3
 have hfx:Lx.map Prod.fst=qs ++ [t]:=by
  have h9:(Lx.map strip).map Prod.fst=Lx.map Prod.fst:=by rw [List.map_map];rfl
  rw [← h9,c2,List.map_append,t2]
  rfl
 refine ⟨_,_,rfl,OutS.of_outT ho,fun _=>⟨Lx,_,lv',c1,c3,t,hh,rfl,rfl,by rw [hfx,t2],?_,by rw [t2,length_marks];exact hU0,by rw [t2];exact okM_marks z2 okU0 hU0,?_⟩⟩
 ·rw [hfx,t2]
  have h9:=LaidOk.picks (bs:=[]) (V:=orK U map0 512) ⟨List.nodup_nil,fun b hb=>by cases hb⟩ okU0 hU0 z2
  simpa using h9
 ·rcases hcase with ⟨e1,e2,e3,e4⟩ | ⟨e1,e2,e3,e4⟩
  ·obtain ⟨f1,f2⟩:=e4 qs
   rw [f1,f2] at c2
   exact .inl ⟨e1,e2,by simpa using c2⟩
  ·subst e3
   obtain ⟨q1,q2,rfl⟩:∃ q1 q2,qs=[q1,q2]:=by
    match qs,hql with
    | [x,y],_=>exact ⟨x,y,rfl⟩
   obtain ⟨f1,f2⟩:=e4 q1 q2
   rw [f1,f2] at c2
   exact .inr ⟨e1,e2,q1,q2,by simpa using c2⟩
theorem ins_full {gv g B N gs gn cs cn p:Nat} {rw:Value} {st nw:List UInt8} {ws:List (Nat × List UInt8)} {U:List Bool} {a hh k:Nat} {pg:List Nat} (h8:8≤p) (h17:p≤17) (w:World) (h:InsF w gv g B N gs gn cs cn p rw st nw ws U a hh k pg) :
 Calls Tryz.prog 17 #[.pointer (some ⟨gv,0,none⟩),.agg #[.int .i64 (a:Int),.int .i64 (hh:Int)],.agg (enC (entM k)).toArray] w fun e' w'=>∃ (a' hh' er:Nat),e'=.returned (.tuple #[.agg #[.int .i64 (a':Int),.int .i64 (hh':Int)],.int .i64 (er:Int)])∧InsO w' gv g B gs gn cs cn p st a' hh' er k∧OuterX (fun j=>DkX g gn rw j∨j=gv) w w':=by
 have hk:=h.small h8 h17
 have okV:okM (p:Int) map0:=okM_zero p h8 (by omega)
 have hcnt:=h.use.cnt (by omega)
 have hroom:pg.length≤1→RoomP p (orK U map0 512) U 3:=fun hpl=>by
  refine room_list (W:=0 :: 1 :: pg) length_map0 (by omega) (fun b hb hu=>?_) (by simp only [List.length_cons];omega)
  rcases hu with hu | hu
  ·rcases (h.use.use b).1 hu with h1 | h1
   ·rw [get_map0] at h1
    have:=of_decide_eq_true h1
    simp only [List.mem_cons]
    omega
   ·simp only [List.mem_cons]
    exact .inr (.inr h1)
  ·rw [get_map0] at hu
   have:=of_decide_eq_true hu
   simp only [List.mem_cons]
   omega
 have hup:∀ x ∈ entsM k,lessB x.key (entM k).key=true:=fun x hx=>apt_less (entsM_apart x hx)
 have hshp:=h.shp
 rcases hshp with ⟨rfl,h2,rfl⟩ | ⟨rfl,h2,h3,h4,h5⟩ | ⟨rfl,ps,pb,l,h2,h3,h4,h5,h6,h7,hes,rfl⟩
 ·obtain rfl:k=0:=by
   have:=congrArg List.length h2
   rw [entsM_len] at this
   exact this
  have hfit:FitU p (orK U map0 512) U 3 []:=⟨h.len,h.ok,hroom (by simp),List.nodup_nil,fun b hb=>by cases hb⟩
  obtain ⟨qs,z1,z2,z3⟩:=(hfit.less (k:=1+2) (by omega)).picks
  obtain ⟨b,rfl⟩:∃ b,qs=[b]:=by
   match qs,z1 with
   | [b],_=>exact ⟨b,rfl⟩
  rw [List.nil_append] at z3
  have hb:=z3.laid.2 b (List.mem_singleton.2 rfl)
  refine (insert_first gv g 1 p U map0 h.len length_map0 h.ok okV (by decide) (entM 0) (entM_ok (by omega)) (a:Int) b z2 (by omega) (by have:=h.wait;omega) w h.view h.disk).mono ?_
  rintro e' w' ⟨rfl,Lx,hLx,hw⟩
  obtain ⟨lx,rfl⟩:∃ lx,Lx=[(b,(lfD [entM 0],lx))]:=by
   match Lx,hLx with
   | [(b',(n',l'))],hLx =>
     simp [strip] at hLx
     obtain ⟨rfl,rfl⟩:=hLx
     exact ⟨l',rfl⟩
  obtain ⟨rw',ws',nw',k1,k2,k3,k4⟩:=hw.disk
  have hE:GoodE [entM 0]:=by have:=entsM_good (k:=1) (by omega);simpa [entsM] using this
  have hgd:okNode (lfD [entM 0])∧inNode (lfD [entM 0]):=ok_tre (rn:=fun _ _=>False) (h:=0) (fun _ _ _ h=>h.elim) (fun _ _ h=>h.elim) ⟨rfl,rfl,rfl,rfl⟩ hE (by decide) (by decide)
  have hread:=rdL_read (V:=orK U map0 512) (rd:=fun _ _=>False) (p:=p) (Ls:=p*256) (gen:=1) (nw:=nw) (fun a n h=>h.elim) (by simpa using z3.laid) (fun x hx=>by rw [List.mem_singleton.1 hx];exact hgd) (by omega) (by decide) k3
  refine ⟨b,1,0,rfl,.inl ⟨rfl,w'.heap.size,rw',nw',ws',marks U [b],[b],⟨hw.view,k1,z3.len,z3.ok,.inr (.inl ⟨rfl,?_,by simp [entsM],by simp [entsM],rfl⟩),?_,?_⟩⟩,hw.out⟩
  ·have h1:=hread b (lfD [entM 0]) (.inr ⟨lx,List.mem_singleton.2 rfl⟩)
   simpa [entsM] using h1
  ·exact h.use.next (G:=[]) (Q:=[b]) h.len length_map0 (by omega) rfl (fun c hc=>by cases hc) (fun c=>by simp) z3.laid (fun _=>by simp)
  ·rw [k2]
   have:=h.wait
   simp
   omega
 ·obtain ⟨nr,hr,ht,h1,h1e⟩:=Shp.tre (h:=0) h.shp h.use
  have hrm:=hroom (by rw [h5];simp)
  have hnr:nr=lfD (entsM k):=rdQ_fun (by have:=hr.2.2.1;omega) hr.1 h2
  subst hnr
  have hkl:=entsM_len k
  have hra:=h.use.rng a (by rw [h5];simp)
  have hus:UseS p map0 U [a]:=by rw [← h5];exact h.use
  have hes:entsM k ++ [entM k]=entsM (k+1):=(entsM_succ k).symm
  have hgE:GoodE (entsM k ++ [entM k]):=by rw [hes];exact entsM_good (by omega)
  have hxl:(entsM k ++ [entM k]).length=k+1:=by rw [hes];exact entsM_len _
  refine (insert_by gv g 1 p a 0 a [] (entsM k) U map0 (RsL p a U (entsM k ++ [entM k])) [⟨a,lfD (entsM k),(entsM k).length⟩] (lfD (entsM k)) (entsM k) (entM k) hr ht (by omega) h1e (entsM_good (by omega)) ⟨entM_ok (by omega),entM_in (by omega)⟩ entsM_apart h.len length_map0 h.ok okV (by decide) (by have:=h.wait;omega) (by omega)
   (fun ra rh L' U' hrs=>?_) (fun ss hd=>?_) rfl (fun h=>by cases h) (fun h=>by cases h) (fun h=>by cases h) (fun n L U1 hs=>?_) (fun gc B0 W W1 n l' L lv U1 A c ps hvw hc hL hB hs hb hsp hrow how=>?_) w h.view h.disk).mono ?_
  ·obtain ⟨g1,g2⟩:=hrs.good (by omega) hgE (by omega)
   obtain ⟨a2,h2,e1,e2,e3,e4,e5,e6,e7⟩:=hrs
   exact ⟨⟨a2,h2,e1,e2⟩,e5,g1,e4.1,fun b hb=>(e4.2 b hb).2.1,g2⟩
  ·obtain ⟨hri,x9,Y,hx9,hat9,hY9⟩:=Down.right ht hd hup
   obtain ⟨r,hpl,rfl⟩:=hd
   obtain rfl:(⟨a,lfD (entsM k),r⟩:StepD)=x9:=by simpa using hx9
   dsimp only at hat9
   rw [hat9]
   rfl
  ·obtain ⟨rfl,_,_⟩:=hs.1 rfl
   refine ⟨by simp [cleanN,lfD],by rw [leaf_size,hxl];omega⟩
  ·obtain ⟨rfl,rfl,rfl⟩:=hs.1 rfl
   exact top_leaves gc gv p B0 a U map0 lv (entsM k ++ [entM k]) h.len h.ok hra.1 hra.2 okV hrm (by omega) (by omega) A c ps W W1 hc hB hb hsp hrow how
  ·rintro e' w' ⟨ra,rh,L',U',rfl,hw,hrs⟩
   obtain ⟨rw',ws',nw',k1,k2,k3,k4⟩:=hw.disk
   have hrs2:=hrs
   obtain ⟨g1,g2⟩:=hrs.good (by omega) hgE (by omega)
   obtain ⟨a2,h2,rfl,rfl,e3,e4,e5,e6,e7⟩:=hrs2
   obtain ⟨pg',s1,s2⟩:=hrs.shp (Ls:=p*256) (by omega) hgE (by omega) h.len hus (by omega) (by decide) k3
   rw [hes] at s1
   exact ⟨a2,h2,0,rfl,.inl ⟨rfl,w'.heap.size,rw',nw',ws',U',pg',⟨hw.view,k1,e5,e6,s1,s2,by rw [k2];have:=h.wait;omega⟩⟩,hw.out⟩
 ·obtain ⟨nr,hr,ht,h1,h1e⟩:=Shp.tre (h:=1) h.shp h.use
  have hnr:nr=rootD (ps ++ [(pb,l)]):=rdQ_fun (by have:=hr.2.2.1;omega) hr.1 h2
  subst hnr
  have hkl:k=4*ps.length+l.length:=by
   have:=entsM_len k
   rw [hes,List.length_append,sum_four ps (fun x hx=>(h3 x hx).2)] at this
   exact this.symm
  have hpl:ps.length+4≤p:=by simp only [List.length_cons,List.length_map] at hcnt;omega
  have hxl:(l ++ [entM k]).length=l.length+1:=by simp
  obtain ⟨g1,g2,g3,g4⟩:=halves_len (x:=l ++ [entM k]) (by omega) (by omega)
  have hVO:∀ b,b<p→(orK U map0 512).getD b false=false→map0.getD b false=false:=fun b hb hv=>by
   rw [getD_orK _ _ _ _ (by rw [length_map0];exact Nat.le_refl _),if_pos (by omega)] at hv
   simp only [Bool.or_eq_false_iff] at hv
   first | exact hv.1 | exact hv.2
  have hU0:(gaveN U [a,pb]).length=512:=by rw [length_gaveN];exact h.len
  have hra:=h.use.rng a (by simp)
  have hrb:=h.use.rng pb (by simp)
  have okU0:okM (p:Int) (gaveN U [a,pb]):=okM_give (okM_give h.ok h.len hra.1 hra.2) (by rw [length_markN];exact h.len) hrb.1 hrb.2
  have hway:∀ ss,Down (rdU nw (p*256) p U) (entM k).key 1 a (rootD (ps ++ [(pb,l)])) (entsM k) ss→ss=[⟨a,rootD (ps ++ [(pb,l)]),ps.length⟩,⟨pb,lfD l,l.length⟩]:=fun ss hd=>edge_way hes h4 ht hup (by omega) hd
  have hsh:∀ qs:List Nat,qs.length=(halvesE (l ++ [entM k])).length→ps.length+1=(rootD (ps ++ [(pb,l)])).ds.length∧(rootD (ps ++ [(pb,l)])).ks.length=(rootD (ps ++ [(pb,l)])).ds.length∧2≤(rootD (ps ++ [(pb,l)])).ds.length∧(rootD (ps ++ [(pb,l)])).ds.length+qs.length≤17∧1≤qs.length∧qs.length≤2:=fun qs hq=>by
   have:(rootD (ps ++ [(pb,l)])).ds.length=ps.length+1:=by simp [rootD]
   refine ⟨this.symm,by simp [rootD],by omega,by omega,by omega,by omega⟩
  have hfw:fewB (lfD (l ++ [entM k]))=false:=leaf_few (by omega)
  have hsp:∀ qs:List Nat,qs.length=(halvesE (l ++ [entM k])).length→∀ qps,SplitOf (lfD (l ++ [entM k])) qps→qs.length=qps.length:=fun qs hq qps hs=>by
   rw [split_halves hs (by omega) (by omega),List.length_map]
   exact hq
  have hor:(orK U map0 512).length=512:=by rw [length_orK];exact length_map0
  have okor:okM (p:Int) (orK U map0 512):=okM_or h.ok okV length_map0
  by_cases hroom2:ps.length+2+((halvesE (l ++ [entM k])).length+1)≤p
  ·obtain ⟨qt,t1,t2,t3,t4,t5⟩:=tak_many gv g 1 p (orK U map0 512) U map0 hor h.len length_map0 okor okV hVO ((halvesE (l ++ [entM k])).length+1) (gaveN U [a,pb]) hU0 okU0 (edge_room h.use h.len (by omega) (by omega))
   obtain ⟨qs,t,rfl⟩:∃ qs t,qt=qs ++ [t]:=⟨qt.dropLast,qt.getLast (by intro e;rw [e] at t1;simp at t1),(List.dropLast_concat_getLast _).symm⟩
   have hql:qs.length=(halvesE (l ++ [entM k])).length:=by simpa using t1
   have hfree:=fun q hq=>(edge_free h.use h.len (by omega:p≤512) q).1 (t3 q hq)
   have hgn:∀ (Lx:List (Nat × (NodeD × NdL))) (n:NodeD),WiS ⟨a,rootD (ps ++ [(pb,l)]),ps.length⟩ (lfD (l ++ [entM k])) n Lx (gaveN U [a,pb]) (marks (gaveN U [a,pb]) qs)→Lx.map Prod.fst=qs→(∀ x ∈ Lx,okNode x.2.1∧inNode x.2.1)∧okNode n∧inNode n:=fun Lx n hw hq=>by
    exact edge_nodes h.use h.len (by omega) (fun x hx=>(h3 x hx).2) h5 h6 (by omega) hq (t2.sublist (List.sublist_append_left _ _)) (fun q hq=>t3 q (List.mem_append_left _ hq)) hw (by
     rw [← List.append_assoc,← hes,← entsM_succ]
     exact entsM_good (by omega))
   refine (insert_by gv g 1 p a 1 pb qs l U map0 (fun ra rh L' U'=>ra=(t:Int)∧rh=((2:Nat):Int)∧U'=markN (marks (gaveN U [a,pb]) qs) t true 1∧∃ (Lx:List (Nat × (NodeD × NdL))) (n:NodeD) (lx:NdL),L'=Lx ++ [(t,(n,lx))]∧WiS ⟨a,rootD (ps ++ [(pb,l)]),ps.length⟩ (lfD (l ++ [entM k])) n Lx (gaveN U [a,pb]) (marks (gaveN U [a,pb]) qs)∧Lx.map Prod.fst=qs) [⟨a,rootD (ps ++ [(pb,l)]),ps.length⟩,⟨pb,lfD l,l.length⟩] (rootD (ps ++ [(pb,l)])) (entsM k) (entM k) hr ht (by omega) h1e (entsM_good (by omega)) ⟨entM_ok (by omega),entM_in (by omega)⟩ entsM_apart h.len length_map0 h.ok okV (by decide) (by have:=h.wait;omega) (by omega)
    (fun ra rh L' U' hrs=>?_) hway rfl (fun _=>hfw) (fun _=>hsp qs hql) (fun _ gc=>(t5 gc).first) (fun n L U1 hs=>?_) (fun gc B0 W W1 n l' L lv U1 A c qps hvw hc hL hB hs hb hsq hrow how=>?_) w h.view h.disk).mono ?_
   ·obtain ⟨e1,e2,e3,Lx,n,lx,rfl,hws,hq⟩:=hrs
    obtain ⟨q1,q2,q3⟩:=hgn Lx n hws hq
    have hLf:(Lx ++ [(t,(n,lx))]).map Prod.fst=qs ++ [t]:=by rw [List.map_append,hq];rfl
    refine ⟨⟨t,2,e1,e2⟩,by rw [e3,length_markN,length_marks];exact hU0,?_,by rw [hLf];exact t2,fun b hb=>(hfree b (by rw [← hLf];exact hb)).1,fun x hx=>?_⟩
    ·have h8:=congrArg List.length hLf
     rw [List.length_map,List.length_append] at h8
     simp only [List.length_append,List.length_cons,List.length_nil] at h8 ⊢
     omega
    ·rcases List.mem_append.1 hx with hx | hx
     ·exact q1 x hx
     ·rw [List.mem_singleton.1 hx]
      exact ⟨q2,q3⟩
   ·obtain ⟨f1,f2,s,f3,f4⟩:=hs.2 rfl
    obtain rfl:(⟨a,rootD (ps ++ [(pb,l)]),ps.length⟩:StepD)=s:=by simpa using f3
    obtain ⟨y1,y2,y3⟩:=wis_node (hsh qs hql).1 (hsh qs hql).2.1 f4 f1
    refine ⟨y3,?_⟩
    dsimp only at y2
    omega
   ·obtain ⟨f1,f2,s,f3,f4⟩:=hs.2 rfl
    obtain rfl:(⟨a,rootD (ps ++ [(pb,l)]),ps.length⟩:StepD)=s:=by simpa using f3
    obtain ⟨y1,y2,y3⟩:=wis_node (hsh qs hql).1 (hsh qs hql).2.1 f4 f1
    dsimp only at y2
    have hps:=hsq.one (by omega) (by rw [y1];show n.size≤16;omega)
    obtain ⟨⟨nz,lz⟩,rfl⟩:∃ x,qps=[x]:=List.length_eq_one_iff.1 (by have:=congrArg List.length hps;rw [List.length_map] at this;simpa using this)
    obtain rfl:nz=n:=by simpa using hps
    refine (top_by gc gv p B0 1 t U1 (orK U map0 512) lv L nz lz y1 (by omega) (by rw [f2,length_marks];exact hU0) hor (by have h8:=congrArg List.length f1;rw [List.length_map] at h8;omega) A c W1 (hc.below hb) (fun x hx=>(hL x hx).below hb) (ChAt.of_row hrow) ((how (nz,lz) (List.mem_singleton.2 rfl)).mono hB) (fun W2 hW2=>by
     rw [f2]
     exact (t5 gc).last lv W2 (by have h8:=(hc.below hb).chg.below hW2;rw [f2] at h8;exact h8) ((hvw.below hb).below hW2))).mono ?_
    rintro e2 w2 ⟨rfl,⟨lv2,hc2⟩,hn2,ho2⟩
    exact ⟨_,_,rfl,ho2,fun _=>⟨_,_,lv2,hc2,hn2,rfl,rfl,by rw [f2];rfl,L,nz,lz,rfl,by rw [f2] at f4;exact f4,f1⟩⟩
   rintro e' w' ⟨ra,rh,L',U',rfl,hw,rfl,rfl,rfl,Lx,n,lx,rfl,hws,hq⟩
   obtain ⟨rw',ws',nw',k1,k2,k3,k4⟩:=hw.disk
   obtain ⟨q1,q2,q3⟩:=hgn Lx n hws hq
   obtain ⟨pg',s1,s2⟩:=edge_next hes h3 h5 h6 h7 h.use h.len (by omega) (by omega) (by decide) hq t2 t3 hws (fun x hx=>by
    rcases List.mem_append.1 hx with hx | hx
    ·exact q1 x hx
    ·rw [List.mem_singleton.1 hx]
     exact ⟨q2,q3⟩) k3
   rw [← entsM_succ] at s1
   have eU:marks (gaveN U [a,pb]) (qs ++ [t])=markN (marks (gaveN U [a,pb]) qs) t true 1:=marks_snoc _ _ _
   refine ⟨t,2,0,rfl,.inl ⟨rfl,w'.heap.size,rw',nw',ws',marks (gaveN U [a,pb]) (qs ++ [t]),pg',⟨by rw [eU];exact hw.view,k1,by rw [length_marks];exact hU0,t4,s1,s2,?_⟩⟩,hw.out⟩
   rw [k2,List.length_append]
   have h9:=congrArg List.length hq
   rw [List.length_map] at h9
   have:=h.wait
   simp only [List.length_cons,List.length_nil]
   omega
  ·obtain ⟨qs,t1,t2,t3,t4,t5⟩:=tak_many gv g 1 p (orK U map0 512) U map0 hor h.len length_map0 okor okV hVO (halvesE (l ++ [entM k])).length (gaveN U [a,pb]) hU0 okU0 (edge_room h.use h.len (by omega) (by omega))
   have hnone:=edge_none h.use h.len (by omega) t2 t3 (by omega) (by omega)
   refine (insert_no gv g 1 p a 1 pb qs l U map0 (fun _ _ _ _=>True) [⟨a,rootD (ps ++ [(pb,l)]),ps.length⟩,⟨pb,lfD l,l.length⟩] (rootD (ps ++ [(pb,l)])) (entsM k) (entM k) hr ht (by omega) h1e (entsM_good (by omega)) ⟨entM_ok (by omega),entM_in (by omega)⟩ entsM_apart h.len length_map0 h.ok okV
    hway rfl (fun _=>hfw) (fun _=>hsp qs t1) (fun _ gc=>t5 gc) (fun n L U1 hs=>?_) (fun gc B0 W W1 n l' L lv U1 A c qps hvw hc hL hB hs hb hsq hrow how=>?_) w h.view h.disk).mono ?_
   ·obtain ⟨f1,f2,s,f3,f4⟩:=hs.2 rfl
    obtain rfl:(⟨a,rootD (ps ++ [(pb,l)]),ps.length⟩:StepD)=s:=by simpa using f3
    obtain ⟨y1,y2,y3⟩:=wis_node (hsh qs t1).1 (hsh qs t1).2.1 f4 f1
    refine ⟨y3,?_⟩
    dsimp only at y2
    omega
   ·obtain ⟨f1,f2,s,f3,f4⟩:=hs.2 rfl
    obtain rfl:(⟨a,rootD (ps ++ [(pb,l)]),ps.length⟩:StepD)=s:=by simpa using f3
    obtain ⟨y1,y2,y3⟩:=wis_node (hsh qs t1).1 (hsh qs t1).2.1 f4 f1
    dsimp only at y2
    have hps:=hsq.one (by omega) (by rw [y1];show n.size≤16;omega)
    obtain ⟨⟨nz,lz⟩,rfl⟩:∃ x,qps=[x]:=List.length_eq_one_iff.1 (by have:=congrArg List.length hps;rw [List.length_map] at this;simpa using this)
    obtain rfl:nz=n:=by simpa using hps
    refine (top_full gc 1 nz lz y1 (by omega) A c W1 (ChAt.of_row hrow) (fun W2 hW2=>tak_none gc gv g 1 p (marks (gaveN U [a,pb]) qs) (orK U map0 512) U map0 (by rw [length_marks];exact hU0) hor h.len length_map0 t4 okor okV hVO hnone lv W2 (by have h8:=(hc.below hb).chg.below hW2;rw [f2] at h8;exact h8) ((hvw.below hb).below hW2))).mono ?_
    rintro e2 w2 ⟨rfl,hb2⟩
    exact ⟨0,0,rfl,OutS.of_below hb2,fun h=>by cases h⟩
   rintro e' w' ⟨rfl,hb⟩
   exact ⟨0,0,5,rfl,.inr ⟨rfl,by omega⟩,outerX_of_below hb⟩
theorem map_any (gv g gen p:Nat) (U V:List Bool) (hU:U.length=512) (w:World) (hv:ViewAt w gv g gen (p:Int) U V) :
 Calls Tryz.prog 20 #[.pointer (some ⟨gv,0,none⟩)] w fun e w'=>e=.returned (.agg (mapC (p:Int) U))∧Below w.heap.size w w':=by
 obtain ⟨L,eL⟩:∃ L,L=mapL (p:Int) U:=⟨_,rfl⟩
 obtain ⟨C,eC⟩:∃ C:Array Value,C=L.toArray:=⟨_,rfl⟩
 have hCC:mapC (p:Int) U=C:=by rw [eC,eL];rfl
 rw [hCC]
 have hS:Hid (some 513=some C.size):=Lib.hid (by rw [← hCC,size_mapC hU])
 have hO:Hid (C.all (·.oneCell')=true):=Lib.hid (by rw [← hCC];exact one_mapC _ _)
 obtain ⟨w1,hw1⟩:∃ w1,w1=w.alloc (.cells Tryz.zeroCells62 62):=⟨_,rfl⟩
 have G1:Hid (w1.heap[w.heap.size]?=some (.cells Tryz.zeroCells62 62 (0,0))):=Lib.hid (by rw [hw1];exact heap_alloc_new _ _)
 have B1:=Lib.hid (alloc_bel hw1)
 have V1:=Lib.hid (hv.below B1.out)
 have HR:Hid (w1.rangeAt gv 258 L):=Lib.hid (by rw [eL];exact V1.out.cm)
 have HI:Hid ((Tryz.prog.info? 62).map (·.size)=some L.length):=Lib.hid (by rw [eL];exact infoMapL _ hU)
 have EC:=Lib.hid eC
 have HW1:=Lib.hid hw1
 clear hv hU eL eC hCC hw1
 go_enter Tryz.func20,Tryz.ntmps20
 go_upto_region 1 with fail
 rw [← HW1.out]
 clear HW1
 go_upto_region 3 with (go_at_call 26;refine (open_yes gv g gen p U V _ V1.out).mono ?_;rintro e w0 ⟨rfl,rfl⟩)
 go_wp2_with (first
  | (refine wpList_load_mid rfl 62 (.tmp 9) rfl gv 258 rfl L _ HR.out Tryz.underlying62 rfl HI.out ?_;rw [← EC.out])
  | (refine wpList_store_row rfl 62 (.tmp 2) (.tmp 10) rfl w.heap.size C rfl rfl 62 Tryz.zeroCells62 G1.out (infoMap.trans hS.out) (size_zeroMap.trans (Option.some.inj hS.out)) hO.out ?_))
 exact bodyPost_ret (v:=.agg C) (results_cell_row (p:=2) (ty:=62) rfl _ _ w.heap.size 62 C (0,0) _ rfl (setRow_heap _ _ Tryz.zeroCells62 _ _ _ G1.out) Tryz.underlying62 rfl (infoMap.trans hS.out)) rfl ⟨rfl,below_setRow B1.out (Nat.le_refl _) _⟩
end Go.Proofs.YtgkddhncfaeidaaGreat
