/- Squeezed: the texts as they are written lie in wip/tpl. -/
import Derived.Test.YtgkddhncfaeidaaGreatPart36
import Derived.Test.YtgkddhncfaeidaaGreatPart40
set_option linter.unnecessarySimpa false
set_option linter.unusedSimpArgs false
set_option linter.unusedVariables false
namespace Go.Proofs.YtgkddhncfaeidaaGreat
open Go.RowKit CrcM PageM
def rootD (parts:List (Nat × List EntD)):NodeD:=⟨false,[],parts.map (fun x=>leastK (lfD x.2)),parts.map (fun x=>kidI x.1)⟩
def halvesE (x:List EntD):List (List EntD):=if x.length≤7 then [x] else [x.take 4,x.drop 4]
theorem split_halves {x:List EntD} {ps:List NodeD} (h:SplitOf (lfD x) ps) (h1:1≤x.length) (h8:x.length≤8):ps=(halvesE x).map lfD:=by
 unfold halvesE
 by_cases h7:x.length≤7
 ·rw [if_pos h7]
  exact h.one (by rw [leaf_size];exact h1) (by rw [leaf_size];exact h7)
 ·rw [if_neg h7]
  exact split_eight h (by omega)
theorem halves_len {x:List EntD} (h4:4≤x.length) (h8:x.length≤8):(∀ y ∈ halvesE x,4≤y.length∧y.length≤7)∧(halvesE x).flatMap id=x∧1≤(halvesE x).length∧(halvesE x).length≤2:=by
 unfold halvesE
 by_cases h7:x.length≤7
 ·rw [if_pos h7]
  refine ⟨fun y hy=>?_,by simp,by simp,by simp⟩
  rw [List.mem_singleton.1 hy]
  exact ⟨h4,h7⟩
 ·rw [if_neg h7]
  refine ⟨fun y hy=>?_,by simp,by simp,by simp⟩
  have hy':y=x.take 4∨y=x.drop 4:=by simpa using hy
  rcases hy' with rfl | rfl
  ·rw [List.length_take];omega
  ·rw [List.length_drop];omega
theorem root_zip {ps:List (Nat × List EntD)} {qs:List Nat} {hs:List (List EntD)} (h:qs.length=hs.length):rootD (ps ++ qs.zip hs)=⟨false,[],ps.map (fun x=>leastK (lfD x.2)) ++ (hs.map lfD).map leastK,ps.map (fun x=>kidI x.1) ++ qs.map kidI⟩:=by
 unfold rootD
 have e1:(qs.zip hs).map (fun x=>leastK (lfD x.2))=(hs.map lfD).map leastK:=by
  rw [List.map_map]
  conv=>rhs;rw [← List.map_snd_zip (l₁:=qs) (l₂:=hs) (by omega)]
  rw [List.map_map]
  rfl
 have e2:(qs.zip hs).map (fun x=>kidI x.1)=qs.map kidI:=by
  conv=>rhs;rw [← List.map_fst_zip (l₁:=qs) (l₂:=hs) (by omega)]
  rw [List.map_map]
  rfl
 rw [List.map_append,List.map_append,e1,e2]
theorem wis_parts {a:Nat} {ps:List (Nat × List EntD)} {pb:Nat} {l x:List EntD} {qs:List Nat} {n:NodeD} {Lx:List (Nat × (NodeD × NdL))} {U0 U1:List Bool} (hw:WiS ⟨a,rootD (ps ++ [(pb,l)]),ps.length⟩ (lfD x) n Lx U0 U1) (hq:Lx.map Prod.fst=qs) (h1:1≤x.length) (h8:x.length≤8) :
 qs.length=(halvesE x).length∧n=rootD (ps ++ qs.zip (halvesE x))∧Lx.map (fun y=>(y.1,y.2.1))=(qs.zip (halvesE x)).map (fun y=>(y.1,lfD y.2)):=by
 obtain ⟨k1,k2,_⟩:=hw
 have k3:=split_halves k1 h1 h8
 have hlen:qs.length=(halvesE x).length:=by
  have:=congrArg List.length k3
  rw [List.length_map,List.length_map] at this
  rw [← hq,List.length_map]
  exact this
 refine ⟨hlen,?_,?_⟩
 ·rw [root_zip hlen,k2,← k3]
  have e1:(rootD (ps ++ [(pb,l)])).ks.take ps.length=ps.map (fun x=>leastK (lfD x.2)):=by
   unfold rootD
   dsimp only
   rw [List.map_append]
   exact List.take_left' (by simp)
  have e2:(rootD (ps ++ [(pb,l)])).ds.take ps.length=ps.map (fun x=>kidI x.1):=by
   unfold rootD
   dsimp only
   rw [List.map_append]
   exact List.take_left' (by simp)
  have e3:(rootD (ps ++ [(pb,l)])).ks.drop (ps.length+1)=[]:=List.drop_of_length_le (by simp [rootD])
  have e4:(rootD (ps ++ [(pb,l)])).ds.drop (ps.length+1)=[]:=List.drop_of_length_le (by simp [rootD])
  dsimp only
  rw [e1,e2,e3,e4,List.append_nil,List.append_nil,List.map_map,← hq,List.map_map]
  rfl
 ·have e1:Lx.map (fun y=>(y.1,y.2.1))=(Lx.map Prod.fst).zip (Lx.map fun y=>y.2.1):=by
   rw [List.zip_map',]
  rw [e1,hq,k3,List.zip_map_right]
  rfl
theorem edge_good {parts:List (Nat × List EntD)} (hnd:(parts.map Prod.fst).Nodup) (hrg:∀ x ∈ parts,2≤x.1∧x.1<512) (hsz:∀ x ∈ parts,1≤x.2.length∧x.2.length≤7) (h1:1≤parts.length) (h16:parts.length≤16) (hE:GoodE (parts.flatMap Prod.snd)):(okNode (rootD parts)∧inNode (rootD parts))∧∀ x ∈ parts,okNode (lfD x.2)∧inNode (lfD x.2):=by
 have hsub:∀ x ∈ parts,x.2.Sublist (parts.flatMap Prod.snd):=fun x hx=>sub_flatE hx
 have hlf:∀ x ∈ parts,okNode (lfD x.2)∧inNode (lfD x.2):=fun x hx=>ok_tre (rn:=fun _ _=>False) (h:=0) (fun _ _ _ h=>h.elim) (fun _ _ h=>h.elim) ⟨rfl,rfl,rfl,rfl⟩ (hE.sub (hsub x hx)) (hsz x hx).1 (hsz x hx).2
 refine ⟨?_,hlf⟩
 refine ok_tre (rn:=fun c n=>∃ x ∈ parts,x.1=c∧lfD x.2=n) (h:=1) (es:=parts.flatMap Prod.snd) (fun c m m' hm hm'=>?_) (fun c m hm=>?_) ⟨rfl,rfl,parts.map (fun x=>(x.1,(lfD x.2,x.2))),by rw [List.map_map];rfl,by rw [List.map_map];rfl,fun x hx=>?_,by rw [List.flatMap_map],by rw [List.length_map];exact h1⟩ hE (by show 1≤(parts.map (fun x=>kidI x.1)).length;rw [List.length_map];exact h1) (by show (parts.map (fun x=>kidI x.1)).length≤16;rw [List.length_map];exact h16)
 ·obtain ⟨x,hx,rfl,rfl⟩:=hm
  obtain ⟨y,hy,hxy,rfl⟩:=hm'
  obtain ⟨i,hi⟩:=List.mem_iff_getElem?.1 hx
  obtain ⟨j,hj⟩:=List.mem_iff_getElem?.1 hy
  have e1:(parts.map Prod.fst)[i]?=some x.1:=by rw [List.getElem?_map,hi];rfl
  have e2:(parts.map Prod.fst)[j]?=some x.1:=by rw [List.getElem?_map,hj];simp [hxy]
  have hij:=(List.getElem?_inj (List.getElem?_eq_some_iff.1 e1).1 hnd).1 (e1.trans e2.symm)
  subst hij
  rw [hi] at hj
  cases hj
  rfl
 ·obtain ⟨x,hx,rfl,_⟩:=hm
  exact hrg x hx
 ·obtain ⟨y,hy,rfl⟩:=List.mem_map.1 hx
  exact ⟨⟨y,hy,rfl,rfl⟩,⟨rfl,rfl,rfl,rfl⟩,(hsz y hy).1⟩
theorem edge_way {nw:List UInt8} {Ls p a pb:Nat} {U:List Bool} {ps:List (Nat × List EntD)} {l es:List EntD} {e:EntD} {ss:List StepD} (hes:es=ps.flatMap Prod.snd ++ l) (hpb:rdQ nw Ls pb (lfD l)) (ht:Tre (rdU nw Ls p U) 1 (rootD (ps ++ [(pb,l)])) es) (hup:∀ x ∈ es,lessB x.key e.key=true) (hp:p≤512) (hd:Down (rdU nw Ls p U) e.key 1 a (rootD (ps ++ [(pb,l)])) es ss):ss=[⟨a,rootD (ps ++ [(pb,l)]),ps.length⟩,⟨pb,lfD l,l.length⟩]:=by
 obtain ⟨hri,x9,Y,hx9,hat9,hY9⟩:=Down.right ht hd hup
 obtain ⟨r,parts,x,ss',hpl,e1,e2,e3,e4,hx,hd',rfl⟩:=hd
 obtain ⟨r',hpl',rfl⟩:=hd'
 obtain rfl:(⟨x.1,x.2.1,r'⟩:StepD)=x9:=by simpa using hx9
 have hr0:=hri 0 ⟨a,_,r⟩ rfl (by omega)
 dsimp only at hr0 hat9
 have hrl:r=ps.length:=by
  have h10:=hr0.1
  simp [rootD] at h10
  exact h10
 have hxb:x.1=pb:=by
  have h10:(rootD (ps ++ [(pb,l)])).ds[r]?=some (kidI x.1):=by rw [e1,List.getElem?_map,hx];rfl
  unfold rootD at h10
  dsimp only at h10
  rw [hrl,List.map_append,List.getElem?_append_right (by simp)] at h10
  simp [kidI] at h10
  omega
 have hxm:=e3 x (List.mem_of_getElem? hx)
 have hxn:x.2.1=lfD l:=rdQ_fun (by have:=hxm.1.2.2.1;omega) hxm.1.1 (by rw [hxb];exact hpb)
 rw [hxn] at hat9
 rw [hrl,hxb,hxn,hat9]
 rfl
theorem pigeon {p:Nat} {W:List Nat} (hW:W.Nodup) (hr:∀ x ∈ W,x<p):W.length≤p:=by
 have h1:=filter_less (List.range p) W hW
 rw [List.length_range] at h1
 have h2:W.filter (fun x=>decide (x ∉ List.range p))=[]:=List.filter_eq_nil_iff.2 (fun x hx=>by simpa using hr x hx)
 rw [h2] at h1
 simpa using h1
theorem pigeon_all {p:Nat} {W:List Nat} (hW:W.Nodup) (hr:∀ x ∈ W,x<p) (hl:W.length=p) (b:Nat) (hb:b<p):b ∈ W:=by
 refine Classical.byContradiction (fun hn=>?_)
 have h1:=pigeon (p:=p) (W:=b :: W) (List.nodup_cons.2 ⟨hn,hW⟩) (fun x hx=>by
  rcases List.mem_cons.1 hx with rfl | hx
  ·exact hb
  ·exact hr x hx)
 rw [List.length_cons] at h1
 omega
theorem UseS.nextB {p:Nat} {U U':List Bool} {pg pg' G Q:List Nat} (h:UseS p map0 U pg) (hU:U.length=512) (hp:p≤512) (he:U'=marks (gaveN U G) Q) (hG:∀ b ∈ G,b ∈ pg) (hpg:∀ b,b ∈ pg' ↔ b ∈ Q∨(b ∈ pg∧b ∉ G)) (hQ:∀ b ∈ Q,fits p (gaveN U G) map0 1 b) (hn:pg'.Nodup):UseS p map0 U' pg':=by
 have hQ2:∀ b ∈ Q,2≤b∧b<p∧map0.getD b false=false:=fun b hb=>by
  obtain ⟨k1,k2,k3⟩:=fits_one.1 (hQ b hb)
  refine ⟨?_,by omega,k3⟩
  rw [get_map0] at k3
  have:=of_decide_eq_false k3
  omega
 have hget:∀ b,U'.getD b false=if b ∈ Q then true else if b ∈ G then false else U.getD b false:=fun b=>by
  rw [he,getD_marks' Q _ b (fun a ha=>by rw [length_gaveN,hU];have:=(hQ2 a ha).2.1;omega),getD_gaveN G U b (fun a ha=>by rw [hU];have:=(h.rng a (hG a ha)).2;omega)]
 refine ⟨hn,fun b hb=>?_,fun b=>?_,fun b hb=>?_⟩
 ·rcases (hpg b).1 hb with h1 | ⟨h1,_⟩
  ·have:=hQ2 b h1
   omega
  ·exact h.rng b h1
 ·rw [hget b,hpg b]
  by_cases h1:b ∈ Q
  ·simp [h1]
  ·rw [if_neg h1]
   by_cases h2:b ∈ G
   ·rw [if_pos h2]
    have h3:=h.off b (hG b h2)
    simp [h1,h2]
    simpa using h3
   ·rw [if_neg h2,h.use b]
    simp [h1,h2]
 ·rcases (hpg b).1 hb with h1 | ⟨h1,_⟩
  ·exact (hQ2 b h1).2.2
  ·exact h.off b h1
theorem edge_free {p a pb:Nat} {U:List Bool} {ps:List (Nat × List EntD)} (h:UseS p map0 U (a :: pb :: ps.map Prod.fst)) (hU:U.length=512) (hp:p≤512) (b:Nat):fits p (gaveN U [a,pb]) map0 1 b ↔ b<p∧2≤b∧b ∉ ps.map Prod.fst:=by
 have hra:=h.rng a (by simp)
 have hrb:=h.rng pb (by simp)
 have hnd:=h.nd
 simp only [List.nodup_cons,List.mem_cons,not_or] at hnd
 rw [fits_one,getD_gaveN [a,pb] U b (fun c hc=>by
  rw [hU]
  have hc':c=a∨c=pb:=by simpa using hc
  rcases hc' with rfl | rfl <;> omega),get_map0]
 constructor
 ·rintro ⟨k1,k2,k3⟩
  have k4:=of_decide_eq_false k3
  refine ⟨by omega,by omega,fun hb=>?_⟩
  have hne:b ∉ [a,pb]:=fun hc=>by
   have hc':b=a∨b=pb:=by simpa using hc
   rcases hc' with rfl | rfl
   ·exact hnd.1.2 hb
   ·exact hnd.2.1 hb
  rw [if_neg hne,(h.use b).2 (.inr (by simp only [List.mem_cons];exact .inr (.inr hb)))] at k2
  cases k2
 ·rintro ⟨k1,k2,k3⟩
  refine ⟨by omega,?_,decide_eq_false (by omega)⟩
  by_cases hc:b ∈ [a,pb]
  ·rw [if_pos hc]
  ·rw [if_neg hc]
   cases hu:U.getD b false with
   | false=>rfl
   | true =>
     rcases (h.use b).1 hu with h1 | h1
     ·rw [get_map0] at h1
      have:=of_decide_eq_true h1
      omega
     ·simp only [List.mem_cons] at h1
      simp only [List.mem_cons,List.not_mem_nil,or_false,not_or] at hc
      rcases h1 with h1 | h1 | h1
      ·exact absurd h1 hc.1
      ·exact absurd h1 hc.2
      ·exact absurd h1 k3
theorem edge_room {p a pb n:Nat} {U:List Bool} {ps:List (Nat × List EntD)} (h:UseS p map0 U (a :: pb :: ps.map Prod.fst)) (hU:U.length=512) (hp:p≤512) (hn:ps.length+2+n≤p):RoomP p map0 (gaveN U [a,pb]) n:=by
 have h1:=filter_less (0 :: 1 :: ps.map Prod.fst) (List.range p) List.nodup_range
 rw [List.length_range,List.length_cons,List.length_cons,List.length_map] at h1
 refine ⟨((List.range p).filter (fun x=>decide (x ∉ 0 :: 1 :: ps.map Prod.fst))).take n,by rw [List.length_take];omega,(List.nodup_range.sublist List.filter_sublist).sublist (List.take_sublist _ _),fun b hb=>?_⟩
 have h2:=List.mem_filter.1 (List.mem_of_mem_take hb)
 have h3:=List.mem_range.1 h2.1
 have h4:b ∉ 0 :: 1 :: ps.map Prod.fst:=of_decide_eq_true h2.2
 simp only [List.mem_cons,not_or] at h4
 exact (edge_free h hU hp b).2 ⟨h3,by omega,h4.2.2⟩
theorem edge_none {p a pb:Nat} {U:List Bool} {ps:List (Nat × List EntD)} {qs:List Nat} (h:UseS p map0 U (a :: pb :: ps.map Prod.fst)) (hU:U.length=512) (hp:p≤512) (hq:qs.Nodup) (hf:∀ q ∈ qs,fits p (gaveN U [a,pb]) map0 1 q) (hc:ps.length+2+qs.length=p) (h2:2≤p) (b:Nat):¬ fits p (marks (gaveN U [a,pb]) qs) map0 1 b:=by
 intro hfb
 obtain ⟨k1,k2,k3⟩:=fits_one.1 hfb
 have hq2:=fun q hq=>(edge_free h hU hp q).1 (hf q hq)
 rw [getD_marks' qs _ b (fun q hq=>by rw [length_gaveN,hU];have:=hq2 q hq;omega)] at k2
 have hnd:=h.nd
 simp only [List.nodup_cons,List.mem_cons,not_or] at hnd
 have hps:∀ c ∈ ps.map Prod.fst,2≤c∧c<p:=fun c hc=>h.rng c (by simp only [List.mem_cons];exact .inr (.inr hc))
 have hW:(0 :: 1 :: (ps.map Prod.fst ++ qs)).Nodup:=by
  refine List.nodup_cons.2 ⟨fun h0=>?_,List.nodup_cons.2 ⟨fun h0=>?_,List.nodup_append.2 ⟨hnd.2.2,hq,fun x hx y hy e=>?_⟩⟩⟩
  ·rcases List.mem_cons.1 h0 with h0 | h0
   ·cases h0
   ·rcases List.mem_append.1 h0 with h0 | h0
    ·have:=hps _ h0;omega
    ·have:=hq2 _ h0;omega
  ·rcases List.mem_append.1 h0 with h0 | h0
   ·have:=hps _ h0;omega
   ·have:=hq2 _ h0;omega
  ·exact (hq2 y hy).2.2 (e ▸ hx)
 have hin:=pigeon_all (p:=p) hW (fun x hx=>by
  simp only [List.mem_cons,List.mem_append] at hx
  rcases hx with rfl | rfl | hx | hx
  ·omega
  ·omega
  ·exact (hps x hx).2
  ·exact (hq2 x hx).1) (by simp only [List.length_cons,List.length_append,List.length_map];omega) b (by omega)
 have hfree:b ∉ qs∧b<p∧2≤b∧b ∉ ps.map Prod.fst:=by
  by_cases hbq:b ∈ qs
  ·rw [if_pos hbq] at k2
   cases k2
  ·rw [if_neg hbq] at k2
   exact ⟨hbq,(edge_free h hU hp b).1 (fits_one.2 ⟨k1,k2,k3⟩)⟩
 simp only [List.mem_cons,List.mem_append] at hin
 rcases hin with h0 | h0 | h0 | h0
 ·omega
 ·omega
 ·exact hfree.2.2.2 h0
 ·exact hfree.1 h0
theorem zip_flat {qs:List Nat} {hs:List (List EntD)} (h:qs.length=hs.length):(qs.zip hs).flatMap Prod.snd=hs.flatMap id:=by
 conv=>rhs;rw [← List.map_snd_zip (l₁:=qs) (l₂:=hs) (by omega)]
 rw [List.flatMap_map]
 rfl
theorem edge_nodes {p a pb:Nat} {U:List Bool} {ps:List (Nat × List EntD)} {l:List EntD} {e:EntD} {qs:List Nat} {n:NodeD} {Lx:List (Nat × (NodeD × NdL))} {U1:List Bool} (hu:UseS p map0 U (a :: pb :: ps.map Prod.fst)) (hU:U.length=512) (hp:p≤512) (hps:∀ x ∈ ps,x.2.length=4) (h4:4≤l.length) (h7:l.length≤7) (h14:ps.length≤14)
 (hq:Lx.map Prod.fst=qs) (hnd:qs.Nodup) (hf:∀ q ∈ qs,fits p (gaveN U [a,pb]) map0 1 q) (hw:WiS ⟨a,rootD (ps ++ [(pb,l)]),ps.length⟩ (lfD (l ++ [e])) n Lx (gaveN U [a,pb]) U1) (hE:GoodE (ps.flatMap Prod.snd ++ (l ++ [e]))):(∀ x ∈ Lx,okNode x.2.1∧inNode x.2.1)∧okNode n∧inNode n:=by
 have hxl:(l ++ [e]).length=l.length+1:=by simp
 obtain ⟨e1,e2,e3⟩:=wis_parts hw hq (by omega) (by omega)
 obtain ⟨g1,g2,g3,g4⟩:=halves_len (x:=l ++ [e]) (by omega) (by omega)
 have hzf:(qs.zip (halvesE (l ++ [e]))).map Prod.fst=qs:=List.map_fst_zip (by omega)
 have hunf:=hu.nd
 simp only [List.nodup_cons,List.mem_cons,not_or] at hunf
 have hfree:=fun q hq=>(edge_free hu hU hp q).1 (hf q hq)
 have hgood:=edge_good (parts:=ps ++ qs.zip (halvesE (l ++ [e]))) (by
  rw [List.map_append,hzf]
  exact List.nodup_append.2 ⟨hunf.2.2,hnd,fun x hx y hy e=>(hfree y hy).2.2 (e ▸ hx)⟩) (fun x hx=>by
  rcases List.mem_append.1 hx with hx | hx
  ·have:=hu.rng x.1 (by simp only [List.mem_cons];exact .inr (.inr (List.mem_map_of_mem hx)))
   omega
  ·have:=hfree x.1 (List.of_mem_zip hx).1
   omega) (fun x hx=>by
  rcases List.mem_append.1 hx with hx | hx
  ·have:=hps x hx
   omega
  ·have:=g1 x.2 (List.of_mem_zip hx).2
   omega) (by rw [List.length_append,List.length_zip];omega) (by rw [List.length_append,List.length_zip];omega) (by
  rw [List.flatMap_append,zip_flat e1,g2]
  exact hE)
 refine ⟨fun x hx=>?_,by rw [e2];exact hgood.1⟩
 have hm:(x.1,x.2.1) ∈ (qs.zip (halvesE (l ++ [e]))).map (fun y=>(y.1,lfD y.2)):=by rw [← e3];exact List.mem_map.2 ⟨x,hx,rfl⟩
 obtain ⟨y,hy,hye⟩:=List.mem_map.1 hm
 have h9:=hgood.2 y (List.mem_append_right _ hy)
 simp only [Prod.mk.injEq] at hye
 rw [← hye.2]
 exact h9
theorem edge_next {nw nw':List UInt8} {Ls p gen a pb t:Nat} {U:List Bool} {ps:List (Nat × List EntD)} {l es:List EntD} {e:EntD} {qs:List Nat} {n:NodeD} {Lx:List (Nat × (NodeD × NdL))} {lx:NdL} {U1:List Bool} (hes:es=ps.flatMap Prod.snd ++ l) (hps:∀ x ∈ ps,rdQ nw Ls x.1 (lfD x.2)∧x.2.length=4) (h4:4≤l.length) (h7:l.length≤7) (h1p:1≤ps.length) (hu:UseS p map0 U (a :: pb :: ps.map Prod.fst)) (hU:U.length=512) (hp:p≤512) (hLs:256*p≤Ls) (hgen:gen<18446744073709551616)
 (hq:Lx.map Prod.fst=qs) (hnd:(qs ++ [t]).Nodup) (hf:∀ q ∈ qs ++ [t],fits p (gaveN U [a,pb]) map0 1 q) (hw:WiS ⟨a,rootD (ps ++ [(pb,l)]),ps.length⟩ (lfD (l ++ [e])) n Lx (gaveN U [a,pb]) U1) (hgd:∀ x ∈ Lx ++ [(t,(n,lx))],okNode x.2.1∧inNode x.2.1) (hpg:PgsOf gen nw nw' (Lx ++ [(t,(n,lx))])) :
 ∃ pg',Shp (rdQ nw' Ls) t 2 (es ++ [e]) pg'∧UseS p map0 (marks (gaveN U [a,pb]) (qs ++ [t])) pg':=by
 have hxl:(l ++ [e]).length=l.length+1:=by simp
 obtain ⟨e1,e2,e3⟩:=wis_parts hw hq (by omega) (by omega)
 obtain ⟨g1,g2,g3,g4⟩:=halves_len (x:=l ++ [e]) (by omega) (by omega)
 have hq2:=fun q hq=>(edge_free hu hU hp q).1 (hf q hq)
 have hunf:=hu.nd
 simp only [List.nodup_cons,List.mem_cons,not_or] at hunf
 have hpsr:∀ c ∈ ps.map Prod.fst,2≤c∧c<p:=fun c hc=>hu.rng c (by simp only [List.mem_cons];exact .inr (.inr hc))
 have hgab:∀ c ∈ [a,pb],c<U.length:=fun c hc=>by
  rw [hU]
  have hra:=hu.rng a (by simp)
  have hrb:=hu.rng pb (by simp)
  have hc':c=a∨c=pb:=by simpa using hc
  rcases hc' with rfl | rfl <;> omega
 have hread:=rdL_read (V:=gaveN U [a,pb]) (U:=marks (gaveN U [a,pb]) (qs ++ [t])) (rd:=fun c m=>rdQ nw Ls c m∧c ∈ ps.map Prod.fst) (p:=p) (Ls:=Ls) (gen:=gen) (nw:=nw) (nw':=nw') (L:=Lx ++ [(t,(n,lx))]) (fun c m hm=>⟨hm.1,(hpsr c hm.2).1,(hpsr c hm.2).2,by
  rw [getD_gaveN [a,pb] U c hgab,if_neg (fun hc=>?_)]
  ·exact (hu.use c).2 (.inr (by simp only [List.mem_cons];exact .inr (.inr hm.2)))
  ·have hc':c=a∨c=pb:=by simpa using hc
   rcases hc' with rfl | rfl
   ·exact hunf.1.2 hm.2
   ·exact hunf.2.1 hm.2⟩) (by
  rw [List.map_append,hq]
  refine ⟨hnd,fun c hc=>⟨(hq2 c hc).2.1,(hq2 c hc).1,?_,(fits_one.1 (hf c hc)).2.1⟩⟩
  rw [getD_marks' _ _ c (fun b hb=>by rw [length_gaveN,hU];have:=hq2 b hb;omega)]
  exact if_pos hc) hgd hLs hgen hpg
 have hnew:∀ c m y,(c,(m,y)) ∈ Lx ++ [(t,(n,lx))]→rdQ nw' Ls c m:=fun c m y hy=>hread c m (.inr ⟨y,hy⟩)
 have hz:∀ y ∈ qs.zip (halvesE (l ++ [e])),rdQ nw' Ls y.1 (lfD y.2):=fun y hy=>by
  have hm:(y.1,lfD y.2) ∈ Lx.map (fun y=>(y.1,y.2.1)):=by rw [e3];exact List.mem_map.2 ⟨y,hy,rfl⟩
  obtain ⟨⟨c,m,lz⟩,hx,hxe⟩:=List.mem_map.1 hm
  have h9:=hnew c m lz (List.mem_append_left _ hx)
  simp only [Prod.mk.injEq] at hxe
  rw [← hxe.1,← hxe.2]
  exact h9
 have hold:∀ x ∈ ps,rdQ nw' Ls x.1 (lfD x.2):=fun x hx=>hread x.1 _ (.inl ⟨(hps x hx).1,List.mem_map_of_mem hx⟩)
 have hroot:rdQ nw' Ls t n:=hnew t n lx (List.mem_append_right _ (List.mem_singleton.2 rfl))
 have hUx:∀ pg',(∀ b,b ∈ pg' ↔ b ∈ qs ++ [t]∨b ∈ ps.map Prod.fst)→pg'.Nodup→UseS p map0 (marks (gaveN U [a,pb]) (qs ++ [t])) pg':=fun pg' h1 h2=>hu.nextB (G:=[a,pb]) (Q:=qs ++ [t]) hU hp rfl (fun c hc=>by
  have hc':c=a∨c=pb:=by simpa using hc
  rcases hc' with rfl | rfl <;> simp) (fun b=>by
   rw [h1 b]
   refine or_congr Iff.rfl ⟨fun hb=>⟨by simp only [List.mem_cons];exact .inr (.inr hb),fun hc=>?_⟩,fun ⟨hb,hc⟩=>?_⟩
   ·have hc':b=a∨b=pb:=by simpa using hc
    rcases hc' with rfl | rfl
    ·exact hunf.1.2 hb
    ·exact hunf.2.1 hb
   ·simp only [List.mem_cons] at hb
    simp only [List.mem_cons,List.not_mem_nil,or_false,not_or] at hc
    rcases hb with hb | hb | hb
    ·exact absurd hb hc.1
    ·exact absurd hb hc.2
    ·exact hb) hf h2
 have hqps:∀ q ∈ qs ++ [t],q ∉ ps.map Prod.fst:=fun q hq=>(hq2 q hq).2.2
 by_cases hl7:l.length+1≤7
 ·have hh:halvesE (l ++ [e])=[l ++ [e]]:=by unfold halvesE;rw [if_pos (by omega)]
  rw [hh] at e1 e2 hz
  obtain ⟨q,rfl⟩:∃ q,qs=[q]:=List.length_eq_one_iff.1 (by simpa using e1)
  refine ⟨t :: q :: ps.map Prod.fst,.inr (.inr ⟨rfl,ps,q,l ++ [e],?_,fun x hx=>⟨hold x hx,(hps x hx).2⟩,hz (q,l ++ [e]) (by simp),by omega,by omega,h1p,by rw [hes,List.append_assoc],rfl⟩),hUx _ (fun b=>?_) ?_⟩
  ·rw [e2] at hroot
   exact hroot
  ·simp only [List.mem_cons,List.mem_append,List.not_mem_nil,or_false]
   constructor
   ·rintro (h | h | h)
    ·exact .inl (.inr h)
    ·exact .inl (.inl h)
    ·exact .inr h
   ·rintro ((h | h) | h)
    ·exact .inr (.inl h)
    ·exact .inl h
    ·exact .inr (.inr h)
  ·have hn1:=hqps q (by simp)
   have hn2:=hqps t (by simp)
   have hn3:q≠t:=by simpa using hnd
   simp only [List.nodup_cons,List.mem_cons,not_or]
   exact ⟨⟨fun h=>hn3 h.symm,hn2⟩,hn1,hunf.2.2⟩
 ·have hh:halvesE (l ++ [e])=[(l ++ [e]).take 4,(l ++ [e]).drop 4]:=by unfold halvesE;rw [if_neg (by omega)]
  rw [hh] at e1 e2 hz
  obtain ⟨q1,q2,rfl⟩:∃ q1 q2,qs=[q1,q2]:=by
   match qs,e1 with
   | [x,y],_=>exact ⟨x,y,rfl⟩
  refine ⟨t :: q2 :: (ps ++ [(q1,(l ++ [e]).take 4)]).map Prod.fst,.inr (.inr ⟨rfl,ps ++ [(q1,(l ++ [e]).take 4)],q2,(l ++ [e]).drop 4,?_,fun x hx=>?_,hz (q2,(l ++ [e]).drop 4) (by simp),by rw [List.length_drop];omega,by rw [List.length_drop];omega,by simp,?_,rfl⟩),hUx _ (fun b=>?_) ?_⟩
  ·rw [e2] at hroot
   simpa [rootD] using hroot
  ·rcases List.mem_append.1 hx with hx | hx
   ·exact ⟨hold x hx,(hps x hx).2⟩
   ·rw [List.mem_singleton.1 hx]
    exact ⟨hz (q1,(l ++ [e]).take 4) (by simp),by rw [List.length_take];omega⟩
  ·rw [hes,List.flatMap_append]
   simp
  ·simp only [List.map_append,List.map_cons,List.map_nil,List.mem_cons,List.mem_append,List.not_mem_nil,or_false]
   constructor
   ·rintro (h | h | h | h)
    ·exact .inl (.inr h)
    ·exact .inl (.inl (.inr h))
    ·exact .inr h
    ·exact .inl (.inl (.inl h))
   ·rintro (((h | h) | h) | h)
    ·exact .inr (.inr (.inr h))
    ·exact .inr (.inl h)
    ·exact .inl h
    ·exact .inr (.inr (.inl h))
  ·have hn1:=hqps q1 (by simp)
   have hn2:=hqps q2 (by simp)
   have hn3:=hqps t (by simp)
   simp at hnd
   rw [List.map_append]
   simp only [List.map_cons,List.map_nil,List.nodup_cons,List.mem_cons,List.mem_append,List.not_mem_nil,or_false,not_or]
   refine ⟨⟨fun e=>hnd.2 e.symm,hn3,fun e=>hnd.1.2 e.symm⟩,⟨hn2,fun e=>hnd.1.1 e.symm⟩,?_⟩
   rw [List.nodup_append]
   refine ⟨hunf.2.2,by simp,fun u hu2 v hv=>?_⟩
   rw [List.mem_singleton.1 hv]
   exact fun e=>hn1 (e ▸ hu2)
end Go.Proofs.YtgkddhncfaeidaaGreat
