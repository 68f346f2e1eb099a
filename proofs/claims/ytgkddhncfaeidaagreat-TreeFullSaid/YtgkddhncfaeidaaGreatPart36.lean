/- Squeezed: the texts as they are written lie in wip/tpl. -/
import Derived.Test.YtgkddhncfaeidaaGreatPart35
import Derived.Test.YtgkddhncfaeidaaGreatPart22
import Derived.Test.YtgkddhncfaeidaaGreatPart25
import Derived.Test.YtgkddhncfaeidaaGreatPart13
import Derived.Test.YtgkddhncfaeidaaGreatPart19
import Derived.Test.YtgkddhncfaeidaaGreatPart24
import Derived.Test.YtgkddhncfaeidaaGreatPart04
set_option maxRecDepth 100000
set_option maxHeartbeats 8000000
set_option linter.unusedSimpArgs false
set_option linter.unusedVariables false
namespace Go.Proofs.YtgkddhncfaeidaaGreat
open Go.RowKit CrcM PageM
theorem getD_gaveN:∀ (bs:List Nat) (U:List Bool) (j:Nat),(∀ a ∈ bs,a<U.length)→(gaveN U bs).getD j false=if j ∈ bs then false else U.getD j false
 | [],U,j,_=>by simp [gaveN]
 | a :: bs,U,j,h=>by
   have ha:=h a (List.mem_cons_self ..)
   rw [show gaveN U (a :: bs)=gaveN (markN U a false 1) bs from rfl,getD_gaveN bs _ j (fun b hb=>by rw [length_markN];exact h b (List.mem_cons_of_mem _ hb)),getD_mark1 ha]
   by_cases h1:j ∈ bs
   ·rw [if_pos h1,if_pos (List.mem_cons_of_mem _ h1)]
   ·rw [if_neg h1]
    by_cases h2:j=a
    ·rw [if_pos h2,if_pos (by rw [h2];exact List.mem_cons_self ..)]
    ·rw [if_neg h2,if_neg (by intro h3;rcases List.mem_cons.1 h3 with h3 | h3;exact h2 h3;exact h1 h3)]
theorem length_gaveN:∀ (bs:List Nat) (U:List Bool),(gaveN U bs).length=U.length
 | [],U=>rfl
 | a :: bs,U=>by rw [show gaveN U (a :: bs)=gaveN (markN U a false 1) bs from rfl,length_gaveN bs,length_markN]
theorem getD_marks':∀ (qs:List Nat) (U:List Bool) (j:Nat),(∀ a ∈ qs,a<U.length)→(marks U qs).getD j false=if j ∈ qs then true else U.getD j false
 | [],U,j,_=>by simp [marks]
 | a :: qs,U,j,h=>by
   have ha:=h a (List.mem_cons_self ..)
   rw [marks_cons,getD_marks' qs _ j (fun b hb=>by rw [length_markN];exact h b (List.mem_cons_of_mem _ hb)),getD_mark1 ha]
   by_cases h1:j ∈ qs
   ·rw [if_pos h1,if_pos (List.mem_cons_of_mem _ h1)]
   ·rw [if_neg h1]
    by_cases h2:j=a
    ·rw [if_pos h2,if_pos (by rw [h2];exact List.mem_cons_self ..)]
    ·rw [if_neg h2,if_neg (by intro h3;rcases List.mem_cons.1 h3 with h3 | h3;exact h2 h3;exact h1 h3)]
def lfD (l:List EntD):NodeD:=⟨true,l,[],[]⟩
def Shp (rq:Nat→NodeD→Prop) (a hh:Nat) (es:List EntD) (pg:List Nat):Prop :=
 (hh=0∧es=[]∧pg=[]) ∨
 (hh=1∧rq a (lfD es)∧1≤es.length∧es.length≤7∧pg=[a]) ∨
 (hh=2∧∃ (ps:List (Nat × List EntD)) (b:Nat) (l:List EntD),rq a ⟨false,[],(ps ++ [(b,l)]).map (fun x=>leastK (lfD x.2)),(ps ++ [(b,l)]).map (fun x=>kidI x.1)⟩∧(∀ x ∈ ps,rq x.1 (lfD x.2)∧x.2.length=4)∧rq b (lfD l)∧4≤l.length∧l.length≤7∧1≤ps.length∧es=ps.flatMap Prod.snd ++ l∧pg=a :: b :: ps.map Prod.fst)
structure UseS (p:Nat) (M U:List Bool) (pg:List Nat):Prop where
 nd:pg.Nodup
 rng:∀ b ∈ pg,2≤b∧b<p
 use:∀ b,U.getD b false=true ↔ M.getD b false=true∨b ∈ pg
 off:∀ b ∈ pg,M.getD b false=false
theorem UseS.next {p:Nat} {M U U' V:List Bool} {pg pg' G Q:List Nat} (h:UseS p M U pg) (hU:U.length=512) (hV:V.length=512) (hp:p≤512) (he:U'=marks (gaveN U G) Q) (hG:∀ b ∈ G,b ∈ pg) (hpg:∀ b,b ∈ pg' ↔ b ∈ Q∨(b ∈ pg∧b ∉ G)) (hl:LaidOk p U' (orK U V 512) Q) (hn:(∀ b ∈ Q,b ∉ pg)→pg'.Nodup):UseS p M U' pg':=by
 have hQU:∀ b ∈ Q,U.getD b false=false:=fun b hb=>by
  have h1:=(hl.2 b hb).2.2.2
  have h2:=(hl.2 b hb).2.1
  rw [getD_orK U V b 512 (by rw [hV];exact Nat.le_refl _),if_pos (by omega)] at h1
  simp only [Bool.or_eq_false_iff] at h1
  exact h1.2
 have hQM:∀ b ∈ Q,M.getD b false=false∧b ∉ pg:=fun b hb=>by
  have h1:=hQU b hb
  refine ⟨?_,fun h2=>?_⟩
  ·cases h2:M.getD b false with
   | false=>rfl
   | true =>
     have:=(h.use b).2 (.inl h2)
     rw [h1] at this
     cases this
  ·have:=(h.use b).2 (.inr h2)
   rw [h1] at this
   cases this
 have hget:∀ b,U'.getD b false=if b ∈ Q then true else if b ∈ G then false else U.getD b false:=fun b=>by
  rw [he,getD_marks' Q _ b (fun a ha=>by rw [length_gaveN,hU];have:=(hl.2 a ha).2.1;omega),getD_gaveN G U b (fun a ha=>by rw [hU];have:=(h.rng a (hG a ha)).2;omega)]
 refine ⟨hn (fun b hb=>(hQM b hb).2),fun b hb=>?_,fun b=>?_,fun b hb=>?_⟩
 ·rcases (hpg b).1 hb with h1 | ⟨h1,_⟩
  ·have:=hl.2 b h1
   omega
  ·exact h.rng b h1
 ·rw [hget b,hpg b]
  by_cases h1:b ∈ Q
  ·simp [h1]
  ·rw [if_neg h1]
   by_cases h2:b ∈ G
   ·rw [if_pos h2]
    have h3:=h.off b (hG b h2)
    simp [h1,h2]
    simpa using h3
   ·rw [if_neg h2,h.use b]
    simp [h1,h2]
 ·rcases (hpg b).1 hb with h1 | ⟨h1,_⟩
  ·exact (hQM b h1).1
  ·exact h.off b h1
theorem Shp.tre {nw:List UInt8} {Ls p a h:Nat} {M U:List Bool} {es:List EntD} {pg:List Nat} (hs:Shp (rdQ nw Ls) a (h+1) es pg) (hu:UseS p M U pg):∃ nr,rdU nw Ls p U a nr∧Tre (rdU nw Ls p U) h nr es∧h≤1∧1≤es.length:=by
 have hpg:∀ b n,b ∈ pg→rdQ nw Ls b n→rdU nw Ls p U b n:=fun b n hb hr=>⟨hr,(hu.rng b hb).1,(hu.rng b hb).2,(hu.use b).2 (.inr hb)⟩
 rcases hs with ⟨h1,_⟩ | ⟨h1,h2,h3,h4,h5⟩ | ⟨h1,ps,b,l,h2,h3,h4,h5,h6,h7,h8,h9⟩
 ·omega
 ·obtain rfl:h=0:=by omega
  exact ⟨lfD es,hpg _ _ (by rw [h5];simp) h2,⟨rfl,rfl,rfl,rfl⟩,by omega,h3⟩
 ·obtain rfl:h=1:=by omega
  refine ⟨_,hpg _ _ (by rw [h9];simp) h2,⟨rfl,rfl,(ps ++ [(b,l)]).map (fun x=>(x.1,(lfD x.2,x.2))),by rw [List.map_map];rfl,by rw [List.map_map];rfl,fun x hx=>?_,?_,by simp⟩,by omega,?_⟩
  ·obtain ⟨y,hy,rfl⟩:=List.mem_map.1 hx
   rcases List.mem_append.1 hy with hy | hy
   ·have h10:=h3 y hy
    exact ⟨hpg _ _ (by rw [h9];simp only [List.mem_cons,List.mem_map];exact .inr (.inr ⟨y,hy,rfl⟩)) h10.1,⟨rfl,rfl,rfl,rfl⟩,by show 1≤y.2.length;omega⟩
   ·rw [List.mem_singleton.1 hy]
    exact ⟨hpg _ _ (by rw [h9];simp) h4,⟨rfl,rfl,rfl,rfl⟩,by show 1≤l.length;omega⟩
  ·rw [h8,List.map_append,List.flatMap_append]
   simp [List.flatMap_map]
  ·rw [h8,List.length_append]
   omega
theorem SplitOf.alone {n:NodeD} {ps:List NodeD} (h:SplitOf n ps) (h1:1≤n.size) (h2:n.size≤capN n.leaf):ps=[n]:=h.one h1 h2
theorem map_one {α β:Type} {f:α→β} {l:List α} {y:β} (h:l.map f=[y]):∃ x,l=[x]∧f x=y:=by
 match l,h with
 | [x],h=>exact ⟨x,rfl,by simpa using h⟩
theorem map_two {α β:Type} {f:α→β} {l:List α} {y z:β} (h:l.map f=[y,z]):∃ x u,l=[x,u]∧f x=y∧f u=z:=by
 match l,h with
 | [x,u],h=>exact ⟨x,u,rfl,by simpa using h⟩
theorem leaf_size (l:List EntD):(lfD l).size=l.length:=rfl
theorem leaf_few {l:List EntD} (h:3≤l.length):fewB (lfD l)=false:=by
 unfold fewB lfD
 simp
 exact h
theorem split_eight {l:List EntD} {ps:List NodeD} (h:SplitOf (lfD l) ps) (h8:l.length=8):ps=[lfD (l.take 4),lfD (l.drop 4)]:=by
 have h1:=h.half (by show 7<(lfD l).size;rw [leaf_size];omega) (by show (lfD l).size≤14;rw [leaf_size];omega)
 rw [h1,leaf_size,h8]
 simp [partA,partB,lfD]
theorem edge_step {nw nw':List UInt8} {Ls p gen a h a' hh':Nat} {M U U' V:List Bool} {es:List EntD} {pg:List Nat} {nr:NodeD} {e:EntD} {L':List (Nat × (NodeD × NdL))} (hs:Shp (rdQ nw Ls) a (h+1) es pg) (hu:UseS p M U pg) (hU:U.length=512) (hV:V.length=512) (hp:p≤512) (hnr:rdU nw Ls p U a nr) (ht:Tre (rdU nw Ls p U) h nr es) (hup:∀ x ∈ es,lessB x.key e.key=true) (hi:InsR nw Ls p gen U V h a nr es e a' hh' U' L') (hpg:PgsOf gen nw nw' L') (h60:es.length≤60) :
 L'.length≤3∧∃ pg',Shp (rdQ nw' Ls) a' hh' (es ++ [e]) pg'∧UseS p M U' pg':=by
 obtain ⟨hread,_⟩:=hi.tree nw' hpg
 have hl:=hi.fit.laid
 obtain ⟨ss,sl,hd,hsl,hins⟩:=hi.shape
 obtain ⟨hri,x9,Y,hx9,hat9,hY9⟩:=Down.right ht hd hup
 have hold:∀ b n,b ∈ pg→rdQ nw Ls b n→rdQ nw' Ls b n:=fun b n hb hr=>hread b n (.inl ⟨hr,(hu.rng b hb).1,(hu.rng b hb).2,(hu.use b).2 (.inr hb)⟩)
 have hnew:∀ b n l,(b,(n,l)) ∈ L'→rdQ nw' Ls b n:=fun b n l hb=>hread b n (.inr ⟨l,hb⟩)
 rcases hs with ⟨h1,_⟩ | ⟨h1,h2,h3,h4,h5⟩ | ⟨h1,ps,b,l,h2,h3,h4,h5,h6,h7,h8,h9⟩
 ·omega
 ·obtain rfl:h=0:=by omega
  have hn:nr=lfD es:=rdQ_fun (by have:=hnr.2.2.1;omega) hnr.1 h2
  subst hn
  obtain ⟨r,hpl,rfl⟩:=hd
  obtain rfl:(⟨a,lfD es,r⟩:StepD)=sl:=by simpa using hsl
  have hT:=hins.1 rfl
  rw [show (lfD es).es=es from rfl] at hT
  obtain ⟨hT1,hT2⟩:=hT
  have hsz:(lfD (es ++ [e])).size=es.length+1:=by rw [leaf_size,List.length_append];rfl
  by_cases h7:es.length+1≤7
  ·obtain ⟨e1,e2,lx,e3⟩:=hT1 (by rw [show (⟨true,es ++ [e],[],[]⟩:NodeD)=lfD (es ++ [e]) from rfl,hsz];omega) (.inl rfl) (by rw [show (⟨true,es ++ [e],[],[]⟩:NodeD)=lfD (es ++ [e]) from rfl,hsz];exact h7)
   subst e1 e3
   refine ⟨by simp,[a'],.inr (.inl ⟨rfl,hnew _ _ lx (by simp [lfD]),by simp,by rw [List.length_append];exact h7,rfl⟩),?_⟩
   refine hu.next (G:=[a]) (Q:=[a']) hU hV hp e2 (fun b hb=>by rw [h5];exact hb) (fun b=>?_) hl (fun _=>by simp)
   rw [h5]
   simp
  ·obtain ⟨x,y,q1,q2,l1,l2,l3,e1,e2,e3,e4⟩:=hT2 (by show 7<(lfD (es ++ [e])).size;rw [hsz];omega)
   have e5:=split_eight (l:=es ++ [e]) e1 (by rw [List.length_append];simp;omega)
   obtain ⟨rfl,rfl⟩:x=lfD ((es ++ [e]).take 4)∧y=lfD ((es ++ [e]).drop 4):=by simpa using e5
   subst e2 e4
   have h8':(es ++ [e]).length=8:=by rw [List.length_append];simp;omega
   refine ⟨by simp,a' :: q2 :: [q1],.inr (.inr ⟨rfl,[(q1,(es ++ [e]).take 4)],q2,(es ++ [e]).drop 4,hnew _ _ l3 (by simp),fun x hx=>?_,hnew _ _ l2 (by simp),by rw [List.length_drop,h8'];omega,by rw [List.length_drop,h8'];omega,by simp,by simp,rfl⟩),?_⟩
   ·rw [List.mem_singleton.1 hx]
    exact ⟨hnew _ _ l1 (by simp),by rw [List.length_take,h8'];rfl⟩
   ·refine hu.next (G:=[a]) (Q:=[q1,q2,a']) hU hV hp e3 (fun b hb=>by rw [h5];exact hb) (fun b=>?_) (by simpa using hl) (fun _=>?_)
    ·rw [h5]
     simp only [List.mem_cons,List.not_mem_nil,or_false]
     constructor
     ·rintro (h | h | h)
      ·exact .inl (.inr (.inr h))
      ·exact .inl (.inr (.inl h))
      ·exact .inl (.inl h)
     ·rintro ((h | h | h) | ⟨h,h'⟩)
      ·exact .inr (.inr h)
      ·exact .inr (.inl h)
      ·exact .inl h
      ·exact absurd h h'
    ·have h10:=hl.1
     simp at h10 ⊢
     omega
 ·obtain rfl:h=1:=by omega
  have hn:=rdQ_fun (by have:=hnr.2.2.1;omega) hnr.1 h2
  obtain ⟨r,parts,x,ss',hpl,e1,e2,e3,e4,hx,hd',rfl⟩:=hd
  obtain ⟨r',hpl',rfl⟩:=hd'
  obtain rfl:(⟨x.1,x.2.1,r'⟩:StepD)=sl:=by simpa using hsl
  have hr0:=hri 0 ⟨a,nr,r⟩ rfl (by omega)
  dsimp only at hr0
  have hrl:r=ps.length:=by
   have h10:=hr0.1
   rw [hn] at h10
   simp at h10
   exact h10
  have hxb:x.1=b:=by
   have h10:nr.ds[r]?=some (kidI x.1):=by rw [e1,List.getElem?_map,hx];rfl
   rw [hn] at h10
   dsimp only at h10
   rw [hrl,List.map_append,List.getElem?_append_right (by simp)] at h10
   simp [kidI] at h10
   omega
  have hxm:=e3 x (List.mem_of_getElem? hx)
  have hbpg:b ∈ pg:=by rw [h9];simp
  have hxn:x.2.1=lfD l:=rdQ_fun (by have:=hxm.1.2.2.1;omega) hxm.1.1 (by rw [hxb];exact h4)
  obtain ⟨s,n,Lx,U1,k1,k2,k3⟩:=hins.2 rfl (by
   dsimp only
   rw [hxn]
   exact leaf_few (l:=l ++ [e]) (by rw [List.length_append];simp;omega))
  obtain rfl:(⟨a,nr,r⟩:StepD)=s:=by simpa using k1
  dsimp only at k2
  rw [hxn,hxb] at k2
  simp only [List.map_cons,List.map_nil] at k2
  obtain ⟨k4,k5,k6⟩:=k2
  have hlen:es.length=4*ps.length+l.length:=by
   rw [h8,List.length_append]
   have:∀ qs:List (Nat × List EntD),(∀ x ∈ qs,x.2.length=4)→(qs.flatMap Prod.snd).length=4*qs.length:=fun qs=>by
    induction qs with
    | nil=>intro _;rfl
    | cons q qs ih =>
      intro hq
      rw [List.flatMap_cons,List.length_append,ih (fun x hx=>hq x (List.mem_cons_of_mem _ hx)),hq q (List.mem_cons_self ..),List.length_cons]
      omega
   rw [this ps (fun x hx=>(h3 x hx).2)]
  have hks:nr.ks.take r=ps.map (fun x=>leastK (lfD x.2))∧nr.ks.drop (r+1)=[]∧nr.ds.take r=ps.map (fun x=>kidI x.1)∧nr.ds.drop (r+1)=[]:=by
   rw [hn,hrl]
   dsimp only
   rw [List.map_append,List.map_append]
   refine ⟨?_,?_,?_,?_⟩
   ·exact List.take_left' (by simp)
   ·exact List.drop_of_length_le (by simp)
   ·exact List.take_left' (by simp)
   ·exact List.drop_of_length_le (by simp)
  rw [hks.1,hks.2.1,hks.2.2.1,hks.2.2.2,List.append_nil,List.append_nil] at k5
  have hsz:(lfD (l ++ [e])).size=l.length+1:=by rw [leaf_size,List.length_append];rfl
  have hnd:=hu.nd
  rw [h9] at hnd
  by_cases hl7:l.length+1≤7
  ·have q0:=k4.alone (n:=lfD (l ++ [e])) (by rw [hsz];omega) (by rw [hsz];exact hl7)
   obtain ⟨⟨q,n0,lx⟩,rfl,rfl⟩:=map_one q0
   simp only [List.map_cons,List.map_nil] at k5 k6
   have hns:n.size=ps.length+1:=by rw [k5];simp [NodeD.size]
   obtain ⟨f1,f2,ly,f3⟩:=k3.1 (by omega) (.inr (by omega)) (by rw [hns,k5];show _≤16;omega)
   subst f1 f3
   refine ⟨by simp,a' :: q :: ps.map Prod.fst,.inr (.inr ⟨rfl,ps,q,l ++ [e],?_,fun y hy=>⟨hold _ _ ?_ (h3 y hy).1,(h3 y hy).2⟩,hnew _ _ lx (by simp [lfD]),by rw [List.length_append];simp;omega,by rw [List.length_append];simp;omega,h7,by rw [h8,List.append_assoc],rfl⟩),?_⟩
   ·have h10:=hnew a' n ly (by simp)
    rw [k5] at h10
    simpa [lfD] using h10
   ·rw [h9]
    simp only [List.mem_cons,List.mem_map]
    exact .inr (.inr ⟨y,hy,rfl⟩)
   ·refine hu.next (G:=[a,b]) (Q:=[q,a']) hU hV hp (by rw [f2,k6];exact (marks_snoc _ [q] a').symm) (fun c hc=>by rw [h9];simp at hc ⊢;rcases hc with rfl | rfl <;> simp) (fun c=>?_) (by simpa using hl) (fun hQ=>?_)
    ·rw [h9]
     have hd1:∀ c ∈ ps.map Prod.fst,c≠a∧c≠b:=fun c hc=>by
      simp only [List.nodup_cons,List.mem_cons,not_or] at hnd
      exact ⟨fun e=>hnd.1.2 (e ▸ hc),fun e=>hnd.2.1 (e ▸ hc)⟩
     simp only [List.mem_cons,List.not_mem_nil,or_false,not_or]
     constructor
     ·rintro (h | h | h)
      ·exact .inl (.inr h)
      ·exact .inl (.inl h)
      ·exact .inr ⟨.inr (.inr h),hd1 c h⟩
     ·rintro ((h | h) | ⟨h | h | h,h'⟩)
      ·exact .inr (.inl h)
      ·exact .inl h
      ·exact absurd h h'.1
      ·exact absurd h h'.2
      ·exact .inr (.inr h)
    ·have h10:=hl.1
     simp only [List.nodup_cons,List.mem_cons,not_or] at hnd ⊢
     have hqn:q≠a':=by
      have h11:=hl.1
      simp at h11
      exact h11
     have hQ1:=hQ q (by simp)
     have hQ2:=hQ a' (by simp)
     rw [h9] at hQ1 hQ2
     simp only [List.mem_cons,not_or] at hQ1 hQ2
     exact ⟨⟨fun e=>hqn e.symm,hQ2.2.2⟩,hQ1.2.2,hnd.2.2⟩
  ·have h8':(l ++ [e]).length=8:=by rw [List.length_append];simp;omega
   have q0:=split_eight (l:=l ++ [e]) k4 h8'
   obtain ⟨⟨q1,n1,l1⟩,⟨q2,n2,l2⟩,rfl,rfl,rfl⟩:=map_two q0
   simp only [List.map_cons,List.map_nil] at k5 k6
   have hns:n.size=ps.length+2:=by rw [k5];simp [NodeD.size]
   obtain ⟨f1,f2,ly,f3⟩:=k3.1 (by omega) (.inr (by omega)) (by rw [hns,k5];show _≤16;omega)
   subst f1 f3
   refine ⟨by simp,a' :: q2 :: (ps ++ [(q1,(l ++ [e]).take 4)]).map Prod.fst,.inr (.inr ⟨rfl,ps ++ [(q1,(l ++ [e]).take 4)],q2,(l ++ [e]).drop 4,?_,fun y hy=>?_,hnew _ _ l2 (by simp),by rw [List.length_drop,h8'];omega,by rw [List.length_drop,h8'];omega,by simp,?_,rfl⟩),?_⟩
   ·have h10:=hnew a' n ly (by simp)
    rw [k5] at h10
    simpa using h10
   ·rcases List.mem_append.1 hy with hy | hy
    ·refine ⟨hold _ _ ?_ (h3 y hy).1,(h3 y hy).2⟩
     rw [h9]
     simp only [List.mem_cons,List.mem_map]
     exact .inr (.inr ⟨y,hy,rfl⟩)
    ·rw [List.mem_singleton.1 hy]
     exact ⟨hnew _ _ l1 (by simp),by rw [List.length_take,h8'];rfl⟩
   ·rw [h8,List.flatMap_append]
    simp
   ·refine hu.next (G:=[a,b]) (Q:=[q1,q2,a']) hU hV hp (by rw [f2,k6];exact (marks_snoc _ [q1,q2] a').symm) (fun c hc=>by rw [h9];simp at hc ⊢;rcases hc with rfl | rfl <;> simp) (fun c=>?_) (by simpa using hl) (fun hQ=>?_)
    ·rw [h9]
     have hd1:∀ c ∈ ps.map Prod.fst,c≠a∧c≠b:=fun c hc=>by
      simp only [List.nodup_cons,List.mem_cons,not_or] at hnd
      exact ⟨fun e=>hnd.1.2 (e ▸ hc),fun e=>hnd.2.1 (e ▸ hc)⟩
     simp only [List.map_append,List.map_cons,List.map_nil,List.mem_append,List.mem_cons,List.not_mem_nil,or_false,not_or]
     constructor
     ·rintro (h | h | h | h)
      ·exact .inl (.inr (.inr h))
      ·exact .inl (.inr (.inl h))
      ·exact .inr ⟨.inr (.inr h),hd1 c h⟩
      ·exact .inl (.inl h)
     ·rintro ((h | h | h) | ⟨h | h | h,h'⟩)
      ·exact .inr (.inr (.inr h))
      ·exact .inr (.inl h)
      ·exact .inl h
      ·exact absurd h h'.1
      ·exact absurd h h'.2
      ·exact .inr (.inr (.inl h))
    ·have h10:=hl.1
     have hqn:q1≠q2∧q1≠a'∧q2≠a':=by
      have h11:=hl.1
      simp at h11
      exact ⟨h11.1.1,h11.1.2,h11.2⟩
     have hQ0:=hQ q1 (by simp)
     have hQ1:=hQ q2 (by simp)
     have hQ2:=hQ a' (by simp)
     rw [h9] at hQ0 hQ1 hQ2
     simp only [List.nodup_cons,List.mem_cons,not_or] at hnd hQ0 hQ1 hQ2
     rw [List.map_append]
     simp only [List.map_cons,List.map_nil,List.nodup_cons,List.mem_cons,List.mem_append,List.not_mem_nil,or_false,not_or]
     refine ⟨⟨fun e=>hqn.2.2 e.symm,hQ2.2.2,fun e=>hqn.2.1 e.symm⟩,⟨hQ1.2.2,fun e=>hqn.1 e.symm⟩,?_⟩
     rw [List.nodup_append]
     refine ⟨hnd.2.2,by simp,fun u hu v hv=>?_⟩
     rw [List.mem_singleton.1 hv]
     exact fun e=>hQ0.2.2 (e ▸ hu)
end Go.Proofs.YtgkddhncfaeidaaGreat
namespace Go.Proofs.YtgkddhncfaeidaaGreat
open Go.RowKit Go.ChangeShapes Go.WideShapes Go.ChangeAt CrcM PageM
theorem nodeT_one (w:World) (x:EntD):NodeT (w.alloc (.cells #[.int .i64 x.se,.int .i64 x.st,.int .i64 x.en,.int .i64 x.ad,.int .i64 x.le,.int .i64 x.cn,.int .i64 x.co,.int .u32 x.cr] 40)) ⟨true,[x],[],[]⟩ ⟨some ⟨w.heap.size,0,none⟩,1,none,0,none,0⟩ where
 at_:=one_at w x
 te:=fun _=>⟨w.heap.size,0,_,_,rfl,heap_alloc_new _ _⟩
 tk:=fun h=>absurd rfl h
 td:=fun h=>absurd rfl h
theorem load_one (gv g gen p:Nat) (U V:List Bool) (hU:U.length=512) (hV:V.length=512) (okU:okM (p:Int) U) (okV:okM (p:Int) V) (hg:gen<18446744073709551616) {B N gs gn Ls cs cn:Nat} {rw:Value} {st nw:List UInt8} {ws:List (Nat × List UInt8)}
 (x:EntD) (he:okEnt x) (A:Option Addr) (c a:Nat) (hp:Picks p (orK U V 512) U [a]) (ha:256*a+256≤Ls) (hws:ws.length+4≤500) (w:World) (hx:NodeT w ⟨true,[x],[],[]⟩ ⟨A,c,none,0,none,0⟩) (hv:ViewAt w gv g gen (p:Int) U V) (hd:Dk w B N g gs gn rw Ls cs cn st nw ws true (-1)) :
 Calls Tryz.prog 10 #[.pointer (some ⟨gv,0,none⟩),.slice A 1 c] w fun e w'=>e=.returned (.tuple #[.agg #[.int .i64 (a:Int),.int .i64 1],.int .i64 0])∧∃ Lx,Lx.map strip=[(a,⟨true,[x],[],[]⟩)]∧Wrote w w' gv g gen p (marks U [a]) V B gs gn Ls cs cn rw st nw ws Lx:=by
 have h0:lvlE [x]=[⟨true,[x],[],[]⟩]:=by
  have hc:chs 7 1 1=[(0,1)]:=by decide
  unfold lvlE
  have hk:([x].length+6) / 7=1:=by simp
  rw [hk,List.length_singleton,hc]
  rfl
 exact load_yes gv g gen p U V hU hV okU okV hg [x] A 1 c rfl (by decide) ⟨fun e h=>by rw [List.mem_singleton.1 h];exact he,fun i p' e h1 h2=>by simp at h2⟩ [] ⟨true,[x],[],[]⟩ 1 a (by rw [h0];exact Tops.stop _ _) (by decide) (fun h=>by cases h) hp (fun y hy=>by
  rw [List.nil_append,List.mem_singleton] at hy
  rw [hy]
  exact ⟨okNode_one he,ha⟩) (by simpa using hws) w hx hv hd
theorem insert_first (gv g gen p:Nat) (U V:List Bool) (hU:U.length=512) (hV:V.length=512) (okU:okM (p:Int) U) (okV:okM (p:Int) V) (hg:gen<18446744073709551616) {B N gs gn Ls cs cn:Nat} {rw:Value} {st nw:List UInt8} {ws:List (Nat × List UInt8)} (x:EntD) (he:okEnt x) (a:Int) (b:Nat) (hp:Picks p (orK U V 512) U [b]) (hb:256*b+256≤Ls) (hws:ws.length+4≤500) (w:World) (hv:ViewAt w gv g gen (p:Int) U V) (hd:Dk w B N g gs gn rw Ls cs cn st nw ws true (-1)) :
 Calls Tryz.prog 17 #[.pointer (some ⟨gv,0,none⟩),.agg #[.int .i64 a,.int .i64 0],.agg #[.int .i64 x.se,.int .i64 x.st,.int .i64 x.en,.int .i64 x.ad,.int .i64 x.le,.int .i64 x.cn,.int .i64 x.co,.int .u32 x.cr]] w fun e w'=>e=.returned (.tuple #[.agg #[.int .i64 (b:Int),.int .i64 1],.int .i64 0])∧∃ Lx,Lx.map strip=[(b,⟨true,[x],[],[]⟩)]∧Wrote w w' gv g gen p (marks U [b]) V B gs gn Ls cs cn rw st nw ws Lx:=by
 have HWY:Hid (∀ W,Below w.heap.size w W→Calls Tryz.prog 35 #[.pointer (some ⟨gv,0,none⟩),.agg #[.int .i64 a,.int .i64 0],.agg #[.int .i64 x.se,.int .i64 x.st]] W fun e w'=>e=.returned (.tuple #[.slice none 0 0,.int .i64 0])∧Below W.heap.size W w'):=Lib.hid (fun W hW=>way_nil gv g gen p a U V x.key W (hv.below hW))
 have HKN:Hid (∀ W,Calls Tryz.prog 36 #[.slice none 0 0,.agg #[.int .i64 x.se,.int .i64 x.st]] W fun e w'=>e=.returned (.tuple #[.agg #[.int .i64 0,.int .i64 0,.int .i64 0,.int .i64 0,.int .i64 0,.int .i64 0,.int .i64 0,.int .u32 0],.bool false])∧Below W.heap.size W w'):=Lib.hid (fun W=>known_nil 0 x.key W)
 have HLD:Hid (∀ (W:World) (A:Option Addr),Below w.heap.size w W→NodeT W ⟨true,[x],[],[]⟩ ⟨A,1,none,0,none,0⟩→Calls Tryz.prog 10 #[.pointer (some ⟨gv,0,none⟩),.slice A 1 1] W fun e w'=>e=.returned (.tuple #[.agg #[.int .i64 (b:Int),.int .i64 1],.int .i64 0])∧∃ Lx,Lx.map strip=[(b,⟨true,[x],[],[]⟩)]∧Wrote W w' gv g gen p (marks U [b]) V B gs gn Ls cs cn rw st nw ws Lx):=Lib.hid (fun W A hW hn=>load_one gv g gen p U V hU hV okU okV hg x he A 1 b hp hb hws W hn (hv.below hW) (hd.below hW))
 have HE:=Lib.hid he
 have HV:=Lib.hid hv
 have HD:=Lib.hid hd
 clear hv hd he hU hV okU okV hg hp hb hws
 obtain ⟨w3,hw3⟩:∃ w3,w3=((w.alloc (.cells #[.int .i64 a,.int .i64 0] 43)).alloc (.cells #[.int .i64 x.se,.int .i64 x.st,.int .i64 x.en,.int .i64 x.ad,.int .i64 x.le,.int .i64 x.cn,.int .i64 x.co,.int .u32 x.cr] 40)).alloc (.cells #[.int .i64 0,.int .i64 0] 43):=⟨_,rfl⟩
 have G1:Hid (w3.heap[w.heap.size]?=some (.cells #[.int .i64 a,.int .i64 0] 43 (0,0))):=Lib.hid (by
  rw [hw3]
  exact row_stays (row_stays (heap_alloc_new w _) (alloc_bel rfl)) (alloc_bel rfl))
 have G2:Hid (w3.heap[w.heap.size+1]?=some (.cells #[.int .i64 x.se,.int .i64 x.st,.int .i64 x.en,.int .i64 x.ad,.int .i64 x.le,.int .i64 x.cn,.int .i64 x.co,.int .u32 x.cr] 40 (0,0))):=Lib.hid (by
  rw [hw3]
  have h1:=heap_alloc_new (w.alloc (.cells #[.int .i64 a,.int .i64 0] 43)) (.cells #[.int .i64 x.se,.int .i64 x.st,.int .i64 x.en,.int .i64 x.ad,.int .i64 x.le,.int .i64 x.cn,.int .i64 x.co,.int .u32 x.cr] 40)
  rw [World.size_alloc] at h1
  exact row_stays h1 (alloc_bel rfl))
 have G3:Hid (w3.heap[w.heap.size+1+1]?=some (.cells #[.int .i64 0,.int .i64 0] 43 (0,0))):=Lib.hid (by
  rw [hw3]
  have h1:=heap_alloc_new ((w.alloc (.cells #[.int .i64 a,.int .i64 0] 43)).alloc (.cells #[.int .i64 x.se,.int .i64 x.st,.int .i64 x.en,.int .i64 x.ad,.int .i64 x.le,.int .i64 x.cn,.int .i64 x.co,.int .u32 x.cr] 40)) (.cells #[.int .i64 0,.int .i64 0] 43)
  rw [World.size_alloc,World.size_alloc] at h1
  exact h1)
 have B3:Hid (Below w.heap.size w w3):=Lib.hid (by
  rw [hw3]
  exact (((Below.refl _ w).alloc (Nat.le_refl _) _).alloc (by simp) _).alloc (by simp;omega) _)
 have HW3:=Lib.hid hw3
 clear hw3
 go_enter Tryz.func17,Tryz.ntmps17
 go_upto_region 1 with fail
 rw [← HW3.out]
 clear HW3
 go_upto_region 3 with (first
  | (refine wpList_load_row rfl 40 (.tmp 5) rfl (w.heap.size+1) rfl 40 _ (0,0) _ G2.out Tryz.underlying40 rfl (by kernel_rfl) ?_)
  | (go_at_call 39;refine (rightEntry_yes x HE.out _).mono ?_;rintro e w4 ⟨rfl,hb4⟩;have R1:=Lib.hid (row_stays G1.out hb4);have R2:=Lib.hid (row_stays G2.out hb4);have R3:=Lib.hid (row_stays G3.out hb4);have B4:=Lib.hid (B3.out.trans (hb4.mono B3.out.size));clear hb4))
 have z0:=nd_cell R2.out 0 (.int .i64 x.se) rfl
 have z1:=nd_cell R2.out 1 (.int .i64 x.st) rfl
 go_upto_region 6 with (first
  | (refine wpList_load_row rfl 43 (.tmp 4) rfl w.heap.size rfl 43 _ (0,0) _ R1.out Tryz.underlying43 rfl (by kernel_rfl) ?_)
  | (go_at_call 35;refine (HWY.out _ B4.out).mono ?_;rintro e w5 ⟨rfl,hb5⟩;have S2:=Lib.hid (row_stays R2.out hb5);have S3:=Lib.hid (row_stays R3.out hb5);have B5:=Lib.hid (B4.out.trans (hb5.mono B4.out.size));clear hb5))
 clear z0 z1
 have z0:=nd_cell S2.out 0 (.int .i64 x.se) rfl
 have z1:=nd_cell S2.out 1 (.int .i64 x.st) rfl
 go_upto_region 7 with (go_at_call 36;refine (HKN.out _).mono ?_;rintro e w6 ⟨rfl,hb6⟩;have T2:=Lib.hid (row_stays S2.out hb6);have T3:=Lib.hid (row_stays S3.out hb6);have B6:=Lib.hid (B5.out.trans (hb6.mono B5.out.size));clear hb6)
 clear z0 z1
 obtain ⟨w7,hw7⟩:∃ w7,w7=w6.alloc (.cells #[.int .i64 0,.int .i64 0,.int .i64 0,.int .i64 0,.int .i64 0,.int .i64 0,.int .i64 0,.int .u32 0] 40):=⟨_,rfl⟩
 have A7:=Lib.hid (alloc_bel hw7)
 have U2:=Lib.hid (row_stays T2.out A7.out)
 have U3:=Lib.hid (row_stays T3.out A7.out)
 have B7:=Lib.hid (B6.out.trans (A7.out.mono B6.out.size))
 rw [← hw7]
 clear hw7
 go_upto_region 11 with (first
  | (refine wpList_load_row rfl 40 (.tmp 5) rfl (w.heap.size+1) rfl 40 _ (0,0) _ U2.out Tryz.underlying40 rfl (by kernel_rfl) ?_)
  | (go_at_call 40;refine (meets_nil 0 x _).mono ?_;rintro e w8 ⟨rfl,hb8⟩;have V2:=Lib.hid (row_stays U2.out hb8);have V3:=Lib.hid (row_stays U3.out hb8);have B8:=Lib.hid (B7.out.trans (hb8.mono B7.out.size));clear hb8))
 obtain ⟨w9,hw9⟩:∃ w9,w9=w8.alloc (.cells #[.int .i64 x.se,.int .i64 x.st,.int .i64 x.en,.int .i64 x.ad,.int .i64 x.le,.int .i64 x.cn,.int .i64 x.co,.int .u32 x.cr] 40):=⟨_,rfl⟩
 have A9:=Lib.hid (alloc_bel hw9)
 have N9:Hid (NodeT w9 ⟨true,[x],[],[]⟩ ⟨some ⟨w8.heap.size,0,none⟩,1,none,0,none,0⟩):=Lib.hid (by rw [hw9];exact nodeT_one w8 x)
 have X3:=Lib.hid (row_stays V3.out A9.out)
 have B9:=Lib.hid (B8.out.trans (A9.out.mono B8.out.size))
 have HLN:=Lib.hid (HLD.out _ _ B9.out N9.out)
 have HW9:=Lib.hid hw9
 clear hw9
 have hX:¬ (DkX g gn rw (w.heap.size+1+1)∨(w.heap.size+1+1)=gv):=fun hx=>by
  rcases hx with hx | hx
  ·exact (HD.out.below B9.out).notX X3.out (by decide) (.inl (by decide)) (by decide) hx
  ·have h1:=HV.out.below B9.out
   have h2:=X3.out
   unfold ViewAt at h1
   rw [hx,h1] at h2
   cases h2
 have HX:=Lib.hid hX
 clear hX
 go_upto_region 12 with fail
 go_wp2_with (first
  | (refine wpList_load_row rfl 40 (.tmp 5) rfl (w.heap.size+1) rfl 40 _ (0,0) _ V2.out Tryz.underlying40 rfl (by kernel_rfl) ?_)
  | (rw [← HW9.out];go_at_call 10;refine HLN.out.mono ?_;rintro e w10 ⟨rfl,Lx,hlx,hw⟩;have W10:=Lib.hid hw;have L10:=Lib.hid hlx;have G10:=Lib.hid (hw.out.heap X3.out HX.out);clear hw hlx)
  | (refine wpList_store_row rfl 43 (.tmp 6) (.tmp 50) rfl (w.heap.size+1+1) #[.int .i64 (b:Int),.int .i64 1] rfl rfl 43 _ G10.out (by kernel_rfl) rfl (by simp [Value.oneCell']) ?_))
 refine bodyPost_ret (v:=.tuple #[.agg #[.int .i64 (b:Int),.int .i64 1],.int .i64 0]) (results_cell_tmpB (p:=6) (u:=7) (ty:=43) rfl _ _ (w.heap.size+1+1) 43 _ (0,0) _ rfl (setRow_heap _ _ _ _ _ _ G10.out) Tryz.underlying43 rfl (by kernel_rfl)) rfl ⟨rfl,Lx,L10.out,?_⟩
 exact (W10.out.pre B9.out).post (KeptNot.of_setRow G10.out _) (below_setRow (Below.refl _ _) (by omega) _) (by decide) (by decide) (by decide) (by decide)
theorem okM_zero (p:Nat) (h8:8≤p) (hp:p≤512):okM (p:Int) map0:=(BtInv.init p).ok h8 hp
theorem begin_any (p:Nat) (h8:8≤p) (h5:p≤512) (w:World) :
 Calls Tryz.prog 6 #[.int .i64 (p:Int)] w fun e w'=>∃ gv g B N gs gn cs cn,e=.returned (.tuple #[.pointer (some ⟨gv,0,none⟩),.pointer (some ⟨g,0,none⟩),.bool true])∧ViewAt w' gv g 1 (p:Int) map0 map0∧Dk w' B N g gs gn (.slice none 0 0) (p*256) cs cn (List.replicate (p*256) 0) (List.replicate (p*256) 0) [] true (-1)∧w.heap.size≤gv∧w.heap.size≤B∧Below w.heap.size w w':=by
 obtain ⟨C,hC⟩:∃ C,C=mapC (p:Int) map0:=⟨_,rfl⟩
 obtain ⟨T,hT⟩:∃ T,T=tab:=⟨_,rfl⟩
 obtain ⟨z,hz⟩:∃ z:Int,z=(p:Int):=⟨_,rfl⟩
 have HBM:Hid (∀ W,Calls Tryz.prog 18 #[.int .i64 z] W fun e w'=>e=.returned (.agg C)∧Below W.heap.size W w'):=Lib.hid (fun W=>by rw [hC,hz];exact new_bm (p:Int) p (by omega) W)
 have HCR:Hid (∀ W,Calls Tryz.prog 23 #[] W fun e w'=>e=.returned (.agg T)∧Below W.heap.size W w'):=Lib.hid (fun W=>by rw [hT];exact new_any W)
 have HDN:Hid (∀ W,Calls Tryz.prog 24 #[.int .i64 z] W fun e w'=>∃ g gs gn cs cn,e=.returned (.tuple #[.pointer (some ⟨g,0,none⟩),.int .i64 0])∧Dk w' W.heap.size w'.heap.size g gs gn (.slice none 0 0) (p*256) cs cn (List.replicate (p*256) 0) (List.replicate (p*256) 0) [] true (-1)∧Below W.heap.size W w'):=Lib.hid (fun W=>by rw [hz];exact new_ok p h8 h5 W)
 have HOP:Hid (∀ (g:Nat) (B N gs gn Ls cs cn:Nat) (rw:Value) (st nw:List UInt8) (ws:List (Nat × List UInt8)) (W:World),Ls / 256=p→Dk W B N g gs gn rw Ls cs cn st nw ws true (-1)→Calls Tryz.prog 22 #[.agg T,.pointer (some ⟨g,0,none⟩),.int .u64 1,.agg C,.agg C] W fun e w'=>∃ gv,e=.returned (.tuple #[.pointer (some ⟨gv,0,none⟩),.int .i64 0])∧W.heap.size≤gv∧ViewAt w' gv g 1 (p:Int) map0 map0∧Below W.heap.size W w'):=Lib.hid (fun g B N gs gn Ls cs cn rw st nw ws W h1 h2=>by
  rw [hT]
  exact topen_yes g 1 p map0 map0 length_map0 length_map0 (okM_zero p h8 h5) (okM_zero p h8 h5) h1 C C hC hC W h2)
 rw [← hz] at HOP ⊢
 have HZ:=Lib.hid hz
 clear hT hC hz
 have N0:=Lib.hid (Below.refl w.heap.size w)
 go_enter Tryz.func6,Tryz.ntmps6
 go_upto_region 2 with (go_at_call 24;refine (HDN.out _).mono ?_;rintro e w2 ⟨g,gs,gn,cs,cn,rfl,hd,hb⟩;have D2:=Lib.hid hd;have B2:=Lib.hid hb;clear hd hb)
 clear N0
 have N2:=Lib.hid (Below.refl w2.heap.size w2)
 go_upto_region 3 with (first
  | (go_at_call 23;refine (HCR.out _).mono ?_;rintro e w3 ⟨rfl,hb⟩;have N3:=Lib.hid hb;clear hb N2 HCR)
  | (have hq:=N3;clear hq;go_at_call 18;refine (HBM.out _).mono ?_;rintro e w4 ⟨rfl,hb⟩;have N4:=Lib.hid (N3.out.trans (hb.mono N3.out.size));clear hb N3)
  | (have hq:=N4;clear hq;go_at_call 18;refine (HBM.out _).mono ?_;rintro e w5 ⟨rfl,hb⟩;have N5:=Lib.hid (N4.out.trans (hb.mono N4.out.size));clear hb N4 HBM)
  | (have hq:=N5;clear hq;go_at_call 22;refine (HOP.out g _ _ _ _ _ _ _ _ _ _ _ _ (by omega) (D2.out.below N5.out)).mono ?_;rintro e wo ⟨gv,rfl,hgv,hv,hb⟩;have GV:=Lib.hid (Nat.le_trans (Nat.le_trans B2.out.size N5.out.size) hgv);have V6:=Lib.hid hv;have N6:=Lib.hid (N5.out.trans (hb.mono N5.out.size));clear hb hv hgv N5 HOP))
 have BO:Hid (Below w.heap.size w wo):=Lib.hid (B2.out.trans (N6.out.mono B2.out.size))
 have D6:=Lib.hid (D2.out.below N6.out)
 go_wp2_with fail
 go_ret3
 exact ⟨gv,g,_,_,gs,gn,cs,cn,rfl,V6.out,D6.out,GV.out,Nat.le_refl _,BO.out⟩
def entM (i:Nat):EntD:=⟨0,((7*i:Nat):Int),((7*i:Nat):Int),3,2,1,1,1⟩
def entsM (k:Nat):List EntD:=(List.range k).map entM
theorem entsM_len (k:Nat):(entsM k).length=k:=by simp [entsM]
theorem entsM_succ (k:Nat):entsM (k+1)=entsM k ++ [entM k]:=by simp [entsM,List.range_succ]
theorem entM_ok {i:Nat} (hi:i<100):okEnt (entM i):=by
 refine ⟨⟨by simp [entM],by simp [entM]⟩,by simp only [entM];omega,by simp only [entM];omega,by simp only [entM];omega,⟨by simp only [entM];omega,by simp only [entM];omega⟩,by simp only [entM];omega,by simp only [entM];omega,by simp only [entM];omega,by simp only [entM];omega,by simp only [entM];omega⟩
theorem entM_in {i:Nat} (hi:i<100):inEnt (entM i):=by
 refine ⟨⟨?_,?_⟩,⟨?_,?_⟩,?_,?_⟩ <;> simp only [entM] <;> omega
theorem entM_less {i j:Nat} (h:i<j):apartB (entM i) (entM j)=true:=by
 have h1:((7*i:Nat):Int)<((7*j:Nat):Int):=by omega
 unfold apartB
 have e1:lessB (entM i).key (entM j).key=true:=lessB_iff.2 (.inr ⟨rfl,h1⟩)
 have e2:decide ((entM i).en<(entM j).st)=true:=decide_eq_true h1
 rw [e1,e2,Bool.or_true]
 rfl
theorem entsM_apart {k:Nat}:∀ x ∈ entsM k,apartB x (entM k)=true:=fun x hx=>by
 obtain ⟨i,hi,rfl⟩:=List.mem_map.1 hx
 exact entM_less (List.mem_range.1 hi)
theorem entsM_good {k:Nat} (hk:k≤100):GoodE (entsM k):=by
 refine ⟨?_,fun e he=>?_⟩
 ·unfold Apt
  refine List.pairwise_iff_getElem.2 fun i j hi hj hij=>?_
  simp only [entsM,List.getElem_map,List.getElem_range]
  exact entM_less hij
 ·obtain ⟨i,hi,rfl⟩:=List.mem_map.1 he
  have:=List.mem_range.1 hi
  exact ⟨entM_ok (by omega),entM_in (by omega)⟩
theorem act_entryM (i:Nat) (hi:i<100) (w:World) :
 Calls Tryz.prog 8 #[.agg #[.int .i64 0,.int .i64 0,.int .i64 ((7*i:Nat):Int),.int .i64 0,.int .i64 1]] w fun e w'=>e=.returned (.agg (enC (entM i)).toArray)∧Below w.heap.size w w':=by
 obtain ⟨t,ht⟩:∃ t,t=7*i:=⟨_,rfl⟩
 have ht3:t≤693:=by omega
 have e2:(t:Int) % 1000=(t:Int):=by omega
 have hC:enC (entM i)=[.int .i64 0,.int .i64 (t:Int),.int .i64 (t:Int),.int .i64 3,.int .i64 2,.int .i64 1,.int .i64 1,.int .u32 1]:=by
  rw [ht]
  rfl
 rw [hC,← ht]
 clear ht hC
 go_enter Tryz.func8,Tryz.ntmps8
 go_upto_region 2 with fail
 go_wp2_with fail
 refine bodyPost_ret (v:=.agg #[.int .i64 0,.int .i64 (t:Int),.int .i64 (t:Int),.int .i64 3,.int .i64 2,.int .i64 1,.int .i64 1,.int .u32 1]) (results_cell_row (p:=2) (ty:=34) rfl _ _ (w.heap.size+1) 34 _ (0,0) _ rfl (heap_alloc2_new _ _ _) Tryz.underlying34 rfl (by kernel_rfl)) rfl ⟨rfl,below_two (Below.refl _ _)⟩
theorem filter_one_less {X:List Nat} (hX:X.Nodup) (a:Nat):X.length≤(X.filter (fun x=>decide (x≠a))).length+1:=by
 induction X with
 | nil=>simp
 | cons x X ih =>
   have h:=List.nodup_cons.1 hX
   by_cases hx:x=a
   ·subst hx
    have h1:X.filter (fun y=>decide (y≠x))=X:=List.filter_eq_self.2 (fun y hy=>decide_eq_true (fun e=>h.1 (e ▸ hy)))
    rw [List.filter_cons_of_neg (by simp),h1]
    simp
   ·rw [List.filter_cons_of_pos (by simp [hx])]
    have:=ih h.2
    simp only [List.length_cons]
    omega
theorem filter_less:∀ (W X:List Nat),X.Nodup→X.length≤(X.filter (fun x=>decide (x ∉ W))).length+W.length
 | [],X,_=>by
   rw [List.filter_eq_self.2 (fun y _=>by simp)]
   simp
 | a :: W,X,hX=>by
   have h1:=filter_less W X hX
   have h2:=filter_one_less (hX.sublist List.filter_sublist) a (X:=X.filter (fun x=>decide (x ∉ W)))
   have h3:(X.filter (fun x=>decide (x ∉ W))).filter (fun x=>decide (x≠a))=X.filter (fun x=>decide (x ∉ a :: W)):=by
    rw [List.filter_filter]
    refine List.filter_congr (fun x _=>?_)
    simp [not_or]
   rw [h3] at h2
   rw [List.length_cons]
   omega
theorem room_list {p n:Nat} {U V:List Bool} {W:List Nat} (hV:V.length=512) (hp:p≤512) (hW:∀ b,b<p→U.getD b false=true∨V.getD b false=true→b ∈ W) (hc:W.length+n≤p):RoomP p (orK U V 512) U n:=by
 have h1:=filter_less W (List.range p) List.nodup_range
 rw [List.length_range] at h1
 refine ⟨((List.range p).filter (fun x=>decide (x ∉ W))).take n,by rw [List.length_take];omega,(List.nodup_range.sublist List.filter_sublist).sublist (List.take_sublist _ _),fun a ha=>?_⟩
 have h2:=List.mem_filter.1 (List.mem_of_mem_take ha)
 have h3:=List.mem_range.1 h2.1
 have h4:a ∉ W:=of_decide_eq_true h2.2
 have hU:U.getD a false=false:=by
  cases h5:U.getD a false with
  | false=>rfl
  | true=>exact absurd (hW a h3 (.inl h5)) h4
 have hV2:V.getD a false=false:=by
  cases h5:V.getD a false with
  | false=>rfl
  | true=>exact absurd (hW a h3 (.inr h5)) h4
 refine fits_one.2 ⟨by omega,hU,?_⟩
 rw [getD_orK _ _ _ _ (by rw [hV];exact Nat.le_refl _),if_pos (by omega),hU,hV2]
 rfl
end Go.Proofs.YtgkddhncfaeidaaGreat
