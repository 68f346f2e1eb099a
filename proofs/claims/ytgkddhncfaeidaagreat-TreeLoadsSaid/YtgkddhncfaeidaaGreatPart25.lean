/- Squeezed: the texts as they are written lie in wip/tpl. -/
import Derived.Test.YtgkddhncfaeidaaGreatPart22
import Derived.Test.YtgkddhncfaeidaaGreatPart24
import Derived.Test.YtgkddhncfaeidaaGreatPart15
import Derived.Test.YtgkddhncfaeidaaGreatPart21
set_option linter.unusedSimpArgs false
set_option linter.unusedVariables false
namespace Go.Proofs.YtgkddhncfaeidaaGreat
open Go.RowKit CrcM PageM
theorem picks_from (p:Nat) (hp:p≤512):∀ (n s:Nat) (U:List Bool),U.length=512→(∀ j,U.getD j false=decide (j<s))→(∀ j,2≤j→map0.getD j false=false)→2≤s→s+n≤p→Picks p map0 U (List.range' s n)
 | 0,_,_,_,_,_,_,_=>trivial
 | n+1,s,U,hU,hs,h0,h2,hn=>by
   rw [List.range'_succ]
   refine ⟨⟨⟨by omega,fun j hj=>?_⟩,fun a' ha' hf=>?_⟩,picks_from p hp n (s+1) (markN U s true 1) (by rw [length_markN];exact hU) (fun j=>?_) h0 (by omega) (by omega)⟩
   ·obtain rfl:j=0:=by omega
    exact ⟨by rw [hs];simp,h0 _ (by omega)⟩
   ·have h1:=(hf.2 0 (by decide)).1
    rw [hs] at h1
    simp at h1
    omega
   ·rw [getD_markN U s true j 1 (by omega),hs]
    by_cases h:s≤j∧j<s+1
    ·rw [if_pos h]
     exact (decide_eq_true h.2).symm
    ·rw [if_neg h]
     exact decide_eq_decide.2 (by omega)
theorem orK_self {U:List Bool} (hU:U.length=512):orK U U 512=U:=by
 refine List.ext_getElem (length_orK U U 512) fun i h1 h2=>?_
 have h:=getD_orK U U i 512 (by rw [hU];exact Nat.le_refl _)
 rw [if_pos (by omega),Bool.or_self] at h
 rw [List.getD_eq_getElem?_getD,List.getD_eq_getElem?_getD,List.getElem?_eq_getElem h1,List.getElem?_eq_getElem h2] at h
 exact h
theorem picks_new (p n:Nat) (hp:p≤512) (hn:2+n≤p):Picks p map0 map0 (List.range' 2 n) :=
 picks_from p hp n 2 map0 length_map0 get_map0 (fun j hj=>by rw [get_map0];exact decide_eq_false (by omega)) (Nat.le_refl _) hn
def capH (h:Nat):Nat:=7*16 ^ h
theorem capH_succ (h:Nat):capH (h+1)=16*capH h:=by unfold capH;rw [Nat.pow_succ];omega
def ND:Nat→Nat→Nat
 | 0,k=>(k+6) / 7
 | h+1,k=>ND h k+(k+capH (h+1) - 1) / capH (h+1)
def fullB (c:Nat) (l:List Nat):Prop:=(∀ i,i+1<l.length→l[i]?=some c)∧∀ x ∈ l,1≤x∧x≤c
def Sub (rd:Nat→NodeD→Prop):Nat→NodeD→List EntD→Prop
 | 0,n,es=>n.leaf=true∧n.es=es∧n.ds=[]
 | h+1,n,es=>n.leaf=false∧n.es=[]∧∃ parts:List (Nat × (NodeD × List EntD)),n.ds=parts.map (fun x=>kidI x.1)∧(∀ x ∈ parts,rd x.1 x.2.1∧Sub rd h x.2.1 x.2.2)∧es=parts.flatMap (fun x=>x.2.2)∧fullB (capH h) (parts.map fun x=>x.2.2.length)∧parts.length≤16∧1≤parts.length
theorem fullB.part {c:Nat} {l:List Nat} (h:fullB c l) (a b:Nat):fullB c ((l.drop a).take b):=by
 refine ⟨fun i hi=>?_,fun x hx=>h.2 x (List.mem_of_mem_drop (List.mem_of_mem_take hx))⟩
 rw [List.length_take,List.length_drop] at hi
 rw [List.getElem?_take,if_pos (by omega),List.getElem?_drop]
 exact h.1 _ (by omega)
theorem chunk_flat {α:Type} (m:Nat) (l:List α):∀ k,((chs 16 l.length k).map fun x=>(l.drop x.1).take x.2).flatten=l.take (16*k)
 | 0=>by simp [chs]
 | k+1=>by
   rw [chs_succ,List.map_append,List.flatten_append,chunk_flat m l k,Nat.mul_succ,List.take_add]
   congr 1
   simp only [List.map_cons,List.map_nil,List.flatten_cons,List.flatten_nil,List.append_nil]
   rcases Nat.le_total 16 (l.length - 16*k) with h | h
   ·rw [Nat.min_eq_left h]
   ·rw [Nat.min_eq_right h,List.take_of_length_le (by rw [List.length_drop];exact Nat.le_refl _),List.take_of_length_le (by rw [List.length_drop];exact h)]
theorem flat_flat {α β:Type} (f:α→List β):∀ L:List (List α),L.flatten.flatMap f=L.flatMap fun l=>l.flatMap f
 | []=>rfl
 | l :: L=>by rw [List.flatten_cons,List.flatMap_append,flat_flat f L,List.flatMap_cons]
theorem sum_le {c:Nat}:∀ {l:List Nat},(∀ x ∈ l,x≤c)→l.sum≤l.length*c
 | [],_=>by simp
 | x :: l,h=>by
   rw [List.sum_cons,List.length_cons,Nat.succ_mul]
   have h1:=h x (by simp)
   have h2:=sum_le (fun y hy=>h y (List.mem_cons_of_mem _ hy))
   omega
theorem sum_eq {c:Nat}:∀ {l:List Nat},(∀ x ∈ l,x=c)→l.sum=l.length*c
 | [],_=>by simp
 | x :: l,h=>by
   rw [List.sum_cons,List.length_cons,Nat.succ_mul,h x (by simp),sum_eq (fun y hy=>h y (List.mem_cons_of_mem _ hy))]
   omega
theorem sum_pos {l:List Nat} (h:∀ x ∈ l,1≤x) (hl:1≤l.length):1≤l.sum:=by
 cases l with
 | nil=>simp at hl
 | cons x l=>rw [List.sum_cons];have:=h x (by simp);omega
theorem tops_sub {rd:Nat→NodeD→Prop} {ps:List NodeD} {h:Nat} {L:List (Nat × NodeD)} {n:NodeD} {h':Nat} (t:Tops ps h L n h') :
 ∀ (g:Nat) (ts:List (NodeD × List EntD)),h=g+1→ps=ts.map Prod.fst→(∀ x ∈ ts,Sub rd g x.1 x.2)→fullB (capH g) (ts.map fun x=>x.2.length)→(∀ x ∈ L,rd x.1 x.2) →
 ∃ g',h'=g'+1∧Sub rd g' n (ts.flatMap fun x=>x.2)∧1≤(ts.flatMap fun x=>x.2).length∧(ts.flatMap fun x=>x.2).length≤capH g'∧∀ j,g≤j→j<g'→capH j<(ts.flatMap fun x=>x.2).length:=by
 induction t with
 | stop n h =>
   intro g ts hg hp hs hf hL
   obtain ⟨x,rfl⟩:∃ x,ts=[x]:=by
    cases ts with
    | nil=>cases hp
    | cons x ts =>
      cases ts with
      | nil=>exact ⟨x,rfl⟩
      | cons y ts=>simp at hp
   have e1:[x].flatMap (fun x=>x.2)=x.2:=by simp
   rw [e1]
   obtain rfl:n=x.1:=by simpa using hp
   have h1:=hf.2 x.2.length (by simp)
   exact ⟨g,hg,hs x (by simp),h1.1,h1.2,fun j h1 h2=>by omega⟩
 | step ps h qs L n h' h2 hq h5 t ih =>
   intro g ts hg hp hs hf hL
   have hlt:ts.length=ps.length:=by rw [hp,List.length_map]
   obtain ⟨pt,hpt⟩:∃ pt,pt=qs.zip ts:=⟨_,rfl⟩
   have lpt:pt.length=qs.length:=by rw [hpt,List.length_zip];omega
   have m1:pt.map Prod.fst=qs:=by rw [hpt];exact List.map_fst_zip (by omega)
   have m2:pt.map Prod.snd=ts:=by rw [hpt];exact List.map_snd_zip (by omega)
   obtain ⟨F,hF⟩:∃ F:Nat × Nat→NodeD × List EntD,F=fun x=>(⟨false,[],((ps.map leastK).drop x.1).take x.2,((qs.map kidI).drop x.1).take x.2⟩,((pt.drop x.1).take x.2).flatMap fun y=>y.2.2):=⟨_,rfl⟩
   obtain ⟨k,hk⟩:∃ k,k=(qs.length+15) / 16:=⟨_,rfl⟩
   have efl:((chs 16 qs.length k).map F).flatMap (fun x=>x.2)=ts.flatMap fun x=>x.2:=by
    rw [hF,List.flatMap_map]
    have e1:(chs 16 qs.length k).flatMap (fun a=>((pt.drop a.1).take a.2).flatMap fun y=>y.2.2)=(((chs 16 pt.length k).map fun x=>(pt.drop x.1).take x.2).flatten).flatMap fun y=>y.2.2:=by
     rw [lpt,flat_flat,List.flatMap_map]
    show (chs 16 qs.length k).flatMap (fun a=>((pt.drop a.1).take a.2).flatMap fun y=>y.2.2)=_
    rw [e1,chunk_flat 0,List.take_of_length_le (by rw [lpt];omega),← m2,List.flatMap_map]
   have hfp:fullB (capH g) (pt.map fun y=>y.2.2.length):=by
    rw [← m2,List.map_map] at hf
    exact hf
   have hch:∀ i,i<k→(chs 16 qs.length k)[i]?=some (16*i,min 16 (qs.length - 16*i)):=fun i hi=>by
    rw [chs,List.getElem?_map,List.getElem?_range hi]
    rfl
   have hlen:∀ x ∈ chs 16 qs.length k,∃ i,i<k∧x=(16*i,min 16 (qs.length - 16*i)):=fun x hx=>by
    rw [chs] at hx
    obtain ⟨i,hi,rfl⟩:=List.mem_map.1 hx
    exact ⟨i,List.mem_range.1 hi,rfl⟩
   have hsz:∀ i,i<k→1≤(F (16*i,min 16 (qs.length - 16*i))).2.length∧(F (16*i,min 16 (qs.length - 16*i))).2.length≤capH (g+1)∧(i+1<k→(F (16*i,min 16 (qs.length - 16*i))).2.length=capH (g+1)):=fun i hi=>by
    have hfi:=hfp.part (16*i) (min 16 (qs.length - 16*i))
    rw [hF]
    show 1≤(((pt.drop (16*i)).take (min 16 (qs.length - 16*i))).flatMap fun y=>y.2.2).length∧(((pt.drop (16*i)).take (min 16 (qs.length - 16*i))).flatMap fun y=>y.2.2).length≤capH (g+1)∧_
    have e2:(((pt.drop (16*i)).take (min 16 (qs.length - 16*i))).flatMap fun y=>y.2.2).length=(((pt.map fun y=>y.2.2.length).drop (16*i)).take (min 16 (qs.length - 16*i))).sum:=by
     rw [List.length_flatMap,← List.map_drop,← List.map_take]
    have e3:(((pt.map fun y=>y.2.2.length).drop (16*i)).take (min 16 (qs.length - 16*i))).length=min 16 (qs.length - 16*i):=by
     rw [List.length_take,List.length_drop,List.length_map,lpt];omega
    show _∧_∧(i+1<k→(((pt.drop (16*i)).take (min 16 (qs.length - 16*i))).flatMap fun y=>y.2.2).length=capH (g+1))
    rw [e2]
    refine ⟨sum_pos (fun x hx=>(hfi.2 x hx).1) (by rw [e3];omega),Nat.le_trans (sum_le fun x hx=>(hfi.2 x hx).2) (by rw [e3,capH_succ];exact Nat.mul_le_mul_right _ (Nat.min_le_left _ _)),fun hik=>?_⟩
    rw [sum_eq (c:=capH g) ?_,e3,capH_succ]
    ·congr 1
     omega
    ·intro x hx
     obtain ⟨j,hj,rfl⟩:=List.getElem_of_mem hx
     rw [e3] at hj
     rw [List.getElem_take,List.getElem_drop]
     have h9:=hfp.1 (16*i+j) (by rw [List.length_map,lpt];omega)
     rw [List.getElem?_eq_some_iff] at h9
     obtain ⟨_,h9⟩:=h9
     exact h9
   have hx1:∀ x ∈ (chs 16 qs.length k).map F,Sub rd (g+1) x.1 x.2:=by
    intro x hx
    obtain ⟨y,hy,rfl⟩:=List.mem_map.1 hx
    obtain ⟨i,hi,rfl⟩:=hlen y hy
    rw [hF]
    refine ⟨rfl,rfl,(pt.drop (16*i)).take (min 16 (qs.length - 16*i)),?_,fun z hz=>?_,rfl,?_,?_,?_⟩
    ·show ((qs.map kidI).drop (16*i)).take (min 16 (qs.length - 16*i))=_
     rw [← m1,List.map_map,List.map_take,List.map_drop]
     rfl
    ·have hz2:z ∈ pt:=List.mem_of_mem_drop (List.mem_of_mem_take hz)
     rw [hpt] at hz2
     refine ⟨hL (z.1,z.2.1) (List.mem_append_left _ ?_),hs z.2 (List.of_mem_zip hz2).2⟩
     rw [hp,← List.map_id qs,List.zip_map]
     exact List.mem_map.2 ⟨z,hz2,rfl⟩
    ·have h1:=hfp.part (16*i) (min 16 (qs.length - 16*i))
     rw [← List.map_drop,← List.map_take] at h1
     exact h1
    ·rw [List.length_take];omega
    ·rw [List.length_take,List.length_drop,lpt];omega
   have hx2:∀ i,i+1<(((chs 16 qs.length k).map F).map fun x=>x.2.length).length→(((chs 16 qs.length k).map F).map fun x=>x.2.length)[i]?=some (capH (g+1)):=by
    intro i hi
    rw [List.length_map,List.length_map,chs_length] at hi
    rw [List.map_map,List.getElem?_map,hch i (by omega)]
    exact congrArg some ((hsz i (by omega)).2.2 hi)
   have hx3:∀ z ∈ ((chs 16 qs.length k).map F).map (fun x=>x.2.length),1≤z∧z≤capH (g+1):=by
    intro z hz
    rw [List.map_map] at hz
    obtain ⟨y,hy,rfl⟩:=List.mem_map.1 hz
    obtain ⟨i,hi,rfl⟩:=hlen y hy
    exact ⟨(hsz i hi).1,(hsz i hi).2.1⟩
   have hx0:lvl ps qs=((chs 16 qs.length k).map F).map Prod.fst:=by rw [List.map_map,hF,lvl,← hk];rfl
   have hbig:capH g<(ts.flatMap fun x=>x.2).length:=by
    have h3:2≤ts.length:=by omega
    match ts,hf,h3 with
    | x :: y :: r,hf,_ =>
      have a1:=hf.1 0 (by simp)
      have a2:=(hf.2 y.2.length (by simp)).1
      simp only [List.map_cons,List.getElem?_cons_zero,Option.some.injEq] at a1
      rw [List.flatMap_cons,List.flatMap_cons,List.length_append,List.length_append]
      omega
   obtain ⟨g',e',s',l1,l2,l3⟩:=ih (g+1) ((chs 16 qs.length k).map F) (by omega) hx0 hx1 ⟨hx2,hx3⟩ (fun x hx=>hL x (List.mem_append_right _ hx))
   rw [efl] at s' l1 l2 l3
   exact ⟨g',e',s',l1,l2,fun j a1 a2=>by
    by_cases hj:j=g
    ·subst hj;exact hbig
    ·exact l3 j (by omega) a2⟩
end Go.Proofs.YtgkddhncfaeidaaGreat
namespace Go.Proofs.YtgkddhncfaeidaaGreat
open Go.ChangeShapes Go.WideShapes Go.ChangeAt Go.RowKit CrcM PageM
theorem tops_tre {rd:Nat→NodeD→Prop} {ps:List NodeD} {h:Nat} {L:List (Nat × NodeD)} {n:NodeD} {h':Nat} (t:Tops ps h L n h') :
 ∀ (g:Nat) (ts:List (NodeD × List EntD)),h=g+1→ps=ts.map Prod.fst→(∀ x ∈ ts,Tre rd g x.1 x.2∧1≤x.2.length)→(∀ x ∈ L,rd x.1 x.2) →
 ∃ g',h'=g'+1∧Tre rd g' n (ts.flatMap fun x=>x.2)∧1≤(ts.flatMap fun x=>x.2).length:=by
 induction t with
 | stop n h =>
   intro g ts hg hp hs hL
   obtain ⟨x,rfl⟩:∃ x,ts=[x]:=by
    cases ts with
    | nil=>cases hp
    | cons x ts =>
      cases ts with
      | nil=>exact ⟨x,rfl⟩
      | cons y ts=>simp at hp
   have e1:[x].flatMap (fun x=>x.2)=x.2:=by simp
   rw [e1]
   obtain rfl:n=x.1:=by simpa using hp
   exact ⟨g,hg,(hs x (by simp)).1,(hs x (by simp)).2⟩
 | step ps h qs L n h' h2 hq h5 t ih =>
   intro g ts hg hp hs hL
   have hlt:ts.length=ps.length:=by rw [hp,List.length_map]
   obtain ⟨pt,hpt⟩:∃ pt,pt=qs.zip ts:=⟨_,rfl⟩
   have lpt:pt.length=qs.length:=by rw [hpt,List.length_zip];omega
   have m1:pt.map Prod.fst=qs:=by rw [hpt];exact List.map_fst_zip (by omega)
   have m2:pt.map Prod.snd=ts:=by rw [hpt];exact List.map_snd_zip (by omega)
   obtain ⟨F,hF⟩:∃ F:Nat × Nat→NodeD × List EntD,F=fun x=>(⟨false,[],((ps.map leastK).drop x.1).take x.2,((qs.map kidI).drop x.1).take x.2⟩,((pt.drop x.1).take x.2).flatMap fun y=>y.2.2):=⟨_,rfl⟩
   obtain ⟨k,hk⟩:∃ k,k=(qs.length+15) / 16:=⟨_,rfl⟩
   have efl:((chs 16 qs.length k).map F).flatMap (fun x=>x.2)=ts.flatMap fun x=>x.2:=by
    rw [hF,List.flatMap_map]
    have e1:(chs 16 qs.length k).flatMap (fun a=>((pt.drop a.1).take a.2).flatMap fun y=>y.2.2)=(((chs 16 pt.length k).map fun x=>(pt.drop x.1).take x.2).flatten).flatMap fun y=>y.2.2:=by
     rw [lpt,flat_flat,List.flatMap_map]
    show (chs 16 qs.length k).flatMap (fun a=>((pt.drop a.1).take a.2).flatMap fun y=>y.2.2)=_
    rw [e1,chunk_flat 0,List.take_of_length_le (by rw [lpt];omega),← m2,List.flatMap_map]
   have hlen:∀ x ∈ chs 16 qs.length k,∃ i,i<k∧x=(16*i,min 16 (qs.length - 16*i)):=fun x hx=>by
    rw [chs] at hx
    obtain ⟨i,hi,rfl⟩:=List.mem_map.1 hx
    exact ⟨i,List.mem_range.1 hi,rfl⟩
   have hpm:∀ y ∈ pt,rd y.1 y.2.1∧Tre rd g y.2.1 y.2.2∧1≤y.2.2.length:=fun y hy=>by
    have h3:=hs y.2 (by rw [← m2];exact List.mem_map.2 ⟨y,hy,rfl⟩)
    refine ⟨hL (y.1,y.2.1) (List.mem_append_left _ ?_),h3.1,h3.2⟩
    obtain ⟨j,hj⟩:=List.mem_iff_getElem?.1 hy
    have e1:(qs.zip ps)=pt.map (fun y=>(y.1,y.2.1)):=by
     rw [hp,← m2,← m1,List.map_map,List.zip_map']
     rfl
    rw [e1]
    exact List.mem_map.2 ⟨y,hy,rfl⟩
   have hnew:∀ z ∈ (chs 16 qs.length k).map F,Tre rd (g+1) z.1 z.2∧1≤z.2.length:=fun z hz=>by
    obtain ⟨x,hx,rfl⟩:=List.mem_map.1 hz
    obtain ⟨i,hi,rfl⟩:=hlen x hx
    have hlp:1≤((pt.drop (16*i)).take (min 16 (qs.length - 16*i))).length:=by
     rw [List.length_take,List.length_drop,lpt]
     omega
    have hsub:∀ y ∈ (pt.drop (16*i)).take (min 16 (qs.length - 16*i)),y ∈ pt:=fun y hy=>List.mem_of_mem_drop (List.mem_of_mem_take hy)
    rw [hF]
    refine ⟨⟨rfl,rfl,(pt.drop (16*i)).take (min 16 (qs.length - 16*i)),?_,?_,fun y hy=>hpm y (hsub y hy),rfl,hlp⟩,?_⟩
    ·show ((qs.map kidI).drop (16*i)).take _=_
     rw [← m1,List.map_map,← List.map_drop,← List.map_take]
     rfl
    ·show ((ps.map leastK).drop (16*i)).take _=_
     rw [hp,← m2,List.map_map,List.map_map,← List.map_drop,← List.map_take]
     rfl
    ·show 1≤(((pt.drop (16*i)).take (min 16 (qs.length - 16*i))).flatMap fun y=>y.2.2).length
     obtain ⟨y,r,hy⟩:∃ y r,(pt.drop (16*i)).take (min 16 (qs.length - 16*i))=y :: r:=by
      cases hc:(pt.drop (16*i)).take (min 16 (qs.length - 16*i)) with
      | nil=>rw [hc] at hlp;simp at hlp
      | cons y r=>exact ⟨y,r,rfl⟩
     rw [hy,List.flatMap_cons,List.length_append]
     have:=(hpm y (hsub y (by rw [hy];exact List.mem_cons_self ..))).2.2
     omega
   obtain ⟨g',k1,k2,k3⟩:=ih (g+1) ((chs 16 qs.length k).map F) (by omega) (by
    rw [lvl,List.map_map,hk,hF]
    rfl) hnew (fun x hx=>hL x (List.mem_append_right _ hx))
   rw [efl] at k2 k3
   exact ⟨g',k1,k2,k3⟩
end Go.Proofs.YtgkddhncfaeidaaGreat
namespace Go.Proofs.YtgkddhncfaeidaaGreat
open Go.RowKit CrcM PageM
theorem lessB_trans_d0 {a b c:KeyD} (h1:lessB a b=true) (h2:lessB b c=true):lessB a c=true:=by
 unfold lessB at *
 simp only [decide_eq_true_eq] at *
 omega
def IncK (l:List KeyD):Prop:=l.Pairwise fun a b=>lessB a b=true
theorem IncK.ok {l:List KeyD} (h:IncK l) (hk:∀ k ∈ l,okKey k.se) (h1:1≤l.length) (h2:l.length≤16):okKeys l:=by
 refine ⟨h1,h2,fun i hi=>⟨l[i],List.getElem?_eq_getElem hi,hk _ (List.getElem_mem hi),?_⟩⟩
 by_cases h0:i=0
 ·exact .inl h0
 ·refine .inr ⟨l[i - 1]'(by omega),List.getElem?_eq_getElem (by omega),?_⟩
  exact List.pairwise_iff_getElem.1 h (i - 1) i (by omega) hi (by omega)
theorem sub_flat {α β:Type} (f:α→List β) {l l':List α} (h:l.Sublist l'):(l.flatMap f).Sublist (l'.flatMap f):=by
 induction h with
 | slnil=>exact List.Sublist.refl _
 | cons a _ ih=>rw [List.flatMap_cons];exact ih.trans (List.sublist_append_right _ _)
 | cons_cons a _ ih=>rw [List.flatMap_cons,List.flatMap_cons];exact (List.Sublist.refl _).append ih
structure Lev (ts:List (NodeD × List EntD)):Prop where
 one:∀ t ∈ ts,okNode t.1∧inNode t.1∧∃ e r,t.2=e :: r∧leastK t.1=e.key
 inc:IncK ((ts.flatMap fun t=>t.2).map EntD.key)
 ent:∀ e ∈ ts.flatMap (fun t=>t.2),okKey e.se∧inJ e.st
theorem Lev.least {ts:List (NodeD × List EntD)} (h:Lev ts):IncK (ts.map fun t=>leastK t.1)∧∀ k ∈ ts.map (fun t=>leastK t.1),okKey k.se∧inJ k.st:=by
 have hsub:(ts.map fun t=>leastK t.1).Sublist ((ts.flatMap fun t=>t.2).map EntD.key):=by
  have h1:=h.one
  clear h
  induction ts with
  | nil=>exact List.Sublist.refl _
  | cons t ts ih =>
    obtain ⟨_,_,e,r,he,hk⟩:=h1 t (by simp)
    rw [List.map_cons,List.flatMap_cons,he,hk,List.cons_append,List.map_cons]
    refine List.Sublist.cons_cons _ ?_
    rw [List.map_append]
    exact (ih (fun x hx=>h1 x (List.mem_cons_of_mem _ hx))).trans (List.sublist_append_right _ _)
 refine ⟨List.Pairwise.sublist hsub h.inc,fun k hk=>?_⟩
 obtain ⟨e,he,rfl⟩:=List.mem_map.1 (hsub.subset hk)
 exact h.ent e he
theorem Lev.part {ts:List (NodeD × List EntD)} (h:Lev ts) (a b:Nat):Lev ((ts.drop a).take b) where
 one:=fun t ht=>h.one t (List.mem_of_mem_drop (List.mem_of_mem_take ht))
 inc:=by
  have hs:((ts.drop a).take b).Sublist ts:=(List.take_sublist _ _).trans (List.drop_sublist _ _)
  exact List.Pairwise.sublist ((sub_flat _ hs).map _) h.inc
 ent:=fun e he=>by
  obtain ⟨t,ht,hm⟩:=List.mem_flatMap.1 he
  exact h.ent e (List.mem_flatMap.2 ⟨t,List.mem_of_mem_drop (List.mem_of_mem_take ht),hm⟩)
theorem okKids_range (s n:Nat) (h2:2≤s) (hn:s+n≤512):okKids ((List.range' s n).map kidI):=by
 intro i hi
 rw [List.length_map,List.length_range'] at hi
 refine ⟨((s+i:Nat):Int),?_,⟨by omega,by omega⟩,fun hm=>?_⟩
 ·rw [List.getElem?_map,List.getElem?_range' hi]
  simp [kidI]
 ·rw [← List.map_take] at hm
  obtain ⟨q,hq,he⟩:=List.mem_map.1 hm
  obtain ⟨j,hj,rfl⟩:=List.getElem_of_mem hq
  rw [List.length_take,List.length_range'] at hj
  rw [List.getElem_take,List.getElem_range'] at he
  unfold kidI at he
  omega
theorem range_part (s m a b:Nat) (h:a+b≤m):((List.range' s m).drop a).take b=List.range' (s+a) b:=by
 refine List.ext_getElem (by rw [List.length_take,List.length_drop,List.length_range',List.length_range'];omega) fun i h1 h2=>?_
 rw [List.getElem_take,List.getElem_drop,List.getElem_range',List.getElem_range']
 omega
def upF (ts:List (NodeD × List EntD)) (s:Nat) (x:Nat × Nat):NodeD × List EntD:=(⟨false,[],((ts.map fun t=>leastK t.1).drop x.1).take x.2,(((List.range' s ts.length).map kidI).drop x.1).take x.2⟩,((ts.drop x.1).take x.2).flatMap fun t=>t.2)
def upL (ts:List (NodeD × List EntD)) (s:Nat):List (NodeD × List EntD):=(chs 16 ts.length ((ts.length+15) / 16)).map (upF ts s)
theorem upL_length (ts:List (NodeD × List EntD)) (s:Nat):(upL ts s).length=(ts.length+15) / 16:=by rw [upL,List.length_map,chs_length]
theorem upL_fst (ts:List (NodeD × List EntD)) (s:Nat):(upL ts s).map Prod.fst=lvl (ts.map Prod.fst) (List.range' s ts.length):=by
 rw [upL,lvl,List.map_map,List.length_range',List.map_map]
 rfl
theorem upL_flat (ts:List (NodeD × List EntD)) (s:Nat):((upL ts s).flatMap fun t=>t.2)=ts.flatMap fun t=>t.2:=by
 rw [upL,List.flatMap_map]
 have e1:(chs 16 ts.length ((ts.length+15) / 16)).flatMap (fun a=>((ts.drop a.1).take a.2).flatMap fun y=>y.2)=(((chs 16 ts.length ((ts.length+15) / 16)).map fun x=>(ts.drop x.1).take x.2).flatten).flatMap fun y=>y.2:=by
  rw [flat_flat,List.flatMap_map]
 show (chs 16 ts.length ((ts.length+15) / 16)).flatMap (fun a=>((ts.drop a.1).take a.2).flatMap fun y=>y.2)=_
 rw [e1,chunk_flat 0,List.take_of_length_le (by omega)]
theorem Lev.up {ts:List (NodeD × List EntD)} (h:Lev ts) (s:Nat) (h2:2≤s) (hs:s+ts.length≤512):Lev (upL ts s) where
 one:=fun t ht=>by
  rw [upL,chs,List.map_map] at ht
  obtain ⟨i,hi,rfl⟩:=List.mem_map.1 ht
  rw [List.mem_range] at hi
  obtain ⟨b,hb⟩:∃ b,b=min 16 (ts.length - 16*i):=⟨_,rfl⟩
  show okNode (upF ts s (16*i,min 16 (ts.length - 16*i))).1∧inNode (upF ts s (16*i,min 16 (ts.length - 16*i))).1∧∃ e r,(upF ts s (16*i,min 16 (ts.length - 16*i))).2=e :: r∧leastK (upF ts s (16*i,min 16 (ts.length - 16*i))).1=e.key
  rw [← hb]
  have hp:=h.part (16*i) b
  have hl:=hp.least
  have lp:((ts.drop (16*i)).take b).length=b:=by rw [List.length_take,List.length_drop];omega
  have ek:((ts.map fun t=>leastK t.1).drop (16*i)).take b=((ts.drop (16*i)).take b).map fun t=>leastK t.1:=by rw [List.map_take,List.map_drop]
  have ed:(((List.range' s ts.length).map kidI).drop (16*i)).take b=(List.range' (s+16*i) b).map kidI:=by rw [← List.map_drop,← List.map_take,range_part _ _ _ _ (by omega)]
  unfold upF
  dsimp only
  rw [ek,ed]
  refine ⟨⟨rfl,by rw [List.length_map,List.length_map,lp,List.length_range'],hl.1.ok (fun k hk=>(hl.2 k hk).1) (by rw [List.length_map,lp];omega) (by rw [List.length_map,lp];omega),okKids_range _ _ (by omega) (by omega)⟩,⟨fun e he=>(by cases he),fun k hk=>(hl.2 k hk).2⟩,?_⟩
  cases hc:(ts.drop (16*i)).take b with
  | nil=>rw [hc] at lp;simp at lp;omega
  | cons t r =>
    obtain ⟨_,_,e,r2,he,hk⟩:=hp.one t (by rw [hc];simp)
    refine ⟨e,r2 ++ r.flatMap (fun t=>t.2),by rw [List.flatMap_cons,he,List.cons_append],?_⟩
    rw [List.map_cons]
    exact hk
 inc:=by rw [upL_flat];exact h.inc
 ent:=fun e he=>by rw [upL_flat] at he;exact h.ent e he
theorem tops_ex:∀ (d:Nat) (ts:List (NodeD × List EntD)) (h s:Nat),Lev ts→1≤ts.length→ts.length≤16 ^ d→h+d≤5→2≤s→s+2*ts.length≤513→(ts.length=1→∀ t ∈ ts,t.1.leaf=false→2≤t.1.ds.length) →
 ∃ (L:List (Nat × NodeD)) (n:NodeD) (h':Nat),Tops (ts.map Prod.fst) h L n h'∧h'≤5∧L.map Prod.fst=List.range' s L.length∧L.length+2≤2*ts.length∧(∀ x ∈ L,okNode x.2∧inNode x.2)∧okNode n∧inNode n∧(n.leaf=false→2≤n.ds.length):=by
 intro d
 induction d with
 | zero =>
   intro ts h s hv h1 hd h5 h2 hs hr
   obtain ⟨t,rfl⟩:∃ t,ts=[t]:=List.length_eq_one_iff.1 (by simp at hd;omega)
   obtain ⟨o1,o2,_⟩:=hv.one t (by simp)
   exact ⟨[],t.1,h,Tops.stop _ _,by omega,rfl,by simp,fun x hx=>(by cases hx),o1,o2,hr rfl t (by simp)⟩
 | succ d ih =>
   intro ts h s hv h1 hd h5 h2 hs hr
   by_cases h1m:ts.length=1
   ·obtain ⟨t,rfl⟩:∃ t,ts=[t]:=List.length_eq_one_iff.1 h1m
    obtain ⟨o1,o2,_⟩:=hv.one t (by simp)
    exact ⟨[],t.1,h,Tops.stop _ _,by omega,rfl,by simp,fun x hx=>(by cases hx),o1,o2,hr rfl t (by simp)⟩
   ·have hu:=hv.up s h2 (by omega)
    rw [Nat.pow_succ] at hd
    obtain ⟨L,n,h',t,b5,bl,bn,bo,o1,o2,o3⟩:=ih (upL ts s) (h+1) (s+ts.length) hu (by rw [upL_length];omega) (by rw [upL_length];omega) (by omega) (by omega) (by rw [upL_length];omega) (by
     rw [upL_length]
     intro e1 t ht _
     rw [upL,e1] at ht
     simp only [chs,List.range_one,List.map_cons,List.map_nil,List.mem_singleton] at ht
     subst ht
     unfold upF
     dsimp only
     rw [List.length_take,List.length_drop,List.length_map,List.length_range']
     omega)
    rw [upL_length] at bn
    rw [upL_fst] at t
    have hz:((List.range' s ts.length).zip (ts.map Prod.fst)).map Prod.fst=List.range' s ts.length:=List.map_fst_zip (by rw [List.length_map,List.length_range'];exact Nat.le_refl _)
    have lz:((List.range' s ts.length).zip (ts.map Prod.fst)).length=ts.length:=by rw [List.length_zip,List.length_map,List.length_range'];omega
    refine ⟨(List.range' s ts.length).zip (ts.map Prod.fst) ++ L,n,h',Tops.step _ _ _ _ _ _ (by rw [List.length_map];omega) (by rw [List.length_map,List.length_range']) (by omega) t,b5,?_,?_,fun x hx=>?_,o1,o2,o3⟩
    ·rw [List.map_append,hz,bl,List.length_append,lz,← List.range'_append_1]
    ·rw [List.length_append,lz]
     omega
    ·rcases List.mem_append.1 hx with hx | hx
     ·obtain ⟨t0,ht0,he⟩:=List.mem_map.1 (List.of_mem_zip hx).2
      obtain ⟨a1,a2,_⟩:=hv.one t0 ht0
      rw [← he]
      exact ⟨a1,a2⟩
     ·exact bo x hx
theorem chunk_flatC {α:Type} (c:Nat) (l:List α):∀ k,((chs c l.length k).map fun x=>(l.drop x.1).take x.2).flatten=l.take (c*k)
 | 0=>by simp [chs]
 | k+1=>by
   rw [chs_succ,List.map_append,List.flatten_append,chunk_flatC c l k,Nat.mul_succ,List.take_add]
   congr 1
   simp only [List.map_cons,List.map_nil,List.flatten_cons,List.flatten_nil,List.append_nil]
   rcases Nat.le_total c (l.length - c*k) with h | h
   ·rw [Nat.min_eq_left h]
   ·rw [Nat.min_eq_right h,List.take_of_length_le (by rw [List.length_drop];exact Nat.le_refl _),List.take_of_length_le (by rw [List.length_drop];exact h)]
def baseL (es:List EntD):List (NodeD × List EntD):=(chs 7 es.length ((es.length+6) / 7)).map fun x=>(⟨true,(es.drop x.1).take x.2,[],[]⟩,(es.drop x.1).take x.2)
theorem baseL_fst (es:List EntD):(baseL es).map Prod.fst=lvlE es:=by rw [baseL,lvlE,List.map_map];rfl
theorem baseL_length (es:List EntD):(baseL es).length=(es.length+6) / 7:=by rw [baseL,List.length_map,chs_length]
theorem baseL_flat (es:List EntD):((baseL es).flatMap fun t=>t.2)=es:=by
 rw [baseL,List.flatMap_map]
 have e1:(chs 7 es.length ((es.length+6) / 7)).flatMap (fun a=>(es.drop a.1).take a.2)=((chs 7 es.length ((es.length+6) / 7)).map fun x=>(es.drop x.1).take x.2).flatten:=by rw [List.flatMap_def]
 show (chs 7 es.length ((es.length+6) / 7)).flatMap (fun a=>(es.drop a.1).take a.2)=es
 rw [e1,chunk_flatC 7,List.take_of_length_le (by omega)]
theorem inc_of {l:List KeyD} (h:∀ i p e,l[i]?=some p→l[i+1]?=some e→lessB p e=true):IncK l:=by
 refine List.pairwise_iff_getElem.2 fun i j hi hj hij=>?_
 obtain ⟨d,rfl⟩:∃ d,j=i+1+d:=⟨j - (i+1),by omega⟩
 clear hij
 induction d with
 | zero=>exact h i _ _ (List.getElem?_eq_getElem hi) (List.getElem?_eq_getElem hj)
 | succ d ih=>exact lessB_trans_d0 (ih (by omega)) (h (i+1+d) _ _ (List.getElem?_eq_getElem (by omega)) (List.getElem?_eq_getElem hj))
theorem apart_less {p e:EntD} (h:apartB p e=true):lessB p.key e.key=true:=by
 unfold apartB at h
 simp only [Bool.and_eq_true] at h
 exact h.1
theorem RisingD.inc {es:List EntD} (h:RisingD es):IncK (es.map EntD.key):=inc_of fun i p e hp he=>by
 rw [List.getElem?_map,Option.map_eq_some_iff] at hp he
 obtain ⟨p',hp,rfl⟩:=hp
 obtain ⟨e',he,rfl⟩:=he
 exact apart_less (h.up i p' e' hp he)
theorem baseL_lev {es:List EntD} (h:RisingD es) (hi:∀ e ∈ es,inEnt e):Lev (baseL es) where
 one:=fun t ht=>by
  rw [baseL,chs,List.map_map] at ht
  obtain ⟨i,hlt,rfl⟩:=List.mem_map.1 ht
  rw [List.mem_range] at hlt
  obtain ⟨b,hb⟩:∃ b,b=min 7 (es.length - 7*i):=⟨_,rfl⟩
  obtain ⟨l,hl⟩:∃ l,l=(es.drop (7*i)).take b:=⟨_,rfl⟩
  have ll:l.length=b:=by rw [hl,List.length_take,List.length_drop];omega
  have gl:∀ j,j<b→l[j]?=es[7*i+j]?:=fun j hj=>by rw [hl,List.getElem?_take,if_pos hj,List.getElem?_drop]
  show okNode ⟨true,(es.drop (7*i)).take (min 7 (es.length - 7*i)),[],[]⟩∧inNode ⟨true,(es.drop (7*i)).take (min 7 (es.length - 7*i)),[],[]⟩∧∃ e r,(es.drop (7*i)).take (min 7 (es.length - 7*i))=e :: r∧leastK ⟨true,(es.drop (7*i)).take (min 7 (es.length - 7*i)),[],[]⟩=e.key
  rw [← hb,← hl]
  refine ⟨⟨rfl,rfl,by rw [ll];omega,by rw [ll];omega,fun j hj=>?_⟩,⟨fun e he=>?_,fun k hk=>(by cases hk)⟩,?_⟩
  ·rw [ll] at hj
   have hm:l[j]'(by omega) ∈ es:=by
    refine List.mem_of_mem_drop (i:=7*i) (List.mem_of_mem_take (i:=b) ?_)
    rw [← hl]
    exact List.getElem_mem _
   refine ⟨l[j]'(by omega),List.getElem?_eq_getElem _,h.ok _ hm,?_⟩
   by_cases h0:j=0
   ·exact .inl h0
   ·refine .inr ⟨l[j - 1]'(by omega),List.getElem?_eq_getElem _,h.up (7*i+(j - 1)) _ _ ?_ ?_⟩
    ·rw [← gl (j - 1) (by omega)];exact List.getElem?_eq_getElem _
    ·rw [show 7*i+(j - 1)+1=7*i+j by omega,← gl j hj];exact List.getElem?_eq_getElem _
  ·rw [hl] at he
   exact hi e (List.mem_of_mem_drop (List.mem_of_mem_take he))
  ·cases hc:l with
   | nil=>rw [hc] at ll;simp at ll;omega
   | cons e r=>exact ⟨e,r,rfl,rfl⟩
 inc:=by rw [baseL_flat];exact h.inc
 ent:=fun e he=>by rw [baseL_flat] at he;exact ⟨(h.ok e he).1,(hi e he).1⟩
theorem baseL_full (es:List EntD):fullB (capH 0) ((baseL es).map fun t=>t.2.length):=by
 have e1:(baseL es).map (fun t=>t.2.length)=(List.range ((es.length+6) / 7)).map fun i=>min 7 (es.length - 7*i):=by
  rw [baseL,chs,List.map_map,List.map_map]
  refine List.map_congr_left fun i hi=>?_
  show ((es.drop (7*i)).take (min 7 (es.length - 7*i))).length=_
  rw [List.length_take,List.length_drop]
  omega
 rw [e1]
 refine ⟨fun i hi=>?_,fun x hx=>?_⟩
 ·rw [List.length_map,List.length_range] at hi
  rw [List.getElem?_map,List.getElem?_range (by omega)]
  show some (min 7 (es.length - 7*i))=some (7*16 ^ 0)
  congr 1
  omega
 ·obtain ⟨i,hi,rfl⟩:=List.mem_map.1 hx
  rw [List.mem_range] at hi
  show 1≤min 7 (es.length - 7*i)∧min 7 (es.length - 7*i)≤7*16 ^ 0
  omega
theorem load_plan (es:List EntD) (h1:1≤es.length) (hn:es.length≤1700) (hr:RisingD es) (hi:∀ e ∈ es,inEnt e) :
 ∃ (Lr:List (Nat × NodeD)) (nr:NodeD) (g:Nat),Tops (lvlE es) 1 Lr nr (g+1)∧g+1≤5∧(nr.leaf=false→2≤nr.ds.length)∧Lr.map Prod.fst ++ [2+Lr.length]=List.range' 2 (Lr.length+1)∧Lr.length+2≤2*((es.length+6) / 7)∧(∀ x ∈ Lr ++ [(2+Lr.length,nr)],okNode x.2∧inNode x.2) ∧
   es.length≤capH g∧(∀ j,j<g→capH j<es.length)∧∀ rd:Nat→NodeD→Prop,(∀ x ∈ Lr,rd x.1 x.2)→Sub rd g nr es:=by
 obtain ⟨L,n,h',t,b5,bl,bn,bo,o1,o2,o3⟩:=tops_ex 4 (baseL es) 1 2 (baseL_lev hr hi) (by rw [baseL_length];omega) (by rw [baseL_length];omega) (by omega) (by omega) (by rw [baseL_length];omega) (by
  intro _ t ht hl
  rw [baseL] at ht
  obtain ⟨x,_,rfl⟩:=List.mem_map.1 ht
  cases hl)
 rw [baseL_length] at bn
 rw [baseL_fst] at t
 have hsub:∀ rd:Nat→NodeD→Prop,(∀ x ∈ L,rd x.1 x.2)→∃ g',h'=g'+1∧Sub rd g' n es∧es.length≤capH g'∧∀ j,j<g'→capH j<es.length:=fun rd hL=>by
  obtain ⟨g',e',s',l1,l2,l3⟩:=tops_sub t 0 (baseL es) rfl (baseL_fst es).symm (fun x hx=>by
   rw [baseL] at hx
   obtain ⟨y,_,rfl⟩:=List.mem_map.1 hx
   exact ⟨rfl,rfl,rfl⟩) (baseL_full es) hL
  rw [baseL_flat] at s' l2 l3
  exact ⟨g',e',s',l2,fun j hj=>l3 j (Nat.zero_le _) hj⟩
 obtain ⟨g,rfl,_,hc,hmn⟩:=hsub (fun _ _=>True) (fun _ _=>trivial)
 refine ⟨L,n,g,t,b5,o3,?_,bn,fun x hx=>?_,hc,hmn,fun rd hL=>?_⟩
 ·rw [bl,← List.range'_append_1 (s:=2) (m:=L.length) (n:=1)]
  rfl
 ·rcases List.mem_append.1 hx with hx | hx
  ·exact bo x hx
  ·obtain rfl:x=(2+L.length,n):=by simpa using hx
   exact ⟨o1,o2⟩
 ·obtain ⟨g',e',s',_⟩:=hsub rd hL
  obtain rfl:g=g':=by omega
  exact s'
end Go.Proofs.YtgkddhncfaeidaaGreat
