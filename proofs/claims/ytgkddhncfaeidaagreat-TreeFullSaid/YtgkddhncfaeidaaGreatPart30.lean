/- Squeezed: the texts as they are written lie in wip/tpl. -/
import Derived.Test.YtgkddhncfaeidaaGreatTjWi
import Derived.Test.YtgkddhncfaeidaaGreatPart24
import Derived.Test.YtgkddhncfaeidaaGreatPart27
import Derived.Test.YtgkddhncfaeidaaGreatPart28
set_option maxRecDepth 100000
set_option maxHeartbeats 8000000
set_option linter.unusedSimpArgs false
set_option linter.unusedVariables false
namespace Go.Proofs.YtgkddhncfaeidaaGreat
open Go.ChangeShapes Go.WideShapes Go.ChangeAt Go.RowKit CrcM PageM
theorem esOf_split {parts:List PartD} {r:Nat} {x:PartD} (hx:parts[r]?=some x):esOf parts=esAll parts r x.2.2:=by
 unfold esAll
 have h1:parts=parts.take r ++ (x :: parts.drop (r+1)):=by
  have h2:=List.drop_eq_getElem_cons (List.getElem?_eq_some_iff.1 hx).1
  rw [(List.getElem?_eq_some_iff.1 hx).2] at h2
  rw [← h2,List.take_append_drop]
 conv=>lhs;rw [h1]
 rw [esOf_append]
 show _ ++ esOf (x :: _)=_
 have h3:esOf (x :: parts.drop (r+1))=x.2.2 ++ esOf (parts.drop (r+1)):=rfl
 rw [h3,← List.append_assoc]
def Rep (El El' A A':List EntD):Prop:=∃ X Z,A=X ++ El ++ Z∧A'=X ++ El' ++ Z
theorem Rep.refl (El El':List EntD):Rep El El' El El':=⟨[],[],by simp,by simp⟩
theorem Rep.all {El El' A A':List EntD} (h:Rep El El' A A') (parts:List PartD) (r:Nat):Rep El El' (esAll parts r A) (esAll parts r A'):=by
 obtain ⟨X,Z,h1,h2⟩:=h
 refine ⟨esOf (parts.take r) ++ X,Z ++ esOf (parts.drop (r+1)),?_,?_⟩
 ·unfold esAll;rw [h1];simp [List.append_assoc]
 ·unfold esAll;rw [h2];simp [List.append_assoc]
structure LinkD (rd:Nat→NodeD→Prop) (j:Nat) (s:StepD) (E E1:List EntD) (parts:List PartD):Prop where
 leaf:s.n.leaf=false
 es:s.n.es=[]
 ds:s.n.ds=parts.map (fun x=>kidI x.1)
 ks:s.n.ks=parts.map (fun x=>leastK x.2.1)
 all:∀ x ∈ parts,rd x.1 x.2.1∧Tre rd j x.2.1 x.2.2∧1≤x.2.2.length
 at_:∃ x,parts[s.at_]?=some x∧x.2.2=E
 sum:esOf parts=E1
 rd_:rd s.a s.n
theorem Down.chain {rd:Nat→NodeD→Prop} {k:KeyD}:∀ {h a:Nat} {n:NodeD} {es:List EntD} {ss:List StepD},rd a n→Tre rd h n es→Down rd k h a n es ss →
 ∃ E:Nat→List EntD,E h=es∧(∃ sl,ss[h]?=some sl∧sl.n.leaf=true∧sl.n.es=E 0∧sl.n.ks=[]∧sl.n.ds=[]∧rd sl.a sl.n∧PlaceOf sl.n k sl.at_)∧∀ j,j<h→∃ s parts,ss[h - 1 - j]?=some s∧LinkD rd j s (E j) (E (j+1)) parts
 | 0,a,n,es,ss,hr,⟨h1,h2,h3,h4⟩,⟨r,hp,e⟩=>⟨fun _=>es,rfl,⟨⟨a,n,r⟩,by rw [e];rfl,h1,h2,h3,h4,hr,hp⟩,fun j hj=>by omega⟩
 | h+1,a,n,es,ss,hr,⟨h1,h2,_⟩,⟨r,parts,x,ss',hp,e1,e2,e3,e4,hx,hd,e⟩=>by
   have hxm:=List.mem_of_getElem? hx
   have h3:=e3 x hxm
   obtain ⟨E,k1,⟨sl,k2,k3⟩,k4⟩:=Down.chain h3.1 h3.2.1 hd
   refine ⟨fun j=>if j≤h then E j else es,by dsimp only;rw [if_neg (by omega)],⟨sl,by rw [e];exact k2,?_⟩,fun j hj=>?_⟩
   ·dsimp only
    rw [if_pos (Nat.zero_le _)]
    exact k3
   ·by_cases hjh:j=h
    ·subst hjh
     refine ⟨⟨a,n,r⟩,parts,?_,?_⟩
     ·rw [e,show j+1 - 1 - j=0 by omega]
      rfl
     ·dsimp only
      rw [if_pos (Nat.le_refl _),if_neg (by omega)]
      exact ⟨h1,h2,e1,e2,e3,⟨x,hx,k1.symm⟩,e4.symm,hr⟩
    ·obtain ⟨s,ps,q1,q2⟩:=k4 j (by omega)
     refine ⟨s,ps,?_,?_⟩
     ·rw [e,show h+1 - 1 - j=(h - 1 - j)+1 by omega,List.getElem?_cons_succ]
      exact q1
     ·dsimp only
      rw [if_pos (by omega),if_pos (by omega)]
      exact q2
def Apt (es:List EntD):Prop:=es.Pairwise (fun a b=>apartB a b=true)
def GoodE (es:List EntD):Prop:=Apt es∧∀ e ∈ es,okEnt e∧inEnt e
theorem GoodE.sub {a b:List EntD} (h:GoodE b) (hs:a.Sublist b):GoodE a:=⟨List.Pairwise.sublist hs h.1,fun e he=>h.2 e (hs.subset he)⟩
theorem apt_less {a b:EntD} (h:apartB a b=true):lessB a.key b.key=true:=by
 unfold apartB at h
 exact (Bool.and_eq_true_iff.1 h).1
theorem apt_parts {parts:List PartD} (h:Apt (esOf parts)):∀ (i j:Nat) (x y:PartD),i<j→parts[i]?=some x→parts[j]?=some y→∀ e ∈ x.2.2,∀ f ∈ y.2.2,lessB e.key f.key=true :=
 fun i j x y hij hx hy e he f hf=>(Up.part (parts:=parts) (List.Pairwise.imp apt_less h)).2 i j x y hij hx hy e he f hf
theorem parts_sub {parts:List PartD} {x:PartD} (hx:x ∈ parts):x.2.2.Sublist (esOf parts):=by
 have h1:(esOf parts)=(parts.map Prod.snd).flatMap Prod.snd:=by unfold esOf;rw [List.flatMap_map]
 rw [h1]
 exact sub_flatE (x:=x.2) (List.mem_map_of_mem hx)
theorem ok_tre {rn:Nat→NodeD→Prop} (hfun:∀ a m m',rn a m→rn a m'→m=m') (hpg:∀ a m,rn a m→2≤a∧a<512):∀ {h:Nat} {n:NodeD} {es:List EntD},Tre rn h n es→GoodE es→1≤n.size→n.size≤capN n.leaf→okNode n∧inNode n
 | 0,n,es,⟨h1,h2,h3,h4⟩,hg,hs1,hs2=>by
   unfold NodeD.size at hs1 hs2
   unfold capN at hs2
   rw [if_pos h1] at hs1 hs2
   rw [if_pos h1] at hs2
   subst h2
   refine ⟨?_,by unfold inNode;exact ⟨fun e he=>(hg.2 e he).2,fun k hk=>by rw [h3] at hk;cases hk⟩⟩
   unfold okNode
   rw [if_pos h1]
   refine ⟨h3,h4,hs1,hs2,fun i hi=>?_⟩
   refine ⟨n.es[i],List.getElem?_eq_getElem hi,(hg.2 _ (List.getElem_mem hi)).1,?_⟩
   by_cases h0:i=0
   ·exact .inl h0
   ·exact .inr ⟨n.es[i - 1]'(by omega),List.getElem?_eq_getElem (by omega),List.pairwise_iff_getElem.1 hg.1 (i - 1) i (by omega) hi (by omega)⟩
 | h+1,n,es,⟨h1,h2,parts,e1,e2,e3,e4,e5⟩,hg,hs1,hs2=>by
   unfold NodeD.size at hs1 hs2
   unfold capN at hs2
   rw [if_neg (by simp [h1])] at hs1 hs2
   rw [if_neg (by simp [h1])] at hs2
   have hlp:n.ds.length=parts.length:=by rw [e1,List.length_map]
   have hlk:n.ks.length=parts.length:=by rw [e2,List.length_map]
   rw [hlp] at hs1 hs2
   have e4':es=esOf parts:=e4
   have hfirst:∀ (i:Nat) (x:PartD),parts[i]?=some x→∃ e,e ∈ x.2.2∧e ∈ es∧leastK x.2.1=e.key:=fun i x hx=>by
    have hm:=List.mem_of_getElem? hx
    obtain ⟨e,h3,h4⟩:=(e3 x hm).2.1.least (e3 x hm).2.2
    exact ⟨e,List.mem_of_getElem? h3,by rw [e4'];exact (parts_sub hm).subset (List.mem_of_getElem? h3),h4⟩
   have hless:∀ (i j:Nat) (x y:PartD),i<j→parts[i]?=some x→parts[j]?=some y→lessB (leastK x.2.1) (leastK y.2.1)=true:=fun i j x y hij hx hy=>by
    obtain ⟨e,q1,_,q3⟩:=hfirst i x hx
    obtain ⟨f,r1,_,r3⟩:=hfirst j y hy
    rw [q3,r3]
    exact apt_parts (by rw [← e4'];exact hg.1) i j x y hij hx hy e q1 f r1
   refine ⟨?_,?_⟩
   rotate_left
   ·unfold inNode
    refine ⟨fun e he=>(by rw [h2] at he;cases he),fun k hk=>?_⟩
    rw [e2] at hk
    obtain ⟨x,hx,rfl⟩:=List.mem_map.1 hk
    obtain ⟨i,hi⟩:=List.mem_iff_getElem?.1 hx
    obtain ⟨e,q1,q2,q3⟩:=hfirst i x hi
    rw [q3]
    exact (hg.2 e q2).2.1
   ·unfold okNode
    rw [if_neg (by simp [h1])]
    refine ⟨h2,by rw [hlp,hlk],⟨by rw [hlk];exact hs1,by rw [hlk];exact hs2,fun i hi=>?_⟩,fun i hi=>?_⟩
    ·rw [hlk] at hi
     have hx:=List.getElem?_eq_getElem hi
     obtain ⟨e,q1,q2,q3⟩:=hfirst i _ hx
     refine ⟨leastK parts[i].2.1,by rw [e2,List.getElem?_map,hx];rfl,?_,?_⟩
     ·rw [q3]
      exact (hg.2 e q2).1.1
     ·by_cases h0:i=0
      ·exact .inl h0
      ·have hy:=List.getElem?_eq_getElem (show i - 1<parts.length by omega)
       exact .inr ⟨leastK (parts[i - 1]'(by omega)).2.1,by rw [e2,List.getElem?_map,hy];rfl,hless (i - 1) i _ _ (by omega) hy hx⟩
    ·rw [hlp] at hi
     have hx:=List.getElem?_eq_getElem hi
     have hpx:=hpg _ _ (e3 _ (List.mem_of_getElem? hx)).1
     refine ⟨kidI parts[i].1,by rw [e1,List.getElem?_map,hx];rfl,by unfold kidI okAddr;omega,fun hm=>?_⟩
     obtain ⟨j,hj⟩:=List.mem_iff_getElem?.1 hm
     have hji:j<i:=by
      have:=(List.getElem?_eq_some_iff.1 hj).1
      rw [List.length_take] at this
      omega
     rw [List.getElem?_take_of_lt hji,e1,List.getElem?_map] at hj
     obtain ⟨y,hy,hyx⟩:=Option.map_eq_some_iff.1 hj
     have hpe:y.1=parts[i].1:=by
      unfold kidI at hyx
      exact Int.ofNat.inj hyx
     have hn:=hfun y.1 y.2.1 parts[i].2.1 (e3 y (List.mem_of_getElem? hy)).1 (by rw [hpe];exact (e3 _ (List.mem_of_getElem? hx)).1)
     have hl:=hless j i y _ hji hy hx
     rw [hn,lessB_irrefl] at hl
     cases hl
def rdL (rd:Nat→NodeD→Prop) (L:List (Nat × (NodeD × NdL))) (a:Nat) (n:NodeD):Prop:=rd a n∨∃ l,(a,(n,l)) ∈ L
theorem rdL_more {rd:Nat→NodeD→Prop} {L Lx:List (Nat × (NodeD × NdL))} {a:Nat} {n:NodeD} (h:rdL rd L a n∨∃ l,(a,(n,l)) ∈ Lx):rdL rd (L ++ Lx) a n:=by
 rcases h with (h | ⟨l,h⟩) | ⟨l,h⟩
 ·exact .inl h
 ·exact .inr ⟨l,List.mem_append_left _ h⟩
 ·exact .inr ⟨l,List.mem_append_right _ h⟩
theorem rdL_fun {rd:Nat→NodeD→Prop} {L:List (Nat × (NodeD × NdL))} {V:List Bool} (hfun:∀ a m m',rd a m→rd a m'→m=m') (hV:∀ a m,rd a m→V.getD a false=true) (hL:(L.map Prod.fst).Nodup) (hLV:∀ a ∈ L.map Prod.fst,V.getD a false=false):∀ a m m',rdL rd L a m→rdL rd L a m'→m=m':=fun a m m' h h'=>by
 rcases h with h | ⟨l,h⟩ <;> rcases h' with h' | ⟨l',h'⟩
 ·exact hfun a m m' h h'
 ·have h1:=hV a m h
  rw [hLV a (List.mem_map_of_mem h')] at h1
  cases h1
 ·have h1:=hV a m' h'
  rw [hLV a (List.mem_map_of_mem h)] at h1
  cases h1
 ·have h1:(a,(m,l))=(a,(m',l')):=by
   clear hLV
   induction L with
   | nil=>cases h
   | cons y L ih =>
     rw [List.map_cons,List.nodup_cons] at hL
     rcases List.mem_cons.1 h with h | h <;> rcases List.mem_cons.1 h' with h' | h'
     ·rw [h,h']
     ·exact absurd (List.mem_map_of_mem h') (by rw [← h] at hL;exact hL.1)
     ·exact absurd (List.mem_map_of_mem h) (by rw [← h'] at hL;exact hL.1)
     ·exact ih hL.2 h h'
  cases h1
  rfl
def TreeOf (rd:Nat→NodeD→Prop) (a hh:Nat) (es:List EntD):Prop:=(es=[]∧hh=0)∨∃ h n,hh=h+1∧h≤4∧Tre rd h n es∧rd a n∧1≤es.length
end Go.Proofs.YtgkddhncfaeidaaGreat
namespace Go.Proofs.YtgkddhncfaeidaaGreat
open Go.RowKit Go.ChangeShapes Go.WideShapes Go.ChangeAt CrcM PageM
theorem unlay1 (x:Nat × (NodeD × NdL)) (a bq:Nat) (w:World) (hb:w.heap[bq]?=some (.cells #[.int .i64 (a:Int)] 3 (0,0))) :
 Calls Tryz.prog 79 #[.agg (ldC x).toArray,.pointer (some ⟨bq,0,none⟩)] w fun e w'=>e=.returned (.bool (decide (x.1=a)))∧Below w.heap.size w w':=by
 obtain ⟨p,n,l⟩:=x
 dsimp only [ldC,ndP]
 obtain ⟨w1,hw1⟩:∃ w1,w1=w.alloc (.cells #[.int .i64 (p:Int),.bool n.leaf,.slice l.EA n.es.length l.ec,.slice l.KA n.ks.length l.kc,.slice l.DA n.ds.length l.dc] 151):=⟨_,rfl⟩
 have G1:=heap_alloc_new w (.cells #[.int .i64 (p:Int),.bool n.leaf,.slice l.EA n.es.length l.ec,.slice l.KA n.ks.length l.kc,.slice l.DA n.ds.length l.dc] 151)
 rw [← hw1] at G1
 have B1:=Lib.hid (alloc_bel hw1)
 have z0:=nd_cell G1 0 (.int .i64 (p:Int)) rfl
 have z1:=nd_cell (row_stays hb B1.out) 0 (.int .i64 (a:Int)) rfl
 have HW1:=Lib.hid hw1
 clear hw1 G1 hb
 go_enter Tryz.func79,Tryz.ntmps79
 go_upto_region 1 with fail
 rw [← HW1.out]
 clear HW1
 go_wp2_with fail
 go_ret
 refine ⟨?_,B1.out⟩
 congr 2
 by_cases h:p=a
 ·subst h
  simp
 ·rw [decide_eq_false h]
  simp
  omega
theorem index_laid (L:List (Nat × (NodeD × NdL))) (base n c:Nat) (A:Option Addr) (a bq:Nat) (w:World) (hn:n=L.length) (hm:n≤100000) (hr:w.ownsRow base 151 5 (.slice A n c) n (L.flatMap ldC)) (hb:w.heap[bq]?=some (.cells #[.int .i64 (a:Int)] 3 (0,0))) :
 Calls Tryz.prog 78 #[.slice A n c,.func (.func 79) #[] #[.pointer (some ⟨bq,0,none⟩)]] w fun e w'=>((∃ (i:Nat) (x:Nat × (NodeD × NdL)),e=.returned (.int .i64 (i:Int))∧L[i]?=some x∧x.1=a)∨(e=.returned (.int .i64 (-1))∧a ∉ L.map Prod.fst))∧Below w.heap.size w w':=by
 have HN:=Lib.hid hn
 have HR:=Lib.hid hr
 have HB:=Lib.hid hb
 clear hn hr hb
 go_enter Tryz.func78,Tryz.ntmps78
 go_upto_region 2 with fail
 go_loopw [8] (fun iv wr=>∃ k:Nat,k≤n∧iv=.int .i64 (k:Int)∧Hid (Below w.heap.size w wr∧∀ j,j<k→∀ x,L[j]?=some x→x.1≠a)) (fun iv _=>n - (intOf iv).toNat)
 case atStart=>exact ⟨0,Nat.zero_le _,rfl,Lib.hid ⟨Below.refl _ _,fun j hj=>by omega⟩⟩
 case round =>
  obtain ⟨k,hk,rfl,HK⟩:=hrel
  have hkw:wrap64 ((k:Int)+1)=(k:Int)+1:=by unfold wrap64;omega
  by_cases hlt:k<n
  ·obtain ⟨x,hx⟩:∃ x,L[k]?=some x:=⟨_,List.getElem?_eq_getElem (by have:=HN.out;omega)⟩
   have HX:=Lib.hid hx
   have hkm:decide ((k:Int)<(n:Int))=true:=by simp;omega
   obtain ⟨g,cur,hA,hg,hcells⟩:∃ (g:Nat) (cur:Array Value),A=some ⟨g,0,none⟩∧w.heap[g]?=some (.cells cur 151 (0,0))∧∀ (j:Nat) (u:Value),(L.flatMap ldC)[j]?=some u→cur[j]?=some u:=by
    rcases HR.out.2 with ⟨_,h0⟩ | ⟨g,cap,cur,hv,_,hg,_,_,_,ht⟩
    ·omega
    ·injection hv with hA _ _
     refine ⟨g,cur,hA,hg,fun j u hu=>?_⟩
     rw [← ht] at hu
     have h1:=(List.getElem?_eq_some_iff.1 hu).1
     rw [List.getElem?_take_of_lt (by rw [List.length_take] at h1;omega)] at hu
     simpa using hu
   subst hA
   have hgw:=row_stays hg HK.out.1
   have HRG:Hid (wr.rangeAt g (k*5) (ldC x)):=Lib.hid (fun j u hu=>nd_cell hgw (k*5+j) u (hcells _ _ (flat_get lenLdC L k x j u hx hu)))
   have HU1:=Lib.hid (unlay1 x a bq wr (row_stays HB.out HK.out.1))
   clear hx hcells hg hgw
   by_cases ha:x.1=a
   ·rw [decide_eq_true ha] at HU1
    go_wp2_with (first
     | (refine wpList_load_mid rfl 151 (.tmp 14) rfl g (k*5) rfl (ldC x) _ HRG.out Tryz.underlying151 rfl (by kernel_rfl) ?_)
     | (go_at_call 79;refine HU1.out.mono ?_;rintro e w2 ⟨rfl,hb2⟩;have B2:=Lib.hid (HK.out.1.trans (hb2.mono HK.out.1.size));clear hb2))
    go_ret
    exact ⟨.inl ⟨k,x,rfl,HX.out,ha⟩,B2.out⟩
   ·rw [decide_eq_false ha] at HU1
    have HA:=Lib.hid ha
    clear ha
    go_wp2_with (first
     | (refine wpList_load_mid rfl 151 (.tmp 14) rfl g (k*5) rfl (ldC x) _ HRG.out Tryz.underlying151 rfl (by kernel_rfl) ?_)
     | (go_at_call 79;refine HU1.out.mono ?_;rintro e w2 ⟨rfl,hb2⟩;have B2:=Lib.hid (HK.out.1.trans (hb2.mono HK.out.1.size));clear hb2))
    have HEND:Hid (Below w.heap.size w w2∧∀ j,j<k+1→∀ x,L[j]?=some x→x.1≠a):=Lib.hid ⟨B2.out,fun j hj y hy=>by
     rcases Nat.lt_succ_iff_lt_or_eq.1 hj with h | h
     ·exact HK.out.2 j h y hy
     ·subst h
      rw [HX.out] at hy
      cases hy
      exact HA.out⟩
    go_roundw
    case rel=>exact ⟨k+1,by omega,by go_num,HEND⟩
    case measure=>first | (simp [intOf];done) | (simp [intOf];omega) | exact meas_step5 hlt hkw
  ·obtain rfl:k=n:=by omega
   have hkm:decide ((k:Int)<(k:Int))=false:=by simp
   go_wp2_with fail
   go_ret
   refine ⟨.inr ⟨rfl,fun hm=>?_⟩,HK.out.1⟩
   obtain ⟨x,hx,hxa⟩:=List.mem_map.1 hm
   obtain ⟨j,hj⟩:=List.mem_iff_getElem?.1 hx
   exact HK.out.2 j (by have:=(List.getElem?_eq_some_iff.1 hj).1;have:=HN.out;omega) x hj hxa
theorem unlay_no (gc gv p B0 a:Nat) (U V:List Bool) (lv:Value) (L:List (Nat × (NodeD × NdL))) (hU:U.length=512) (hV:V.length=512) (ha:a ∉ L.map Prod.fst) (hL:L.length≤1000) (w:World) (h:ChgS w gc gv p B0 U V lv L) :
 Calls Tryz.prog 53 #[.pointer (some ⟨gc,0,none⟩),.int .i64 (a:Int)] w fun e w'=>e=.returned (.tuple #[.agg #[.bool false,.slice none 0 0,.slice none 0 0,.slice none 0 0],.bool false])∧Below w.heap.size w w':=by
 obtain ⟨A,c,hlv⟩:∃ A c,lv=.slice A L.length c:=row_form h.row
 subst hlv
 obtain ⟨n,hn⟩:∃ n,n=L.length:=⟨_,rfl⟩
 have HIX:=Lib.hid (fun bq W (hW:Below w.heap.size w W) hb=>index_laid L B0 n c A a bq W hn (by omega) (by rw [hn];exact (h.below hW).row) hb)
 rw [← hn] at h
 have HC:=Lib.hid h.chg
 have HU:=Lib.hid hU
 have HV:=Lib.hid hV
 have HAN:=Lib.hid ha
 clear h hU hV ha hL hn
 go_enter Tryz.func53,Tryz.ntmps53
 go_upto_region 1 with fail
 obtain ⟨w2,hw2⟩:∃ w2,w2=(w.alloc (.cells #[.int .i64 (a:Int)] 3)).alloc (.cells #[.bool false,.slice none 0 0,.slice none 0 0,.slice none 0 0] 86):=⟨_,rfl⟩
 have GQ:Hid (w2.heap[w.heap.size]?=some (.cells #[.int .i64 (a:Int)] 3 (0,0))):=Lib.hid (by rw [hw2];exact heap_alloc2_old _ _ _)
 have GR:Hid (w2.heap[w.heap.size+1]?=some (.cells #[.bool false,.slice none 0 0,.slice none 0 0,.slice none 0 0] 86 (0,0))):=Lib.hid (by rw [hw2];exact heap_alloc2_new _ _ _)
 have B2:Hid (Below w.heap.size w w2):=Lib.hid (by rw [hw2];exact below_two (Below.refl _ _))
 obtain ⟨br,hbr⟩:∃ br,br=w.heap.size+1:=⟨_,rfl⟩
 rw [← hbr] at GR
 rw [← hw2,← hbr]
 have HBR:=Lib.hid hbr
 clear hw2 hbr
 have kc:=(HC.out.below B2.out).cl HU.out HV.out
 go_upto_region 2 with (go_at_call 78;refine (HIX.out _ _ B2.out GQ.out).mono ?_;rintro e w3 ⟨⟨i,x,_,hx,hxa⟩ | ⟨rfl,_⟩,hb3⟩;exact absurd (List.mem_map.2 ⟨x,List.mem_of_getElem? hx,hxa⟩) HAN.out;have B3:=Lib.hid (B2.out.trans (hb3.mono B2.out.size));have GR3:=Lib.hid (row_stays GR.out hb3);clear hb3)
 clear kc
 go_wp2_with (refine wpList_store_row rfl 86 (.tmp 4) (.tmp 16) rfl br #[.bool false,.slice none 0 0,.slice none 0 0,.slice none 0 0] rfl rfl 86 _ GR3.out (by kernel_rfl) rfl (by simp [Value.oneCell']) ?_)
 refine bodyPost_ret (v:=.tuple #[.agg #[.bool false,.slice none 0 0,.slice none 0 0,.slice none 0 0],.bool false]) (results_cell_tmpB (p:=4) (u:=5) (ty:=86) rfl _ _ br 86 _ (0,0) _ rfl (setRow_heap _ _ _ _ _ _ GR3.out) Tryz.underlying86 rfl (by kernel_rfl)) rfl ⟨rfl,?_⟩
 exact below_setRow B3.out (by have:=HBR.out;omega) _
theorem unlay_yes (gc gv p B0 a m:Nat) (U V:List Bool) (lv:Value) (L:List (Nat × (NodeD × NdL))) (hf:FitU p V U m (L.map Prod.fst)) (hV:V.length=512) (ha:a ∈ L.map Prod.fst) (hL:L.length≤1000) (w:World) (h:ChgS w gc gv p B0 U V lv L) (hB0:B0≤w.heap.size) :
 Calls Tryz.prog 53 #[.pointer (some ⟨gc,0,none⟩),.int .i64 (a:Int)] w fun e w'=>∃ (L1 L2:List (Nat × (NodeD × NdL))) (x:NodeD × NdL) (lv':Value),L=L1 ++ (a,x) :: L2∧e=.returned (.tuple #[.agg #[.bool x.1.leaf,.slice x.2.EA x.1.es.length x.2.ec,.slice x.2.KA x.1.ks.length x.2.kc,.slice x.2.DA x.1.ds.length x.2.dc],.bool true])∧ChgS w' gc gv p B0 (markN U a false 1) V lv' (L1 ++ L2)∧FitU p V (markN U a false 1) m ((L1 ++ L2).map Prod.fst)∧OutS gc B0 (fun _=>False) w w':=by
 obtain ⟨A,c,hlv⟩:∃ A c,lv=.slice A L.length c:=row_form h.row
 subst hlv
 obtain ⟨n,hn⟩:∃ n,n=L.length:=⟨_,rfl⟩
 have HIX:=Lib.hid (fun bq W (hW:Below w.heap.size w W) hb=>index_laid L B0 n c A a bq W hn (by omega) (by rw [hn];exact (h.below hW).row) hb)
 have hrow:=h.row
 rw [← hn] at h hrow
 have HC:=Lib.hid h.chg
 have HRW:=Lib.hid hrow
 have HB0c:=Lib.hid h.B0
 have HU:=Lib.hid hf.len
 have HV:=Lib.hid hV
 have HF:=Lib.hid hf
 have HAI:=Lib.hid ha
 have HN:=Lib.hid hn
 have HLL:=Lib.hid hL
 have HB0:=Lib.hid hB0
 clear h hV ha hL hn hf hrow hB0
 go_enter Tryz.func53,Tryz.ntmps53
 go_upto_region 1 with fail
 obtain ⟨w2,hw2⟩:∃ w2,w2=(w.alloc (.cells #[.int .i64 (a:Int)] 3)).alloc (.cells #[.bool false,.slice none 0 0,.slice none 0 0,.slice none 0 0] 86):=⟨_,rfl⟩
 have GQ:Hid (w2.heap[w.heap.size]?=some (.cells #[.int .i64 (a:Int)] 3 (0,0))):=Lib.hid (by rw [hw2];exact heap_alloc2_old _ _ _)
 have GR:Hid (w2.heap[w.heap.size+1]?=some (.cells #[.bool false,.slice none 0 0,.slice none 0 0,.slice none 0 0] 86 (0,0))):=Lib.hid (by rw [hw2];exact heap_alloc2_new _ _ _)
 have B2:Hid (Below w.heap.size w w2):=Lib.hid (by rw [hw2];exact below_two (Below.refl _ _))
 obtain ⟨br,hbr⟩:∃ br,br=w.heap.size+1:=⟨_,rfl⟩
 rw [← hbr] at GR
 rw [← hw2,← hbr]
 have HBR:=Lib.hid hbr
 clear hw2 hbr
 have kc:=(HC.out.below B2.out).cl HU.out HV.out
 go_upto_region 2 with (go_at_call 78;refine (HIX.out _ _ B2.out GQ.out).mono ?_;rintro e w3 ⟨⟨i,x,rfl,hx,hxa⟩ | ⟨_,hna⟩,hb3⟩;rotate_left;exact absurd HAI.out hna;have HX:=Lib.hid hx;have HXA:=Lib.hid hxa;have B3:=Lib.hid (B2.out.trans (hb3.mono B2.out.size));have GR3:=Lib.hid (row_stays GR.out hb3);have GQ3:=Lib.hid (row_stays GQ.out hb3);clear hb3 hx hxa)
 clear kc
 have HIN:Hid (i<n):=Lib.hid (by rw [HN.out];exact (List.getElem?_eq_some_iff.1 HX.out).1)
 have C3:=Lib.hid (HC.out.below B3.out)
 have R3:=Lib.hid (row_below HRW.out B3.out)
 obtain ⟨g,cur,hA,hg,hcells⟩:∃ (g:Nat) (cur:Array Value),A=some ⟨g,0,none⟩∧w3.heap[g]?=some (.cells cur 151 (0,0))∧∀ (j:Nat) (u:Value),(L.flatMap ldC)[j]?=some u→cur[j]?=some u:=by
  rcases R3.out.2 with ⟨_,h0⟩ | ⟨g,cap,cur,hv,_,hg,_,_,_,ht⟩
  ·have:=HIN.out;omega
  ·injection hv with hA _ _
   refine ⟨g,cur,hA,hg,fun j u hu=>?_⟩
   rw [← ht] at hu
   have h1:=(List.getElem?_eq_some_iff.1 hu).1
   rw [List.getElem?_take_of_lt (by rw [List.length_take] at h1;omega)] at hu
   simpa using hu
 have HRG:Hid (w3.rangeAt g (i*5+1) (ndP x.2)):=Lib.hid (fun j u hu=>by
  rw [show i*5+1+j=i*5+(1+j) by omega]
  exact nd_cell hg (i*5+(1+j)) u (hcells _ _ (flat_get lenLdC L i x (1+j) u HX.out (by rw [show 1+j=j+1 by omega];exact hu))))
 clear hcells hg
 have kc3:=C3.out.cl HU.out HV.out
 rw [hA] at kc3
 have hin:(i:Int)<(n:Int):=by have:=HIN.out;omega
 have hneg:decide ((i:Int)<0)=false:=by simp
 have hiw:wrap64 ((i:Int)+1)=(i:Int)+1:=by have:=HIN.out;have:=HN.out;have:=HLL.out;unfold wrap64;omega
 go_upto_region 4 with fail
 go_upto_region 5 with (first
  | (refine wpList_load_mid rfl 86 (.tmp 23) rfl g (i*5+1) rfl (ndP x.2) _ HRG.out Tryz.underlying86 rfl (by kernel_rfl) ?_)
  | (refine wpList_store_row rfl 86 (.tmp 7) (.tmp 24) rfl w3.heap.size (ndP x.2).toArray rfl rfl 86 _ (heap_alloc_new _ _) (by kernel_rfl) rfl (by simp [ndP,Value.oneCell']) ?_))
 subst hA
 obtain ⟨b7,hb7⟩:∃ b7,b7=w3.heap.size:=⟨_,rfl⟩
 obtain ⟨w4,hw4⟩:∃ w4,w4=(w3.alloc (.cells #[.bool false,.slice none 0 0,.slice none 0 0,.slice none 0 0] 86)).setRow b7 (ndP x.2).toArray:=⟨_,rfl⟩
 have B34:Hid (Below w3.heap.size w3 w4):=Lib.hid (by rw [hw4,hb7];exact below_setRow (alloc_bel rfl) (Nat.le_refl _) _)
 have G7:Hid (w4.heap[b7]?=some (.cells (ndP x.2).toArray 86 (0,0))):=Lib.hid (by
  rw [hw4]
  exact setRow_heap _ _ _ _ _ _ (by rw [hb7];exact heap_alloc_new _ _))
 have HB7:=Lib.hid hb7
 rw [← hb7,← hw4]
 clear hw4 hb7 kc3 hneg
 have C4:=Lib.hid (C3.out.below B34.out)
 have R4:=Lib.hid (row_below R3.out B34.out)
 have GR4:=Lib.hid (row_stays GR3.out B34.out)
 have GQ4:=Lib.hid (row_stays GQ3.out B34.out)
 have kc4:=C4.out.cl HU.out HV.out
 have HDL:=Lib.hid (del_laid B0 n c i (some ⟨g,0,none⟩) (L.flatMap ldC) w4 R4.out HIN.out (by have:=HN.out;have:=HLL.out;omega) (flat_one ldC_one _))
 go_upto_region 5 with fail
 go_upto_region 6 with (go_at_call 80;refine HDL.out.mono ?_;rintro e x5 ⟨rfl,hr5,hg5⟩;have R5:=Lib.hid hr5;have G5:=Lib.hid hg5;have C5:=Lib.hid (C4.out.keep (hg5.block gc C4.out.lt (C4.out.ne_row R4.out (by decide))));have k1:=C5.out.cl HU.out HV.out;have k2:=C5.out.fr 1027;clear hr5 hg5)
 clear kc4 k1 k2
 obtain ⟨lv5,hlv5⟩:∃ lv5,lv5=Value.slice (some ⟨g,0,none⟩) (n - 1) c:=⟨_,rfl⟩
 rw [← hlv5]
 have C6:=Lib.hid (C5.out.setL HU.out HV.out lv5)
 have R6:Hid ((x5.setCell ⟨gc,1027,none⟩ lv5).ownsRow B0 151 5 lv5 (n - 1) ((L.flatMap ldC).take (i*5) ++ (L.flatMap ldC).drop ((i+1)*5))):=Lib.hid (by
  have h1:=R5.out
  rw [← hlv5] at h1
  exact h1.kept (grown_setC (World.grownBy.refl x5 _) 1027 _) (.inr (C5.out.ne_row h1 (by decide)).symm))
 have S46:Hid (OutS gc B0 (fun _=>False) w4 (x5.setCell ⟨gc,1027,none⟩ lv5)):=Lib.hid (OutS.of_outT ((OutT.of_row R4.out G5.out).trans (OutT.of_gc (grown_setC (World.grownBy.refl x5 _) 1027 _))))
 obtain ⟨w6,hw6⟩:∃ w6,w6=x5.setCell ⟨gc,1027,none⟩ lv5:=⟨_,rfl⟩
 rw [← hw6] at C6 R6 S46 ⊢
 clear hw6 hlv5 R5 C5 G5 HDL
 have G76:=Lib.hid (S46.out.typed C4.out G7.out (by decide) (by decide) (fun h=>h))
 have GR6:=Lib.hid (S46.out.typed C4.out GR4.out (by decide) (by decide) (fun h=>h))
 have GQ6:=Lib.hid (S46.out.typed C4.out GQ4.out (by decide) (by decide) (fun h=>h))
 have kq:=nd_cell GQ6.out 0 (.int .i64 (a:Int)) rfl
 obtain ⟨a2,a3,a4,a5⟩:=HF.out.laid.2 a HAI.out
 have HGV:=Lib.hid (give_any gc gv p U V lv5 HU.out HV.out HF.out.ok a a2 a3 w6 C6.out)
 clear a2 a3 a4 a5
 go_upto_region 7 with (go_at_call 59;refine HGV.out.mono ?_;rintro e w7 ⟨rfl,hc7,ho7⟩;have C7:=Lib.hid hc7;have O7:=Lib.hid ho7;clear hc7 ho7)
 clear kq
 have G77:=Lib.hid (row_off G76.out (by decide) C6.out O7.out)
 have GR7:=Lib.hid (row_off GR6.out (by decide) C6.out O7.out)
 have R7:Hid (w7.ownsRow B0 151 5 lv5 (n - 1) ((L.flatMap ldC).take (i*5) ++ (L.flatMap ldC).drop ((i+1)*5))):=Lib.hid (row_keep R6.out (fun k cur _ hk=>O7.out.block k (Array.getElem?_eq_some_iff.1 hk).1 (fun e=>row_ne_typed C6.out e hk (by decide))))
 go_wp2_with (first
  | (refine wpList_load_row rfl 86 (.tmp 7) rfl b7 rfl 86 _ (0,0) _ G77.out Tryz.underlying86 rfl (by kernel_rfl) ?_)
  | (refine wpList_store_row rfl 86 (.tmp 4) (.tmp 39) rfl br (ndP x.2).toArray rfl rfl 86 _ GR7.out (by kernel_rfl) rfl (by simp [ndP,Value.oneCell']) ?_))
 refine bodyPost_ret (v:=.tuple #[.agg (ndP x.2).toArray,.bool true]) (results_cell_tmpB (p:=4) (u:=5) (ty:=86) rfl _ _ br 86 _ (0,0) _ rfl (setRow_heap _ _ _ _ _ _ GR7.out) Tryz.underlying86 rfl (by kernel_rfl)) rfl ?_
 have hLs:L=L.take i ++ (a,x.2) :: L.drop (i+1):=by
  have h1:=List.take_append_drop i L
  have h2:=List.drop_eq_getElem_cons (List.getElem?_eq_some_iff.1 HX.out).1
  rw [(List.getElem?_eq_some_iff.1 HX.out).2] at h2
  rw [h2] at h1
  have h3:(a,x.2)=x:=by rw [← HXA.out]
  rw [h3]
  exact h1.symm
 have hl7:n - 1=(L.take i ++ L.drop (i+1)).length:=by
  have h1:=congrArg List.length hLs
  rw [List.length_append,List.length_cons] at h1
  rw [List.length_append,HN.out]
  omega
 refine ⟨L.take i,L.drop (i+1),x.2,lv5,hLs,rfl,?_,?_,?_⟩
 ·refine ⟨C7.out.keep (setRow_other _ br gc _ (fun e=>row_ne_typed C7.out e.symm GR7.out (by decide))),?_,HB0c.out⟩
  have h1:=R7.out
  rw [flatR_take lenLdC,flatR_drop lenLdC,← List.flatMap_append,hl7] at h1
  exact (KeptNot.of_setRow GR7.out _).row h1 (by decide)
 ·have h1:=HF.out
  rw [hLs,List.map_append,List.map_cons] at h1
  rw [List.map_append]
  exact h1.drop
 ·have s1:OutS gc B0 (fun _=>False) w w7:=(((OutS.of_below B3.out).trans (OutS.of_below B34.out)).trans S46.out).trans (OutS.of_outer O7.out)
  have hbr:w.heap.size≤br:=by have:=HBR.out;omega
  exact ⟨s1.os,s1.tape,s1.output,by simpa using s1.size,fun k hk hg hX hT=>(setRow_other w7 br k _ (by omega)).trans (s1.block k hk hg hX hT)⟩
end Go.Proofs.YtgkddhncfaeidaaGreat
