/- Squeezed: the texts as they are written lie in wip/tpl. -/
import Derived.Test.YtgkddhncfaeidaaGreatPart03
import Derived.Test.YtgkddhncfaeidaaGreatNjS
import Derived.Test.YtgkddhncfaeidaaGreatPart12
import Derived.Maps.AppendAt
set_option maxRecDepth 100000
set_option maxHeartbeats 8000000
set_option linter.unnecessarySimpa false
set_option linter.unusedSimpArgs false
set_option linter.unusedVariables false
namespace Go.Proofs.YtgkddhncfaeidaaGreat
open Go.RowKit Go.Shelf Go.ChangeShapes Go.WideShapes Go.ChangeAt CrcM PageM
attribute [local go_sem] Oper.semAt_some
def aB (A:Option Addr):Nat:=(A.map (·.block)).getD 0
def aO (A:Option Addr):Nat:=(A.map (·.off)).getD 0
def leafPart (es:List EntD) (A:Option Addr) (x:Nat × Nat):NodeD × NdL:=(⟨true,(es.drop x.1).take x.2,[],[]⟩,⟨some ⟨aB A,aO A+x.1*8,none⟩,x.2,none,0,none,0⟩)
def innerPart (n:NodeD) (l:NdL) (x:Nat × Nat):NodeD × NdL:=(⟨false,[],(n.ks.drop x.1).take x.2,(n.ds.drop x.1).take x.2⟩,⟨none,0,some ⟨aB l.KA,aO l.KA+x.1*2,none⟩,l.kc - x.1,some ⟨aB l.DA,aO l.DA+x.1,none⟩,l.dc - x.1⟩)
def fillP (n:NodeD) (l:NdL):List (NodeD × NdL):=(chs 7 n.es.length ((n.es.length+6) / 7)).map (leafPart n.es l.EA) ++ (chs 16 n.ds.length ((n.ds.length+15) / 16)).map (innerPart n l)
theorem leafPart_ndP (es:List EntD) (A:Option Addr) (x:Nat × Nat) (h:x.1+x.2≤es.length):ndP (leafPart es A x)=[.bool true,.slice (some ⟨aB A,aO A+x.1*8,none⟩) x.2 x.2,.slice none 0 0,.slice none 0 0]:=by
 have:((es.drop x.1).take x.2).length=x.2:=by rw [List.length_take,List.length_drop];omega
 simp [ndP,leafPart,this]
theorem innerPart_ndP (n:NodeD) (l:NdL) (x:Nat × Nat) (h:x.1+x.2≤n.ds.length) (hk:n.ks.length=n.ds.length):ndP (innerPart n l x)=[.bool false,.slice none 0 0,.slice (some ⟨aB l.KA,aO l.KA+x.1*2,none⟩) x.2 (l.kc - x.1),.slice (some ⟨aB l.DA,aO l.DA+x.1,none⟩) x.2 (l.dc - x.1)]:=by
 have h1:((n.ks.drop x.1).take x.2).length=x.2:=by rw [List.length_take,List.length_drop];omega
 have h2:((n.ds.drop x.1).take x.2).length=x.2:=by rw [List.length_take,List.length_drop];omega
 simp [ndP,innerPart,h1,h2]
theorem EnAt.addr {w:World} {A:Option Addr} {es:List EntD} (h:EnAt w A es) (h0:0<es.length):A=some ⟨aB A,aO A,none⟩:=by
 obtain ⟨b,off,rfl,_⟩:=h (by intro e;rw [e] at h0;exact absurd h0 (by decide))
 rfl
theorem KyAt.addr {w:World} {A:Option Addr} {es:List KeyD} (h:KyAt w A es) (h0:0<es.length):A=some ⟨aB A,aO A,none⟩:=by
 obtain ⟨b,off,rfl,_⟩:=h (by intro e;rw [e] at h0;exact absurd h0 (by decide))
 rfl
theorem KdAt.addr {w:World} {A:Option Addr} {es:List Int} (h:KdAt w A es) (h0:0<es.length):A=some ⟨aB A,aO A,none⟩:=by
 obtain ⟨b,off,rfl,_⟩:=h (by intro e;rw [e] at h0;exact absurd h0 (by decide))
 rfl
theorem cells_new (W:World) (cs:List Value) (T:TypeId) (j:Nat) (u:Value) (h:cs[j]?=some u):(W.alloc (.cells cs.toArray T)).cell? ((⟨W.heap.size,0,none⟩:Addr).add j)=some u:=by
 have:=heap_alloc_new W (.cells cs.toArray T)
 have e:((⟨W.heap.size,0,none⟩:Addr).add j)=⟨W.heap.size,j,none⟩:=by
  unfold Addr.add
  by_cases hj:j=0
  ·simp [hj]
  ·simp [hj]
 rw [e]
 exact nd_cell this j u (by simpa using h)
theorem boxed_appended {W w1:World} {n₀ B C:Nat} {e t2:TypeId} {size:Nat} {v v' u:Value} {k:Nat} {xs:List Value} {tmp:Obj} (hC:Boxed W C t2 u) (hne:C≠B) (hte:t2≠e) (hrow:W.ownsRow n₀ e size v k xs) (hgrow:(W.alloc tmp).grownBy w1 v.ownBlock):Boxed (w1.setCell ⟨B,0,none⟩ v') C t2 u :=
 ((hC.alloc tmp).kept hgrow (hC.not_row hte hrow)).kept (grownBy_setCell' w1 B v') (by intro e;cases e;exact hne rfl)
theorem box_cells {W:World} {B:Nat} {t:TypeId} {v:Value} {o:Obj} (h:Boxed W B t v) (hW:W.heap[B]?=some o) (hc:o.isCells=false):False:=by
 have h2:some (Obj.cells #[v] t (0,0))=some o:=(show W.heap[B]?=_ from h).symm.trans hW
 cases h2
 cases hc
def lcC (A:Option Addr) (x:Nat × Nat):List Value:=[.bool true,.slice (some ⟨aB A,aO A+x.1*8,none⟩) x.2 x.2,.slice none 0 0,.slice none 0 0]
theorem lcC_one (A:Option Addr) (x:Nat × Nat):∀ u ∈ lcC A x,u.oneCell'=true:=by
 intro u hu
 simp [lcC] at hu
 rcases hu with rfl | rfl | rfl <;> rfl
theorem lcC_parts (es:List EntD) (A:Option Addr) (pre:List (Nat × Nat)) (h:∀ x ∈ pre,x.1+x.2≤es.length):pre.flatMap (lcC A)=(pre.map (leafPart es A)).flatMap ndP:=by
 induction pre with
 | nil=>rfl
 | cons a t ih =>
   rw [List.flatMap_cons,List.map_cons,List.flatMap_cons,ih (fun x hx=>h x (by simp [hx])),leafPart_ndP es A a (h a (by simp))]
   rfl
def icC (l:NdL) (x:Nat × Nat):List Value:=[.bool false,.slice none 0 0,.slice (some ⟨aB l.KA,aO l.KA+x.1*2,none⟩) x.2 (l.kc - x.1),.slice (some ⟨aB l.DA,aO l.DA+x.1,none⟩) x.2 (l.dc - x.1)]
theorem icC_one (l:NdL) (x:Nat × Nat):∀ u ∈ icC l x,u.oneCell'=true:=by
 intro u hu
 simp [icC] at hu
 rcases hu with rfl | rfl | rfl | rfl <;> rfl
theorem icC_parts (n:NodeD) (l:NdL) (hk:n.ks.length=n.ds.length) (pre:List (Nat × Nat)) (h:∀ x ∈ pre,x.1+x.2≤n.ds.length):pre.flatMap (icC l)=(pre.map (innerPart n l)).flatMap ndP:=by
 induction pre with
 | nil=>rfl
 | cons a t ih =>
   rw [List.flatMap_cons,List.map_cons,List.flatMap_cons,ih (fun x hx=>h x (by simp [hx])),innerPart_ndP n l a (h a (by simp)) hk]
   rfl
theorem chs_in (m len k:Nat):∀ x ∈ chs m len k,x.1+x.2≤len∨x.2=0:=by
 intro x hx
 simp only [chs,List.mem_map,List.mem_range] at hx
 obtain ⟨i,_,rfl⟩:=hx
 dsimp only
 omega
theorem chs_in' {m len k:Nat} (hm:0<m) (hk:k≤(len+(m - 1)) / m):∀ x ∈ chs m len k,x.1+x.2≤len:=by
 intro x hx
 simp only [chs,List.mem_map,List.mem_range] at hx
 obtain ⟨i,hi,rfl⟩:=hx
 dsimp only
 have h1:i+1≤(len+(m - 1)) / m:=by omega
 rw [Nat.le_div_iff_mul_le hm,Nat.add_mul,Nat.mul_comm i m] at h1
 omega
theorem row_raise {w:World} {B sz n:Nat} {t E:TypeId} {u v:Value} {us:List Value} (h:w.ownsRow B E sz v n us) (hb:Boxed w B t u) (hne:t≠E):w.ownsRow (B+1) E sz v n us:=by
 refine ⟨h.1,?_⟩
 rcases h.2 with h0 | ⟨g,cap,cur,hv,hB,hg,hr⟩
 ·exact .inl h0
 ·refine .inr ⟨g,cap,cur,hv,?_,hg,hr⟩
  rcases Nat.lt_or_ge B g with h1 | h1
  ·exact h1
  ·obtain rfl:g=B:=by omega
   rw [show w.heap[g]?=_ from hb] at hg
   cases hg
   exact absurd rfl hne
theorem row_not_other {w:World} {base sz n D:Nat} {E:TypeId} {v:Value} {us:List Value} {o:Obj} (R:w.ownsRow base E sz v n us) (hD:w.heap[D]?=some o) (ho:o.isCells=false):some D≠v.ownBlock:=by
 rcases R.2 with ⟨rfl,_⟩ | ⟨g,cap,cur,rfl,_,hg,_⟩
 ·simp [Value.ownBlock]
 ·intro e
  obtain rfl:D=g:=by simpa [Value.ownBlock] using e
  rw [hD] at hg
  cases hg
  cases ho
def IFi (w1:World) (Bp:Nat) (A:Option Addr) (pre:List (Nat × Nat)) (W:World):Prop :=
 (∃ v,Boxed W Bp 82 v∧W.ownsRow w1.heap.size 86 4 v pre.length (pre.flatMap (lcC A))∧True)∧Below w1.heap.size w1 W
theorem filled_any (n:NodeD) (l:NdL) (hkd:n.ks.length=n.ds.length) (hm:n.es.length≤1000000) (hm2:n.ds.length≤1000000) (w:World) (hat:NodeAt w n l) :
 Calls Tryz.prog 31 #[.agg #[.bool n.leaf,.slice l.EA n.es.length l.ec,.slice l.KA n.ks.length l.kc,.slice l.DA n.ds.length l.dc]] w fun e w' =>
  (∃ A c,e=.returned (.slice A (fillP n l).length c)∧w'.ownsRow w.heap.size 86 4 (.slice A (fillP n l).length c) (fillP n l).length ((fillP n l).flatMap ndP))∧Below w.heap.size w w':=by
 obtain ⟨ne,hne⟩:∃ ne,n.es.length=ne:=⟨_,rfl⟩
 obtain ⟨nk,hnk⟩:∃ nk,n.ds.length=nk:=⟨_,rfl⟩
 have HA:=Lib.hid hat
 have HNE:=Lib.hid hne
 have HND:=Lib.hid hnk
 have HNK:=Lib.hid (hkd.trans hnk)
 refine (callsIn_wide (n:=3)).1 ?_
 refine callsIn_of_wp_marks Tryz.func31 rfl trivial ?_ rfl
 simp only [Tryz.ntmps31,List.size_toArray,List.length_cons,List.length_nil,Nat.reduceAdd,Nat.reduceSub,Array.replicate_succ,Array.replicate_zero,List.push_toArray,List.append_toArray,List.nil_append,List.cons_append]
 rw [hkd,hnk,hne]
 rw [hnk] at hm2
 rw [hne] at hm
 clear hne hkd hnk hat
 gi_wp2_with (refine ⟨trivial,?_⟩;gi_at_call 55;refine (chunk_in _ _ _ _ _).mono ?_;rintro e w' ⟨rfl,rfl⟩)
 obtain ⟨w1,hw1⟩:∃ w1,w1=w.alloc (.cells #[.bool n.leaf,.slice l.EA ne l.ec,.slice l.KA nk l.kc,.slice l.DA nk l.dc] 86):=⟨_,rfl⟩
 have hs1:w1.heap.size=w.heap.size+1:=by rw [hw1];simp
 have HW1:=Lib.hid hw1
 rw [← hw1,← hs1]
 have HS1:=Lib.hid hs1
 clear hw1 hs1
 have bP:=Boxed.new w1 82 (.slice none 0 0)
 have bS:=Boxed.new (w1.alloc (.cells #[.slice none 0 0] 82)) 29 (.slice l.EA ne l.ec)
 have bN:=Boxed.new ((w1.alloc (.cells #[.slice none 0 0] 82)).alloc (.cells #[.slice l.EA ne l.ec] 29)) 3 (.int .i64 7)
 simp only [World.size_alloc] at bS bN
 have hB0:Below w1.heap.size w1 (((w1.alloc (.cells #[.slice none 0 0] 82)).alloc (.cells #[.slice l.EA ne l.ec] 29)).alloc (.cells #[.int .i64 7] 3)):=(((Below.refl _ w1).alloc (Nat.le_refl _) _).alloc (by simp) _).alloc (by simp;omega) _
 refine wpIn_rangeFunc_ownG rfl (by decide) (gf:=82) (lb:=#[.pointer (some ⟨w1.heap.size+1,0,none⟩),.pointer (some ⟨w1.heap.size+1+1,0,none⟩)]) rfl trivial (enters_of Tryz.func82 (by kernel_rfl) rfl)
  (chunk_stops 2 (by decide) (w1.heap.size+1) (w1.heap.size+1+1) w1.heap.size (aB l.EA) (aO l.EA) ne l.ec l.EA (fun h=>HA.out.e.addr (by rw [HNE.out];exact h)) (by rw [← HNE.out];exact HA.out.ec) (by omega) HA.out.em _ (bS.alloc _) bN)
  KpCh.trans (fun W l o o' hl hW hc hk=>⟨belowK_b (w:=w1) (Nat.le_refl _) W l o o' (by simp at hl;omega) hW hc hk,fun hB=>hB.kept (grownBy_putObj' W l o') (by intro e;cases e;exact box_cells hB hW hc),fun hB=>hB.kept (grownBy_putObj' W l o') (by intro e;cases e;exact box_cells hB hW hc)⟩) (Below.refl _ _) (fun _=>rfl)
  (IFi w1 w1.heap.size l.EA)
  (fun _ _ _=>False)
  (OwnFrom.and (Own.from (holdsRow_own w1.heap.size w1.heap.size 82 86 4 (fun pre:List (Nat × Nat)=>pre.length) (fun pre=>pre.flatMap (lcC l.EA)) (fun pre v=>True)) _) (ownFrom_below (Nat.le_refl _) (by simp;omega)))
  (fun _ _ _ _ _ hs _ _=>hs)
  ⟨⟨_,(bP.alloc _).alloc _,World.ownsRow_nil _ _ _ _,trivial⟩,hB0⟩
  (fun x=>{ tmps:=#[.agg #[.bool n.leaf,.slice l.EA ne l.ec,.slice l.KA nk l.kc,.slice l.DA nk l.dc],.pointer (some ⟨w.heap.size,0,none⟩),.slice none 0 0,.pointer (some ⟨w1.heap.size,0,none⟩),.slice (some ⟨aB l.EA,aO l.EA+x.1*8,none⟩) x.2 x.2,undef,undef,.pointer (some ⟨w.heap.size,1,none⟩),.slice l.EA ne l.ec,.func (.func 82) #[] #[.pointer (some ⟨w1.heap.size+1,0,none⟩),.pointer (some ⟨w1.heap.size+1+1,0,none⟩)],.slice (some ⟨aB l.EA,aO l.EA+x.1*8,none⟩) x.2 x.2,
   undef,undef,undef,undef,undef,undef,undef,undef,undef,undef,undef,undef,undef,undef,undef,undef,undef,undef,undef,undef,undef,undef,undef,undef,undef,undef,undef,undef,undef,undef,undef,undef,undef],defers:=[] }) ?assign ?body ?done ?stop
 case assign =>
  intro l' x W K hK
  dsimp only [encCh]
  gi_wp2
  exact hK
 case body =>
  rintro l' pre x W ⟨⟨v,hv,hrow,_⟩,hB⟩ hlt
  have hc:=hv.cell
  have HL:=Lib.hid hlt
  have HNEm:=Lib.hid hm
  obtain ⟨i0,hi,hz0,hz1,hz2⟩:=info_parts infoNodeN
  clear hlt
  gi_wp2_with (gi_at_builtin;refine wpListIn_append_own _ rfl _ _ 82 rfl w1.heap.size 86 i0 (.agg #[.bool false,.slice none 0 0,.slice none 0 0,.slice none 0 0]) 4 80 Tryz.underlying82 hi hz0 hz1 hz2 (by rfl) (by decide) _ _ _ rfl (hrow.alloc _) ⟨W.heap.size,0,none⟩ 1 1 (lcC l.EA x) rfl (by rfl) (cells_new W (lcC l.EA x) _) (lcC_one _ _) (by have:=HL.out;have:=HNEm.out;unfold maxLen;omega) (by have:=HL.out;have:=HNEm.out;omega) (by have:=hB.size;simp;omega) ?_;intro v' w2 hown' hgrow _;obtain ⟨g',cap',rfl⟩:=ownsRow_succ hown';obtain ⟨hv1,hv2,hr2,hk2,hb2⟩:=hv.appended (by decide) hrow hB.size (Nat.le_refl _) hown' hgrow;have hc1:=hv1.cell;have hf1:=hv1.frozen)
  exact ⟨hk2.from _,⟨hb2,fun hx=>boxed_appended hx (by omega) (by decide) hrow hgrow,fun hx=>boxed_appended hx (by omega) (by decide) hrow hgrow⟩,⟨_,hv2,by rw [List.length_append,List.flatMap_append];simpa using hr2,trivial⟩,hB.trans hb2⟩
 case done =>
  rintro D ys W hD rfl ⟨⟨v,hv,hrow,_⟩,hB⟩ hK
  have hc:=hv.cell
  have HB:=Lib.hid hB
  have HK:=Lib.hid hK
  have HV:=Lib.hid hv
  have HROW:=Lib.hid hrow
  have HD:=Lib.hid hD
  clear hB hK hv hrow hD
  have HNB:Hid (∀ y:World,Below w1.heap.size w1 y→y.heap[w.heap.size]?=some (.cells #[.bool n.leaf,.slice l.EA ne l.ec,.slice l.KA nk l.kc,.slice l.DA nk l.dc] 86 (0,0))):=Lib.hid (fun y hy=>(hy.block w.heap.size (by rw [HS1.out];omega)).trans (by rw [HW1.out];exact heap_alloc_new _ _))
  obtain ⟨m7,hm7⟩:∃ m7,(chs 7 ne ((ne+6) / 7)).length=m7:=⟨_,rfl⟩
  have HM7:=Lib.hid hm7
  have HM7b:Hid (m7≤1000000):=Lib.hid (by rw [← hm7,chs_length];omega)
  obtain ⟨u7,hu7⟩:∃ u7,(chs 7 ne ((ne+6) / 7)).flatMap (lcC l.EA)=u7:=⟨_,rfl⟩
  have HU7:=Lib.hid hu7
  have HROW7:Hid (W.ownsRow w1.heap.size 86 4 v m7 u7):=Lib.hid (by rw [← hm7,← hu7];exact HROW.out)
  clear HROW hm7 hu7 bP bS bN hB0
  gi_wp2
  gi_loopw [5] (fun i wr=>∃ k:Nat,k≤(nk+15) / 16∧i=.int .i64 ((16*k:Nat):Int)∧Hid (∃ v,Boxed wr w1.heap.size 82 v∧wr.ownsRow w1.heap.size 86 4 v (m7+k) (u7 ++ (chs 16 nk k).flatMap (icC l))∧Below w1.heap.size w1 wr∧wr.heap[D]?=some (.deferred (some []))))
   (fun i _=>nk+16 - (intOf i).toNat)
  case atStart=>exact ⟨0,Nat.zero_le _,rfl,Lib.hid ⟨v,HV.out,by simpa [chs] using HROW7.out,HB.out,HK.out⟩⟩
  case round =>
   obtain ⟨k,hk,rfl,HR⟩:=hrel
   clear hc HB HK HV HROW7 v
   obtain ⟨v,hr⟩:=HR.out
   have HV:=Lib.hid hr.1
   have HROW:=Lib.hid hr.2.1
   have HB:=Lib.hid hr.2.2.1
   have HK:=Lib.hid hr.2.2.2
   clear hr HR
   have hc:=HV.out.cell
   have nb:=HNB.out wr HB.out
   have n3:=nd_cell nb 3 _ rfl
   have n2:=nd_cell nb 2 _ rfl
   simp only [List.getElem_toArray,List.getElem_cons_succ,List.getElem_cons_zero] at n2 n3
   by_cases hlt:16*k<nk
   ·have hlti:decide (((16*k:Nat):Int)<(nk:Int))=true:=by simp;omega
    obtain ⟨t,ht⟩:∃ t,min (16*k+16) nk=t:=⟨_,rfl⟩
    have htm:min (16*(k:Int)+16) (nk:Int)=(t:Int):=by omega
    have hw16:wrap64 (((16*k:Nat):Int)+16)=((16*k:Nat):Int)+16:=by unfold wrap64;omega
    have hKA:=Lib.hid (HA.out.k.addr (by rw [HNK.out];omega))
    have hDA:=Lib.hid (HA.out.d.addr (by rw [HND.out];omega))
    have hkc:t≤l.kc:=by have h1:=HA.out.kc;rw [HNK.out] at h1;omega
    have hdc:t≤l.dc:=by have h1:=HA.out.dc;rw [HND.out] at h1;omega
    have hkm:l.kc≤9223372036854775807:=HA.out.km
    have hdm:l.dc≤9223372036854775807:=HA.out.dm
    have hkne:¬ l.kc=16*k:=by omega
    have hdne:¬ l.dc=16*k:=by omega
    have ht16:16*k≤t:=by omega
    gi_wp2
    refine wpIn_wide.2 ?_
    have HRR:=Lib.hid (row_raise HROW.out HV.out (by decide))
    have hl1:w1.heap.size+1≤wr.heap.size:=HV.out.lt
    have g0:∀ y:SubW (w1.heap.size+1) wr,y.at_.cell? ⟨w1.heap.size,0,none⟩=some v:=fun y=>(y.ok_.cell (p:=⟨w1.heap.size,0,none⟩) (Nat.lt_succ_self _)).trans hc
    have g2:∀ y:SubW (w1.heap.size+1) wr,y.at_.cell? ⟨w.heap.size,2,none⟩=some (.slice (some ⟨aB l.KA,aO l.KA,none⟩) nk l.kc):=fun y=>((y.ok_.cell (p:=⟨w.heap.size,2,none⟩) (by have:=HS1.out;show w.heap.size<_;omega)).trans n2).trans (by rw [← hKA.out])
    have g3:∀ y:SubW (w1.heap.size+1) wr,y.at_.cell? ⟨w.heap.size,3,none⟩=some (.slice (some ⟨aB l.DA,aO l.DA,none⟩) nk l.dc):=fun y=>((y.ok_.cell (p:=⟨w.heap.size,3,none⟩) (by have:=HS1.out;show w.heap.size<_;omega)).trans n3).trans (by rw [← hDA.out])
    refine region_waysT 14 (w1.heap.size+1) hl1 (.one [0,1,2,3,4,5,6,7,8,9,10,11] 12 (.one [] 13 (.done []))) (by kernel_rfl) (by kernel_rfl) ?_
    rintro wd hbd
    have B0:=Lib.hid hbd
    clear hbd
    rw [wpWaysT_one]
    try simp only [List.map_cons,List.map_nil,opAt,List.getElem?_toArray,List.getElem?_cons_zero,List.getElem?_cons_succ,Option.getD_some]
    repeat (go_big_quiet_step (fail))
    clear g0 g2 g3
    refine wpQuiet_nil ?_
    go_wp2_with fail
    obtain ⟨wz,hwz⟩:∃ wz,wz=wd.alloc (.cells #[.bool false,.slice none 0 0,.slice (some ⟨aB l.KA,aO l.KA+16*k*2,none⟩) (t - 16*k) (l.kc - 16*k),.slice (some ⟨aB l.DA,aO l.DA+16*k,none⟩) (t - 16*k) (l.dc - 16*k)] 86):=⟨_,rfl⟩
    rw [← hwz]
    have BZ:=Lib.hid (B0.out.trans ((alloc_bel hwz).mono B0.out.size))
    have CZ:Hid (CellsAt wz (some ⟨wd.heap.size,0,none⟩) (icC l (16*k,t - 16*k))):=Lib.hid (by
     rw [hwz]
     exact fun _=>⟨_,0,rfl,fun j hj=>by
      rw [Nat.zero_add]
      exact nd_cell (heap_alloc_new wd _) j _ (by simpa [icC] using hj)⟩)
    have RZ:=Lib.hid (row_below HRR.out BZ.out)
    clear hwz
    refine ⟨⟨⟨_,BZ.out.mono hl1⟩,rfl⟩,?_⟩
    try simp only [Act.put,List.setIfInBounds_toArray,List.set_cons_zero,List.set_cons_succ]
    have HKM:Hid (k≤1000000):=Lib.hid (by omega)
    rw [wpWaysT_one]
    try simp only [List.map_cons,List.map_nil,opAt,List.getElem?_toArray,List.getElem?_cons_zero,List.getElem?_cons_succ,Option.getD_some]
    refine wpQuiet_nil ?_
    go_wp2_with (at_builtin;refine wpList_append_row rfl (.tmp 29) (.tmp 41) 82 rfl Tryz.underlying82 (.agg #[.bool false,.slice none 0 0,.slice none 0 0,.slice none 0 0]) 80 infoNodeN (by rfl) (by decide) _ rfl RZ.out (some ⟨wd.heap.size,0,none⟩) 1 1 rfl rfl CZ.out (icC_one _ _) (by have:=HKM.out;have:=HM7b.out;omega) (by have:=HKM.out;have:=HM7b.out;unfold maxLen;omega) (by have:=BZ.out.size;omega) (m7+(k+1)) (by omega) (u7 ++ (chs 16 nk k).flatMap (icC l) ++ icC l (16*k,t - 16*k)) rfl ?_;intro A1 c1 x1 R1 g1)
    have BX:Hid (Below (w1.heap.size+1) wr x1):=Lib.hid ((BZ.out.mono hl1).grown g1 (by have:=BZ.out.size;omega) (fun k hk=>(World.ownsRow.lt RZ.out k hk).1))
    have RX:=Lib.hid R1
    have HDX:Hid (x1.heap[D]?=some (.deferred (some []))):=Lib.hid (by
     have h0:=row_stays HK.out BZ.out
     exact (g1.block D (Array.getElem?_eq_some_iff.1 h0).1 (row_not_other RZ.out h0 rfl)).trans h0)
    clear R1 g1
    refine ⟨⟨⟨_,BX.out⟩,rfl⟩,?_⟩
    try simp only [Act.put,List.setIfInBounds_toArray,List.set_cons_zero,List.set_cons_succ]
    rw [wpWaysT_done]
    simp only [List.map_nil,List.drop_succ_cons,List.drop_zero]
    refine wpQuiet_nil ?_
    have HV1:Hid (Boxed x1 w1.heap.size 82 v):=Lib.hid ((BX.out.block _ (Nat.lt_succ_self _)).trans HV.out)
    have k1:=HV1.out.cell
    have k2:=HV1.out.frozen
    go_wp2_with fail
    have HQ:Hid ((16*k,t - 16*k)=(16*k,min 16 (nk - 16*k))):=Lib.hid (by rw [← ht];congr 1;omega)
    have HEND:Hid (∃ v,Boxed (x1.setCell ⟨w1.heap.size,0,none⟩ (.slice A1 (m7+(k+1)) c1)) w1.heap.size 82 v∧(x1.setCell ⟨w1.heap.size,0,none⟩ (.slice A1 (m7+(k+1)) c1)).ownsRow w1.heap.size 86 4 v (m7+(k+1)) (u7 ++ (chs 16 nk (k+1)).flatMap (icC l))∧Below w1.heap.size w1 (x1.setCell ⟨w1.heap.size,0,none⟩ (.slice A1 (m7+(k+1)) c1))∧(x1.setCell ⟨w1.heap.size,0,none⟩ (.slice A1 (m7+(k+1)) c1)).heap[D]?=some (.deferred (some []))):=Lib.hid (by
     have hD:D≠w1.heap.size:=by intro e;have h1:=HV.out;rw [← e] at h1;exact box_cells h1 HK.out rfl
     have hx:=HV1.out
     refine ⟨_,hx.set _,?_,(HB.out.trans ((BX.out.mono (Nat.le_succ _)))).setCell (p:=⟨w1.heap.size,0,none⟩) (Nat.le_refl _) _,?_⟩
     ·have h1:=(RX.out.kept (grownBy_setCell' x1 w1.heap.size (.slice A1 (m7+(k+1)) c1)) (.inr (hx.not_row (by decide) RX.out).symm))
      rw [chs_succ,List.flatMap_append,← HQ.out,← List.append_assoc]
      simp only [List.flatMap_cons,List.flatMap_nil,List.append_nil]
      exact row_mono h1 (Nat.le_succ _)
     ·rw [Below.heap_setCell x1 ⟨w1.heap.size,0,none⟩ _ D hD]
      exact HDX.out)
    clear HV1 RX BX HDX k1 k2 BZ CZ RZ B0 HRR HKM HQ
    gi_wp2
    go_roundw
    case rel=>exact ⟨k+1,by omega,by congr 1,HEND⟩
    case measure=>simp only [intOf];omega
   ·have hlti:decide (((16*k:Nat):Int)<(nk:Int))=false:=by simp;omega
    gi_wp2
    have hke:k=(nk+15) / 16:=by omega
    refine ⟨by simp,.inl ⟨_,_,rfl,run_takeDeferred HK.out,?_⟩⟩
    obtain ⟨A,c,rfl⟩:=row_form HROW.out
    have hF:(fillP n l).flatMap ndP=u7 ++ (chs 16 nk k).flatMap (icC l):=by
     rw [fillP,List.flatMap_append,HNE.out,HND.out,← lcC_parts n.es l.EA _ (by rw [HNE.out];exact chs_in' (m:=7) (by decide) (Nat.le_refl _)),HU7.out,← hke,← icC_parts n l (by rw [HNK.out,HND.out]) _ (by rw [HND.out];exact chs_in' (m:=16) (by decide) hk)]
    have hL:(fillP n l).length=m7+k:=by
     rw [fillP,List.length_append,List.length_map,List.length_map,HNE.out,HND.out,HM7.out,chs_length,hke]
    refine ⟨_,results_tmp rfl _ _ _,⟨A,c,by rw [hL];rfl,?_⟩,?_⟩
    ·rw [hL,hF]
     exact row_mono (ownsRow_putObj HROW.out _ HK.out rfl) (by have:=HS1.out;omega)
    ·have hb:Below w.heap.size w w1:=by rw [HW1.out];exact (Below.refl _ _).alloc (Nat.le_refl _) _
     exact (hb.trans (HB.out.mono hb.size)).trans (belowK_b (w:=w1) (by have:=hb.size;omega) wr D _ _ (by have:=HD.out;simp at this;omega) HK.out rfl rfl)
 case stop =>
  rintro D c pre W _ _ h _
  exact h.elim
end Go.Proofs.YtgkddhncfaeidaaGreat
namespace Go.Proofs.YtgkddhncfaeidaaGreat
open Go.ChangeShapes Go.WideShapes Go.ChangeAt Go.RowKit CrcM PageM
def ordI (a b:KeyD):Int:=if lessB a b=true then -1 else if lessB b a=true then 1 else 0
theorem ordI_neg {a b:KeyD}:ordI a b<0 ↔ lessB a b=true:=by
 unfold ordI
 by_cases h:lessB a b=true
 ·simp [h]
 ·rw [if_neg h]
  by_cases h2:lessB b a=true <;> simp [h,h2]
theorem lessB_iff {a b:KeyD}:lessB a b=true ↔ a.se<b.se∨a.se=b.se∧a.st<b.st:=by simp [lessB]
theorem ordI_zero {a b:KeyD}:ordI a b=0 ↔ a=b:=by
 unfold ordI
 by_cases h:lessB a b=true
 ·rw [if_pos h]
  constructor
  ·intro h0;cases h0
  ·rintro rfl
   rw [lessB_iff] at h
   omega
 ·rw [if_neg h]
  by_cases h2:lessB b a=true
  ·rw [if_pos h2]
   constructor
   ·intro h0;cases h0
   ·rintro rfl
    exact absurd h2 h
  ·rw [if_neg h2]
   refine ⟨fun _=>?_,fun _=>rfl⟩
   rw [lessB_iff] at h h2
   cases a;cases b
   simp only at h h2
   congr 1 <;> omega
theorem order_any (a b:KeyD) (w:World) :
 Calls Tryz.prog 87 #[.agg #[.int .i64 a.se,.int .i64 a.st],.agg #[.int .i64 b.se,.int .i64 b.st]] w fun e w'=>e=.returned (.int .i64 (ordI a b))∧Below w.heap.size w w':=by
 obtain ⟨w1,hw1⟩:∃ w1,w1=(w.alloc (.cells #[.int .i64 a.se,.int .i64 a.st] 38)).alloc (.cells #[.int .i64 b.se,.int .i64 b.st] 38):=⟨_,rfl⟩
 have G1:Hid (w1.heap[w.heap.size]?=some (.cells #[.int .i64 a.se,.int .i64 a.st] 38 (0,0))):=Lib.hid (by rw [hw1];exact heap_alloc2_old _ _ _)
 have G2:Hid (w1.heap[w.heap.size+1]?=some (.cells #[.int .i64 b.se,.int .i64 b.st] 38 (0,0))):=Lib.hid (by rw [hw1];exact heap_alloc2_new _ _ _)
 have B1:Hid (Below w.heap.size w w1):=Lib.hid (by rw [hw1];exact below_two (Below.refl _ _))
 have HW1:=Lib.hid hw1
 clear hw1
 go_enter Tryz.func87,Tryz.ntmps87
 go_upto_region 1 with fail
 rw [← HW1.out]
 clear HW1
 obtain ⟨la,hla⟩:∃ la,la=lessB a b:=⟨_,rfl⟩
 obtain ⟨lb,hlb⟩:∃ lb,lb=lessB b a:=⟨_,rfl⟩
 have HLA:Hid (Calls Tryz.prog 111 #[.agg #[.int .i64 a.se,.int .i64 a.st],.agg #[.int .i64 b.se,.int .i64 b.st]] w1 fun e w'=>e=.returned (.bool la)∧Below w1.heap.size w1 w'):=Lib.hid (by rw [hla];exact less_any a b w1)
 have HLB:Hid (∀ W,Calls Tryz.prog 111 #[.agg #[.int .i64 b.se,.int .i64 b.st],.agg #[.int .i64 a.se,.int .i64 a.st]] W fun e w'=>e=.returned (.bool lb)∧Below W.heap.size W w'):=Lib.hid (fun W=>by rw [hlb];exact less_any b a W)
 have HO:Hid (ordI a b=if la=true then -1 else if lb=true then 1 else 0):=Lib.hid (by rw [hla,hlb];rfl)
 clear hla hlb
 cases la
 ·cases lb
  ·go_wp2_with (first
    | (have hq:=G1;clear hq;refine wpList_load_row rfl 38 (.tmp 2) rfl w.heap.size rfl 38 _ (0,0) _ G1.out Tryz.underlying38 rfl (by kernel_rfl) ?_)
    | (have hq:=G1;clear hq;refine wpList_load_row rfl 38 (.tmp 3) rfl (w.heap.size+1) rfl 38 _ (0,0) _ G2.out Tryz.underlying38 rfl (by kernel_rfl) ?_)
    | (refine wpList_load_row rfl 38 (.tmp 3) rfl (w.heap.size+1) rfl 38 _ (0,0) _ H2.out Tryz.underlying38 rfl (by kernel_rfl) ?_)
    | (refine wpList_load_row rfl 38 (.tmp 2) rfl w.heap.size rfl 38 _ (0,0) _ H1.out Tryz.underlying38 rfl (by kernel_rfl) ?_)
    | (have hq:=HLA;clear hq;go_at_call 111;refine HLA.out.mono ?_;clear HLA;rintro e w2 ⟨rfl,hb⟩;have B2:=Lib.hid (B1.out.trans (hb.mono B1.out.size));have H1:=Lib.hid (row_stays G1.out hb);have H2:=Lib.hid (row_stays G2.out hb);clear hb G1 G2)
    | (have hq:=H1;clear hq;go_at_call 111;refine (HLB.out _).mono ?_;rintro e w3 ⟨rfl,hb⟩;have B3:=Lib.hid (B2.out.trans (hb.mono B2.out.size));clear hb))
   go_ret
   exact ⟨by rw [HO.out];rfl,B3.out⟩
  ·go_wp2_with (first
    | (have hq:=G1;clear hq;refine wpList_load_row rfl 38 (.tmp 2) rfl w.heap.size rfl 38 _ (0,0) _ G1.out Tryz.underlying38 rfl (by kernel_rfl) ?_)
    | (have hq:=G1;clear hq;refine wpList_load_row rfl 38 (.tmp 3) rfl (w.heap.size+1) rfl 38 _ (0,0) _ G2.out Tryz.underlying38 rfl (by kernel_rfl) ?_)
    | (refine wpList_load_row rfl 38 (.tmp 3) rfl (w.heap.size+1) rfl 38 _ (0,0) _ H2.out Tryz.underlying38 rfl (by kernel_rfl) ?_)
    | (refine wpList_load_row rfl 38 (.tmp 2) rfl w.heap.size rfl 38 _ (0,0) _ H1.out Tryz.underlying38 rfl (by kernel_rfl) ?_)
    | (have hq:=HLA;clear hq;go_at_call 111;refine HLA.out.mono ?_;clear HLA;rintro e w2 ⟨rfl,hb⟩;have B2:=Lib.hid (B1.out.trans (hb.mono B1.out.size));have H1:=Lib.hid (row_stays G1.out hb);have H2:=Lib.hid (row_stays G2.out hb);clear hb G1 G2)
    | (have hq:=H1;clear hq;go_at_call 111;refine (HLB.out _).mono ?_;rintro e w3 ⟨rfl,hb⟩;have B3:=Lib.hid (B2.out.trans (hb.mono B2.out.size));clear hb))
   go_ret
   exact ⟨by rw [HO.out];rfl,B3.out⟩
 ·go_wp2_with (first
   | (refine wpList_load_row rfl 38 (.tmp 2) rfl w.heap.size rfl 38 _ (0,0) _ G1.out Tryz.underlying38 rfl (by kernel_rfl) ?_)
   | (refine wpList_load_row rfl 38 (.tmp 3) rfl (w.heap.size+1) rfl 38 _ (0,0) _ G2.out Tryz.underlying38 rfl (by kernel_rfl) ?_)
   | (go_at_call 111;refine HLA.out.mono ?_;rintro e w2 ⟨rfl,hb⟩;have B2:=Lib.hid (B1.out.trans (hb.mono B1.out.size));clear hb))
  go_ret
  exact ⟨by rw [HO.out];rfl,B2.out⟩
theorem place1_any (x:EntD) (k:KeyD) (w:World) :
 Calls Tryz.prog 86 #[.agg #[.int .i64 x.se,.int .i64 x.st,.int .i64 x.en,.int .i64 x.ad,.int .i64 x.le,.int .i64 x.cn,.int .i64 x.co,.int .u32 x.cr],.agg #[.int .i64 k.se,.int .i64 k.st]] w fun e w'=>e=.returned (.int .i64 (ordI x.key k))∧Below w.heap.size w w':=by
 obtain ⟨w1,hw1⟩:∃ w1,w1=(w.alloc (.cells #[.int .i64 x.se,.int .i64 x.st,.int .i64 x.en,.int .i64 x.ad,.int .i64 x.le,.int .i64 x.cn,.int .i64 x.co,.int .u32 x.cr] 40)).alloc (.cells #[.int .i64 k.se,.int .i64 k.st] 38):=⟨_,rfl⟩
 have G1:Hid (w1.heap[w.heap.size]?=some (.cells #[.int .i64 x.se,.int .i64 x.st,.int .i64 x.en,.int .i64 x.ad,.int .i64 x.le,.int .i64 x.cn,.int .i64 x.co,.int .u32 x.cr] 40 (0,0))):=Lib.hid (by rw [hw1];exact heap_alloc2_old _ _ _)
 have G2:Hid (w1.heap[w.heap.size+1]?=some (.cells #[.int .i64 k.se,.int .i64 k.st] 38 (0,0))):=Lib.hid (by rw [hw1];exact heap_alloc2_new _ _ _)
 have B1:Hid (Below w.heap.size w w1):=Lib.hid (by rw [hw1];exact below_two (Below.refl _ _))
 have HW1:=Lib.hid hw1
 have HO:Hid (Calls Tryz.prog 87 #[.agg #[.int .i64 x.se,.int .i64 x.st],.agg #[.int .i64 k.se,.int .i64 k.st]] w1 fun e w'=>e=.returned (.int .i64 (ordI x.key k))∧Below w1.heap.size w1 w'):=Lib.hid (order_any x.key k w1)
 clear hw1
 go_enter Tryz.func86,Tryz.ntmps86
 go_upto_region 1 with fail
 rw [← HW1.out]
 clear HW1
 have z0:=nd_cell G1.out 0 (.int .i64 x.se) rfl
 have z1:=nd_cell G1.out 1 (.int .i64 x.st) rfl
 go_wp2_with (first
  | (refine wpList_load_row rfl 38 (.tmp 3) rfl (w.heap.size+1) rfl 38 _ (0,0) _ G2.out Tryz.underlying38 rfl (by kernel_rfl) ?_)
  | (go_at_call 87;refine HO.out.mono ?_;rintro e w2 ⟨rfl,hb⟩;have B2:=Lib.hid (B1.out.trans (hb.mono B1.out.size));clear hb))
 go_ret
 exact ⟨rfl,B2.out⟩
end Go.Proofs.YtgkddhncfaeidaaGreat
