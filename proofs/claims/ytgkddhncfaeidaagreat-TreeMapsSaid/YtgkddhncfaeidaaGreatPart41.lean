/- Squeezed: the texts as they are written lie in wip/tpl. -/
import Derived.Test.YtgkddhncfaeidaaGreatPart40
import Derived.Test.YtgkddhncfaeidaaGreatPart21
import Derived.Test.YtgkddhncfaeidaaGreatPart24
import Derived.Test.YtgkddhncfaeidaaGreatPart25
import Derived.Test.YtgkddhncfaeidaaGreatPart27
import Derived.Test.YtgkddhncfaeidaaGreatPart39
import Derived.Test.YtgkddhncfaeidaaGreatPart04
import Derived.Test.YtgkddhncfaeidaaGreatTiWy
set_option maxRecDepth 100000
set_option maxHeartbeats 8000000
set_option linter.unnecessarySimpa false
set_option linter.unusedSimpArgs false
set_option linter.unusedVariables false
namespace Go.Proofs.YtgkddhncfaeidaaGreat
open Go.RowKit Go.ChangeShapes Go.WideShapes Go.ChangeAt CrcM PageM
def entM (i:Nat):EntD:=⟨0,((7*i:Nat):Int),((7*i:Nat):Int),3,2,1,1,1⟩
def entsM (k:Nat):List EntD:=(List.range k).map entM
theorem entsM_len (k:Nat):(entsM k).length=k:=by simp [entsM]
theorem entsM_succ (k:Nat):entsM (k+1)=entsM k ++ [entM k]:=by simp [entsM,List.range_succ]
theorem entM_ok {i:Nat} (hi:i<100):okEnt (entM i):=by
 refine ⟨⟨by simp [entM],by simp [entM]⟩,by simp only [entM];omega,by simp only [entM];omega,by simp only [entM];omega,⟨by simp only [entM];omega,by simp only [entM];omega⟩,by simp only [entM];omega,by simp only [entM];omega,by simp only [entM];omega,by simp only [entM];omega,by simp only [entM];omega⟩
theorem entM_in {i:Nat} (hi:i<100):inEnt (entM i):=by
 refine ⟨⟨?_,?_⟩,⟨?_,?_⟩,?_,?_⟩ <;> simp only [entM] <;> omega
theorem entM_less {i j:Nat} (h:i<j):apartB (entM i) (entM j)=true:=by
 have h1:((7*i:Nat):Int)<((7*j:Nat):Int):=by omega
 unfold apartB
 have e1:lessB (entM i).key (entM j).key=true:=lessB_iff.2 (.inr ⟨rfl,h1⟩)
 have e2:decide ((entM i).en<(entM j).st)=true:=decide_eq_true h1
 rw [e1,e2,Bool.or_true]
 rfl
theorem entsM_apart {k:Nat}:∀ x ∈ entsM k,apartB x (entM k)=true:=fun x hx=>by
 obtain ⟨i,hi,rfl⟩:=List.mem_map.1 hx
 exact entM_less (List.mem_range.1 hi)
theorem entsM_good {k:Nat} (hk:k≤100):GoodE (entsM k):=by
 refine ⟨?_,fun e he=>?_⟩
 ·unfold Apt
  refine List.pairwise_iff_getElem.2 fun i j hi hj hij=>?_
  simp only [entsM,List.getElem_map,List.getElem_range]
  exact entM_less hij
 ·obtain ⟨i,hi,rfl⟩:=List.mem_map.1 he
  have:=List.mem_range.1 hi
  exact ⟨entM_ok (by omega),entM_in (by omega)⟩
theorem act_entryM (i:Nat) (hi:i<100) (w:World) :
 Calls Tryz.prog 8 #[.agg #[.int .i64 0,.int .i64 0,.int .i64 ((7*i:Nat):Int),.int .i64 0,.int .i64 1]] w fun e w'=>e=.returned (.agg (enC (entM i)).toArray)∧Below w.heap.size w w':=by
 obtain ⟨t,ht⟩:∃ t,t=7*i:=⟨_,rfl⟩
 have ht3:t≤693:=by omega
 have e2:(t:Int) % 1000=(t:Int):=by omega
 have hC:enC (entM i)=[.int .i64 0,.int .i64 (t:Int),.int .i64 (t:Int),.int .i64 3,.int .i64 2,.int .i64 1,.int .i64 1,.int .u32 1]:=by
  rw [ht]
  rfl
 rw [hC,← ht]
 clear ht hC
 go_enter Tryz.func8,Tryz.ntmps8
 go_upto_region 2 with fail
 go_wp2_with fail
 refine bodyPost_ret (v:=.agg #[.int .i64 0,.int .i64 (t:Int),.int .i64 (t:Int),.int .i64 3,.int .i64 2,.int .i64 1,.int .i64 1,.int .u32 1]) (results_cell_row (p:=2) (ty:=34) rfl _ _ (w.heap.size+1) 34 _ (0,0) _ rfl (heap_alloc2_new _ _ _) Tryz.underlying34 rfl (by kernel_rfl)) rfl ⟨rfl,below_two (Below.refl _ _)⟩
theorem filter_one_less {X:List Nat} (hX:X.Nodup) (a:Nat):X.length≤(X.filter (fun x=>decide (x≠a))).length+1:=by
 induction X with
 | nil=>simp
 | cons x X ih =>
   have h:=List.nodup_cons.1 hX
   by_cases hx:x=a
   ·subst hx
    have h1:X.filter (fun y=>decide (y≠x))=X:=List.filter_eq_self.2 (fun y hy=>decide_eq_true (fun e=>h.1 (e ▸ hy)))
    rw [List.filter_cons_of_neg (by simp),h1]
    simp
   ·rw [List.filter_cons_of_pos (by simp [hx])]
    have:=ih h.2
    simp only [List.length_cons]
    omega
theorem filter_less:∀ (W X:List Nat),X.Nodup→X.length≤(X.filter (fun x=>decide (x ∉ W))).length+W.length
 | [],X,_=>by
   rw [List.filter_eq_self.2 (fun y _=>by simp)]
   simp
 | a :: W,X,hX=>by
   have h1:=filter_less W X hX
   have h2:=filter_one_less (hX.sublist List.filter_sublist) a (X:=X.filter (fun x=>decide (x ∉ W)))
   have h3:(X.filter (fun x=>decide (x ∉ W))).filter (fun x=>decide (x≠a))=X.filter (fun x=>decide (x ∉ a :: W)):=by
    rw [List.filter_filter]
    refine List.filter_congr (fun x _=>?_)
    simp [not_or]
   rw [h3] at h2
   rw [List.length_cons]
   omega
theorem room_list {p n:Nat} {U V:List Bool} {W:List Nat} (hV:V.length=512) (hp:p≤512) (hW:∀ b,b<p→U.getD b false=true∨V.getD b false=true→b ∈ W) (hc:W.length+n≤p):RoomP p (orK U V 512) U n:=by
 have h1:=filter_less W (List.range p) List.nodup_range
 rw [List.length_range] at h1
 refine ⟨((List.range p).filter (fun x=>decide (x ∉ W))).take n,by rw [List.length_take];omega,(List.nodup_range.sublist List.filter_sublist).sublist (List.take_sublist _ _),fun a ha=>?_⟩
 have h2:=List.mem_filter.1 (List.mem_of_mem_take ha)
 have h3:=List.mem_range.1 h2.1
 have h4:a ∉ W:=of_decide_eq_true h2.2
 have hU:U.getD a false=false:=by
  cases h5:U.getD a false with
  | false=>rfl
  | true=>exact absurd (hW a h3 (.inl h5)) h4
 have hV2:V.getD a false=false:=by
  cases h5:V.getD a false with
  | false=>rfl
  | true=>exact absurd (hW a h3 (.inr h5)) h4
 refine fits_one.2 ⟨by omega,hU,?_⟩
 rw [getD_orK _ _ _ _ (by rw [hV];exact Nat.le_refl _),if_pos (by omega),hU,hV2]
 rfl
structure MapU (M:List Bool) (S:List Nat):Prop where
 len:M.length=512
 use:∀ b,M.getD b false=true ↔ b<2∨b ∈ S
 rng:∀ b ∈ S,2≤b∧b<100
theorem MapU.zero:MapU map0 []:=⟨length_map0,fun b=>by rw [get_map0];simp,fun b hb=>by cases hb⟩
theorem MapU.put {M:List Bool} {S:List Nat} (h:MapU M S) {k:Nat} (h2:2≤k) (h1:k<100):MapU (M.set k true) (k :: S):=by
 refine ⟨by rw [List.length_set];exact h.len,fun b=>?_,fun b hb=>?_⟩
 ·rw [getD_set' _ _ _ _ (by rw [h.len];omega)]
  by_cases hb:b=k
  ·simp [hb]
  ·rw [if_neg hb,h.use b]
   simp [hb]
 ·rcases List.mem_cons.1 hb with rfl | hb
  ·exact ⟨h2,h1⟩
  ·exact h.rng b hb
theorem MapU.ok {M:List Bool} {S:List Nat} (h:MapU M S):okM ((100:Nat):Int) M:=by
 refine ⟨by decide,by decide,fun j hj=>?_⟩
 have hu:=h.use j
 unfold okAt
 by_cases h2:j<2
 ·have:M.getD j false=true:=hu.2 (.inl h2)
  rw [this]
  simp
  omega
 ·by_cases h3:M.getD j false=true
  ·rw [h3]
   have h4:=(h.rng j ((hu.1 h3).resolve_left h2)).2
   simp
   omega
  ·simp at h3
   simp [h3]
   omega
structure InsM (w:World) (gv g B N gs gn cs cn:Nat) (rw:Value) (st nw:List UInt8) (ws:List (Nat × List UInt8)) (M U:List Bool) (S:List Nat) (a hh k:Nat) (pg:List Nat):Prop where
 view:ViewAt w gv g 1 ((100:Nat):Int) U map0
 disk:Dk w B N g gs gn rw 25600 cs cn st nw ws true (-1)
 map:MapU M S
 cnt:S.length≤30
 len:U.length=512
 ok:okM ((100:Nat):Int) U
 shp:Shp (rdQ nw 25600) a hh (entsM k) pg
 use:UseS 100 M U pg
 wait:ws.length≤12*k
theorem shp_len {rq:Nat→NodeD→Prop} {a hh:Nat} {es:List EntD} {pg:List Nat} (h:Shp rq a hh es pg):4*pg.length≤es.length+8:=by
 rcases h with ⟨h1,h2,h3⟩ | ⟨h1,h2,h3,h4,h5⟩ | ⟨h1,ps,b,l,h2,h3,h4,h5,h6,h7,h8,h9⟩
 ·rw [h3];simp
 ·rw [h5];simp
 ·have:∀ qs:List (Nat × List EntD),(∀ x ∈ qs,x.2.length=4)→(qs.flatMap Prod.snd).length=4*qs.length:=fun qs=>by
   induction qs with
   | nil=>intro _;rfl
   | cons q qs ih =>
     intro hq
     rw [List.flatMap_cons,List.length_append,ih (fun x hx=>hq x (List.mem_cons_of_mem _ hx)),hq q (List.mem_cons_self ..),List.length_cons]
     omega
  rw [h8,h9,List.length_append,this ps (fun x hx=>(h3 x hx).2)]
  simp only [List.length_cons,List.length_map]
  omega
theorem InsM.room {w:World} {gv g B N gs gn cs cn:Nat} {rw:Value} {st nw:List UInt8} {ws:List (Nat × List UInt8)} {M U:List Bool} {S:List Nat} {a hh k:Nat} {pg:List Nat} (h:InsM w gv g B N gs gn cs cn rw st nw ws M U S a hh k pg) (hk:k≤60):RoomP 100 (orK U map0 512) U 5:=by
 refine room_list (W:=0 :: 1 :: (S ++ pg)) length_map0 (by decide) (fun b hb hu=>?_) ?_
 ·rcases hu with hu | hu
  ·rcases (h.use.use b).1 hu with h1 | h1
   ·rcases (h.map.use b).1 h1 with h2 | h2
    ·simp only [List.mem_cons,List.mem_append]
     omega
    ·simp only [List.mem_cons,List.mem_append]
     exact .inr (.inr (.inl h2))
   ·simp only [List.mem_cons,List.mem_append]
    exact .inr (.inr (.inr h1))
  ·rw [get_map0] at hu
   have:=of_decide_eq_true hu
   simp only [List.mem_cons,List.mem_append]
   omega
 ·have h1:=shp_len h.shp
  have h2:=h.cnt
  rw [entsM_len] at h1
  simp only [List.length_cons,List.length_append]
  omega
theorem ins_edge {gv g B N gs gn cs cn:Nat} {rw:Value} {st nw:List UInt8} {ws:List (Nat × List UInt8)} {M U:List Bool} {S:List Nat} {a hh k:Nat} {pg:List Nat} (w:World) (h:InsM w gv g B N gs gn cs cn rw st nw ws M U S a hh k pg) (hk:k≤59) :
 Calls Tryz.prog 17 #[.pointer (some ⟨gv,0,none⟩),.agg #[.int .i64 (a:Int),.int .i64 (hh:Int)],.agg (enC (entM k)).toArray] w fun e' w'=>∃ (a' hh':Nat) (U':List Bool) (pg':List Nat) (rw':Value) (nw':List UInt8) (ws':List (Nat × List UInt8)),e'=.returned (.tuple #[.agg #[.int .i64 (a':Int),.int .i64 (hh':Int)],.int .i64 0])∧InsM w' gv g B w'.heap.size gs gn cs cn rw' st nw' ws' M U' S a' hh' (k+1) pg'∧OuterX (fun j=>DkX g gn rw j∨j=gv) w w':=by
 have hroom:=h.room (by omega)
 have okV:okM ((100:Nat):Int) map0:=MapU.zero.ok
 cases hh with
 | zero =>
   have hk0:entsM k=[]∧pg=[]:=by
    rcases h.shp with ⟨_,h2,h3⟩ | ⟨h1,_⟩ | ⟨h1,_⟩
    ·exact ⟨h2,h3⟩
    ·cases h1
    ·cases h1
   obtain rfl:k=0:=by
    have:=congrArg List.length hk0.1
    rw [entsM_len] at this
    exact this
   obtain ⟨hkk,rfl⟩:=hk0
   have hfit:FitU 100 (orK U map0 512) U 5 []:=⟨h.len,h.ok,hroom,List.nodup_nil,fun b hb=>by cases hb⟩
   obtain ⟨qs,z1,z2,z3⟩:=(hfit.less (k:=1+4) (by omega)).picks
   obtain ⟨b,rfl⟩:∃ b,qs=[b]:=by
    match qs,z1 with
    | [b],_=>exact ⟨b,rfl⟩
   rw [List.nil_append] at z3
   have hb:=z3.laid.2 b (List.mem_singleton.2 rfl)
   refine (insert_first gv g 1 100 U map0 h.len length_map0 h.ok okV (by decide) (entM 0) (entM_ok (by omega)) (a:Int) b z2 (by omega) (by have:=h.wait;omega) w h.view h.disk).mono ?_
   rintro e' w' ⟨rfl,Lx,hLx,hw⟩
   obtain ⟨lx,rfl⟩:∃ lx,Lx=[(b,(lfD [entM 0],lx))]:=by
    match Lx,hLx with
    | [(b',(n',l'))],hLx =>
      simp [strip] at hLx
      obtain ⟨rfl,rfl⟩:=hLx
      exact ⟨l',rfl⟩
   obtain ⟨rw',ws',nw',k1,k2,k3,k4⟩:=hw.disk
   have hE:GoodE [entM 0]:=by have:=entsM_good (k:=1) (by omega);simpa [entsM] using this
   have hgd:okNode (lfD [entM 0])∧inNode (lfD [entM 0]):=ok_tre (rn:=fun _ _=>False) (h:=0) (fun _ _ _ h=>h.elim) (fun _ _ h=>h.elim) ⟨rfl,rfl,rfl,rfl⟩ hE (by decide) (by decide)
   have hread:=rdL_read (V:=orK U map0 512) (rd:=fun _ _=>False) (p:=100) (Ls:=25600) (gen:=1) (nw:=nw) (fun a n h=>h.elim) (by simpa using z3.laid) (fun x hx=>by rw [List.mem_singleton.1 hx];exact hgd) (by decide) (by decide) k3
   refine ⟨b,1,marks U [b],[b],rw',nw',ws',rfl,⟨hw.view,k1,h.map,h.cnt,z3.len,z3.ok,.inr (.inl ⟨rfl,?_,by simp [entsM],by simp [entsM],rfl⟩),?_,?_⟩,hw.out⟩
   ·have h1:=hread b (lfD [entM 0]) (.inr ⟨lx,List.mem_singleton.2 rfl⟩)
    simpa [entsM] using h1
   ·exact h.use.next (G:=[]) (Q:=[b]) h.len length_map0 (by decide) rfl (fun c hc=>by cases hc) (fun c=>by simp) z3.laid (fun _=>by simp)
   ·rw [k2]
    have:=h.wait
    simp
    omega
 | succ h' =>
   obtain ⟨nr,hr,ht,h1,h1e⟩:=h.shp.tre h.use
   have hup:∀ x ∈ entsM k,lessB x.key (entM k).key=true:=fun x hx=>apt_less (entsM_apart x hx)
   have hrm:RoomP 100 (orK U map0 512) U (2*h'+3):=hroom.less (by omega)
   have ec:((h'+1:Nat):Int)=(h':Int)+1:=by omega
   rw [ec]
   refine (insert_last gv g 1 100 a h' U map0 nr (entsM k) (entM k) hr ht (by omega) h1e (entsM_good (by omega)) ⟨entM_ok (by omega),entM_in (by omega)⟩ entsM_apart h.len length_map0 h.ok okV hrm (by decide) (by have:=h.wait;omega) (by decide) w h.view h.disk).mono ?_
   rintro e' w' ⟨a',hh',U',L,rfl,hw,hi⟩
   obtain ⟨rw',ws',nw',k1,k2,k3,k4⟩:=hw.disk
   obtain ⟨s1,pg',s2,s3⟩:=edge_step h.shp h.use h.len length_map0 (by decide) hr ht hup hi k3 (by rw [entsM_len];omega)
   rw [← entsM_succ] at s2
   exact ⟨a',hh',U',pg',rw',nw',ws',rfl,⟨hw.view,k1,h.map,h.cnt,hi.fit.len,hi.fit.ok,s2,s3,by rw [k2];have:=h.wait;omega⟩,hw.out⟩
def Gb (ga:Nat) (w:World) (k:Nat):Prop:=∃ (A:Option Addr) (n c:Nat) (fr:Nat × Nat),w.heap[ga]?=some (.cells #[.slice A n c] 59 fr)∧A.map (·.block)=some k
structure FrP (ga b:Nat) (w w1:World):Prop where
 os:w1.os=w.os
 tape:w1.tape=w.tape
 output:w1.output=w.output
 size:w.heap.size≤w1.heap.size
 kept:∀ k,k<w.heap.size→k≠ga→¬ Gb ga w k→w1.heap[k]?=w.heap[k]?
 mov:∀ k,Gb ga w1 k→Gb ga w k∨w.heap.size≤k
 old:∀ k,k<b→w1.heap[k]?=w.heap[k]?
theorem FrP.of_below {ga b:Nat} {w w1:World} (h:Below w.heap.size w w1) (hb:b≤w.heap.size) (hg:ga<w.heap.size):FrP ga b w w1:=⟨h.os,h.tape,h.output,h.size,fun k hk _ _=>h.block k hk,fun k ⟨A,n,c,fr,h1,h2⟩=>.inl ⟨A,n,c,fr,(h.block ga hg).symm.trans h1,h2⟩,fun k hk=>h.block k (Nat.lt_of_lt_of_le hk hb)⟩
theorem FrP.trans {ga b:Nat} {w w1 w2:World} (h:FrP ga b w w1) (h2:FrP ga b w1 w2):FrP ga b w w2:=⟨h2.os.trans h.os,h2.tape.trans h.tape,h2.output.trans h.output,Nat.le_trans h.size h2.size,fun k hk h3 h4=>by
 refine (h2.kept k (Nat.lt_of_lt_of_le hk h.size) h3 (fun h5=>?_)).trans (h.kept k hk h3 h4)
 rcases h.mov k h5 with h6 | h6
 ·exact h4 h6
 ·omega,fun k hk=>by
 rcases h2.mov k hk with h3 | h3
 ·exact h.mov k h3
 ·exact .inr (Nat.le_trans h.size h3),fun k hk=>(h2.old k hk).trans (h.old k hk)⟩
def GaP (ga base:Nat) (s:List Int) (W:World):Prop:=(base≤W.heap.size∧base≤ga)∧∃ A c,W.heap[ga]?=some (.cells #[.slice A s.length c] 59 (0,0))∧W.ownsRow base 3 1 (.slice A s.length c) s.length (s.map kdC)
theorem GaP.below {ga base:Nat} {s:List Int} {W W':World} (h:GaP ga base s W) (hb:Below W.heap.size W W'):GaP ga base s W':=by
 obtain ⟨h0,A,c,h1,h2⟩:=h
 exact ⟨⟨Nat.le_trans h0.1 hb.size,h0.2⟩,A,c,row_stays h1 hb,row_below h2 hb⟩
theorem GaP.lt {ga base:Nat} {s:List Int} {W:World} (h:GaP ga base s W):ga<W.heap.size:=by
 obtain ⟨_,A,c,h1,_⟩:=h
 exact (Array.getElem?_eq_some_iff.1 h1).1
theorem GaP.gb {ga base:Nat} {s:List Int} {W:World} (h:GaP ga base s W) {k:Nat} (hk:Gb ga W k):k<W.heap.size∧base≤k∧∃ cs fr,W.heap[k]?=some (.cells cs 3 fr):=by
 obtain ⟨_,A,c,h1,h2⟩:=h
 obtain ⟨A',n,c',fr,h3,h4⟩:=hk
 rw [h1] at h3
 cases h3
 rcases h2.2 with ⟨e0,_⟩ | ⟨q,cap,cur,hv,hb,hq,_⟩
 ·injection e0 with e1 _ _
  rw [e1] at h4
  cases h4
 ·injection hv with e1 _ _
  rw [e1] at h4
  obtain rfl:q=k:=by simpa using h4
  exact ⟨(Array.getElem?_eq_some_iff.1 hq).1,hb,_,_,hq⟩
theorem FrP.heap {ga b base:Nat} {s:List Int} {w w1:World} (h:FrP ga b w w1) (hg:GaP ga base s w) {k:Nat} {cs:Array Value} {T:TypeId} {fr:Nat × Nat} (hk:w.heap[k]?=some (.cells cs T fr)) (h3:T≠3) (h4:T≠59):w1.heap[k]?=some (.cells cs T fr):=by
 refine (h.kept k (Array.getElem?_eq_some_iff.1 hk).1 (fun e=>?_) (fun hb=>?_)).trans hk
 ·obtain ⟨_,A,c,h1,_⟩:=hg
  rw [e,h1] at hk
  cases hk
  exact h4 rfl
 ·obtain ⟨_,_,cs',fr',h5⟩:=hg.gb hb
  rw [h5] at hk
  cases hk
  exact h3 rfl
theorem FrP.dk {ga b base:Nat} {s:List Int} {w w1:World} (hk:FrP ga b w w1) (hg:GaP ga base s w) {B N g gs gn Ls cs cn:Nat} {rw:Value} {st nw:List UInt8} {ws:List (Nat × List UInt8)} (d:Dk w B N g gs gn rw Ls cs cn st nw ws true (-1)):Dk w1 B N g gs gn rw Ls cs cn st nw ws true (-1):=by
 have tn:=d.tyN
 obtain ⟨curN,hcN⟩:=tn
 obtain ⟨_,_,_,curS,hcS,_⟩:=d.stay.parts
 have hh:∀ {k:Nat} {cs:Array Value} {T:TypeId} {fr:Nat × Nat},w.heap[k]?=some (.cells cs T fr)→T≠3→T≠59→w1.heap[k]?=w.heap[k]?:=fun h1 h2 h3=>(hk.heap hg h1 h2 h3).trans h1.symm
 exact d.keepX hk.size (hh d.head (by decide) (by decide)) (hh hcS (by decide) (by decide)) (hh hcN (by decide) (by decide)) (fun k e=>by
  rcases d.wait.2 with ⟨e0,_⟩ | ⟨q,cap,cur,hv,_,hq,_⟩
  ·rw [e0] at e
   simp [Value.ownBlock] at e
  ·rw [hv] at e
   obtain rfl:q=k:=by simpa [Value.ownBlock] using e
   exact hh hq (by decide) (by decide))
section
variable {P:Program} {w:World} {base sz n:Nat} {E:TypeId} {us vs:List Value}
theorem wpList_append_rowM {ops:Array Oper} {rest:List Oper} {o:Oper} {a:Act} {Q:Exit→Act→World→Prop} (hgd:o.guard=none) (s x:Operand) (t:TypeId)
 (ho:o.op=.call { callee:=.builtin .append,args:=#[s,x],argTypes:=#[t,t] }) (ht:P.underlying t=some (.slice E)) (z:Value) (bytes:Nat) (hi:(P.info? E).map (fun i=>(i.zero,i.size,i.bytes))=some (some z,sz,bytes)) (hz1:z.cells.size=sz) (hsz:0<sz)
 (v:Value) (hs:a.eval s=v) (hown:w.ownsRow base E sz v n us) (A:Option Addr) (c m:Nat) (hx:a.eval x=.slice A m c) (hm:vs.length=m*sz) (hne:vs≠[]) (hA:CellsAt w A vs) (h1:∀ u ∈ vs,u.oneCell'=true)
 (hl:(n+m)*bytes≤140737488355328) (h63:n+m≤maxLen) (hbase:base≤w.heap.size) (k:Nat) (hk:n+m=k) (zs:List Value) (hzs:us ++ vs=zs)
 (h:∀ A' c' w',w'.ownsRow base E sz (.slice A' k c') k zs→w.grownBy w' v.ownBlock→((Value.slice A' k c').ownBlock=v.ownBlock∨(Value.slice A' k c').ownBlock=some w.heap.size)→wpList P ops Q rest (a.put o.dst (.slice A' k c')) w'):wpList P ops Q (o :: rest) a w :=
 wpList_plain hgd fun _ hK=>by
  subst hk hzs
  obtain ⟨i,hi0,hz,hss,hb⟩:=info_parts hi
  obtain ⟨ad,rfl,hc⟩:=hA.cells hne
  obtain ⟨v',w',hr,h2,h3,_,h5⟩:=run_append_own_at (P:=P) w base t o.type E i z sz bytes ht hi0 hz hss hb hz1 hsz v n us hown ad m c vs hm hc h1 h63 hl hbase
  rcases row_cases h2 with ⟨_,_,h4⟩ | ⟨g',cap',rfl,_⟩
  ·exact absurd (List.append_eq_nil_iff.1 h4).2 hne
  ·unfold Oper.wp execOp
   simp only [ho,resolve,invoke,builtin,Sem.run_bind,Sem.run_pure,Result.andThen_ok,List.map_toArray,List.map_cons,List.map_nil,hs,hx,hr]
   exact hK _ _ (h _ cap' w' h2 h3 h5)
end
theorem pages1_any (ga base m c:Nat) (A:Option Addr) (s:List Int) (z:Int) (n:NodeD) (l:NdL) (hm:m≤90000) (w:World) (hg:w.heap[ga]?=some (.cells #[.slice A m c] 59 (0,0))) (hb:base≤w.heap.size) (hr:w.ownsRow base 3 1 (.slice A m c) m (s.map kdC)) :
 Calls Tryz.prog 44 #[.int .i64 z,.agg #[.bool n.leaf,.slice l.EA n.es.length l.ec,.slice l.KA n.ks.length l.kc,.slice l.DA n.ds.length l.dc],.pointer (some ⟨ga,0,none⟩)] w fun e w'=>e=.returned (.tuple #[])∧∃ A' c',w'.heap[ga]?=some (.cells #[.slice A' (m+1) c'] 59 (0,0))∧w'.ownsRow base 3 1 (.slice A' (m+1) c') (m+1) ((s ++ [z]).map kdC)∧OuterX (fun k=>k=ga∨(Value.slice A m c).ownBlock=some k) w w'∧((Value.slice A' (m+1) c').ownBlock=(Value.slice A m c).ownBlock∨∀ q,(Value.slice A' (m+1) c').ownBlock=some q→w.heap.size≤q):=by
 obtain ⟨lf,hlf⟩:∃ lf,lf=n.leaf:=⟨_,rfl⟩
 obtain ⟨ne,hne⟩:∃ ne,ne=n.es.length:=⟨_,rfl⟩
 obtain ⟨nk,hnk⟩:∃ nk,nk=n.ks.length:=⟨_,rfl⟩
 obtain ⟨nd,hnd⟩:∃ nd,nd=n.ds.length:=⟨_,rfl⟩
 rw [← hlf,← hne,← hnk,← hnd]
 obtain ⟨w1,hw1⟩:∃ w1,w1=w.alloc (.cells #[.bool lf,.slice l.EA ne l.ec,.slice l.KA nk l.kc,.slice l.DA nd l.dc] 86):=⟨_,rfl⟩
 have B1:=Lib.hid (alloc_bel hw1)
 have GA:=Lib.hid (row_stays hg B1.out)
 have R1:=Lib.hid (row_below hr B1.out)
 have HB:=Lib.hid hb
 have HM:=Lib.hid hm
 have HW1:=Lib.hid hw1
 have HGL:Hid (ga<w.heap.size):=Lib.hid (Array.getElem?_eq_some_iff.1 hg).1
 clear hlf hne hnk hnd hw1 hg hb hr hm
 go_enter Tryz.func44,Tryz.ntmps44
 go_upto_region 1 with fail
 rw [← HW1.out]
 clear HW1
 have za:=nd_cell GA.out 0 (.slice A m c) rfl
 obtain ⟨x1,hx1⟩:∃ x1,x1=w1.alloc (.cells #[.int .i64 z] 3):=⟨_,rfl⟩
 have BX:=Lib.hid (alloc_bel hx1)
 have GA2:=Lib.hid (row_stays GA.out BX.out)
 have R2:=Lib.hid (row_below R1.out BX.out)
 have CE:Hid (CellsAt x1 (some ⟨w1.heap.size,0,none⟩) [kdC z]):=Lib.hid (by rw [hx1];exact cellsAt_new w1 [kdC z] 3)
 have HX1:=Lib.hid hx1
 have SX:Hid (base≤x1.heap.size∧w.heap.size≤x1.heap.size):=Lib.hid (by have:=HB.out;have:=B1.out.size;have:=BX.out.size;omega)
 clear hx1
 go_wp2_with (rw [← HX1.out];at_builtin;refine wpList_append_rowM rfl (.tmp 5) (.tmp 7) 59 rfl Tryz.underlying59 (.int .i64 0) 8 infoIntN (by rfl) (by decide) _ rfl R2.out (some ⟨w1.heap.size,0,none⟩) 1 1 rfl rfl (by simp) CE.out (kdC_one [z]) (by have:=HM.out;omega) (by have:=HM.out;unfold maxLen;omega) SX.out.1 (m+1) rfl _ rfl ?_;intro A2 c2 w2 ho hg hmv;have R3:=Lib.hid ho;have GG:=Lib.hid hg;have MV:=Lib.hid hmv;have G2:=Lib.hid ((typed_kept R2.out hg (by decide) GA2.out).trans GA2.out);have k1:=nd_frozen G2.out (i:=0);have k2:=nd_cell G2.out 0 (.slice A m c) rfl;clear ho hg hmv)
 refine bodyPost_end (results_none rfl _ _ _) rfl ⟨rfl,A2,c2,heap_setCell_same w2 ga 0 _ _ _ G2.out,?_,?_,?_⟩
 ·rw [List.map_append]
  exact row_set R3.out G2.out (by decide)
 ·have h1:OuterX (fun k=>k=ga∨(Value.slice A m c).ownBlock=some k) w w2:=(outerX_of_below (B1.out.trans (BX.out.mono B1.out.size))).grown GG.out (fun k hk=>.inl (.inr hk))
  exact h1.grown (grown_setC (World.grownBy.refl w2 _) 0 _) (fun k hk=>.inl (.inl (by cases hk;rfl)))
 ·rcases MV.out with h1 | h1
  ·exact .inl h1
  ·exact .inr (fun q hq=>by rw [h1] at hq;cases hq;exact SX.out.2)
theorem own_some {A:Option Addr} {n c k:Nat}:(Value.slice A n c).ownBlock=some k ↔ A.map (·.block)=some k:=by
 cases A with
 | none=>simp [Value.ownBlock]
 | some a=>simp [Value.ownBlock]
theorem pages1_ga (ga base:Nat) (s:List Int) (z:Int) (n:NodeD) (l:NdL) (hs:s.length≤90000) (w:World) (h:GaP ga base s w) :
 Calls Tryz.prog 44 #[.int .i64 z,.agg #[.bool n.leaf,.slice l.EA n.es.length l.ec,.slice l.KA n.ks.length l.kc,.slice l.DA n.ds.length l.dc],.pointer (some ⟨ga,0,none⟩)] w fun e w'=>e=.returned (.tuple #[])∧GaP ga base (s ++ [z]) w'∧FrP ga base w w':=by
 have hG:=h
 obtain ⟨h0,A,c,h1,h2⟩:=h
 refine (pages1_any ga base s.length c A s z n l hs w h1 h0.1 h2).mono ?_
 rintro e w' ⟨rfl,A',c',k1,k2,k3,k4⟩
 have hgb:∀ k,(Value.slice A s.length c).ownBlock=some k→Gb ga w k:=fun k hk=>⟨A,_,c,_,h1,own_some.1 hk⟩
 refine ⟨rfl,⟨⟨Nat.le_trans h0.1 k3.size,h0.2⟩,A',c',by rw [List.length_append];exact k1,by rw [List.length_append];exact k2⟩,⟨k3.os,k3.tape,k3.output,k3.size,fun k hk h3 h4=>k3.block k hk (fun hx=>?_),fun k hk=>?_,fun k hk=>k3.block k (Nat.lt_of_lt_of_le hk h0.1) (fun hx=>?_)⟩⟩
 ·rcases hx with hx | hx
  ·exact h3 hx
  ·exact h4 (hgb k hx)
 ·obtain ⟨A2,n2,c2,fr2,e1,e2⟩:=hk
  rw [k1] at e1
  cases e1
  rcases k4 with k4 | k4
  ·exact .inl (hgb k (by rw [← k4];exact own_some.2 e2))
  ·exact .inr (k4 k (own_some.2 e2))
 ·rcases hx with hx | hx
  ·have:=h0.2
   omega
  ·have:=(hG.gb (hgb k hx)).2.1
   omega
def VisP (gv g gen p ga base:Nat) (U V:List Bool) (B N gs gn Ls cs cn:Nat) (rw:Value) (st nw:List UInt8) (ws:List (Nat × List UInt8)) (Pd:Int→Prop) (a:Nat) (hh:Int) (K:Nat):Prop :=
 ∀ (s:List Int) (W:World),GaP ga base s W→s.length+K≤90000→ViewAt W gv g gen (p:Int) U V→Dk W B N g gs gn rw Ls cs cn st nw ws true (-1) →
   Calls Tryz.prog 32 #[.pointer (some ⟨gv,0,none⟩),.agg #[.int .i64 (a:Int),.int .i64 hh],.func (.func 44) #[] #[.pointer (some ⟨ga,0,none⟩)]] W fun e w'=>e=.returned (.int .i64 0)∧(∃ ds,GaP ga base (s ++ ds) w'∧ds.length≤K∧∀ d ∈ ds,Pd d)∧FrP ga base W w'
theorem visitP_node (gv g gen p ga base a h K:Nat) (U V:List Bool) {B N gs gn Ls cs cn:Nat} {rw:Value} {st nw:List UInt8} {ws:List (Nat × List UInt8)} (Pd:Int→Prop) (n:NodeD) (parts:List (Nat × (NodeD × List EntD))) (hr:rdQ nw Ls a n) (hpa:Pd (a:Int)) (hlf:n.leaf=decide (h=0)) (hds:n.ds=parts.map (fun x=>kidI x.1)) (h4:h≤4)
 (hsub:∀ x ∈ parts,VisP gv g gen p ga base U V B N gs gn Ls cs cn rw st nw ws Pd x.1 (h:Int) K):VisP gv g gen p ga base U V B N gs gn Ls cs cn rw st nw ws Pd a ((h:Int)+1) (1+16*K):=by
 intro s W hG hlen hv hd
 obtain ⟨hh,ehh⟩:∃ hh:Int,hh=(h:Int)+1:=⟨_,rfl⟩
 rw [← ehh]
 have HV:=Lib.hid hv
 have HD:=Lib.hid hd
 have HG:=Lib.hid hG
 have HLN:=Lib.hid hlen
 have HDS:=Lib.hid hds
 have HPA:=Lib.hid hpa
 have HSUB:=Lib.hid hsub
 have H4:=Lib.hid h4
 have HHH:=Lib.hid ehh
 obtain ⟨lf,hl⟩:∃ lf,lf=n.leaf:=⟨_,rfl⟩
 have HNY:Hid (∀ (X:World),Below W.heap.size W X→Calls Tryz.prog 57 #[.pointer (some ⟨gv,0,none⟩),.int .i64 (a:Int),.bool lf] X fun e w'=>(∃ l':NdL,e=.returned (.tuple #[.agg #[.bool n.leaf,.slice l'.EA n.es.length l'.ec,.slice l'.KA n.ks.length l'.kc,.slice l'.DA n.ds.length l'.dc],.int .i64 0])∧NodeAt w' n l'∧NdNew w' X.heap.size n l')∧Below X.heap.size X w'):=Lib.hid (fun X hX=>by
  obtain ⟨k1,k2,k3,gg,k4,k5⟩:=hr
  exact node_yes gv g gen p a gg U V n k1 k2 k3 k4 k5 lf hl _ rfl X (hv.below hX) (hd.below hX))
 have HRF:Hid (∀ X,Below W.heap.size W X→Calls Tryz.prog 56 #[.pointer (some ⟨gv,0,none⟩),.agg #[.int .i64 (a:Int),.int .i64 hh]] X fun e w'=>e=.returned (.int .i64 0)∧Below X.heap.size X w'):=Lib.hid (fun X hX=>trefused_ok gv g gen p U V _ _ (by omega) (by omega) X (hv.below hX))
 have HCB:Hid (∀ (X:World) (l:NdL),GaP ga base s X→Calls Tryz.prog 44 #[.int .i64 (a:Int),.agg #[.bool n.leaf,.slice l.EA n.es.length l.ec,.slice l.KA n.ks.length l.kc,.slice l.DA n.ds.length l.dc],.pointer (some ⟨ga,0,none⟩)] X fun e w'=>e=.returned (.tuple #[])∧GaP ga base (s ++ [(a:Int)]) w'∧FrP ga base X w'):=Lib.hid (fun X l h1=>pages1_ga ga base s (a:Int) n l (by omega) X h1)
 obtain ⟨ne,hne⟩:∃ ne,ne=n.es.length:=⟨_,rfl⟩
 obtain ⟨nk,hnk⟩:∃ nk,nk=n.ks.length:=⟨_,rfl⟩
 obtain ⟨nd,hnd⟩:∃ nd,nd=n.ds.length:=⟨_,rfl⟩
 rw [← hl,← hne,← hnk,← hnd] at HNY HCB
 have HND:=Lib.hid hnd
 have HNB:Hid (nd≤16):=Lib.hid (by
  have h1:=hr.1
  rw [hnd]
  unfold okNode at h1
  split at h1
  ·rw [h1.2.1];simp
  ·rw [← h1.2.1];exact h1.2.2.1.2.1)
 have q1:(hh == 1)=lf:=by
  rw [hl,hlf]
  by_cases h0:h=0
  ·subst h0;rw [ehh];rfl
  ·rw [decide_eq_false h0,beq_eq_false_iff_ne];omega
 have q2:(hh == 0)=false:=by rw [beq_eq_false_iff_ne];omega
 have q3:1≤hh:=by omega
 have q4:hh≤5:=by omega
 clear hv hd hG hlen hds hpa hsub h4 ehh hr hlf hl hne hnk hnd
 obtain ⟨w1,hw1⟩:∃ w1,w1=W.alloc (.cells #[.int .i64 (a:Int),.int .i64 hh] 43):=⟨_,rfl⟩
 have G1:Hid (w1.heap[W.heap.size]?=some (.cells #[.int .i64 (a:Int),.int .i64 hh] 43 (0,0))):=Lib.hid (by rw [hw1];exact heap_alloc_new _ _)
 have B1:=Lib.hid (alloc_bel hw1)
 have HW1:=Lib.hid hw1
 clear hw1
 go_enter Tryz.func32,Tryz.ntmps32
 go_upto_region 1 with fail
 rw [← HW1.out]
 clear HW1
 go_upto_region 2 with (first
  | (refine wpList_load_row rfl 43 (.tmp 4) rfl W.heap.size rfl 43 _ (0,0) _ G1.out Tryz.underlying43 rfl (by kernel_rfl) ?_)
  | (go_at_call 56;refine (HRF.out _ B1.out).mono ?_;rintro e w2 ⟨rfl,hb2⟩;have RB:=Lib.hid hb2;clear hb2))
 have G2:=Lib.hid (row_stays G1.out RB.out)
 have B2:=Lib.hid (B1.out.trans (RB.out.mono B1.out.size))
 have z0:=nd_cell G2.out 0 (.int .i64 (a:Int)) rfl
 have z1:=nd_cell G2.out 1 (.int .i64 hh) rfl
 go_upto_region 5 with (go_at_call 57;refine (HNY.out _ B2.out).mono ?_;rintro e w3 ⟨⟨l',rfl,hn3,hw3⟩,hb3⟩;have N3:=Lib.hid hn3;have O3:=Lib.hid hw3;have B3:=Lib.hid hb3;clear hn3 hw3 hb3)
 clear z0 z1
 obtain ⟨g8,hg8⟩:∃ g8,g8=w3.heap.size:=⟨_,rfl⟩
 obtain ⟨w4,hw4⟩:∃ w4,w4=w3.alloc (.cells #[.bool lf,.slice l'.EA ne l'.ec,.slice l'.KA nk l'.kc,.slice l'.DA nd l'.dc] 86):=⟨_,rfl⟩
 have G8:Hid (w4.heap[g8]?=some (.cells #[.bool lf,.slice l'.EA ne l'.ec,.slice l'.KA nk l'.kc,.slice l'.DA nd l'.dc] 86 (0,0))):=Lib.hid (by rw [hw4,hg8];exact heap_alloc_new _ _)
 have A4:=Lib.hid (alloc_bel hw4)
 have C4:=Lib.hid (B3.out.trans (A4.out.mono B3.out.size))
 have R4:=Lib.hid (row_stays G2.out C4.out)
 have B4:=Lib.hid (B2.out.trans (C4.out.mono B2.out.size))
 have N4:=Lib.hid (N3.out.below A4.out)
 have O4:=Lib.hid (O3.out.below A4.out)
 have GA4:=Lib.hid (HG.out.below B4.out)
 rw [← hw4,← hg8]
 clear hw4 hg8
 have z0:=nd_cell R4.out 0 (.int .i64 (a:Int)) rfl
 go_upto_region 8 with (first
  | (refine wpList_load_row rfl 86 (.tmp 8) rfl g8 rfl 86 _ (0,0) _ G8.out Tryz.underlying86 rfl (by kernel_rfl) ?_)
  | (go_at_call 44;refine (HCB.out _ l' GA4.out).mono ?_;rintro e w5 ⟨rfl,hg5,hf5⟩;have GA5:=Lib.hid hg5;have F5:=Lib.hid hf5;clear hg5 hf5))
 clear z0
 have G9:=Lib.hid (F5.out.heap GA4.out G8.out (by decide) (by decide))
 have NGB:Hid (∀ k,W.heap.size≤k→¬ Gb ga w4 k):=Lib.hid (fun k hk hb=>by
  obtain ⟨A',n',c',fr',e1,e2⟩:=hb
  have h1:=(HG.out.gb (k:=k) ⟨A',n',c',fr',(B4.out.block ga HG.out.lt).symm.trans e1,e2⟩).1
  omega)
 have BG:Hid (ga<W.heap.size):=Lib.hid HG.out.lt
 have RD:=Lib.hid O4.out.rd
 have S24:Hid (W.heap.size≤w2.heap.size):=Lib.hid B2.out.size
 have z3:=nd_cell G9.out 3 (.slice l'.DA nd l'.dc) rfl
 have HPL:Hid (nd=parts.length):=Lib.hid (by rw [HND.out,HDS.out,List.length_map])
 have RDK:Hid (∀ X,FrP ga base w4 X→X.ownsRow w2.heap.size 3 1 (.slice l'.DA n.ds.length l'.dc) n.ds.length (n.ds.map kdC)):=Lib.hid (fun X hX=>by
  rcases RD.out.2 with ⟨h0,h1⟩ | ⟨q,cap,cur,hv',hb',hq,rest⟩
  ·exact ⟨RD.out.1,.inl ⟨h0,h1⟩⟩
  ·have h1:=S24.out
   have h2:=BG.out
   exact ⟨RD.out.1,.inr ⟨q,cap,cur,hv',hb',(hX.kept q (Array.getElem?_eq_some_iff.1 hq).1 (by omega) (NGB.out q (by omega))).trans hq,rest⟩⟩)
 clear HNY HRF HCB N4 O4 A4 B3 C4 N3 O3 G2 RB B1 B2
 go_upto_region 9 with fail
 go_loopw [45] (fun iv wr=>∃ i:Nat,i≤nd∧iv=.int .i64 (i:Int)∧Hid ((∃ ds,GaP ga base (s ++ [(a:Int)] ++ ds) wr∧ds.length≤i*K∧∀ d ∈ ds,Pd d)∧FrP ga base w4 wr)) (fun iv _=>nd - (intOf iv).toNat)
 case atStart=>exact ⟨0,Nat.zero_le _,rfl,Lib.hid ⟨⟨[],by simpa using GA5.out,by simp,fun d hd=>by cases hd⟩,F5.out⟩⟩
 case round =>
  obtain ⟨i,hi,rfl,HR⟩:=hrel
  clear z3
  obtain ⟨V0,rfl⟩:∃ V0,V0=wr:=⟨_,rfl⟩
  by_cases hlt:i<nd
  ·obtain ⟨x,hx⟩:∃ x,parts[i]?=some x:=⟨_,List.getElem?_eq_getElem (by rw [← HPL.out];exact hlt)⟩
   have hxd:n.ds[i]?=some (kidI x.1):=by rw [HDS.out,List.getElem?_map,hx];rfl
   obtain ⟨ds,hg0,hdl,hdp⟩:=HR.out.1
   have HDL:=Lib.hid hdl
   have HDP:=Lib.hid hdp
   have HLE:Hid ((s ++ [(a:Int)] ++ ds).length+K≤90000):=Lib.hid (by
    have h1:=HLN.out
    have h2:=HNB.out
    have h3:i*K≤15*K:=Nat.mul_le_mul_right K (by omega)
    simp only [List.length_append,List.length_singleton]
    omega)
   have V4:=HV.out.below B4.out
   have HCL:=Lib.hid (HSUB.out x (List.mem_of_getElem? hx) _ V0 hg0 HLE.out (HR.out.2.heap GA4.out V4 (by decide) (by decide)) (HR.out.2.dk GA4.out (HD.out.below B4.out)))
   clear hg0 hdl hdp
   have RV:=RDK.out _ HR.out.2
   rw [← HND.out] at RV
   obtain ⟨bk,o,hDA,hcell⟩:=KdAt.of_row RV (by intro e;rw [e] at hxd;simp at hxd)
   have hkc:=hcell i _ hxd
   have q5:decide ((i:Int)<(nd:Int))=true:=by simp;omega
   have q6:(i:Int)<(nd:Int):=by omega
   have z1:=nd_cell (HR.out.2.heap GA4.out R4.out (by decide) (by decide)) 1 (.int .i64 hh) rfl
   have e9:hh - 1=(h:Int):=by have:=HHH.out;omega
   have HHN:=Lib.hid hlt
   have hib:(i:Int)≤100:=by have:=HNB.out;omega
   rw [hDA]
   clear hcell RV hxd hx q1 q2 hDA
   go_wp2_with (go_at_call 32;refine HCL.out.mono ?_;rintro e w6 ⟨rfl,⟨dx,hg6,hdx,hdq⟩,hf6⟩;have GA6:=Lib.hid hg6;have F6:=Lib.hid hf6;have HDX:=Lib.hid hdx;have HDQ:=Lib.hid hdq;clear hg6 hf6 hdx hdq)
   go_roundw
   case rel=>exact ⟨i+1,by have:=HHN.out;omega,by go_num,Lib.hid ⟨⟨ds ++ dx,by rw [← List.append_assoc];exact GA6.out,by have:=HDL.out;have:=HDX.out;rw [List.length_append,Nat.add_mul,Nat.one_mul];omega,fun d hd=>(List.mem_append.1 hd).elim (HDP.out d) (HDQ.out d)⟩,HR.out.2.trans F6.out⟩⟩
   case measure=>have:=HHN.out;first | (simp [intOf];done) | (simp [intOf];omega)
  ·have q5:decide ((i:Int)<(nd:Int))=false:=by simp;omega
   have HIN:Hid (i=parts.length):=Lib.hid (by rw [← HPL.out];omega)
   go_wp2_with fail
   go_ret
   obtain ⟨ds,hg0,hdl,hdp⟩:=HR.out.1
   refine ⟨rfl,⟨(a:Int) :: ds,?_,?_,fun d hd=>?_⟩,(FrP.of_below B4.out HG.out.1.1 BG.out).trans HR.out.2⟩
   ·have h1:=hg0
    rw [List.append_assoc] at h1
    exact h1
   ·have h1:=HNB.out
    have h2:i*K≤16*K:=Nat.mul_le_mul_right K (by have:=HIN.out;have:=HPL.out;omega)
    rw [List.length_cons]
    omega
   ·rcases List.mem_cons.1 hd with rfl | hd
    ·exact HPA.out
    ·exact hdp d hd
end Go.Proofs.YtgkddhncfaeidaaGreat
