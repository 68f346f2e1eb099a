/- Squeezed: the texts as they are written lie in wip/tpl. -/
import Derived.Test.YtgkddhncfaeidaaGreatPart03
import Derived.Test.YtgkddhncfaeidaaGreatPart04
import Derived.Test.YtgkddhncfaeidaaGreatPart00
import Derived.Great.BuildSlice
import Derived.Maps.AppendAt
import Derived.Lib.AppendZeros
import Derived.Lib.SliceRun
set_option maxRecDepth 100000
set_option maxHeartbeats 4000000
set_option linter.unusedSimpArgs false
set_option linter.unusedVariables false
namespace Go.Proofs.YtgkddhncfaeidaaGreat
open Go.ChangeShapes Go.WideShapes Go.ChangeAt Go.RowKit CrcM PageM
theorem entry_any (e:EntD) (w:World) :
 Calls Tryz.prog 9 #[.agg #[.int .i64 e.se,.int .i64 e.st,.int .i64 e.en,.int .i64 e.ad,.int .i64 e.le,.int .i64 e.cn,.int .i64 e.co,.int .u32 e.cr]] w fun e' w'=>e'=.returned (.agg #[.int .i64 e.se,.int .i64 e.st,.int .i64 e.en,.int .i64 e.ad,.int .i64 e.le,.int .i64 e.cn,.int .i64 e.co,.int .u32 e.cr])∧Below w.heap.size w w':=by
 go_enter Tryz.func9,Tryz.ntmps9
 go_wp2_with fail
 exact bodyPost_ret (v:=.agg #[.int .i64 e.se,.int .i64 e.st,.int .i64 e.en,.int .i64 e.ad,.int .i64 e.le,.int .i64 e.cn,.int .i64 e.co,.int .u32 e.cr]) (results_cell_row (p:=2) (ty:=40) rfl _ _ (w.heap.size+1) 40 #[.int .i64 e.se,.int .i64 e.st,.int .i64 e.en,.int .i64 e.ad,.int .i64 e.le,.int .i64 e.cn,.int .i64 e.co,.int .u32 e.cr] (0,0) _ rfl (heap_alloc2_new _ _ _) Tryz.underlying40 rfl (by kernel_rfl)) rfl ⟨rfl,below_two (Below.refl _ _)⟩
end Go.Proofs.YtgkddhncfaeidaaGreat
namespace Go.Proofs.YtgkddhncfaeidaaGreat
open Go.RowKit
def CellsAt (w:World) (A:Option Addr) (us:List Value):Prop :=
 us≠[]→∃ b off,A=some ⟨b,off,none⟩∧∀ k (h:k<us.length),w.cell? ⟨b,off+k,none⟩=some us[k]
section
variable {w w':World} {base:Nat} {v:Value} {E:TypeId} {us vs:List Value}
theorem CellsAt.below {A:Option Addr} (h:CellsAt w A us) (hb:Below w.heap.size w w'):CellsAt w' A us:=fun hx=>by
 obtain ⟨b,off,ha,hc⟩:=h hx
 exact ⟨b,off,ha,fun k hk=>(hb.cell (p:=⟨b,off+k,none⟩) (World.block_lt_of_cell? w _ (hc k hk))).trans (hc k hk)⟩
theorem CellsAt.cells {A:Option Addr} (h:CellsAt w A us) (hy:us≠[]):∃ ad,A=some ad∧∀ j u,us[j]?=some u→w.cell? (ad.add j)=some u:=by
 obtain ⟨b,off,ha,hc⟩:=h hy
 refine ⟨⟨b,off,none⟩,ha,fun j u hu=>?_⟩
 obtain ⟨hj,e⟩:=List.getElem?_eq_some_iff.1 hu
 have hadd:(⟨b,off,none⟩:Addr).add j=⟨b,off+j,none⟩:=by unfold Addr.add;split <;> simp_all
 rw [hadd,hc j hj,e]
variable {P:Program}
end
end Go.Proofs.YtgkddhncfaeidaaGreat
namespace Go.Proofs.YtgkddhncfaeidaaGreat
open Go.ChangeShapes Go.WideShapes Go.ChangeAt Go.RowKit CrcM PageM
section
variable {w w':World} {base sz n:Nat} {v:Value} {E:TypeId} {us:List Value}
theorem row_form (h:w.ownsRow base E sz v n us):∃ A c,v=.slice A n c:=by
 rcases h.2 with ⟨rfl,rfl⟩ | ⟨g,cap,cur,rfl,_⟩
 ·exact ⟨none,0,rfl⟩
 ·exact ⟨_,_,rfl⟩
theorem row_keep (h:w.ownsRow base E sz v n us) (hk:∀ k cur,base≤k→w.heap[k]?=some (.cells cur E (0,0))→w'.heap[k]?=w.heap[k]?):w'.ownsRow base E sz v n us:=by
 refine ⟨h.1,?_⟩
 rcases h.2 with hn | ⟨g,cap,cur,rfl,hb,hgg,rest⟩
 ·exact .inl hn
 ·exact .inr ⟨g,cap,cur,rfl,hb,(hk g cur hb hgg).trans hgg,rest⟩
theorem row_below (h:w.ownsRow base E sz v n us) (hb:Below w.heap.size w w'):w'.ownsRow base E sz v n us:=row_keep h (fun k cur _ hc=>hb.block k (Array.getElem?_eq_some_iff.1 hc).1)
theorem row_cap {A:Option Addr} {c:Nat} (h:w.ownsRow base E sz (.slice A n c) n us):n≤c∧c≤maxLen:=by
 rcases h.2 with ⟨h1,h2⟩ | ⟨g,cap,cur,hv,_,_,h3,h4,_⟩
 ·injection h1 with h5 h6 h7
  unfold maxLen
  omega
 ·injection hv with h5 h6 h7
  subst h7
  exact ⟨h3,h4⟩
theorem typed_kept (h:w.ownsRow base E sz v n us) (hg:w.grownBy w' v.ownBlock) {g:Nat} {cs:Array Value} {T:TypeId} (hT:T≠E) (h0:w.heap[g]?=some (.cells cs T (0,0))):w'.heap[g]?=w.heap[g]? :=
 hg.block g (Array.getElem?_eq_some_iff.1 h0).1 (fun e=>by
  rcases h.2 with ⟨hv,_⟩ | ⟨g',cap,cur,hv,_,hh,_⟩
  ·rw [hv] at e;cases e
  ·rw [hv] at e
   injection e with e
   subst e
   rw [hh] at h0
   injection h0 with h0
   injection h0 with _ h0
   exact hT h0.symm)
theorem row_cells {A:Option Addr} {c:Nat} (h:w.ownsRow base E sz (.slice A n c) n us) (hne:us≠[]):∃ g,A=some ⟨g,0,none⟩∧base≤g∧∀ j u,us[j]?=some u→w.cell? ⟨g,j,none⟩=some u:=by
 have hl:=h.1
 rcases h.2 with ⟨h1,h2⟩ | ⟨g,cap,cur,hv,hb,hh,_⟩
 ·exfalso
  subst h2
  rw [Nat.zero_mul] at hl
  exact hne (List.eq_nil_of_length_eq_zero hl)
 ·injection hv with h5 h6 h7
  refine ⟨g,h5,hb,fun j u hj=>?_⟩
  subst h5
  have:=h.cells (g:=g) rfl j u hj
  rw [Addr.add_mid] at this
  simpa using this
theorem flat_get {α:Type} {f:α→List Value} {m:Nat} (hf:∀ x,(f x).length=m):∀ (l:List α) (i:Nat) (x:α) (j:Nat) (u:Value),l[i]?=some x→(f x)[j]?=some u→(l.flatMap f)[i*m+j]?=some u
 | [],i,x,j,u,h,_=>by simp at h
 | a :: t,0,x,j,u,h,hu=>by
   simp at h
   subst h
   have hj:j<(f a).length:=(List.getElem?_eq_some_iff.1 hu).1
   simp only [List.flatMap_cons,Nat.zero_mul,Nat.zero_add]
   rw [List.getElem?_append_left hj,hu]
 | a :: t,i+1,x,j,u,h,hu=>by
   have h':t[i]?=some x:=by simpa using h
   simp only [List.flatMap_cons]
   rw [List.getElem?_append_right (by rw [hf,Nat.succ_mul];omega),hf,show (i+1)*m+j - m=i*m+j by rw [Nat.succ_mul];omega]
   exact flat_get hf t i x j u h' hu
theorem EnAt.of_row {es:List EntD} {A:Option Addr} {c:Nat} (h:w.ownsRow base E 8 (.slice A n c) n (es.flatMap enC)):EnAt w A es:=fun hne=>by
 obtain ⟨g,rfl,_,hc⟩:=row_cells h (by intro e;obtain ⟨a,t,rfl⟩:=List.exists_cons_of_ne_nil hne;simp [enC] at e)
 refine ⟨g,0,rfl,fun i e hi=>?_⟩
 have q:=fun j u hu=>hc _ u (flat_get (f:=enC) (m:=8) (fun _=>rfl) es i e j u hi hu)
 simp only [Nat.zero_add]
 exact ⟨q 0 _ rfl,q 1 _ rfl,q 2 _ rfl,q 3 _ rfl,q 4 _ rfl,q 5 _ rfl,q 6 _ rfl,q 7 _ rfl⟩
theorem KyAt.of_row {ks:List KeyD} {A:Option Addr} {c:Nat} (h:w.ownsRow base E 2 (.slice A n c) n (ks.flatMap kyC)):KyAt w A ks:=fun hne=>by
 obtain ⟨g,rfl,_,hc⟩:=row_cells h (by intro e;obtain ⟨a,t,rfl⟩:=List.exists_cons_of_ne_nil hne;simp [kyC] at e)
 refine ⟨g,0,rfl,fun i e hi=>?_⟩
 have q:=fun j u hu=>hc _ u (flat_get (f:=kyC) (m:=2) (fun _=>rfl) ks i e j u hi hu)
 simp only [Nat.zero_add]
 exact ⟨q 0 _ rfl,q 1 _ rfl⟩
def kdC (z:Int):Value:=.int .i64 z
theorem KdAt.of_row {ds:List Int} {A:Option Addr} {c:Nat} (h:w.ownsRow base E 1 (.slice A n c) n (ds.map kdC)):KdAt w A ds:=fun hne=>by
 obtain ⟨g,rfl,_,hc⟩:=row_cells h (by intro e;exact hne (List.map_eq_nil_iff.1 e))
 refine ⟨g,0,rfl,fun i z hi=>?_⟩
 have:=hc i (kdC z) (by rw [List.getElem?_map,hi];rfl)
 simpa [kdC] using this
end
theorem fill_eight (C cells:Array Value) (hC:C.size=8) (hn:cells.size=8):Instr.fill (fun i=>some (i*8,8)) cells [(0,.agg C)]=some C:=by
 have:=Great.fill_whole (s:=8) (by omega) [.agg C] cells (fun v hv=>by simp at hv;subst hv;exact hC) (by simp [hn])
 simpa [Value.cells] using this
theorem fill_twoN (C cells:Array Value) (hC:C.size=2) (hn:cells.size=2):Instr.fill (fun i=>some (i*2,2)) cells [(0,.agg C)]=some C:=by
 have:=Great.fill_whole (s:=2) (by omega) [.agg C] cells (fun v hv=>by simp at hv;subst hv;exact hC) (by simp [hn])
 simpa [Value.cells] using this
theorem enC_one (e:EntD):∀ u ∈ enC e,u.oneCell'=true:=by
 intro u hu
 simp [enC] at hu
 rcases hu with rfl | rfl | rfl | rfl | rfl | rfl | rfl | rfl <;> rfl
theorem kyC_one (k:KeyD):∀ u ∈ kyC k,u.oneCell'=true:=by
 intro u hu
 simp [kyC] at hu
 rcases hu with rfl | rfl <;> rfl
section
variable {w W wr w1 w2:World} {Tout TE TK TD:TypeId} {g3:Nat} {lf:Bool} {vE vK vD v':Value} {kE kK nd:Nat} {es:List EntD} {ks:List KeyD} {ds:List Int}
theorem row_set {base sz n i:Nat} {v u:Value} {E T:TypeId} {us:List Value} {g:Nat} {cs:Array Value} (h:w.ownsRow base E sz v n us) (hg:w.heap[g]?=some (.cells cs T (0,0))) (hT:E≠T):(w.setCell ⟨g,i,none⟩ u).ownsRow base E sz v n us :=
 row_keep h (fun k cur _ hc=>Below.heap_setCell w ⟨g,i,none⟩ u k (fun e=>by
  have e':k=g:=e
  subst e'
  rw [hg] at hc
  injection hc with hc
  injection hc with _ hc
  exact hT hc.symm))
theorem KdAt.cells {A:Option Addr} (h:KdAt w A ds):CellsAt w A (ds.map kdC):=fun hne=>by
 obtain ⟨b,off,hA,hc⟩:=h (fun e=>hne (by rw [e];rfl))
 refine ⟨b,off,hA,fun k hk=>?_⟩
 have hk':k<ds.length:=by simpa using hk
 rw [hc k ds[k] (List.getElem?_eq_getElem hk')]
 simp [kdC]
theorem kdC_one (ds:List Int):∀ u ∈ ds.map kdC,u.oneCell'=true:=by
 intro u hu
 simp [kdC] at hu
 obtain ⟨a,_,rfl⟩:=hu
 rfl
theorem row_set4 {base sz n:Nat} {v a b c d:Value} {E T:TypeId} {us:List Value} {g:Nat} {cs:Array Value} (h:w.ownsRow base E sz v n us) (hg:w.heap[g]?=some (.cells cs T (0,0))) (hT:E≠T) :
 ((((w.setCell ⟨g,0,none⟩ a).setCell ⟨g,1,none⟩ b).setCell ⟨g,2,none⟩ c).setCell ⟨g,3,none⟩ d).ownsRow base E sz v n us:=by
 have h1:=row_set (i:=0) (u:=a) h hg hT
 have g1:=heap_setCell_same w g 0 cs T a hg
 have h2:=row_set (i:=1) (u:=b) h1 g1 hT
 have g2:=heap_setCell_same _ g 1 _ T b g1
 have h3:=row_set (i:=2) (u:=c) h2 g2 hT
 have g3:=heap_setCell_same _ g 2 _ T c g2
 exact row_set (i:=3) (u:=d) h3 g3 hT
end
end Go.Proofs.YtgkddhncfaeidaaGreat
namespace Go.Proofs.YtgkddhncfaeidaaGreat
open Go.RowKit
section
variable {P:Program} {w w2:World} {base sz n:Nat} {E:TypeId} {us vs:List Value}
theorem row_cases {v:Value} (h:w.ownsRow base E sz v n us):(v=.slice none 0 0∧n=0∧us=[])∨∃ g cap,v=.slice (some ⟨g,0,none⟩) n cap∧base≤g∧n≤cap∧cap≤maxLen:=by
 have hl:=h.1
 rcases h.2 with ⟨h1,h2⟩ | ⟨g,cap,cur,hv,hb,hh,h3,h4,_⟩
 ·subst h2
  rw [Nat.zero_mul] at hl
  exact .inl ⟨h1,rfl,List.eq_nil_of_length_eq_zero hl⟩
 ·exact .inr ⟨g,cap,hv,hb,h3,h4⟩
theorem run_append_row (t ty:TypeId) (ht:P.underlying t=some (.slice E)) (z:Value) (bytes:Nat) (hi:(P.info? E).map (fun i=>(i.zero,i.size,i.bytes))=some (some z,sz,bytes)) (hz1:z.cells.size=sz) (hsz:0<sz)
 {v:Value} (hown:w.ownsRow base E sz v n us) (A:Option Addr) (c m:Nat) (hm:vs.length=m*sz) (hA:CellsAt w A vs) (h1:∀ u ∈ vs,u.oneCell'=true) (hl:(n+m)*bytes≤140737488355328) (h63:n+m≤maxLen) (hbase:base≤w.heap.size) :
 ∃ A' c' w',(Builtin.append_ #[t,t] ty #[v,.slice A m c]).run P w=.ok (.slice A' (n+m) c') w'∧w'.ownsRow base E sz (.slice A' (n+m) c') (n+m) (us ++ vs)∧w.grownBy w' v.ownBlock:=by
 obtain ⟨i,hi0,hz,hs,hb⟩:=info_parts hi
 by_cases hy:vs=[]
 ·subst hy
  have hm0:m=0:=by
   have:m*sz=0:=by simpa using hm.symm
   rcases Nat.mul_eq_zero.1 this with h | h
   ·exact h
   ·omega
  subst hm0
  rcases row_cases hown with ⟨rfl,rfl,rfl⟩ | ⟨g,cap,rfl,h2,h3,h4⟩
  ·refine ⟨none,0,w,?_,by simpa using World.ownsRow_nil w base E sz,World.grownBy.refl w _⟩
   cases A <;> simp [Builtin.append_,run_underlying ht,sizeOf,typeInfo,hi0,Builtin.lenOf,Builtin.firstCells,loadCells,loadCellsFrom]
  ·refine ⟨some ⟨g,0,none⟩,cap,w,?_,by simpa using hown,World.grownBy.refl w _⟩
   cases A <;> simp [Builtin.append_,run_underlying ht,sizeOf,typeInfo,hi0,Builtin.lenOf,Builtin.firstCells,h3,storeCells,loadCells,loadCellsFrom]
 ·obtain ⟨ad,rfl,hc⟩:=hA.cells hy
  obtain ⟨v',w',hr,h2,h3,_,_⟩:=run_append_own_at (P:=P) w base t ty E i z sz bytes ht hi0 hz hs hb hz1 hsz v n us hown ad m c vs hm hc h1 h63 hl hbase
  rcases row_cases h2 with ⟨_,_,h4⟩ | ⟨g',cap',rfl,_⟩
  ·exact absurd (List.append_eq_nil_iff.1 h4).2 hy
  ·exact ⟨_,cap',w',hr,h2,h3⟩
theorem wpList_append_row {ops:Array Oper} {rest:List Oper} {o:Oper} {a:Act} {Q:Exit→Act→World→Prop} (hgd:o.guard=none) (s x:Operand) (t:TypeId)
 (ho:o.op=.call { callee:=.builtin .append,args:=#[s,x],argTypes:=#[t,t] }) (ht:P.underlying t=some (.slice E)) (z:Value) (bytes:Nat) (hi:(P.info? E).map (fun i=>(i.zero,i.size,i.bytes))=some (some z,sz,bytes)) (hz1:z.cells.size=sz) (hsz:0<sz)
 (v:Value) (hs:a.eval s=v) (hown:w.ownsRow base E sz v n us) (A:Option Addr) (c m:Nat) (hx:a.eval x=.slice A m c) (hm:vs.length=m*sz) (hA:CellsAt w A vs) (h1:∀ u ∈ vs,u.oneCell'=true)
 (hl:(n+m)*bytes≤140737488355328) (h63:n+m≤maxLen) (hbase:base≤w.heap.size) (k:Nat) (hk:n+m=k) (zs:List Value) (hzs:us ++ vs=zs)
 (h:∀ A' c' w',w'.ownsRow base E sz (.slice A' k c') k zs→w.grownBy w' v.ownBlock→wpList P ops Q rest (a.put o.dst (.slice A' k c')) w'):wpList P ops Q (o :: rest) a w :=
 wpList_plain hgd fun _ hK=>by
  subst hk hzs
  obtain ⟨A',c',w',hr,h2,h3⟩:=run_append_row (P:=P) t o.type ht z bytes hi hz1 hsz hown A c m hm hA h1 hl h63 hbase
  unfold Oper.wp execOp
  simp only [ho,resolve,invoke,builtin,Sem.run_bind,Sem.run_pure,Result.andThen_ok,List.map_toArray,List.map_cons,List.map_nil,hs,hx,hr]
  exact hK _ _ (h A' c' w' h2 h3)
theorem run_append_room (t tn ty:TypeId) (ht:P.underlying t=some (.slice E)) (k kn:IntKind) (htn:P.underlying tn=some (.int kn)) (z:Value) (bytes:Nat) (hi:(P.info? E).map (fun i=>(i.zero,i.size,i.bytes))=some (some z,sz,bytes)) (hz1:z.cells.size=sz) (hsz:0<sz)
 (m:Nat) (h0:0<m) (hl:m*bytes≤140737488355328) (hm:m≤140737488355328) (hby:0<bytes) :
 ∃ c' w',(Builtin.append_ #[t,tn] ty #[.slice none 0 0,.int k m]).run P w=.ok (.slice (some ⟨w.heap.size,0,none⟩) m c') w'∧w'.ownsRow w.heap.size E sz (.slice (some ⟨w.heap.size,0,none⟩) 0 c') 0 []∧m≤c'∧Below w.heap.size w w':=by
 obtain ⟨i,hi0,hz,hs,hb⟩:=info_parts hi
 have hw:IntKind.i64.wrap (m:Int)=m:=by rw [IntKind.wrap_i64];omega
 have hneg:¬ ((m:Int)<0):=by omega
 have hbig:¬ ((281474976710656:Int)<(m:Int)):=by omega
 have hm0:¬ m=0:=by omega
 have h63':¬ (9223372036854775807<(m:Int)):=by omega
 have h48':¬ (281474976710656<Builtin.nextslicecap m 0*bytes):=by
  have:=growslice_fits (need:=m) (old:=0) (bytes:=bytes) (by omega) (by omega)
  omega
 have hmb:¬ ((281474976710656:Int)<(m:Int)*(bytes:Int)):=by
  have:((m*bytes:Nat):Int)=(m:Int)*(bytes:Int):=by simp
  omega
 have hms:¬ m*sz=0:=by
  have:=Nat.mul_pos h0 hsz
  omega
 have hsz0:¬ sz=0:=by omega
 have hge:=grownCap_ge w m 0 E
 have hcm2:grownCap w m 0 E≤maxLen:=grownCap_le_maxLen w m 0 E (by unfold maxLen;omega)
 refine ⟨grownCap w m 0 E,w.drew.alloc (.cells (Builtin.zeroCells z.cells m ++ Builtin.zeroCells z.cells (grownCap w m 0 E - m)) E),?_,?_,hge,?_⟩
 ·simp [Builtin.append_,run_underlying ht,run_underlying htn,sizeOf,typeInfo,zeroValue,hi0,hz,hs,hb,asInt,asIntOf,hw,hneg,hm0,hmb,hms,h63',h48',Question.forced,newRow,grownCap,Builtin.firstCells]
 ·refine ⟨by simp,.inr ⟨w.heap.size,_,_,rfl,Nat.le_refl _,heap_alloc_new w.drew _,by omega,hcm2,?_,by simp⟩⟩
  rw [Array.size_append,size_zeroCells,size_zeroCells,hz1,← Nat.add_mul]
  congr 1
  omega
 ·exact ⟨rfl,rfl,rfl,by simp,fun k hk=>heap_alloc_old w.drew _ hk⟩
end
end Go.Proofs.YtgkddhncfaeidaaGreat
namespace Go.Proofs.YtgkddhncfaeidaaGreat
open Go.ChangeShapes Go.WideShapes Go.ChangeAt Go.RowKit CrcM PageM
theorem infoIntN:(Tryz.prog.info? 3).map (fun i=>(i.zero,i.size,i.bytes))=some (some (.int .i64 0),1,8):=by kernel_rfl
theorem infoEnt_to_any:(Tryz.prog.info? 40).map (fun i=>(i.zero,i.size,i.bytes))=some (some (.agg #[.int .i64 0,.int .i64 0,.int .i64 0,.int .i64 0,.int .i64 0,.int .i64 0,.int .i64 0,.int .u32 0]),8,64):=by kernel_rfl
theorem infoKey_to_any:(Tryz.prog.info? 38).map (fun i=>(i.zero,i.size,i.bytes))=some (some (.agg #[.int .i64 0,.int .i64 0]),2,16):=by kernel_rfl
theorem clone_ent (A:Option Addr) (n c:Nat) (us:List Value) (hn:us.length=n*8) (h1:∀ u ∈ us,u.oneCell'=true) (hl:n*64≤140737488355328) (hc:n≤c) (hm:c≤maxLen) (w:World) (hA:CellsAt w A us) :
 Calls Tryz.prog 136 #[.slice A n c] w fun e w'=>∃ A' c',e=.returned (.slice A' n c')∧w'.ownsRow w.heap.size 40 8 (.slice A' n c') n us∧Below w.heap.size w w':=by
 cases A with
 | none =>
   have hus:us=[]:=by
    rcases hu:us with _ | ⟨u,r⟩
    ·rfl
    ·obtain ⟨b,off,h,_⟩:=hA (by rw [hu];simp)
     cases h
   subst hus
   have hn0:n=0:=by simp at hn;omega
   subst hn0
   clear hn hA
   have e1:∀ W,(binOp .eql 29 (.slice none 0 c) (.slice none 0 0)).run Tryz.prog W=.ok (.bool true) W:=fun W=>Lib.run_eql_slice_nil W _ _ none 0 c 0 0 Tryz.underlying29
   go_enter Tryz.func136,Tryz.ntmps136
   go_wp2_with fail
   go_ret
   exact ⟨none,0,rfl,World.ownsRow_nil w _ _ _,Below.refl _ _⟩
 | some ad =>
   have HN:=Lib.hid hn
   have HL:=Lib.hid hl
   have H1:=Lib.hid h1
   have HA:=Lib.hid hA
   have HM:Hid (n≤maxLen):=Lib.hid (Nat.le_trans hc hm)
   clear hn hl h1 hA hc hm
   have HB:Hid (Below w.heap.size w (w.alloc (.cells #[] 40))):=Lib.hid ((Below.refl _ _).alloc (Nat.le_refl _) _)
   have HO:Hid ((w.alloc (.cells #[] 40)).ownsRow w.heap.size 40 8 (.slice (some ⟨w.heap.size,0,none⟩) 0 0) 0 []):=Lib.hid ⟨rfl,.inr ⟨w.heap.size,0,#[],rfl,Nat.le_refl _,heap_alloc_new _ _,Nat.le_refl _,by unfold maxLen;omega,rfl,rfl⟩⟩
   have e1:∀ W,(binOp .eql 29 (.slice (some ad) n c) (.slice none 0 0)).run Tryz.prog W=.ok (.bool false) W:=fun W=>Lib.run_eql_slice_nil W _ _ (some ad) n c 0 0 Tryz.underlying29
   go_enter Tryz.func136,Tryz.ntmps136
   go_wp2_with (at_builtin;refine wpList_append_row rfl (.tmp 5) (.tmp 6) 29 rfl Tryz.underlying29 (.agg #[.int .i64 0,.int .i64 0,.int .i64 0,.int .i64 0,.int .i64 0,.int .i64 0,.int .i64 0,.int .u32 0]) 64 infoEnt_to_any (by rfl) (by decide) _ rfl HO.out (some ad) c n rfl HN.out (HA.out.below HB.out) H1.out (by have:=HL.out;omega) (by have:=HM.out;omega) HB.out.size n (Nat.zero_add n) us (by rfl) ?_;intro A' c' w' ho hg;have HO2:=Lib.hid ho;have HG2:=Lib.hid hg;clear ho hg)
   go_ret
   exact ⟨A',c',rfl,HO2.out,HB.out.grown HG2.out HB.out.size (fun k hk=>by injection hk with hk;exact Nat.le_of_eq hk)⟩
theorem grow_ent (m:Nat) (hl:m*64≤140737488355328) (w:World) :
 Calls Tryz.prog 170 #[.slice none 0 0,.int .i64 (m:Int)] w fun e w'=>∃ A c,e=.returned (.slice A 0 c)∧w'.ownsRow w.heap.size 40 8 (.slice A 0 c) 0 []∧Below w.heap.size w w':=by
 rcases Nat.eq_zero_or_pos m with h0 | h0
 ·subst h0
  go_enter Tryz.func170,Tryz.ntmps170
  go_wp2_with fail
  go_ret
  exact ⟨none,0,rfl,World.ownsRow_nil w _ _ _,Below.refl _ _⟩
 ·have HL:=Lib.hid hl
  have p1:¬ ((m:Int)<0):=by omega
  have p2:(0:Int)<(m:Int):=by omega
  have p3:decide ((m:Int)<0)=false:=by simp
  have p4:decide ((0:Int)<(m:Int))=true:=by simp;omega
  have p5:wrap64 (m:Int)=(m:Int):=by unfold wrap64;omega
  obtain ⟨cg,wg,hr,ho,hcg,hb⟩:=run_append_room (P:=Tryz.prog) (w:=w) 29 3 29 Tryz.underlying29 .i64 .i64 Tryz.underlying3 (.agg #[.int .i64 0,.int .i64 0,.int .i64 0,.int .i64 0,.int .i64 0,.int .i64 0,.int .i64 0,.int .u32 0]) 64 infoEnt_to_any (by rfl) (by decide) m h0 hl (by omega) (by decide)
  have HO:=Lib.hid ho
  have HB:=Lib.hid hb
  have hr':=hr
  rw [← p5] at hr'
  have HR:=Lib.hid hr'
  clear ho hb hr hr' hl
  go_enter Tryz.func170,Tryz.ntmps170
  go_wp2_with (at_builtin;refine Lib.wpList_append_run w rfl (.tmp 20) (.tmp 21) 29 3 rfl (.slice none 0 0) (.int .i64 (wrap64 (m:Int))) rfl rfl _ _ HR.out ?_)
  go_ret
  exact ⟨_,cg,rfl,HO.out,HB.out⟩
theorem concat_ent (g:Nat) (A1 A2:Option Addr) (n1 c1 n2 c2 N:Nat) (hN:n1+n2=N) (us1 us2:List Value) (l1:us1.length=n1*8) (l2:us2.length=n2*8) (o1:∀ u ∈ us1,u.oneCell'=true) (o2:∀ u ∈ us2,u.oneCell'=true) (hl:N*64≤140737488355328) (w:World)
 (hg:w.heap[g]?=some (.cells #[.slice A1 n1 c1,.slice A2 n2 c2] 29 (0,0))) (hA1:CellsAt w A1 us1) (hA2:CellsAt w A2 us2) :
 Calls Tryz.prog 159 #[.slice (some ⟨g,0,none⟩) 2 2] w fun e w'=>∃ A c,e=.returned (.slice A N c)∧w'.ownsRow w.heap.size 40 8 (.slice A N c) N (us1 ++ us2)∧Below w.heap.size w w':=by
 have HG:=Lib.hid hg
 have HA1:=Lib.hid hA1
 have HA2:=Lib.hid hA2
 have L1:=Lib.hid l1
 have L2:=Lib.hid l2
 have O1:=Lib.hid o1
 have O2:=Lib.hid o2
 have HL:=Lib.hid hl
 have HN:=Lib.hid hN
 have e0:w.cell? ⟨g,0,none⟩=some (.slice A1 n1 c1):=nd_cell hg 0 _ rfl
 have e1:w.cell? ⟨g,1,none⟩=some (.slice A2 n2 c2):=nd_cell hg 1 _ rfl
 have hgl:=(Array.getElem?_eq_some_iff.1 hg).1
 have q1:wrap64 ((0:Int)+(n1:Int))=(n1:Int):=by unfold wrap64;omega
 have q2:wrap64 ((n1:Int)+(n2:Int))=(N:Int):=by unfold wrap64;omega
 have q3:decide ((n1:Int)<0)=false:=by simp
 have q4:decide ((N:Int)<0)=false:=by simp
 have Q1:=Lib.hid q1
 have Q2:=Lib.hid q2
 clear hg hA1 hA2 l1 l2 o1 o2 hl hN q1 q2
 go_enter Tryz.func159,Tryz.ntmps159
 go_upto_region 3 with fail
 go_loopw [11,3] (fun i s wr=>∃ k z:Nat,k≤2∧i=.int .i64 k∧s=.int .i64 (z:Int)∧w=wr∧Hid (k=0∧0=z∨k=1∧n1=z∨k=2∧N=z)) (fun i _ _=>2 - (intOf i).toNat)
 case atStart=>exact ⟨0,0,by omega,rfl,rfl,rfl,Lib.hid (.inl ⟨rfl,rfl⟩)⟩
 case round =>
  obtain ⟨k,z,hk,rfl,rfl,rfl,hcase⟩:=hrel
  obtain ⟨rfl,rfl⟩ | ⟨rfl,rfl⟩ | ⟨rfl,rfl⟩:=hcase.out
  ·have q1:=Q1.out
   have q1':wrap64 (n1:Int)=(n1:Int):=by have:=HL.out;have:=HN.out;unfold wrap64;omega
   go_wp2_with fail
   go_roundw
   case rel=>exact ⟨1,n1,by omega,by go_num,by go_num,(by first | rfl | trivial),Lib.hid (.inr (.inl ⟨rfl,rfl⟩))⟩
   case measure=>first | (simp [intOf];done) | (simp [intOf];omega)
  ·have q2:=Q2.out
   have q2':wrap64 (N:Int)=(N:Int):=by have:=HL.out;unfold wrap64;omega
   go_wp2_with fail
   go_roundw
   case rel=>exact ⟨2,N,by omega,by go_num,by go_num,(by first | rfl | trivial),Lib.hid (.inr (.inr ⟨rfl,rfl⟩))⟩
   case measure=>first | (simp [intOf];done) | (simp [intOf];omega)
  ·go_upto_region 11 with (go_at_call 170;refine (grow_ent _ HL.out _).mono ?_;rintro e w1 ⟨A,c,rfl,ho1,hb1⟩;have HO1:=Lib.hid ho1;have HB1:=Lib.hid hb1;clear ho1 hb1)
   clear e0 e1 hcase q3 q4
   go_loopw [27,6] (fun i s wr=>∃ (k z:Nat) (A:Option Addr) (c:Nat) (us:List Value),k≤2∧i=.int .i64 k∧s=.slice A z c∧Hid (Below wr.heap.size wr wr∧Below w.heap.size w wr∧wr.ownsRow w.heap.size 40 8 (.slice A z c) z us)∧Hid (k=0∧0=z∧[]=us∨k=1∧n1=z∧us1=us∨k=2∧N=z∧us1 ++ us2=us)) (fun i _ _=>2 - (intOf i).toNat)
   case atStart=>exact ⟨0,0,A,c,[],by omega,rfl,rfl,Lib.hid ⟨Below.refl _ _,HB1.out,HO1.out⟩,Lib.hid (.inl ⟨rfl,rfl,rfl⟩)⟩
   case round =>
    obtain ⟨k,z,A',c',us,hk,rfl,rfl,HW,hcase⟩:=hrel
    have f0:=(HW.out.2.1.cell (p:=⟨g,0,none⟩) hgl).trans (nd_cell HG.out 0 _ rfl)
    have f1:=(HW.out.2.1.cell (p:=⟨g,1,none⟩) hgl).trans (nd_cell HG.out 1 _ rfl)
    simp only [List.getElem_toArray,List.getElem_cons_zero,List.getElem_cons_succ] at f0 f1
    obtain ⟨rfl,rfl,rfl⟩ | ⟨rfl,rfl,rfl⟩ | ⟨rfl,rfl,rfl⟩:=hcase.out
    ·go_wp2_with (at_builtin;refine wpList_append_row rfl (.tmp 31) (.tmp 32) 29 rfl Tryz.underlying29 (.agg #[.int .i64 0,.int .i64 0,.int .i64 0,.int .i64 0,.int .i64 0,.int .i64 0,.int .i64 0,.int .u32 0]) 64 infoEnt_to_any (by rfl) (by decide) _ rfl HW.out.2.2 A1 c1 n1 rfl L1.out (HA1.out.below HW.out.2.1) O1.out (by have:=HL.out;have:=HN.out;omega) (by have:=HL.out;have:=HN.out;unfold maxLen;omega) HW.out.2.1.size n1 (Nat.zero_add n1) us1 (by rfl) ?_;intro A3 c3 w3 ho hgr;have HO3:=Lib.hid ho;have HG3:=Lib.hid hgr;clear ho hgr)
     go_roundw
     case rel=>exact ⟨1,n1,A3,c3,us1,by omega,by go_num,rfl,Lib.hid ⟨Below.refl _ _,HW.out.2.1.grown HG3.out HW.out.2.1.size (fun k hk=>(World.ownsRow.lt HW.out.2.2 k hk).1),HO3.out⟩,Lib.hid (.inr (.inl ⟨rfl,rfl,rfl⟩))⟩
     case measure=>first | (simp [intOf];done) | (simp [intOf];omega)
    ·go_wp2_with (at_builtin;refine wpList_append_row rfl (.tmp 31) (.tmp 32) 29 rfl Tryz.underlying29 (.agg #[.int .i64 0,.int .i64 0,.int .i64 0,.int .i64 0,.int .i64 0,.int .i64 0,.int .i64 0,.int .u32 0]) 64 infoEnt_to_any (by rfl) (by decide) _ rfl HW.out.2.2 A2 c2 n2 rfl L2.out (HA2.out.below HW.out.2.1) O2.out (by have:=HL.out;have:=HN.out;omega) (by have:=HL.out;have:=HN.out;unfold maxLen;omega) HW.out.2.1.size N HN.out _ rfl ?_;intro A3 c3 w3 ho hgr;have HO3:=Lib.hid ho;have HG3:=Lib.hid hgr;clear ho hgr)
     go_roundw
     case rel=>exact ⟨2,N,A3,c3,_,by omega,by go_num,rfl,Lib.hid ⟨Below.refl _ _,HW.out.2.1.grown HG3.out HW.out.2.1.size (fun k hk=>(World.ownsRow.lt HW.out.2.2 k hk).1),HO3.out⟩,Lib.hid (.inr (.inr ⟨rfl,rfl,rfl⟩))⟩
     case measure=>first | (simp [intOf];done) | (simp [intOf];omega)
    ·go_wp2_with fail
     go_ret
     exact ⟨A',c',rfl,HW.out.2.2,HW.out.2.1⟩
theorem clone_key (A:Option Addr) (n c:Nat) (us:List Value) (hn:us.length=n*2) (h1:∀ u ∈ us,u.oneCell'=true) (hl:n*16≤140737488355328) (hc:n≤c) (hm:c≤maxLen) (w:World) (hA:CellsAt w A us) :
 Calls Tryz.prog 137 #[.slice A n c] w fun e w'=>∃ A' c',e=.returned (.slice A' n c')∧w'.ownsRow w.heap.size 38 2 (.slice A' n c') n us∧Below w.heap.size w w':=by
 cases A with
 | none =>
   have hus:us=[]:=by
    rcases hu:us with _ | ⟨u,r⟩
    ·rfl
    ·obtain ⟨b,off,h,_⟩:=hA (by rw [hu];simp)
     cases h
   subst hus
   have hn0:n=0:=by simp at hn;omega
   subst hn0
   clear hn hA
   have e1:∀ W,(binOp .eql 84 (.slice none 0 c) (.slice none 0 0)).run Tryz.prog W=.ok (.bool true) W:=fun W=>Lib.run_eql_slice_nil W _ _ none 0 c 0 0 Tryz.underlying84
   go_enter Tryz.func137,Tryz.ntmps137
   go_wp2_with fail
   go_ret
   exact ⟨none,0,rfl,World.ownsRow_nil w _ _ _,Below.refl _ _⟩
 | some ad =>
   have HN:=Lib.hid hn
   have HL:=Lib.hid hl
   have H1:=Lib.hid h1
   have HA:=Lib.hid hA
   have HM:Hid (n≤maxLen):=Lib.hid (Nat.le_trans hc hm)
   clear hn hl h1 hA hc hm
   have HB:Hid (Below w.heap.size w (w.alloc (.cells #[] 38))):=Lib.hid ((Below.refl _ _).alloc (Nat.le_refl _) _)
   have HO:Hid ((w.alloc (.cells #[] 38)).ownsRow w.heap.size 38 2 (.slice (some ⟨w.heap.size,0,none⟩) 0 0) 0 []):=Lib.hid ⟨rfl,.inr ⟨w.heap.size,0,#[],rfl,Nat.le_refl _,heap_alloc_new _ _,Nat.le_refl _,by unfold maxLen;omega,rfl,rfl⟩⟩
   have e1:∀ W,(binOp .eql 84 (.slice (some ad) n c) (.slice none 0 0)).run Tryz.prog W=.ok (.bool false) W:=fun W=>Lib.run_eql_slice_nil W _ _ (some ad) n c 0 0 Tryz.underlying84
   go_enter Tryz.func137,Tryz.ntmps137
   go_wp2_with (at_builtin;refine wpList_append_row rfl (.tmp 5) (.tmp 6) 84 rfl Tryz.underlying84 (.agg #[.int .i64 0,.int .i64 0]) 16 infoKey_to_any (by rfl) (by decide) _ rfl HO.out (some ad) c n rfl HN.out (HA.out.below HB.out) H1.out (by have:=HL.out;omega) (by have:=HM.out;omega) HB.out.size n (Nat.zero_add n) us (by rfl) ?_;intro A' c' w' ho hg;have HO2:=Lib.hid ho;have HG2:=Lib.hid hg;clear ho hg)
   go_ret
   exact ⟨A',c',rfl,HO2.out,HB.out.grown HG2.out HB.out.size (fun k hk=>by injection hk with hk;exact Nat.le_of_eq hk)⟩
theorem grow_key (m:Nat) (hl:m*16≤140737488355328) (w:World) :
 Calls Tryz.prog 171 #[.slice none 0 0,.int .i64 (m:Int)] w fun e w'=>∃ A c,e=.returned (.slice A 0 c)∧w'.ownsRow w.heap.size 38 2 (.slice A 0 c) 0 []∧Below w.heap.size w w':=by
 rcases Nat.eq_zero_or_pos m with h0 | h0
 ·subst h0
  go_enter Tryz.func171,Tryz.ntmps171
  go_wp2_with fail
  go_ret
  exact ⟨none,0,rfl,World.ownsRow_nil w _ _ _,Below.refl _ _⟩
 ·have HL:=Lib.hid hl
  have p1:¬ ((m:Int)<0):=by omega
  have p2:(0:Int)<(m:Int):=by omega
  have p3:decide ((m:Int)<0)=false:=by simp
  have p4:decide ((0:Int)<(m:Int))=true:=by simp;omega
  have p5:wrap64 (m:Int)=(m:Int):=by unfold wrap64;omega
  obtain ⟨cg,wg,hr,ho,hcg,hb⟩:=run_append_room (P:=Tryz.prog) (w:=w) 84 3 84 Tryz.underlying84 .i64 .i64 Tryz.underlying3 (.agg #[.int .i64 0,.int .i64 0]) 16 infoKey_to_any (by rfl) (by decide) m h0 hl (by omega) (by decide)
  have HO:=Lib.hid ho
  have HB:=Lib.hid hb
  have hr':=hr
  rw [← p5] at hr'
  have HR:=Lib.hid hr'
  clear ho hb hr hr' hl
  go_enter Tryz.func171,Tryz.ntmps171
  go_wp2_with (at_builtin;refine Lib.wpList_append_run w rfl (.tmp 20) (.tmp 21) 84 3 rfl (.slice none 0 0) (.int .i64 (wrap64 (m:Int))) rfl rfl _ _ HR.out ?_)
  go_ret
  exact ⟨_,cg,rfl,HO.out,HB.out⟩
theorem concat_key (g:Nat) (A1 A2:Option Addr) (n1 c1 n2 c2 N:Nat) (hN:n1+n2=N) (us1 us2:List Value) (l1:us1.length=n1*2) (l2:us2.length=n2*2) (o1:∀ u ∈ us1,u.oneCell'=true) (o2:∀ u ∈ us2,u.oneCell'=true) (hl:N*16≤140737488355328) (w:World)
 (hg:w.heap[g]?=some (.cells #[.slice A1 n1 c1,.slice A2 n2 c2] 84 (0,0))) (hA1:CellsAt w A1 us1) (hA2:CellsAt w A2 us2) :
 Calls Tryz.prog 160 #[.slice (some ⟨g,0,none⟩) 2 2] w fun e w'=>∃ A c,e=.returned (.slice A N c)∧w'.ownsRow w.heap.size 38 2 (.slice A N c) N (us1 ++ us2)∧Below w.heap.size w w':=by
 have HG:=Lib.hid hg
 have HA1:=Lib.hid hA1
 have HA2:=Lib.hid hA2
 have L1:=Lib.hid l1
 have L2:=Lib.hid l2
 have O1:=Lib.hid o1
 have O2:=Lib.hid o2
 have HL:=Lib.hid hl
 have HN:=Lib.hid hN
 have e0:w.cell? ⟨g,0,none⟩=some (.slice A1 n1 c1):=nd_cell hg 0 _ rfl
 have e1:w.cell? ⟨g,1,none⟩=some (.slice A2 n2 c2):=nd_cell hg 1 _ rfl
 have hgl:=(Array.getElem?_eq_some_iff.1 hg).1
 have q1:wrap64 ((0:Int)+(n1:Int))=(n1:Int):=by unfold wrap64;omega
 have q2:wrap64 ((n1:Int)+(n2:Int))=(N:Int):=by unfold wrap64;omega
 have q3:decide ((n1:Int)<0)=false:=by simp
 have q4:decide ((N:Int)<0)=false:=by simp
 have Q1:=Lib.hid q1
 have Q2:=Lib.hid q2
 clear hg hA1 hA2 l1 l2 o1 o2 hl hN q1 q2
 go_enter Tryz.func160,Tryz.ntmps160
 go_upto_region 3 with fail
 go_loopw [11,3] (fun i s wr=>∃ k z:Nat,k≤2∧i=.int .i64 k∧s=.int .i64 (z:Int)∧w=wr∧Hid (k=0∧0=z∨k=1∧n1=z∨k=2∧N=z)) (fun i _ _=>2 - (intOf i).toNat)
 case atStart=>exact ⟨0,0,by omega,rfl,rfl,rfl,Lib.hid (.inl ⟨rfl,rfl⟩)⟩
 case round =>
  obtain ⟨k,z,hk,rfl,rfl,rfl,hcase⟩:=hrel
  obtain ⟨rfl,rfl⟩ | ⟨rfl,rfl⟩ | ⟨rfl,rfl⟩:=hcase.out
  ·have q1:=Q1.out
   have q1':wrap64 (n1:Int)=(n1:Int):=by have:=HL.out;have:=HN.out;unfold wrap64;omega
   go_wp2_with fail
   go_roundw
   case rel=>exact ⟨1,n1,by omega,by go_num,by go_num,(by first | rfl | trivial),Lib.hid (.inr (.inl ⟨rfl,rfl⟩))⟩
   case measure=>first | (simp [intOf];done) | (simp [intOf];omega)
  ·have q2:=Q2.out
   have q2':wrap64 (N:Int)=(N:Int):=by have:=HL.out;unfold wrap64;omega
   go_wp2_with fail
   go_roundw
   case rel=>exact ⟨2,N,by omega,by go_num,by go_num,(by first | rfl | trivial),Lib.hid (.inr (.inr ⟨rfl,rfl⟩))⟩
   case measure=>first | (simp [intOf];done) | (simp [intOf];omega)
  ·go_upto_region 11 with (go_at_call 171;refine (grow_key _ HL.out _).mono ?_;rintro e w1 ⟨A,c,rfl,ho1,hb1⟩;have HO1:=Lib.hid ho1;have HB1:=Lib.hid hb1;clear ho1 hb1)
   clear e0 e1 hcase q3 q4
   go_loopw [27,6] (fun i s wr=>∃ (k z:Nat) (A:Option Addr) (c:Nat) (us:List Value),k≤2∧i=.int .i64 k∧s=.slice A z c∧Hid (Below wr.heap.size wr wr∧Below w.heap.size w wr∧wr.ownsRow w.heap.size 38 2 (.slice A z c) z us)∧Hid (k=0∧0=z∧[]=us∨k=1∧n1=z∧us1=us∨k=2∧N=z∧us1 ++ us2=us)) (fun i _ _=>2 - (intOf i).toNat)
   case atStart=>exact ⟨0,0,A,c,[],by omega,rfl,rfl,Lib.hid ⟨Below.refl _ _,HB1.out,HO1.out⟩,Lib.hid (.inl ⟨rfl,rfl,rfl⟩)⟩
   case round =>
    obtain ⟨k,z,A',c',us,hk,rfl,rfl,HW,hcase⟩:=hrel
    have f0:=(HW.out.2.1.cell (p:=⟨g,0,none⟩) hgl).trans (nd_cell HG.out 0 _ rfl)
    have f1:=(HW.out.2.1.cell (p:=⟨g,1,none⟩) hgl).trans (nd_cell HG.out 1 _ rfl)
    simp only [List.getElem_toArray,List.getElem_cons_zero,List.getElem_cons_succ] at f0 f1
    obtain ⟨rfl,rfl,rfl⟩ | ⟨rfl,rfl,rfl⟩ | ⟨rfl,rfl,rfl⟩:=hcase.out
    ·go_wp2_with (at_builtin;refine wpList_append_row rfl (.tmp 31) (.tmp 32) 84 rfl Tryz.underlying84 (.agg #[.int .i64 0,.int .i64 0]) 16 infoKey_to_any (by rfl) (by decide) _ rfl HW.out.2.2 A1 c1 n1 rfl L1.out (HA1.out.below HW.out.2.1) O1.out (by have:=HL.out;have:=HN.out;omega) (by have:=HL.out;have:=HN.out;unfold maxLen;omega) HW.out.2.1.size n1 (Nat.zero_add n1) us1 (by rfl) ?_;intro A3 c3 w3 ho hgr;have HO3:=Lib.hid ho;have HG3:=Lib.hid hgr;clear ho hgr)
     go_roundw
     case rel=>exact ⟨1,n1,A3,c3,us1,by omega,by go_num,rfl,Lib.hid ⟨Below.refl _ _,HW.out.2.1.grown HG3.out HW.out.2.1.size (fun k hk=>(World.ownsRow.lt HW.out.2.2 k hk).1),HO3.out⟩,Lib.hid (.inr (.inl ⟨rfl,rfl,rfl⟩))⟩
     case measure=>first | (simp [intOf];done) | (simp [intOf];omega)
    ·go_wp2_with (at_builtin;refine wpList_append_row rfl (.tmp 31) (.tmp 32) 84 rfl Tryz.underlying84 (.agg #[.int .i64 0,.int .i64 0]) 16 infoKey_to_any (by rfl) (by decide) _ rfl HW.out.2.2 A2 c2 n2 rfl L2.out (HA2.out.below HW.out.2.1) O2.out (by have:=HL.out;have:=HN.out;omega) (by have:=HL.out;have:=HN.out;unfold maxLen;omega) HW.out.2.1.size N HN.out _ rfl ?_;intro A3 c3 w3 ho hgr;have HO3:=Lib.hid ho;have HG3:=Lib.hid hgr;clear ho hgr)
     go_roundw
     case rel=>exact ⟨2,N,A3,c3,_,by omega,by go_num,rfl,Lib.hid ⟨Below.refl _ _,HW.out.2.1.grown HG3.out HW.out.2.1.size (fun k hk=>(World.ownsRow.lt HW.out.2.2 k hk).1),HO3.out⟩,Lib.hid (.inr (.inr ⟨rfl,rfl,rfl⟩))⟩
     case measure=>first | (simp [intOf];done) | (simp [intOf];omega)
    ·go_wp2_with fail
     go_ret
     exact ⟨A',c',rfl,HW.out.2.2,HW.out.2.1⟩
theorem clone_int (A:Option Addr) (n c:Nat) (us:List Value) (hn:us.length=n*1) (h1:∀ u ∈ us,u.oneCell'=true) (hl:n*8≤140737488355328) (hc:n≤c) (hm:c≤maxLen) (w:World) (hA:CellsAt w A us) :
 Calls Tryz.prog 138 #[.slice A n c] w fun e w'=>∃ A' c',e=.returned (.slice A' n c')∧w'.ownsRow w.heap.size 3 1 (.slice A' n c') n us∧Below w.heap.size w w':=by
 cases A with
 | none =>
   have hus:us=[]:=by
    rcases hu:us with _ | ⟨u,r⟩
    ·rfl
    ·obtain ⟨b,off,h,_⟩:=hA (by rw [hu];simp)
     cases h
   subst hus
   have hn0:n=0:=by simp at hn;omega
   subst hn0
   clear hn hA
   have e1:∀ W,(binOp .eql 59 (.slice none 0 c) (.slice none 0 0)).run Tryz.prog W=.ok (.bool true) W:=fun W=>Lib.run_eql_slice_nil W _ _ none 0 c 0 0 Tryz.underlying59
   go_enter Tryz.func138,Tryz.ntmps138
   go_wp2_with fail
   go_ret
   exact ⟨none,0,rfl,World.ownsRow_nil w _ _ _,Below.refl _ _⟩
 | some ad =>
   have HN:=Lib.hid hn
   have HL:=Lib.hid hl
   have H1:=Lib.hid h1
   have HA:=Lib.hid hA
   have HM:Hid (n≤maxLen):=Lib.hid (Nat.le_trans hc hm)
   clear hn hl h1 hA hc hm
   have HB:Hid (Below w.heap.size w (w.alloc (.cells #[] 3))):=Lib.hid ((Below.refl _ _).alloc (Nat.le_refl _) _)
   have HO:Hid ((w.alloc (.cells #[] 3)).ownsRow w.heap.size 3 1 (.slice (some ⟨w.heap.size,0,none⟩) 0 0) 0 []):=Lib.hid ⟨rfl,.inr ⟨w.heap.size,0,#[],rfl,Nat.le_refl _,heap_alloc_new _ _,Nat.le_refl _,by unfold maxLen;omega,rfl,rfl⟩⟩
   have e1:∀ W,(binOp .eql 59 (.slice (some ad) n c) (.slice none 0 0)).run Tryz.prog W=.ok (.bool false) W:=fun W=>Lib.run_eql_slice_nil W _ _ (some ad) n c 0 0 Tryz.underlying59
   go_enter Tryz.func138,Tryz.ntmps138
   go_wp2_with (at_builtin;refine wpList_append_row rfl (.tmp 5) (.tmp 6) 59 rfl Tryz.underlying59 (.int .i64 0) 8 infoIntN (by rfl) (by decide) _ rfl HO.out (some ad) c n rfl HN.out (HA.out.below HB.out) H1.out (by have:=HL.out;omega) (by have:=HM.out;omega) HB.out.size n (Nat.zero_add n) us (by rfl) ?_;intro A' c' w' ho hg;have HO2:=Lib.hid ho;have HG2:=Lib.hid hg;clear ho hg)
   go_ret
   exact ⟨A',c',rfl,HO2.out,HB.out.grown HG2.out HB.out.size (fun k hk=>by injection hk with hk;exact Nat.le_of_eq hk)⟩
theorem grow_int (m:Nat) (hl:m*8≤140737488355328) (w:World) :
 Calls Tryz.prog 172 #[.slice none 0 0,.int .i64 (m:Int)] w fun e w'=>∃ A c,e=.returned (.slice A 0 c)∧w'.ownsRow w.heap.size 3 1 (.slice A 0 c) 0 []∧Below w.heap.size w w':=by
 rcases Nat.eq_zero_or_pos m with h0 | h0
 ·subst h0
  go_enter Tryz.func172,Tryz.ntmps172
  go_wp2_with fail
  go_ret
  exact ⟨none,0,rfl,World.ownsRow_nil w _ _ _,Below.refl _ _⟩
 ·have HL:=Lib.hid hl
  have p1:¬ ((m:Int)<0):=by omega
  have p2:(0:Int)<(m:Int):=by omega
  have p3:decide ((m:Int)<0)=false:=by simp
  have p4:decide ((0:Int)<(m:Int))=true:=by simp;omega
  have p5:wrap64 (m:Int)=(m:Int):=by unfold wrap64;omega
  obtain ⟨cg,wg,hr,ho,hcg,hb⟩:=run_append_room (P:=Tryz.prog) (w:=w) 59 3 59 Tryz.underlying59 .i64 .i64 Tryz.underlying3 (.int .i64 0) 8 infoIntN (by rfl) (by decide) m h0 hl (by omega) (by decide)
  have HO:=Lib.hid ho
  have HB:=Lib.hid hb
  have hr':=hr
  rw [← p5] at hr'
  have HR:=Lib.hid hr'
  clear ho hb hr hr' hl
  go_enter Tryz.func172,Tryz.ntmps172
  go_wp2_with (at_builtin;refine Lib.wpList_append_run w rfl (.tmp 20) (.tmp 21) 59 3 rfl (.slice none 0 0) (.int .i64 (wrap64 (m:Int))) rfl rfl _ _ HR.out ?_)
  go_ret
  exact ⟨_,cg,rfl,HO.out,HB.out⟩
theorem concat_int (g:Nat) (A1 A2:Option Addr) (n1 c1 n2 c2 N:Nat) (hN:n1+n2=N) (us1 us2:List Value) (l1:us1.length=n1*1) (l2:us2.length=n2*1) (o1:∀ u ∈ us1,u.oneCell'=true) (o2:∀ u ∈ us2,u.oneCell'=true) (hl:N*8≤140737488355328) (w:World)
 (hg:w.heap[g]?=some (.cells #[.slice A1 n1 c1,.slice A2 n2 c2] 59 (0,0))) (hA1:CellsAt w A1 us1) (hA2:CellsAt w A2 us2) :
 Calls Tryz.prog 161 #[.slice (some ⟨g,0,none⟩) 2 2] w fun e w'=>∃ A c,e=.returned (.slice A N c)∧w'.ownsRow w.heap.size 3 1 (.slice A N c) N (us1 ++ us2)∧Below w.heap.size w w':=by
 have HG:=Lib.hid hg
 have HA1:=Lib.hid hA1
 have HA2:=Lib.hid hA2
 have L1:=Lib.hid l1
 have L2:=Lib.hid l2
 have O1:=Lib.hid o1
 have O2:=Lib.hid o2
 have HL:=Lib.hid hl
 have HN:=Lib.hid hN
 have e0:w.cell? ⟨g,0,none⟩=some (.slice A1 n1 c1):=nd_cell hg 0 _ rfl
 have e1:w.cell? ⟨g,1,none⟩=some (.slice A2 n2 c2):=nd_cell hg 1 _ rfl
 have hgl:=(Array.getElem?_eq_some_iff.1 hg).1
 have q1:wrap64 ((0:Int)+(n1:Int))=(n1:Int):=by unfold wrap64;omega
 have q2:wrap64 ((n1:Int)+(n2:Int))=(N:Int):=by unfold wrap64;omega
 have q3:decide ((n1:Int)<0)=false:=by simp
 have q4:decide ((N:Int)<0)=false:=by simp
 have Q1:=Lib.hid q1
 have Q2:=Lib.hid q2
 clear hg hA1 hA2 l1 l2 o1 o2 hl hN q1 q2
 go_enter Tryz.func161,Tryz.ntmps161
 go_upto_region 3 with fail
 go_loopw [11,3] (fun i s wr=>∃ k z:Nat,k≤2∧i=.int .i64 k∧s=.int .i64 (z:Int)∧w=wr∧Hid (k=0∧0=z∨k=1∧n1=z∨k=2∧N=z)) (fun i _ _=>2 - (intOf i).toNat)
 case atStart=>exact ⟨0,0,by omega,rfl,rfl,rfl,Lib.hid (.inl ⟨rfl,rfl⟩)⟩
 case round =>
  obtain ⟨k,z,hk,rfl,rfl,rfl,hcase⟩:=hrel
  obtain ⟨rfl,rfl⟩ | ⟨rfl,rfl⟩ | ⟨rfl,rfl⟩:=hcase.out
  ·have q1:=Q1.out
   have q1':wrap64 (n1:Int)=(n1:Int):=by have:=HL.out;have:=HN.out;unfold wrap64;omega
   go_wp2_with fail
   go_roundw
   case rel=>exact ⟨1,n1,by omega,by go_num,by go_num,(by first | rfl | trivial),Lib.hid (.inr (.inl ⟨rfl,rfl⟩))⟩
   case measure=>first | (simp [intOf];done) | (simp [intOf];omega)
  ·have q2:=Q2.out
   have q2':wrap64 (N:Int)=(N:Int):=by have:=HL.out;unfold wrap64;omega
   go_wp2_with fail
   go_roundw
   case rel=>exact ⟨2,N,by omega,by go_num,by go_num,(by first | rfl | trivial),Lib.hid (.inr (.inr ⟨rfl,rfl⟩))⟩
   case measure=>first | (simp [intOf];done) | (simp [intOf];omega)
  ·go_upto_region 11 with (go_at_call 172;refine (grow_int _ HL.out _).mono ?_;rintro e w1 ⟨A,c,rfl,ho1,hb1⟩;have HO1:=Lib.hid ho1;have HB1:=Lib.hid hb1;clear ho1 hb1)
   clear e0 e1 hcase q3 q4
   go_loopw [27,6] (fun i s wr=>∃ (k z:Nat) (A:Option Addr) (c:Nat) (us:List Value),k≤2∧i=.int .i64 k∧s=.slice A z c∧Hid (Below wr.heap.size wr wr∧Below w.heap.size w wr∧wr.ownsRow w.heap.size 3 1 (.slice A z c) z us)∧Hid (k=0∧0=z∧[]=us∨k=1∧n1=z∧us1=us∨k=2∧N=z∧us1 ++ us2=us)) (fun i _ _=>2 - (intOf i).toNat)
   case atStart=>exact ⟨0,0,A,c,[],by omega,rfl,rfl,Lib.hid ⟨Below.refl _ _,HB1.out,HO1.out⟩,Lib.hid (.inl ⟨rfl,rfl,rfl⟩)⟩
   case round =>
    obtain ⟨k,z,A',c',us,hk,rfl,rfl,HW,hcase⟩:=hrel
    have f0:=(HW.out.2.1.cell (p:=⟨g,0,none⟩) hgl).trans (nd_cell HG.out 0 _ rfl)
    have f1:=(HW.out.2.1.cell (p:=⟨g,1,none⟩) hgl).trans (nd_cell HG.out 1 _ rfl)
    simp only [List.getElem_toArray,List.getElem_cons_zero,List.getElem_cons_succ] at f0 f1
    obtain ⟨rfl,rfl,rfl⟩ | ⟨rfl,rfl,rfl⟩ | ⟨rfl,rfl,rfl⟩:=hcase.out
    ·go_wp2_with (at_builtin;refine wpList_append_row rfl (.tmp 31) (.tmp 32) 59 rfl Tryz.underlying59 (.int .i64 0) 8 infoIntN (by rfl) (by decide) _ rfl HW.out.2.2 A1 c1 n1 rfl L1.out (HA1.out.below HW.out.2.1) O1.out (by have:=HL.out;have:=HN.out;omega) (by have:=HL.out;have:=HN.out;unfold maxLen;omega) HW.out.2.1.size n1 (Nat.zero_add n1) us1 (by rfl) ?_;intro A3 c3 w3 ho hgr;have HO3:=Lib.hid ho;have HG3:=Lib.hid hgr;clear ho hgr)
     go_roundw
     case rel=>exact ⟨1,n1,A3,c3,us1,by omega,by go_num,rfl,Lib.hid ⟨Below.refl _ _,HW.out.2.1.grown HG3.out HW.out.2.1.size (fun k hk=>(World.ownsRow.lt HW.out.2.2 k hk).1),HO3.out⟩,Lib.hid (.inr (.inl ⟨rfl,rfl,rfl⟩))⟩
     case measure=>first | (simp [intOf];done) | (simp [intOf];omega)
    ·go_wp2_with (at_builtin;refine wpList_append_row rfl (.tmp 31) (.tmp 32) 59 rfl Tryz.underlying59 (.int .i64 0) 8 infoIntN (by rfl) (by decide) _ rfl HW.out.2.2 A2 c2 n2 rfl L2.out (HA2.out.below HW.out.2.1) O2.out (by have:=HL.out;have:=HN.out;omega) (by have:=HL.out;have:=HN.out;unfold maxLen;omega) HW.out.2.1.size N HN.out _ rfl ?_;intro A3 c3 w3 ho hgr;have HO3:=Lib.hid ho;have HG3:=Lib.hid hgr;clear ho hgr)
     go_roundw
     case rel=>exact ⟨2,N,A3,c3,_,by omega,by go_num,rfl,Lib.hid ⟨Below.refl _ _,HW.out.2.1.grown HG3.out HW.out.2.1.size (fun k hk=>(World.ownsRow.lt HW.out.2.2 k hk).1),HO3.out⟩,Lib.hid (.inr (.inr ⟨rfl,rfl,rfl⟩))⟩
     case measure=>first | (simp [intOf];done) | (simp [intOf];omega)
    ·go_wp2_with fail
     go_ret
     exact ⟨A',c',rfl,HW.out.2.2,HW.out.2.1⟩
end Go.Proofs.YtgkddhncfaeidaaGreat
