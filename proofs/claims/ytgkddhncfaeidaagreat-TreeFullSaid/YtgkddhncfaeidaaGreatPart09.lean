/- Squeezed: the texts as they are written lie in wip/tpl. -/
import Derived.Test.YtgkddhncfaeidaaGreatNgI
import Derived.Test.YtgkddhncfaeidaaGreatPart05
import Derived.Laws.StructEq
import Derived.ChangeKeysEq
import Derived.Test.YtgkddhncfaeidaaGreatPart03
import Derived.Test.YtgkddhncfaeidaaGreatPart04
import Derived.Test.YtgkddhncfaeidaaGreatPart06
set_option maxRecDepth 100000
set_option maxHeartbeats 8000000
set_option linter.unusedSimpArgs false
set_option linter.unusedVariables false
namespace Go.Proofs.YtgkddhncfaeidaaGreat
open Go.ChangeShapes Go.WideShapes Go.ChangeAt Go.RowKit CrcM PageM
theorem s64_wn {z:Int} (h1:-9223372036854775808≤z) (h2:z≤9223372036854775807):s64 (wn z)=z:=by
 unfold s64
 rw [← wn_eq,IntKind.wrap_u64]
 unfold wrap64
 omega
theorem u32n_wn {z:Int} (h1:0≤z) (h2:z<4294967296):u32n (wn z)=z:=by
 unfold u32n
 rw [← wn_eq,IntKind.wrap_u64,IntKind.wrap_u32]
 omega
theorem keyP_kyB (k:KeyD) (r:List UInt8) (h:okKey k.se) (h1:-9223372036854775808≤k.st) (h2:k.st≤9223372036854775807):keyP (kyB k ++ r)=k:=by
 obtain ⟨se,st⟩:=k
 unfold okKey at h
 dsimp only at h h1 h2
 have hn:wn se<256 ^ 4:=by
  have e:(wn se:Int)=se:=by rw [← wn_eq,IntKind.wrap_u64];omega
  have e4:(256:Nat) ^ 4=4294967296:=by decide
  omega
 have hm:wn st<256 ^ 8:=by have:=wn_lt st;have e:(256:Nat) ^ 8=18446744073709551616:=by decide
                           omega
 have t1:(kyB ⟨se,st⟩ ++ r).take 4=be (wn se) 4:=by unfold kyB;rw [List.append_assoc];exact List.take_left' (length_be _ _)
 have t2:((kyB ⟨se,st⟩ ++ r).drop 4).take 8=be (wn st) 8:=by
  unfold kyB
  rw [List.append_assoc,List.drop_left' (length_be _ _)]
  exact List.take_left' (length_be _ _)
 unfold keyP
 rw [t1,t2,val_be 4 _ hn,val_be 8 _ hm,s64_wn (by omega) (by omega),s64_wn h1 h2]
def inJ (z:Int):Prop:=-9223372036854775808≤z∧z≤9223372036854775807
def inEnt (e:EntD):Prop:=inJ e.st∧inJ e.en∧0≤e.cr∧e.cr<4294967296
def inNode (n:NodeD):Prop:=(∀ e ∈ n.es,inEnt e)∧∀ k ∈ n.ks,inJ k.st
theorem wn_small {z:Int} {m:Nat} (h1:0≤z) (h2:z<(m:Int)) (hm:m≤18446744073709551616):wn z<m:=by
 have e:(wn z:Int)=z:=by rw [← wn_eq,IntKind.wrap_u64];omega
 omega
theorem wn_le8 (z:Int):wn z<256 ^ 8:=by
 have:=wn_lt z
 have e:(256:Nat) ^ 8=18446744073709551616:=by decide
 omega
theorem part_be {p q r:List UInt8} {x:List UInt8} {o s m:Nat} (hx:x=p ++ (be m s ++ q) ++ r) (hp:p.length=o) (hm:m<256 ^ s):val ((x.drop o).take s)=m:=by
 subst hx
 rw [List.append_assoc,List.drop_left' hp,List.append_assoc,List.take_left' (length_be _ _),val_be s _ hm]
theorem entP_enB (e:EntD) (r:List UInt8) (h:okEnt e) (hi:inEnt e):entP (enB e ++ r)=e:=by
 have hlk:(kyB e.key).length=12:=length_kyB e.key
 have hk:keyP (enB e ++ r)=e.key:=by
  have:enB e ++ r=kyB e.key ++ ((enB e).drop 12 ++ r):=by
   unfold enB
   simp only [List.append_assoc]
   rw [List.drop_left' hlk]
   simp only [List.append_assoc]
  rw [this]
  exact keyP_kyB e.key _ h.1 hi.1.1 hi.1.2
 obtain ⟨se,st,en,ad,le,cn,co,cr⟩:=e
 obtain ⟨h1,h2,h3,h4,h5,h6,h7,h8,h9,h10⟩:=h
 obtain ⟨i1,i2,i3,i4⟩:=hi
 dsimp only at h1 h2 h3 h4 h5 h6 h7 h8 h9 h10 i1 i2 i3 i4
 unfold okAddr at h5
 unfold inJ at i2
 generalize hX:enB ⟨se,st,en,ad,le,cn,co,cr⟩ ++ r=X at hk ⊢
 have e2:(256:Nat) ^ 2=65536:=by decide
 have e1:(256:Nat) ^ 1=256:=by decide
 have e4:(256:Nat) ^ 4=4294967296:=by decide
 have w2:wn ad<256 ^ 2:=wn_small (by omega) (by omega) (by decide)
 have w3:wn le<256 ^ 2:=wn_small (by omega) (by omega) (by decide)
 have w4:wn cn<256 ^ 1:=wn_small (by omega) (by omega) (by decide)
 have w5:wn co<256 ^ 1:=wn_small (by omega) (by omega) (by decide)
 have w6:wn cr<256 ^ 4:=wn_small (by omega) (by omega) (by decide)
 have v1:val ((X.drop 12).take 8)=wn en:=part_be (p:=kyB ⟨se,st⟩) (q:=be (wn ad) 2 ++ (be (wn le) 2 ++ (be (wn cn) 1 ++ (be (wn co) 1 ++ be (wn cr) 4)))) (r:=r) (by rw [← hX];unfold enB;simp only [List.append_assoc,EntD.key]) (by simp [length_kyB]) (wn_le8 en)
 have v2:val ((X.drop 20).take 2)=wn ad:=part_be (p:=kyB ⟨se,st⟩ ++ be (wn en) 8) (q:=be (wn le) 2 ++ (be (wn cn) 1 ++ (be (wn co) 1 ++ be (wn cr) 4))) (r:=r) (by rw [← hX];unfold enB;simp only [List.append_assoc,EntD.key]) (by simp [length_kyB,length_be]) w2
 have v3:val ((X.drop 22).take 2)=wn le:=part_be (p:=kyB ⟨se,st⟩ ++ be (wn en) 8 ++ be (wn ad) 2) (q:=be (wn cn) 1 ++ (be (wn co) 1 ++ be (wn cr) 4)) (r:=r) (by rw [← hX];unfold enB;simp only [List.append_assoc,EntD.key]) (by simp [length_kyB,length_be]) w3
 have v4:val ((X.drop 24).take 1)=wn cn:=part_be (p:=kyB ⟨se,st⟩ ++ be (wn en) 8 ++ be (wn ad) 2 ++ be (wn le) 2) (q:=be (wn co) 1 ++ be (wn cr) 4) (r:=r) (by rw [← hX];unfold enB;simp only [List.append_assoc,EntD.key]) (by simp [length_kyB,length_be]) w4
 have v5:val ((X.drop 25).take 1)=wn co:=part_be (p:=kyB ⟨se,st⟩ ++ be (wn en) 8 ++ be (wn ad) 2 ++ be (wn le) 2 ++ be (wn cn) 1) (q:=be (wn cr) 4) (r:=r) (by rw [← hX];unfold enB;simp only [List.append_assoc,EntD.key]) (by simp [length_kyB,length_be]) w5
 have v6:val ((X.drop 26).take 4)=wn cr:=part_be (p:=kyB ⟨se,st⟩ ++ be (wn en) 8 ++ be (wn ad) 2 ++ be (wn le) 2 ++ be (wn cn) 1 ++ be (wn co) 1) (q:=[]) (r:=r) (by rw [← hX];unfold enB;simp only [List.append_assoc,EntD.key,List.append_nil]) (by simp [length_kyB,length_be]) w6
 unfold entP
 rw [hk,v1,v2,v3,v4,v5,v6,s64_wn (by omega) (by omega),s64_wn (by omega) (by omega),s64_wn (by omega) (by omega),s64_wn (by omega) (by omega),s64_wn (by omega) (by omega),u32n_wn (by omega) (by omega)]
 rfl
theorem kidP_kidB (p:KeyD × Int) (r:List UInt8) (h:okAddr p.2):kidP (kidB p ++ r)=p.2:=by
 obtain ⟨k,d⟩:=p
 unfold okAddr at h
 dsimp only at h ⊢
 have e2:(256:Nat) ^ 2=65536:=by decide
 have w2:wn d<256 ^ 2:=wn_small (by omega) (by omega) (by decide)
 have v1:val (((kidB (k,d) ++ r).drop 12).take 2)=wn d:=part_be (p:=kyB k) (q:=[]) (r:=r) (by unfold kidB;simp only [List.append_assoc,List.append_nil]) (by simp [length_kyB]) w2
 unfold kidP
 rw [v1,s64_wn (by omega) (by omega)]
theorem keyP_kidB (p:KeyD × Int) (r:List UInt8) (h:okKey p.1.se) (hi:inJ p.1.st):keyP (kidB p ++ r)=p.1:=by
 unfold kidB
 rw [List.append_assoc]
 exact keyP_kyB p.1 _ h hi.1 hi.2
theorem parts_flat {α β:Type} {f:α→List UInt8} {g:List UInt8→β} {v:α→β} {m:Nat} (hf:∀ x,(f x).length=m) (l:List α) (hg:∀ x ∈ l,∀ r,g (f x ++ r)=v x) :
 (List.range l.length).map (fun i=>g ((l.flatMap f).drop (m*i)))=l.map v:=by
 induction l with
 | nil=>rfl
 | cons a t ih =>
   rw [List.length_cons,List.range_succ_eq_map,List.map_cons,List.map_map,List.map_cons]
   congr 1
   ·rw [Nat.mul_zero,List.drop_zero,List.flatMap_cons]
    exact hg a (by simp) _
   ·rw [← ih (fun x hx=>hg x (by simp [hx]))]
    refine List.map_congr_left fun i _=>?_
    rw [Function.comp,List.flatMap_cons,Nat.succ_eq_add_one,Nat.mul_add,Nat.mul_one,Nat.add_comm (m*i) m,← List.drop_drop,List.drop_left' (hf a)]
theorem entsP_enB (es:List EntD) (h:∀ e ∈ es,okEnt e∧inEnt e):entsP es.length (es.flatMap enB)=es:=by
 have:=parts_flat (f:=enB) (g:=entP) (v:=id) (m:=30) length_enB es (fun e he r=>entP_enB e r (h e he).1 (h e he).2)
 rwa [List.map_id] at this
theorem keysP_kidB (ps:List (KeyD × Int)) (h:∀ p ∈ ps,okKey p.1.se∧inJ p.1.st):keysP ps.length (ps.flatMap kidB)=ps.map Prod.fst :=
 parts_flat (f:=kidB) (g:=keyP) (v:=Prod.fst) (m:=14) length_kidB ps (fun p hp r=>keyP_kidB p r (h p hp).1 (h p hp).2)
theorem kidsP_kidB (ps:List (KeyD × Int)) (h:∀ p ∈ ps,okAddr p.2):kidsP ps.length (ps.flatMap kidB)=ps.map Prod.snd :=
 parts_flat (f:=kidB) (g:=kidP) (v:=Prod.snd) (m:=14) length_kidB ps (fun p hp r=>kidP_kidB p r (h p hp))
theorem okEnts_mem {es:List EntD} (h:okEnts es):∀ e ∈ es,okEnt e:=fun e he=>by
 obtain ⟨i,hi,rfl⟩:=List.getElem_of_mem he
 obtain ⟨e',h1,h2,_⟩:=h.2.2 i hi
 rw [List.getElem?_eq_getElem hi,Option.some.injEq] at h1
 rwa [h1]
theorem okKids_mem {ds:List Int} (h:okKids ds):∀ d ∈ ds,okAddr d:=fun d hd=>by
 obtain ⟨i,hi,rfl⟩:=List.getElem_of_mem hd
 obtain ⟨e',h1,h2,_⟩:=h i hi
 rw [List.getElem?_eq_getElem hi,Option.some.injEq] at h1
 rwa [h1]
theorem nodeB_form {n:NodeD} (hn:okNode n):∃ c b,nodeB n=c :: b∧c.toNat=n.size∧b.length=n.size*sizeP n.leaf∧1≤n.size∧n.size≤16:=by
 obtain ⟨h1,h2,h3,h4,h5⟩:=okNode_sizes hn
 refine ⟨_,_,rfl,?_,?_,h5,h4⟩
 ·rw [UInt8.toNat_ofNat']
  exact Nat.mod_eq_of_lt (by omega)
 ·rw [List.length_append,flat_len length_enB,flat_len length_kidB,List.length_zip]
  obtain ⟨lf,es,ks,ds⟩:=n
  unfold okNode at hn
  cases lf
  ·simp only [Bool.false_eq_true,if_false] at hn
   obtain ⟨e1,e2,_⟩:=hn
   subst e1
   simp only [NodeD.size,sizeP,Bool.false_eq_true,if_false,List.length_nil]
   omega
  ·simp only [if_true] at hn
   obtain ⟨e1,e2,_⟩:=hn
   subst e1 e2
   simp only [NodeD.size,sizeP,if_true,List.length_nil]
   omega
theorem parse_leaf {n:NodeD} (hl:n.leaf=true) (hn:okNode n) (hi:inNode n) {c:UInt8} {b:List UInt8} (e:nodeB n=c :: b) (hc:c.toNat=n.size):(⟨true,entsP c.toNat b,[],[]⟩:NodeD)=n:=by
 obtain ⟨lf,es,ks,ds⟩:=n
 subst hl
 unfold okNode at hn
 simp only [if_true] at hn
 obtain ⟨e1,e2,h3⟩:=hn
 subst e1 e2
 rw [hc]
 unfold nodeB at e
 injection e with _ e
 subst e
 simp only [NodeD.size,if_true,List.zip_nil_left,List.flatMap_nil,List.append_nil]
 rw [entsP_enB es (fun e he=>⟨okEnts_mem h3 e he,hi.1 e he⟩)]
theorem okKeys_mem {ks:List KeyD} (h:okKeys ks):∀ k ∈ ks,okKey k.se:=fun k hk=>by
 obtain ⟨i,hi,rfl⟩:=List.getElem_of_mem hk
 obtain ⟨e',h1,h2,_⟩:=h.2.2 i hi
 rw [List.getElem?_eq_getElem hi,Option.some.injEq] at h1
 rwa [h1]
theorem parse_inner {n:NodeD} (hl:n.leaf=false) (hn:okNode n) (hi:inNode n) {c:UInt8} {b:List UInt8} (e:nodeB n=c :: b) (hc:c.toNat=n.size):(⟨false,[],keysP c.toNat b,kidsP c.toNat b⟩:NodeD)=n:=by
 obtain ⟨lf,es,ks,ds⟩:=n
 subst hl
 unfold okNode at hn
 simp only [Bool.false_eq_true,if_false] at hn
 obtain ⟨e1,e2,h3,h4⟩:=hn
 subst e1
 rw [hc]
 unfold nodeB at e
 injection e with _ e
 subst e
 simp only [NodeD.size,Bool.false_eq_true,if_false,List.flatMap_nil,List.nil_append]
 have hz:(ks.zip ds).length=ds.length:=by rw [List.length_zip,e2,Nat.min_self]
 have k1:=keysP_kidB (ks.zip ds) (fun p hp=>⟨okKeys_mem h3 _ (List.of_mem_zip hp).1,hi.2 _ (List.of_mem_zip hp).1⟩)
 have k2:=kidsP_kidB (ks.zip ds) (fun p hp=>okKids_mem h4 _ (List.of_mem_zip hp).2)
 rw [hz,List.map_fst_zip (by rw [e2];exact Nat.le_refl _)] at k1
 rw [hz,List.map_snd_zip (by rw [e2];exact Nat.le_refl _)] at k2
 rw [k1,k2]
theorem get_backN (n:NodeD) (hn:okNode n) (hi:inNode n) (A:Option Addr) (cap L:Nat) (hL:L=(nodeB n).length) (w:World) (hx:BytesAt w A (nodeB n)) (hc:L≤cap) (hcm:cap≤maxLen) :
 Calls Tryz.prog 84 #[.bool n.leaf,.slice A L cap] w fun e w'=>∃ l':NdL,e=.returned (.tuple #[.agg #[.bool n.leaf,.slice l'.EA n.es.length l'.ec,.slice l'.KA n.ks.length l'.kc,.slice l'.DA n.ds.length l'.dc],.int .i64 0])∧NodeAt w' n l'∧NdNew w' w.heap.size n l'∧Below w.heap.size w w':=by
 obtain ⟨c,b,e,hc1,hb,h1,h2⟩:=nodeB_form hn
 rw [e] at hL hx
 obtain ⟨g,o,hA,_⟩:=hx (by simp)
 subst hA
 have hlen:L=b.length+1:=by simpa using hL
 cases hlf:n.leaf
 ·have hp:=parse_inner hlf hn hi e hc1
  rw [hlf] at hb
  have hz:sizeP false=14:=rfl
  rw [hz] at hb
  refine (get_inner g o cap c b w hx (by rw [hc1];exact hb) (by omega) hcm L hlen (by omega) n hp.symm).mono ?_
  rintro r w' ⟨k1,k2,k3⟩
  obtain ⟨l',e1,e2,e4⟩:=k1 hn
  rw [hlf] at e1
  exact ⟨l',e1,e2,e4,k3⟩
 ·have hp:=parse_leaf hlf hn hi e hc1
  rw [hlf] at hb
  have hz:sizeP true=30:=rfl
  rw [hz] at hb
  refine (get_leaf g o cap c b w hx (by rw [hc1];exact hb) (by omega) hcm L hlen (by omega) n hp.symm).mono ?_
  rintro r w' ⟨k1,k2,k3⟩
  obtain ⟨l',e1,e2,e4⟩:=k1 hn
  rw [hlf] at e1
  exact ⟨l',e1,e2,e4,k3⟩
theorem quiet_binOpN {P:Program} {o:Oper} {a:Act} {B:Nat} {w0:World} {K:Act→Prop} (op:BinOp) (ty:TypeId) (x y:Operand) (t2:TypeId) (ho:o.op=.binOp op ty x y t2) (vx vy v:Value) (hx:a.eval x=vx) (hy:a.eval y=vy)
 (hg:∀ W,(eqGuard op ty x y vx vy).run P W=.ok () W) (hr:∀ W,(binOp op ty vx vy).run P W=.ok v W) (h:K (a.put o.dst v)):o.quiet P a (fun w'=>∃ x:SubW B w0,w'=x.at_) K:=by
 refine ⟨v,?_,h⟩
 rintro w ⟨y,rfl⟩
 unfold Oper.quietAt execOp
 simp only [ho,Sem.run_bind,Sem.run_pure,Result.andThen_ok,hx,hy,hg,hr]
 exact ⟨rfl,rfl⟩
theorem least_any (n:NodeD) (l:NdL) (k:KeyD) (hk:if n.leaf=true then ∃ e,n.es[0]?=some e∧k=e.key else n.ks[0]?=some k) (w:World) (h:NodeAt w n l) :
 Calls Tryz.prog 77 #[.agg #[.bool n.leaf,.slice l.EA n.es.length l.ec,.slice l.KA n.ks.length l.kc,.slice l.DA n.ds.length l.dc]] w fun e w'=>e=.returned (.agg #[.int .i64 k.se,.int .i64 k.st])∧Below w.heap.size w w':=by
 obtain ⟨lf,es,ks,ds⟩:=n
 obtain ⟨EA,ec,KA,kc,DA,dc⟩:=l
 dsimp only at *
 obtain ⟨ne,hne⟩:∃ x,es.length=x:=⟨_,rfl⟩
 obtain ⟨nk,hnk⟩:∃ x,ks.length=x:=⟨_,rfl⟩
 obtain ⟨nd,hnd⟩:∃ x,ds.length=x:=⟨_,rfl⟩
 rw [hne,hnk,hnd]
 cases lf with
 | true =>
   simp only [if_true] at hk
   obtain ⟨e,he,rfl⟩:=hk
   have hpos:0<ne:=by rw [← hne];exact (List.getElem?_eq_some_iff.1 he).1
   have d1:decide ((0:Int)<(ne:Int))=true:=by simp;omega
   obtain ⟨b,off,rfl,hc⟩:=h.e (by intro e';dsimp only at e';rw [e'] at he;simp at he)
   obtain ⟨c0,c1,-⟩:=hc 0 e he
   simp only [Nat.zero_mul,Nat.add_zero] at c0 c1
   have b0:=World.block_lt_of_cell? _ _ c0
   clear hc h hne hnk hnd he
   go_enter Tryz.func77,Tryz.ntmps77
   go_wp2_with fail
   exact bodyPost_ret (v:=.agg #[.int .i64 e.se,.int .i64 e.st]) (results_cell_row (p:=2) (ty:=38) rfl _ _ (w.heap.size+1) 38 #[.int .i64 e.se,.int .i64 e.st] (0,0) _ rfl (heap_alloc2_new _ _ _) Tryz.underlying38 rfl (by kernel_rfl)) rfl ⟨rfl,below_two (Below.refl _ _)⟩
 | false =>
   simp only [Bool.false_eq_true,if_false] at hk
   have hpos:0<nk:=by rw [← hnk];exact (List.getElem?_eq_some_iff.1 hk).1
   have d1:decide ((0:Int)<(nk:Int))=true:=by simp;omega
   obtain ⟨b,off,rfl,hc⟩:=h.k (by intro e';dsimp only at e';rw [e'] at hk;simp at hk)
   obtain ⟨c0,c1⟩:=hc 0 k hk
   simp only [Nat.zero_mul,Nat.add_zero] at c0 c1
   have b0:=World.block_lt_of_cell? _ _ c0
   clear hc h hne hnk hnd hk
   go_enter Tryz.func77,Tryz.ntmps77
   go_wp2_with fail
   exact bodyPost_ret (v:=.agg #[.int .i64 k.se,.int .i64 k.st]) (results_cell_row (p:=2) (ty:=38) rfl _ _ (w.heap.size+1) 38 #[.int .i64 k.se,.int .i64 k.st] (0,0) _ rfl (heap_alloc2_new _ _ _) Tryz.underlying38 rfl (by kernel_rfl)) rfl ⟨rfl,below_two (Below.refl _ _)⟩
theorem row_stays {w w':World} {k:Nat} {o:Obj} (h:w.heap[k]?=some o) (hb:Below w.heap.size w w'):w'.heap[k]?=some o:=(hb.block k (Array.getElem?_eq_some_iff.1 h).1).trans h
structure FitsN (n:NodeD):Prop where
 e:n.es.length*64≤140737488355328
 k:n.ks.length*16≤140737488355328
 d:n.ds.length*8≤140737488355328
theorem row_mono {w:World} {base base' sz n:Nat} {E:TypeId} {v:Value} {us:List Value} (h:w.ownsRow base E sz v n us) (hb:base'≤base):w.ownsRow base' E sz v n us :=
 ⟨h.1,h.2.imp id fun ⟨g,cap,cur,h1,h2,h3⟩=>⟨g,cap,cur,h1,Nat.le_trans hb h2,h3⟩⟩
theorem alloc3_0 (w:World) (a b c:Obj) {x:Obj} (ha:∀ u:World,(u.alloc a).heap[u.heap.size]?=some x):(((w.alloc a).alloc b).alloc c).heap[w.heap.size]?=some x:=by
 rw [Below.heap_alloc _ _ _ (by simp;omega),Below.heap_alloc _ _ _ (by simp)]
 exact ha w
theorem alloc3_1 (w:World) (a b c:Obj) {x:Obj} (hb:∀ u:World,(u.alloc b).heap[u.heap.size]?=some x):(((w.alloc a).alloc b).alloc c).heap[w.heap.size+1]?=some x:=by
 rw [Below.heap_alloc _ _ _ (by simp)]
 have:=hb (w.alloc a)
 simpa using this
theorem alloc3_2 (w:World) (a b c:Obj) {x:Obj} (hc:∀ u:World,(u.alloc c).heap[u.heap.size]?=some x):(((w.alloc a).alloc b).alloc c).heap[w.heap.size+2]?=some x:=by
 have:=hc ((w.alloc a).alloc b)
 simpa using this
theorem join_leaf (lb:Bool) (EA1 KA1 DA1 EA2 KA2 DA2:Option Addr) (ne1 ec1 nk1 kc1 nd1 dc1 ne2 ec2 nk2 kc2 nd2 dc2:Nat) (N:Nat) (hN:ne1+ne2=N) (us1 us2:List Value) (l1:us1.length=ne1*8) (l2:us2.length=ne2*8) (o1:∀ u ∈ us1,u.oneCell'=true) (o2:∀ u ∈ us2,u.oneCell'=true) (hl:N*64≤140737488355328) (w:World) (hA1:CellsAt w EA1 us1) (hA2:CellsAt w EA2 us2) :
 Calls Tryz.prog 127 #[.agg #[.bool true,.slice EA1 ne1 ec1,.slice KA1 nk1 kc1,.slice DA1 nd1 dc1],.agg #[.bool lb,.slice EA2 ne2 ec2,.slice KA2 nk2 kc2,.slice DA2 nd2 dc2]] w fun e w'=>(∃ A c,e=.returned (.agg #[.bool true,.slice A N c,.slice none 0 0,.slice none 0 0])∧w'.ownsRow w.heap.size 40 8 (.slice A N c) N (us1 ++ us2))∧Below w.heap.size w w':=by
 obtain ⟨W,eW⟩:∃ W,W=((w.alloc (.cells #[.bool true,.slice EA1 ne1 ec1,.slice KA1 nk1 kc1,.slice DA1 nd1 dc1] 86)).alloc (.cells #[.bool lb,.slice EA2 ne2 ec2,.slice KA2 nk2 kc2,.slice DA2 nd2 dc2] 86)).alloc (.cells #[.bool false,.slice none 0 0,.slice none 0 0,.slice none 0 0] 86):=⟨_,rfl⟩
 have hb:Below w.heap.size w W:=by rw [eW];exact (((Below.refl _ _).alloc (Nat.le_refl _) _).alloc (by simp) _).alloc (by simp;omega) _
 have hr0:W.heap[w.heap.size]?=some (.cells #[.bool true,.slice EA1 ne1 ec1,.slice KA1 nk1 kc1,.slice DA1 nd1 dc1] 86 (0,0)):=by rw [eW];exact alloc3_0 _ _ _ _ (fun u=>heap_alloc_new u _)
 have hr1:W.heap[w.heap.size+1]?=some (.cells #[.bool lb,.slice EA2 ne2 ec2,.slice KA2 nk2 kc2,.slice DA2 nd2 dc2] 86 (0,0)):=by rw [eW];exact alloc3_1 _ _ _ _ (fun u=>heap_alloc_new u _)
 have hr2:W.heap[w.heap.size+2]?=some (.cells #[.bool false,.slice none 0 0,.slice none 0 0,.slice none 0 0] 86 (0,0)):=by rw [eW];exact alloc3_2 _ _ _ _ (fun u=>heap_alloc_new u _)
 have hWs:W.heap.size=w.heap.size+3:=by rw [eW];simp
 have HB:=Lib.hid hb
 have HR0:=Lib.hid hr0
 have HR1:=Lib.hid hr1
 have HR2:=Lib.hid hr2
 have HWS:=Lib.hid hWs
 have a0:=nd_cell hr0 0 _ rfl
 have a1:=nd_cell hr0 1 _ rfl
 have a2:=nd_cell hr1 1 _ rfl
 simp only [List.getElem_toArray,List.getElem_cons_zero,List.getElem_cons_succ] at a0 a1 a2
 have HA1:=Lib.hid (hA1.below hb)
 have HA2:=Lib.hid (hA2.below hb)
 have L1:=Lib.hid l1
 have L2:=Lib.hid l2
 have O1:=Lib.hid o1
 have O2:=Lib.hid o2
 have HL:=Lib.hid hl
 have HN:=Lib.hid hN
 clear hb hr0 hr1 hr2 hWs hA1 hA2 l1 l2 o1 o2 hl hN
 go_enter Tryz.func127,Tryz.ntmps127
 go_upto_region 1 with fail
 rw [← eW]
 clear eW
 have HBA:=Lib.hid ((Below.refl W.heap.size W).alloc (Nat.le_refl _) (.cells #[.slice EA1 ne1 ec1,.slice EA2 ne2 ec2] 29))
 go_wp2_with (first
  | (go_at_call 159;refine (concat_ent W.heap.size EA1 EA2 ne1 ec1 ne2 ec2 N HN.out us1 us2 L1.out L2.out O1.out O2.out HL.out _ (heap_alloc_new _ _) (HA1.out.below HBA.out) (HA2.out.below HBA.out)).mono ?_;rintro e w1 ⟨A,c,rfl,ho,hb1⟩;have HO:=Lib.hid ho;have HB1:=Lib.hid (HBA.out.trans (hb1.mono HBA.out.size));clear ho hb1)
  | (refine wpList_store_row rfl 86 (.tmp 4) (.tmp 13) rfl (w.heap.size+2) #[.bool true,.slice A N c,.slice none 0 0,.slice none 0 0] rfl rfl 86 #[.bool false,.slice none 0 0,.slice none 0 0,.slice none 0 0] (row_stays HR2.out HB1.out) (by kernel_rfl) rfl (by simp [Value.oneCell']) ?_))
 obtain ⟨V,hV⟩:∃ V,V=w1.setRow (w.heap.size+2) #[.bool true,.slice A N c,.slice none 0 0,.slice none 0 0]:=⟨_,rfl⟩
 rw [← hV]
 have HV4:V.heap[w.heap.size+2]?=some (.cells #[.bool true,.slice A N c,.slice none 0 0,.slice none 0 0] 86 (0,0)):=by rw [hV];exact setRow_heap _ _ _ _ _ _ (row_stays HR2.out HB1.out)
 have HVB:Below w.heap.size w V:=by rw [hV];exact below_setRow (HB.out.trans (HB1.out.mono HB.out.size)) (by omega) _
 have HVO:V.ownsRow w.heap.size 40 8 (.slice A N c) N (us1 ++ us2):=by
  rw [hV]
  refine row_mono (row_keep HO.out (fun k cur hk hc=>?_)) (by have:=HBA.out.size;have:=HWS.out;omega)
  exact setRow_other _ _ _ _ (fun e=>by subst e;have:=HBA.out.size;have:=HWS.out;omega)
 exact bodyPost_ret (v:=.agg #[.bool true,.slice A N c,.slice none 0 0,.slice none 0 0]) (results_cell_row (p:=4) (ty:=86) rfl _ _ (w.heap.size+2) 86 _ (0,0) _ rfl HV4 Tryz.underlying86 rfl (by kernel_rfl)) rfl ⟨⟨A,c,rfl,HVO⟩,HVB⟩
theorem join_inner (lb:Bool) (EA1 KA1 DA1 EA2 KA2 DA2:Option Addr) (ne1 ec1 nk1 kc1 nd1 dc1 ne2 ec2 nk2 kc2 nd2 dc2:Nat) (NK ND:Nat) (hNK:nk1+nk2=NK) (hND:nd1+nd2=ND) (uK1 uK2 uD1 uD2:List Value) (lK1:uK1.length=nk1*2) (lK2:uK2.length=nk2*2) (lD1:uD1.length=nd1*1) (lD2:uD2.length=nd2*1) (oK1:∀ u ∈ uK1,u.oneCell'=true) (oK2:∀ u ∈ uK2,u.oneCell'=true) (oD1:∀ u ∈ uD1,u.oneCell'=true) (oD2:∀ u ∈ uD2,u.oneCell'=true) (hlK:NK*16≤140737488355328) (hlD:ND*8≤140737488355328) (w:World) (hK1:CellsAt w KA1 uK1) (hK2:CellsAt w KA2 uK2) (hD1:CellsAt w DA1 uD1) (hD2:CellsAt w DA2 uD2) :
 Calls Tryz.prog 127 #[.agg #[.bool false,.slice EA1 ne1 ec1,.slice KA1 nk1 kc1,.slice DA1 nd1 dc1],.agg #[.bool lb,.slice EA2 ne2 ec2,.slice KA2 nk2 kc2,.slice DA2 nd2 dc2]] w fun e w'=>(∃ K kc D dc,e=.returned (.agg #[.bool false,.slice none 0 0,.slice K NK kc,.slice D ND dc])∧w'.ownsRow w.heap.size 38 2 (.slice K NK kc) NK (uK1 ++ uK2)∧w'.ownsRow w.heap.size 3 1 (.slice D ND dc) ND (uD1 ++ uD2))∧Below w.heap.size w w':=by
 obtain ⟨W,eW⟩:∃ W,W=((w.alloc (.cells #[.bool false,.slice EA1 ne1 ec1,.slice KA1 nk1 kc1,.slice DA1 nd1 dc1] 86)).alloc (.cells #[.bool lb,.slice EA2 ne2 ec2,.slice KA2 nk2 kc2,.slice DA2 nd2 dc2] 86)).alloc (.cells #[.bool false,.slice none 0 0,.slice none 0 0,.slice none 0 0] 86):=⟨_,rfl⟩
 have hb:Below w.heap.size w W:=by rw [eW];exact (((Below.refl _ _).alloc (Nat.le_refl _) _).alloc (by simp) _).alloc (by simp;omega) _
 have hr0:W.heap[w.heap.size]?=some (.cells #[.bool false,.slice EA1 ne1 ec1,.slice KA1 nk1 kc1,.slice DA1 nd1 dc1] 86 (0,0)):=by rw [eW];exact alloc3_0 _ _ _ _ (fun u=>heap_alloc_new u _)
 have hr1:W.heap[w.heap.size+1]?=some (.cells #[.bool lb,.slice EA2 ne2 ec2,.slice KA2 nk2 kc2,.slice DA2 nd2 dc2] 86 (0,0)):=by rw [eW];exact alloc3_1 _ _ _ _ (fun u=>heap_alloc_new u _)
 have hr2:W.heap[w.heap.size+2]?=some (.cells #[.bool false,.slice none 0 0,.slice none 0 0,.slice none 0 0] 86 (0,0)):=by rw [eW];exact alloc3_2 _ _ _ _ (fun u=>heap_alloc_new u _)
 have hWs:W.heap.size=w.heap.size+3:=by rw [eW];simp
 have HB:=Lib.hid hb
 have HR0:=Lib.hid hr0
 have HR1:=Lib.hid hr1
 have HR2:=Lib.hid hr2
 have HWS:=Lib.hid hWs
 have a0:=nd_cell hr0 0 _ rfl
 simp only [List.getElem_toArray,List.getElem_cons_zero] at a0
 have G0:∀ y:SubW (w.heap.size+2) W,y.at_.cell? ⟨w.heap.size,2,none⟩=some (.slice KA1 nk1 kc1):=fun y=>nd_cell ((y.ok_.block _ (by omega)).trans hr0) 2 _ rfl
 have G1:∀ y:SubW (w.heap.size+2) W,y.at_.cell? ⟨w.heap.size,3,none⟩=some (.slice DA1 nd1 dc1):=fun y=>nd_cell ((y.ok_.block _ (by omega)).trans hr0) 3 _ rfl
 have G2:∀ y:SubW (w.heap.size+2) W,y.at_.cell? ⟨w.heap.size+1,2,none⟩=some (.slice KA2 nk2 kc2):=fun y=>nd_cell ((y.ok_.block _ (by omega)).trans hr1) 2 _ rfl
 have G3:∀ y:SubW (w.heap.size+2) W,y.at_.cell? ⟨w.heap.size+1,3,none⟩=some (.slice DA2 nd2 dc2):=fun y=>nd_cell ((y.ok_.block _ (by omega)).trans hr1) 3 _ rfl
 have HK1:=Lib.hid (hK1.below hb)
 have LK1:=Lib.hid lK1
 have OK1:=Lib.hid oK1
 have HK2:=Lib.hid (hK2.below hb)
 have LK2:=Lib.hid lK2
 have OK2:=Lib.hid oK2
 have HD1:=Lib.hid (hD1.below hb)
 have LD1:=Lib.hid lD1
 have OD1:=Lib.hid oD1
 have HD2:=Lib.hid (hD2.below hb)
 have LD2:=Lib.hid lD2
 have OD2:=Lib.hid oD2
 have HLK:=Lib.hid hlK
 have HLD:=Lib.hid hlD
 have HNK:=Lib.hid hNK
 have HND:=Lib.hid hND
 have H2:Hid (w.heap.size+2≤W.heap.size):=Lib.hid (by omega)
 clear hb hr0 hr1 hr2 hWs hK1 hK2 hD1 hD2 lK1 lK2 lD1 lD2 oK1 oK2 oD1 oD2 hlK hlD hNK hND
 go_enter Tryz.func127,Tryz.ntmps127
 go_upto_region 1 with fail
 rw [← eW]
 clear eW
 go_upto_region 3 with fail
 clear a0
 refine region_ways4 (w.heap.size+2) H2.out (.two [0,1,2,3,6,7,8,9] 4 (.two [] 5 (.one [] 10 (.one [] 11 (.one [12] 13 (.done [])))) 10 (.one [] 5 (.one [] 11 (.one [12] 13 (.done []))))) 10 (.one [] 4 (.one [] 5 (.one [] 11 (.one [12] 13 (.done [])))))) (by kernel_rfl) (by kernel_rfl) ?_
 rintro wd hbd
 have B0:=Lib.hid hbd
 clear hbd
 rw [wpWays_two4]
 try simp only [List.map_cons,List.map_nil,opAt,List.getElem?_toArray,List.getElem?_cons_zero,List.getElem?_cons_succ,Option.getD_some]
 repeat (go_big_quiet_step (fail))
 clear G0 G1 G2 G3
 refine wpQuiet_nil ⟨?_,?_⟩
 ·skip
  go_wp2_with fail
  obtain ⟨x1,ex1⟩:∃ x,x=wd.alloc (.cells #[.slice KA1 nk1 kc1,.slice KA2 nk2 kc2] 84):=⟨_,rfl⟩
  rw [← ex1]
  have b1:Below wd.heap.size wd x1:=by rw [ex1];exact (Below.refl _ _).alloc (Nat.le_refl _) _
  have GKn1:Hid (x1.heap[wd.heap.size]?=some (.cells #[.slice KA1 nk1 kc1,.slice KA2 nk2 kc2] 84 (0,0))):=Lib.hid (by rw [ex1];exact heap_alloc_new _ _)
  have B1:=Lib.hid (B0.out.trans (b1.mono B0.out.size))
  clear b1 ex1
  refine ⟨⟨⟨_,B1.out.mono H2.out⟩,rfl⟩,?_⟩
  try simp only [Act.put,List.setIfInBounds_toArray,List.set_cons_zero,List.set_cons_succ]
  rw [wpWays_two4]
  try simp only [List.map_nil,opAt,List.getElem?_toArray,List.getElem?_cons_zero,List.getElem?_cons_succ,Option.getD_some]
  refine wpQuiet_nil ⟨?_,?_⟩
  ·skip
   go_wp2_with (go_at_call 160;refine (concat_key wd.heap.size KA1 KA2 nk1 kc1 nk2 kc2 NK HNK.out uK1 uK2 LK1.out LK2.out OK1.out OK2.out HLK.out _ GKn1.out (HK1.out.below B1.out) (HK2.out.below B1.out)).mono ?_;rintro e x2 ⟨A2,c2,rfl,ho2,b2⟩)
   have RKn2:=Lib.hid (row_mono ho2 (show w.heap.size≤x1.heap.size from by have:=B1.out.size;have:=H2.out;omega))
   have B2:=Lib.hid (B1.out.trans (b2.mono B1.out.size))
   clear b2 ho2
   refine ⟨⟨⟨_,B2.out.mono H2.out⟩,rfl⟩,?_⟩
   try simp only [Act.put,List.setIfInBounds_toArray,List.set_cons_zero,List.set_cons_succ]
   rw [wpWays_one4]
   try simp only [List.map_nil,opAt,List.getElem?_toArray,List.getElem?_cons_zero,List.getElem?_cons_succ,Option.getD_some]
   refine wpQuiet_nil ?_
   go_wp2_with fail
   obtain ⟨x3,ex3⟩:∃ x,x=x2.alloc (.cells #[.slice DA1 nd1 dc1,.slice DA2 nd2 dc2] 59):=⟨_,rfl⟩
   rw [← ex3]
   have b3:Below x2.heap.size x2 x3:=by rw [ex3];exact (Below.refl _ _).alloc (Nat.le_refl _) _
   have GDn3:Hid (x3.heap[x2.heap.size]?=some (.cells #[.slice DA1 nd1 dc1,.slice DA2 nd2 dc2] 59 (0,0))):=Lib.hid (by rw [ex3];exact heap_alloc_new _ _)
   have RK3:=Lib.hid (row_below RKn2.out b3)
   have B3:=Lib.hid (B2.out.trans (b3.mono B2.out.size))
   clear b3 ex3
   refine ⟨⟨⟨_,B3.out.mono H2.out⟩,rfl⟩,?_⟩
   try simp only [Act.put,List.setIfInBounds_toArray,List.set_cons_zero,List.set_cons_succ]
   rw [wpWays_one4]
   try simp only [List.map_nil,opAt,List.getElem?_toArray,List.getElem?_cons_zero,List.getElem?_cons_succ,Option.getD_some]
   refine wpQuiet_nil ?_
   go_wp2_with (go_at_call 161;refine (concat_int x2.heap.size DA1 DA2 nd1 dc1 nd2 dc2 ND HND.out uD1 uD2 LD1.out LD2.out OD1.out OD2.out HLD.out _ GDn3.out (HD1.out.below B3.out) (HD2.out.below B3.out)).mono ?_;rintro e x4 ⟨A4,c4,rfl,ho4,b4⟩)
   have RDn4:=Lib.hid (row_mono ho4 (show w.heap.size≤x3.heap.size from by have:=B3.out.size;have:=H2.out;omega))
   have RK4:=Lib.hid (row_below RK3.out b4)
   have B4:=Lib.hid (B3.out.trans (b4.mono B3.out.size))
   clear b4 ho4
   refine ⟨⟨⟨_,B4.out.mono H2.out⟩,rfl⟩,?_⟩
   try simp only [Act.put,List.setIfInBounds_toArray,List.set_cons_zero,List.set_cons_succ]
   rw [wpWays_one4]
   try simp only [List.map_cons,List.map_nil,opAt,List.getElem?_toArray,List.getElem?_cons_zero,List.getElem?_cons_succ,Option.getD_some]
   repeat (go_big_quiet_step (fail))
   refine wpQuiet_nil ?_
   go_wp2_with (refine wpList_store_row rfl 86 (.tmp 4) (.tmp 26) rfl (w.heap.size+2) #[.bool false,.slice none 0 0,.slice A2 NK c2,.slice A4 ND c4] rfl rfl 86 #[.bool false,.slice none 0 0,.slice none 0 0,.slice none 0 0] (row_stays HR2.out B4.out) (by kernel_rfl) rfl (by simp [Value.oneCell']) ?_)
   obtain ⟨V,hV⟩:∃ V,V=x4.setRow (w.heap.size+2) #[.bool false,.slice none 0 0,.slice A2 NK c2,.slice A4 ND c4]:=⟨_,rfl⟩
   rw [← hV]
   have HV4:Hid (V.heap[w.heap.size+2]?=some (.cells #[.bool false,.slice none 0 0,.slice A2 NK c2,.slice A4 ND c4] 86 (0,0))):=Lib.hid (by rw [hV];exact setRow_heap _ _ _ _ _ _ (row_stays HR2.out B4.out))
   have HVB:Hid (Below (w.heap.size+2) W V):=Lib.hid (by rw [hV];exact below_setRow (B4.out.mono H2.out) (Nat.le_refl _) _)
   have VK:Hid (V.ownsRow w.heap.size 38 2 (.slice A2 NK c2) NK (uK1 ++ uK2)):=Lib.hid (by rw [hV];exact row_keep RK4.out (fun k cur hk hc=>setRow_other _ _ _ _ (fun e=>by subst e;have h9:=row_stays HR2.out B4.out;rw [h9] at hc;injection hc with hc;injection hc with _ hc;exact absurd hc (by decide))))
   have VD:Hid (V.ownsRow w.heap.size 3 1 (.slice A4 ND c4) ND (uD1 ++ uD2)):=Lib.hid (by rw [hV];exact row_keep RDn4.out (fun k cur hk hc=>setRow_other _ _ _ _ (fun e=>by subst e;have h9:=row_stays HR2.out B4.out;rw [h9] at hc;injection hc with hc;injection hc with _ hc;exact absurd hc (by decide))))
   clear hV
   refine ⟨⟨⟨_,HVB.out⟩,rfl⟩,?_⟩
   try simp only [Act.put]
   rw [wpWays_done4]
   try simp only [List.map_nil]
   refine wpQuiet_nil ?_
   go_wp2_with fail
   exact bodyPost_ret (v:=.agg #[.bool false,.slice none 0 0,.slice A2 NK c2,.slice A4 ND c4]) (results_cell_row (p:=4) (ty:=86) rfl _ _ (w.heap.size+2) 86 _ (0,0) _ rfl HV4.out Tryz.underlying86 rfl (by kernel_rfl)) rfl ⟨⟨A2,c2,A4,c4,rfl,VK.out,VD.out⟩,HB.out.trans (HVB.out.mono (by omega))⟩
  ·skip
   go_wp2_with fail
   obtain ⟨x6,ex6⟩:∃ x,x=x1.alloc (.cells #[.slice DA1 nd1 dc1,.slice DA2 nd2 dc2] 59):=⟨_,rfl⟩
   rw [← ex6]
   have b6:Below x1.heap.size x1 x6:=by rw [ex6];exact (Below.refl _ _).alloc (Nat.le_refl _) _
   have GDn6:Hid (x6.heap[x1.heap.size]?=some (.cells #[.slice DA1 nd1 dc1,.slice DA2 nd2 dc2] 59 (0,0))):=Lib.hid (by rw [ex6];exact heap_alloc_new _ _)
   have GK6:=Lib.hid (row_stays GKn1.out b6)
   have B6:=Lib.hid (B1.out.trans (b6.mono B1.out.size))
   clear b6 ex6
   refine ⟨⟨⟨_,B6.out.mono H2.out⟩,rfl⟩,?_⟩
   try simp only [Act.put,List.setIfInBounds_toArray,List.set_cons_zero,List.set_cons_succ]
   rw [wpWays_one4]
   try simp only [List.map_nil,opAt,List.getElem?_toArray,List.getElem?_cons_zero,List.getElem?_cons_succ,Option.getD_some]
   refine wpQuiet_nil ?_
   go_wp2_with (go_at_call 160;refine (concat_key wd.heap.size KA1 KA2 nk1 kc1 nk2 kc2 NK HNK.out uK1 uK2 LK1.out LK2.out OK1.out OK2.out HLK.out _ GK6.out (HK1.out.below B6.out) (HK2.out.below B6.out)).mono ?_;rintro e x7 ⟨A7,c7,rfl,ho7,b7⟩)
   have RKn7:=Lib.hid (row_mono ho7 (show w.heap.size≤x6.heap.size from by have:=B6.out.size;have:=H2.out;omega))
   have GD7:=Lib.hid (row_stays GDn6.out b7)
   have B7:=Lib.hid (B6.out.trans (b7.mono B6.out.size))
   clear b7 ho7
   refine ⟨⟨⟨_,B7.out.mono H2.out⟩,rfl⟩,?_⟩
   try simp only [Act.put,List.setIfInBounds_toArray,List.set_cons_zero,List.set_cons_succ]
   rw [wpWays_one4]
   try simp only [List.map_nil,opAt,List.getElem?_toArray,List.getElem?_cons_zero,List.getElem?_cons_succ,Option.getD_some]
   refine wpQuiet_nil ?_
   go_wp2_with (go_at_call 161;refine (concat_int x1.heap.size DA1 DA2 nd1 dc1 nd2 dc2 ND HND.out uD1 uD2 LD1.out LD2.out OD1.out OD2.out HLD.out _ GD7.out (HD1.out.below B7.out) (HD2.out.below B7.out)).mono ?_;rintro e x8 ⟨A8,c8,rfl,ho8,b8⟩)
   have RDn8:=Lib.hid (row_mono ho8 (show w.heap.size≤x7.heap.size from by have:=B7.out.size;have:=H2.out;omega))
   have RK8:=Lib.hid (row_below RKn7.out b8)
   have B8:=Lib.hid (B7.out.trans (b8.mono B7.out.size))
   clear b8 ho8
   refine ⟨⟨⟨_,B8.out.mono H2.out⟩,rfl⟩,?_⟩
   try simp only [Act.put,List.setIfInBounds_toArray,List.set_cons_zero,List.set_cons_succ]
   rw [wpWays_one4]
   try simp only [List.map_cons,List.map_nil,opAt,List.getElem?_toArray,List.getElem?_cons_zero,List.getElem?_cons_succ,Option.getD_some]
   repeat (go_big_quiet_step (fail))
   refine wpQuiet_nil ?_
   go_wp2_with (refine wpList_store_row rfl 86 (.tmp 4) (.tmp 26) rfl (w.heap.size+2) #[.bool false,.slice none 0 0,.slice A7 NK c7,.slice A8 ND c8] rfl rfl 86 #[.bool false,.slice none 0 0,.slice none 0 0,.slice none 0 0] (row_stays HR2.out B8.out) (by kernel_rfl) rfl (by simp [Value.oneCell']) ?_)
   obtain ⟨V,hV⟩:∃ V,V=x8.setRow (w.heap.size+2) #[.bool false,.slice none 0 0,.slice A7 NK c7,.slice A8 ND c8]:=⟨_,rfl⟩
   rw [← hV]
   have HV4:Hid (V.heap[w.heap.size+2]?=some (.cells #[.bool false,.slice none 0 0,.slice A7 NK c7,.slice A8 ND c8] 86 (0,0))):=Lib.hid (by rw [hV];exact setRow_heap _ _ _ _ _ _ (row_stays HR2.out B8.out))
   have HVB:Hid (Below (w.heap.size+2) W V):=Lib.hid (by rw [hV];exact below_setRow (B8.out.mono H2.out) (Nat.le_refl _) _)
   have VK:Hid (V.ownsRow w.heap.size 38 2 (.slice A7 NK c7) NK (uK1 ++ uK2)):=Lib.hid (by rw [hV];exact row_keep RK8.out (fun k cur hk hc=>setRow_other _ _ _ _ (fun e=>by subst e;have h9:=row_stays HR2.out B8.out;rw [h9] at hc;injection hc with hc;injection hc with _ hc;exact absurd hc (by decide))))
   have VD:Hid (V.ownsRow w.heap.size 3 1 (.slice A8 ND c8) ND (uD1 ++ uD2)):=Lib.hid (by rw [hV];exact row_keep RDn8.out (fun k cur hk hc=>setRow_other _ _ _ _ (fun e=>by subst e;have h9:=row_stays HR2.out B8.out;rw [h9] at hc;injection hc with hc;injection hc with _ hc;exact absurd hc (by decide))))
   clear hV
   refine ⟨⟨⟨_,HVB.out⟩,rfl⟩,?_⟩
   try simp only [Act.put]
   rw [wpWays_done4]
   try simp only [List.map_nil]
   refine wpQuiet_nil ?_
   go_wp2_with fail
   exact bodyPost_ret (v:=.agg #[.bool false,.slice none 0 0,.slice A7 NK c7,.slice A8 ND c8]) (results_cell_row (p:=4) (ty:=86) rfl _ _ (w.heap.size+2) 86 _ (0,0) _ rfl HV4.out Tryz.underlying86 rfl (by kernel_rfl)) rfl ⟨⟨A7,c7,A8,c8,rfl,VK.out,VD.out⟩,HB.out.trans (HVB.out.mono (by omega))⟩
 ·skip
  go_wp2_with fail
  obtain ⟨x10,ex10⟩:∃ x,x=wd.alloc (.cells #[.slice DA1 nd1 dc1,.slice DA2 nd2 dc2] 59):=⟨_,rfl⟩
  rw [← ex10]
  have b10:Below wd.heap.size wd x10:=by rw [ex10];exact (Below.refl _ _).alloc (Nat.le_refl _) _
  have GDn10:Hid (x10.heap[wd.heap.size]?=some (.cells #[.slice DA1 nd1 dc1,.slice DA2 nd2 dc2] 59 (0,0))):=Lib.hid (by rw [ex10];exact heap_alloc_new _ _)
  have B10:=Lib.hid (B0.out.trans (b10.mono B0.out.size))
  clear b10 ex10
  refine ⟨⟨⟨_,B10.out.mono H2.out⟩,rfl⟩,?_⟩
  try simp only [Act.put,List.setIfInBounds_toArray,List.set_cons_zero,List.set_cons_succ]
  rw [wpWays_one4]
  try simp only [List.map_nil,opAt,List.getElem?_toArray,List.getElem?_cons_zero,List.getElem?_cons_succ,Option.getD_some]
  refine wpQuiet_nil ?_
  go_wp2_with fail
  obtain ⟨x11,ex11⟩:∃ x,x=x10.alloc (.cells #[.slice KA1 nk1 kc1,.slice KA2 nk2 kc2] 84):=⟨_,rfl⟩
  rw [← ex11]
  have b11:Below x10.heap.size x10 x11:=by rw [ex11];exact (Below.refl _ _).alloc (Nat.le_refl _) _
  have GKn11:Hid (x11.heap[x10.heap.size]?=some (.cells #[.slice KA1 nk1 kc1,.slice KA2 nk2 kc2] 84 (0,0))):=Lib.hid (by rw [ex11];exact heap_alloc_new _ _)
  have GD11:=Lib.hid (row_stays GDn10.out b11)
  have B11:=Lib.hid (B10.out.trans (b11.mono B10.out.size))
  clear b11 ex11
  refine ⟨⟨⟨_,B11.out.mono H2.out⟩,rfl⟩,?_⟩
  try simp only [Act.put,List.setIfInBounds_toArray,List.set_cons_zero,List.set_cons_succ]
  rw [wpWays_one4]
  try simp only [List.map_nil,opAt,List.getElem?_toArray,List.getElem?_cons_zero,List.getElem?_cons_succ,Option.getD_some]
  refine wpQuiet_nil ?_
  go_wp2_with (go_at_call 160;refine (concat_key x10.heap.size KA1 KA2 nk1 kc1 nk2 kc2 NK HNK.out uK1 uK2 LK1.out LK2.out OK1.out OK2.out HLK.out _ GKn11.out (HK1.out.below B11.out) (HK2.out.below B11.out)).mono ?_;rintro e x12 ⟨A12,c12,rfl,ho12,b12⟩)
  have RKn12:=Lib.hid (row_mono ho12 (show w.heap.size≤x11.heap.size from by have:=B11.out.size;have:=H2.out;omega))
  have GD12:=Lib.hid (row_stays GD11.out b12)
  have B12:=Lib.hid (B11.out.trans (b12.mono B11.out.size))
  clear b12 ho12
  refine ⟨⟨⟨_,B12.out.mono H2.out⟩,rfl⟩,?_⟩
  try simp only [Act.put,List.setIfInBounds_toArray,List.set_cons_zero,List.set_cons_succ]
  rw [wpWays_one4]
  try simp only [List.map_nil,opAt,List.getElem?_toArray,List.getElem?_cons_zero,List.getElem?_cons_succ,Option.getD_some]
  refine wpQuiet_nil ?_
  go_wp2_with (go_at_call 161;refine (concat_int wd.heap.size DA1 DA2 nd1 dc1 nd2 dc2 ND HND.out uD1 uD2 LD1.out LD2.out OD1.out OD2.out HLD.out _ GD12.out (HD1.out.below B12.out) (HD2.out.below B12.out)).mono ?_;rintro e x13 ⟨A13,c13,rfl,ho13,b13⟩)
  have RDn13:=Lib.hid (row_mono ho13 (show w.heap.size≤x12.heap.size from by have:=B12.out.size;have:=H2.out;omega))
  have RK13:=Lib.hid (row_below RKn12.out b13)
  have B13:=Lib.hid (B12.out.trans (b13.mono B12.out.size))
  clear b13 ho13
  refine ⟨⟨⟨_,B13.out.mono H2.out⟩,rfl⟩,?_⟩
  try simp only [Act.put,List.setIfInBounds_toArray,List.set_cons_zero,List.set_cons_succ]
  rw [wpWays_one4]
  try simp only [List.map_cons,List.map_nil,opAt,List.getElem?_toArray,List.getElem?_cons_zero,List.getElem?_cons_succ,Option.getD_some]
  repeat (go_big_quiet_step (fail))
  refine wpQuiet_nil ?_
  go_wp2_with (refine wpList_store_row rfl 86 (.tmp 4) (.tmp 26) rfl (w.heap.size+2) #[.bool false,.slice none 0 0,.slice A12 NK c12,.slice A13 ND c13] rfl rfl 86 #[.bool false,.slice none 0 0,.slice none 0 0,.slice none 0 0] (row_stays HR2.out B13.out) (by kernel_rfl) rfl (by simp [Value.oneCell']) ?_)
  obtain ⟨V,hV⟩:∃ V,V=x13.setRow (w.heap.size+2) #[.bool false,.slice none 0 0,.slice A12 NK c12,.slice A13 ND c13]:=⟨_,rfl⟩
  rw [← hV]
  have HV4:Hid (V.heap[w.heap.size+2]?=some (.cells #[.bool false,.slice none 0 0,.slice A12 NK c12,.slice A13 ND c13] 86 (0,0))):=Lib.hid (by rw [hV];exact setRow_heap _ _ _ _ _ _ (row_stays HR2.out B13.out))
  have HVB:Hid (Below (w.heap.size+2) W V):=Lib.hid (by rw [hV];exact below_setRow (B13.out.mono H2.out) (Nat.le_refl _) _)
  have VK:Hid (V.ownsRow w.heap.size 38 2 (.slice A12 NK c12) NK (uK1 ++ uK2)):=Lib.hid (by rw [hV];exact row_keep RK13.out (fun k cur hk hc=>setRow_other _ _ _ _ (fun e=>by subst e;have h9:=row_stays HR2.out B13.out;rw [h9] at hc;injection hc with hc;injection hc with _ hc;exact absurd hc (by decide))))
  have VD:Hid (V.ownsRow w.heap.size 3 1 (.slice A13 ND c13) ND (uD1 ++ uD2)):=Lib.hid (by rw [hV];exact row_keep RDn13.out (fun k cur hk hc=>setRow_other _ _ _ _ (fun e=>by subst e;have h9:=row_stays HR2.out B13.out;rw [h9] at hc;injection hc with hc;injection hc with _ hc;exact absurd hc (by decide))))
  clear hV
  refine ⟨⟨⟨_,HVB.out⟩,rfl⟩,?_⟩
  try simp only [Act.put]
  rw [wpWays_done4]
  try simp only [List.map_nil]
  refine wpQuiet_nil ?_
  go_wp2_with fail
  exact bodyPost_ret (v:=.agg #[.bool false,.slice none 0 0,.slice A12 NK c12,.slice A13 ND c13]) (results_cell_row (p:=4) (ty:=86) rfl _ _ (w.heap.size+2) 86 _ (0,0) _ rfl HV4.out Tryz.underlying86 rfl (by kernel_rfl)) rfl ⟨⟨A12,c12,A13,c13,rfl,VK.out,VD.out⟩,HB.out.trans (HVB.out.mono (by omega))⟩
end Go.Proofs.YtgkddhncfaeidaaGreat
