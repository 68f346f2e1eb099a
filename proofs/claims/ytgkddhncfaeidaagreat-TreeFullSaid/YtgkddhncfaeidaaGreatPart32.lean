/- Squeezed: the texts as they are written lie in wip/tpl. -/
import Derived.Test.YtgkddhncfaeidaaGreatPart05
import Derived.Test.YtgkddhncfaeidaaGreatPart21
import Derived.Laws.CopyOwn
import Derived.Lib.SliceRun
set_option maxRecDepth 100000
set_option maxHeartbeats 4000000
set_option linter.unusedSimpArgs false
set_option linter.unusedVariables false
namespace Go.Proofs.YtgkddhncfaeidaaGreat
open Go.RowKit Go.ChangeShapes Go.WideShapes Go.ChangeAt
variable {P:Program}
theorem splice_take_le {α:Type} {L cs:List α} {off k:Nat} (h:k≤off) (ho:off≤L.length):(splice L off cs).take k=L.take k:=by
 unfold splice
 rw [List.take_append_of_le_length (by rw [List.length_take];omega),List.take_take,Nat.min_eq_left h]
theorem splice_take_end {α:Type} {L cs:List α} {off k:Nat} (hk:k=off+cs.length) (ho:off≤L.length):(splice L off cs).take k=L.take off ++ cs:=by
 unfold splice
 subst hk
 rw [← List.append_assoc,List.take_append_of_le_length (by rw [List.length_append,List.length_take];omega)]
 exact List.take_of_length_le (by rw [List.length_append,List.length_take];omega)
theorem splice_get_hi {α:Type} {L cs:List α} {off j:Nat} (h:off+cs.length≤j) (ho:off+cs.length≤L.length):(splice L off cs)[j]?=L[j]?:=by
 unfold splice
 rw [← List.append_assoc,List.getElem?_append_right (by rw [List.length_append,List.length_take];omega),List.getElem?_drop,List.length_append,List.length_take]
 congr 1
 omega
theorem splice_nil {α:Type} (L:List α) (off:Nat):splice L off []=L:=by simp [splice]
theorem run_copy_rowN (w:World) (dT sT ty elem:TypeId) (sz:Nat) (g o dLen dCap:Nat) (a:Addr) (sLen sCap:Nat) (cur:Array Value) (t:TypeId) (cs:List Value)
 (hu:P.underlying dT=some (.slice elem)) (hs:(P.info? elem).map (·.size)=some sz)
 (hg:w.heap[g]?=some (.cells cur t (0,0))) (hn:cs.length=Nat.min sLen dLen*sz)
 (hsrc:∀ j v,cs[j]?=some v→w.cell? (a.add j)=some v) (hfit:o+cs.length≤cur.size) (h1:∀ v ∈ cs,v.oneCell'=true) :
 (Builtin.copy_ #[dT,sT] ty #[.slice (some ⟨g,o,none⟩) dLen dCap,.slice (some a) sLen sCap]).run P w =
  .ok (goInt (Nat.min sLen dLen)) (w.setRow g (splice cur.toList o cs).toArray):=by
 have hl:=run_loadCells_list (P:=P) w a cs hsrc
 have hst:=run_storeCells_at P g o t cs 0 cur w hg (by simpa using hfit) h1
 cases hq:P.info? elem with
 | none=>simp [hq] at hs
 | some i =>
   have hi:i.size=sz:=by simpa [hq] using hs
   have hn':(min sLen dLen)*sz=cs.length:=hn.symm
   simp [Builtin.copy_,run_underlying hu,Builtin.lenOf,Builtin.firstCells,sizeOf,typeInfo,hq,hi,hn',hl,hst,splice]
theorem run_copy_noneN (w:World) (dT sT ty elem:TypeId) (sz:Nat) (d a:Option Addr) (dLen dCap sLen sCap:Nat) (hu:P.underlying dT=some (.slice elem)) (hs:(P.info? elem).map (·.size)=some sz) (hn:Nat.min sLen dLen=0) :
 (Builtin.copy_ #[dT,sT] ty #[.slice d dLen dCap,.slice a sLen sCap]).run P w=.ok (goInt 0) w:=by
 cases hq:P.info? elem with
 | none=>simp [hq] at hs
 | some i =>
   have hl:∀ (x:Addr),(loadCells x 0).run P w=.ok #[] w:=fun x=>by simpa using run_loadCells_list (P:=P) w x [] (by simp)
   cases d <;> cases a <;> simp [Builtin.copy_,run_underlying hu,Builtin.lenOf,Builtin.firstCells,sizeOf,typeInfo,hq,hn,storeCells,hl]
theorem wpList_copy_N {w:World} {ops:Array Oper} {rest:List Oper} {o:Oper} {a:Act} {Q:Exit→Act→World→Prop} (hgd:o.guard=none) (d s:Operand) (dT sT:TypeId)
 (ho:o.op=.call { callee:=.builtin .copy,args:=#[d,s],argTypes:=#[dT,sT] }) (elem:TypeId) (hu:P.underlying dT=some (.slice elem)) (sz:Nat) (hsz:(P.info? elem).map (·.size)=some sz)
 (dp sp:Option Addr) (dLen dCap sLen sCap:Nat) (hd:a.eval d=.slice dp dLen dCap) (hs:a.eval s=.slice sp sLen sCap)
 (m:Nat) (hm:Nat.min sLen dLen=m) (g off:Nat) (cur:List Value) (t:TypeId) (hg:w.heap[g]?=some (.cells cur.toArray t (0,0))) (cs:List Value) (hn:cs.length=m*sz)
 (hpos:0<m→dp=some ⟨g,off,none⟩∧∃ ad,sp=some ad∧∀ j v,cs[j]?=some v→w.cell? (ad.add j)=some v)
 (hfit:off+cs.length≤cur.length) (h1:∀ v ∈ cs,v.oneCell'=true)
 (h:wpList P ops Q rest (a.put o.dst (goInt m)) (w.setRow g (splice cur off cs).toArray)) :
 wpList P ops Q (o :: rest) a w:=by
 refine wpList_plain hgd fun K hK=>?_
 by_cases h0:m=0
 ·subst h0
  obtain rfl:cs=[]:=List.eq_nil_of_length_eq_zero (by simpa using hn)
  have hrun:=run_copy_noneN (P:=P) w dT sT o.type elem sz dp sp dLen dCap sLen sCap hu hsz hm
  unfold Oper.wp
  simp [execOp,ho,resolve,invoke,builtin,hd,hs,hrun,Result.andThen]
  rw [splice_nil,setRow_self w g cur.toArray t (0,0) hg] at h
  exact hK _ _ h
 ·obtain ⟨rfl,ad,rfl,hsrc⟩:=hpos (by omega)
  have hrun:=run_copy_rowN (P:=P) w dT sT o.type elem sz g off dLen dCap ad sLen sCap cur.toArray t cs hu hsz hg (by rw [hm];exact hn) hsrc (by simpa using hfit) h1
  rw [hm] at hrun
  unfold Oper.wp
  simp only [ho,execOp,resolve,invoke,builtin,hd,hs,hrun,Sem.run_bind,Sem.run_pure,Result.andThen_ok,List.map_toArray,List.map_cons,List.map_nil]
  exact hK _ _ h
theorem run_zero_info {e:TypeId} {z:Value} {sz bytes:Nat} (hi:(P.info? e).map (fun i=>(i.zero,i.size,i.bytes))=some (some z,sz,bytes)) (w:World):(zeroValue e).run P w=.ok z w:=by
 obtain ⟨i,hi0,hz,hs,hb⟩:=info_parts hi
 simp [zeroValue,typeInfo,hi0,hz]
theorem zeroCells_len (z:Array Value) (n:Nat):(Builtin.zeroCells z n).toList.length=n*z.size:=by simp [Builtin.zeroCells]
theorem zeroCells_one (z:Array Value) (n:Nat) (hz:0<z.size) (h:∀ u ∈ z.toList,u.oneCell'=true):∀ u ∈ (Builtin.zeroCells z n).toList,u.oneCell'=true:=by
 intro u hu
 simp only [Builtin.zeroCells,Array.toList_map,List.mem_map] at hu
 obtain ⟨i,_,rfl⟩:=hu
 have hlt:i % z.size<z.size:=Nat.mod_lt _ hz
 rw [getElem!_pos z (i % z.size) hlt]
 exact h _ (by simp)
theorem run_clear_rowN (w:World) (t e ty:TypeId) (z:Value) (sz bytes:Nat) (ht:P.underlying t=some (.slice e)) (hi:(P.info? e).map (fun i=>(i.zero,i.size,i.bytes))=some (some z,sz,bytes)) (hz1:z.cells.size=sz) (h1:∀ u ∈ z.cells.toList,u.oneCell'=true) (g o n c:Nat) (hsz:0<sz) (hn:0<n)
 (cur:Array Value) (T:TypeId) (hg:w.heap[g]?=some (.cells cur T (0,0))) (hfit:o+n*sz≤cur.size) :
 (Builtin.clear_ #[t] ty #[.slice (some ⟨g,o,none⟩) n c]).run P w=.ok (.tuple #[]) (w.setRow g (splice cur.toList o (Builtin.zeroCells z.cells n).toList).toArray):=by
 have hst:=run_storeCells_at P g o T (Builtin.zeroCells z.cells n).toList 0 cur w hg (by rw [zeroCells_len,hz1];simpa using hfit) (zeroCells_one _ _ (by omega) h1)
 have hv:=run_zero_info (P:=P) hi w
 obtain ⟨m,rfl⟩:∃ m,n=m+1:=⟨n - 1,by omega⟩
 simp [Builtin.clear_,run_underlying ht,hv,hst,splice]
theorem wpList_clear_N {w:World} {ops:Array Oper} {rest:List Oper} {o:Oper} {a:Act} {Q:Exit→Act→World→Prop} (hgd:o.guard=none) (s:Operand) (t:TypeId)
 (ho:o.op=.call { callee:=.builtin .clear,args:=#[s],argTypes:=#[t] }) (e:TypeId) (ht:P.underlying t=some (.slice e)) (z:Value) (sz bytes:Nat) (hi:(P.info? e).map (fun i=>(i.zero,i.size,i.bytes))=some (some z,sz,bytes)) (hz1:z.cells.size=sz) (h1:∀ u ∈ z.cells.toList,u.oneCell'=true) (hsz:0<sz)
 (sp:Option Addr) (n c:Nat) (hs:a.eval s=.slice sp n c) (g off:Nat) (cur:List Value) (T:TypeId) (hg:w.heap[g]?=some (.cells cur.toArray T (0,0))) (hpos:0<n→sp=some ⟨g,off,none⟩) (hfit:off+n*sz≤cur.length)
 (h:wpList P ops Q rest (a.put o.dst (.tuple #[])) (w.setRow g (splice cur off (Builtin.zeroCells z.cells n).toList).toArray)) :
 wpList P ops Q (o :: rest) a w:=by
 refine wpList_plain hgd fun K hK=>?_
 by_cases h0:n=0
 ·subst h0
  have e0:(Builtin.zeroCells z.cells 0).toList=[]:=List.eq_nil_of_length_eq_zero (by rw [zeroCells_len];simp)
  rw [e0,splice_nil,setRow_self w g cur.toArray T (0,0) hg] at h
  have hrun:(Builtin.clear_ #[t] o.type #[.slice sp 0 c]).run P w=.ok (.tuple #[]) w:=by
   cases sp <;> simp [Builtin.clear_,run_underlying ht]
  unfold Oper.wp
  simp only [ho,execOp,resolve,invoke,builtin,hs,hrun,Sem.run_bind,Sem.run_pure,Result.andThen_ok,List.map_toArray,List.map_cons,List.map_nil]
  exact hK _ _ h
 ·obtain rfl:=hpos (by omega)
  have hrun:=run_clear_rowN (P:=P) w t e o.type z sz bytes ht hi hz1 h1 g off n c hsz (by omega) cur.toArray T hg (by simpa using hfit)
  unfold Oper.wp
  simp only [ho,execOp,resolve,invoke,builtin,hs,hrun,Sem.run_bind,Sem.run_pure,Result.andThen_ok,List.map_toArray,List.map_cons,List.map_nil]
  exact hK _ _ h
theorem wpList_append_in {w:World} {ops:Array Oper} {rest:List Oper} {o:Oper} {a:Act} {Q:Exit→Act→World→Prop} (hgd:o.guard=none) (s x:Operand) (t:TypeId)
 (ho:o.op=.call { callee:=.builtin .append,args:=#[s,x],argTypes:=#[t,t] }) (e:TypeId) (ht:P.underlying t=some (.slice e)) (z:Value) (sz bytes:Nat) (hi:(P.info? e).map (fun i=>(i.zero,i.size,i.bytes))=some (some z,sz,bytes))
 (g n cap:Nat) (hs:a.eval s=.slice (some ⟨g,0,none⟩) n cap) (cur:List Value) (hg:w.heap[g]?=some (.cells cur.toArray e (0,0))) (sp:Option Addr) (m c:Nat) (hx:a.eval x=.slice sp m c) (cs:List Value) (hm:cs.length=m*sz)
 (hpos:0<m→∃ ad,sp=some ad∧∀ j v,cs[j]?=some v→w.cell? (ad.add j)=some v) (h1:∀ v ∈ cs,v.oneCell'=true) (hroom:n+m≤cap) (hfit:n*sz+cs.length≤cur.length) (k:Nat) (hk:n+m=k)
 (h:wpList P ops Q rest (a.put o.dst (.slice (some ⟨g,0,none⟩) k cap)) (w.setRow g (splice cur (n*sz) cs).toArray)) :
 wpList P ops Q (o :: rest) a w:=by
 refine wpList_plain hgd fun K hK=>?_
 obtain ⟨i,hi0,hz,hs0,hb⟩:=info_parts hi
 by_cases h0:m=0
 ·subst h0
  obtain rfl:cs=[]:=List.eq_nil_of_length_eq_zero (by simpa using hm)
  rw [splice_nil,setRow_self w g cur.toArray e (0,0) hg] at h
  subst hk
  have hrun:(Builtin.append_ #[t,t] o.type #[.slice (some ⟨g,0,none⟩) n cap,.slice sp 0 c]).run P w=.ok (.slice (some ⟨g,0,none⟩) n cap) w:=by
   have hn:n≤cap:=by omega
   cases sp <;> simp [Builtin.append_,run_underlying ht,sizeOf,typeInfo,hi0,Builtin.lenOf,Builtin.firstCells,hn,storeCells,loadCells,loadCellsFrom]
  unfold Oper.wp
  simp only [ho,execOp,resolve,invoke,builtin,hs,hx,hrun,Sem.run_bind,Sem.run_pure,Result.andThen_ok,List.map_toArray,List.map_cons,List.map_nil]
  exact hK _ _ h
 ·obtain ⟨ad,rfl,hsrc⟩:=hpos (by omega)
  have hrun:=_root_.Go.run_append_room (P:=P) (w:=w) t o.type e i ht hi0 g n cap cur.toArray hg ad m c cs (by rw [hs0];exact hm) hsrc h1 hroom (by rw [hs0];simpa using hfit)
  subst hk
  unfold Oper.wp
  simp only [ho,execOp,resolve,invoke,builtin,hs,hx,hrun,Sem.run_bind,Sem.run_pure,Result.andThen_ok,List.map_toArray,List.map_cons,List.map_nil]
  refine hK _ _ ?_
  simpa [splice,hs0] using h
end Go.Proofs.YtgkddhncfaeidaaGreat
namespace Go.Proofs.YtgkddhncfaeidaaGreat
open Go.RowKit Go.ChangeShapes Go.WideShapes Go.ChangeAt CrcM PageM
theorem info_del_ent:(Tryz.prog.info? 40).map (fun i=>(i.zero,i.size,i.bytes))=some (some (.agg #[.int .i64 0,.int .i64 0,.int .i64 0,.int .i64 0,.int .i64 0,.int .i64 0,.int .i64 0,.int .u32 0]),8,64):=by kernel_rfl
theorem row_pre {w:World} {base sz n c:Nat} {E:TypeId} {A:Option Addr} {us:List Value} (h:w.ownsRow base E sz (.slice A n c) n us) (h0:0<n) {i:Nat} (hi:i≤n):w.ownsRow base E sz (.slice A i c) i (us.take (i*sz)):=by
 obtain ⟨hlen,⟨_,hz⟩ | ⟨g,cap,cu,hv,hb,hg,hnc,hcm,hcs,htk⟩⟩:=h
 ·omega
 injection hv with hA _ hc
 subst hA hc
 refine ⟨?_,.inr ⟨g,c,cu,rfl,hb,hg,by omega,hcm,hcs,?_⟩⟩
 ·rw [List.length_take,hlen,Nat.min_eq_left (Nat.mul_le_mul_right _ hi)]
 ·rw [← htk,List.take_take,Nat.min_eq_left (Nat.mul_le_mul_right _ hi)]
theorem info_rep_key:(Tryz.prog.info? 38).map (fun i=>(i.zero,i.size,i.bytes))=some (some (.agg #[.int .i64 0,.int .i64 0]),2,16):=by kernel_rfl
theorem rep_key_end (base n c m d i:Nat) (A B:Option Addr) (us vs:List Value) (w:World) (h:w.ownsRow base 38 2 (.slice A n c) n us) (hi:i<n) (hv:CellsAt w B vs) (hvl:vs.length=m*2) (hm:n≤1000000) (hm2:m≤1000000) (h2:∀ u ∈ vs,u.oneCell'=true) (hbase:base≤w.heap.size) :
 Calls Tryz.prog 92 #[.slice A n c,.int .i64 (i:Int),.int .i64 (n:Int),.slice B m d] w fun e w'=>(∃ A' c',e=.returned (.slice A' (i+m) c')∧w'.ownsRow base 38 2 (.slice A' (i+m) c') (i+m) (us.take (i*2) ++ vs))∧w.grownBy w' (Value.slice A n c).ownBlock:=by
 have HR:=Lib.hid h
 have HV:=Lib.hid hv
 have HVL:=Lib.hid hvl
 have H2:=Lib.hid h2
 have HBW:=Lib.hid hbase
 obtain ⟨hlen,⟨_,h0⟩ | ⟨g,cap,cu,hv,hb,hg,hnc,hcm,hcs,htk⟩⟩:=h
 ·omega
 injection hv with hA _ hc
 subst hA hc
 obtain ⟨cur,hcur⟩:∃ cur,cur=cu.toList:=⟨_,rfl⟩
 have hg':w.heap[g]?=some (.cells cur.toArray 38 (0,0)):=by rw [hcur,Array.toArray_toList];exact hg
 have hcl:cur.length=c*2:=by rw [hcur,Array.length_toList];exact hcs
 rw [← hcur] at htk
 have HG:=Lib.hid hg'
 have HCL:=Lib.hid hcl
 have HTK:Hid (cur.take (i*2)=us.take (i*2)):=Lib.hid (by rw [← htk,List.take_take,Nat.min_eq_left (by omega)])
 have HLEN:=Lib.hid hlen
 have HB:=Lib.hid hb
 have HCM:=Lib.hid hcm
 have HPR:=Lib.hid (row_pre HR.out (by omega) (Nat.le_of_lt hi))
 clear hg hg' hcl hcs htk hlen hb hcm hcur hv hvl h2 hbase
 have hcm:=HCM.out
 unfold maxLen at hcm
 have q0:((i:Int) == (n:Int))=false:=by simp;omega
 have q1:(i:Int)≤(n:Int):=by omega
 have q2:(n:Int)≤(c:Int):=by omega
 have q3:¬ c=i:=by omega
 by_cases hlt:i+m<n
 ·have q4:decide (((i+m:Nat):Int)<(n:Int))=true:=by simp;omega
  have q5:¬ c=i+m:=by omega
  go_enter Tryz.func92,Tryz.ntmps92
  have hfit:i*2+vs.length≤cur.length:=by have:=HVL.out;have:=HCL.out;omega
  go_upto_region 6 with (at_builtin;refine wpList_append_in rfl (.tmp 32) (.tmp 33) 84 rfl 38 Tryz.underlying84 (.agg #[.int .i64 0,.int .i64 0]) 2 16 info_rep_key g i c rfl cur HG.out _ m _ rfl vs (by have:=HVL.out;omega) (fun hm0=>HV.out.cells (by intro e;have:=HVL.out;rw [e] at this;simp at this;omega)) H2.out (by omega) (by omega) (i+m) rfl ?_)
  obtain ⟨cur1,hcur1⟩:∃ cur1,cur1=splice cur (i*2) vs:=⟨_,rfl⟩
  have G1:Hid ((w.setRow g (splice cur (i*2) vs).toArray).heap[g]?=some (.cells cur1.toArray 38 (0,0))):=Lib.hid (by rw [hcur1];exact setRow_heap w g _ _ _ _ HG.out)
  have L1:Hid (cur1.length=c*2):=Lib.hid (by rw [hcur1,length_splice _ _ _ hfit];exact HCL.out)
  have T1:Hid (cur1.take ((i+m)*2)=us.take (i*2) ++ vs):=Lib.hid (by
   rw [hcur1,splice_take_end (by have:=HVL.out;omega) (by omega),HTK.out])
  obtain ⟨w1,hw1⟩:∃ w1,w1=w.setRow g (splice cur (i*2) vs).toArray:=⟨_,rfl⟩
  have K1:Hid (w.grownBy w1 (some g)):=Lib.hid (by rw [hw1];exact ⟨rfl,rfl,rfl,by simp,fun k _ hk=>setRow_other w g k _ (fun e=>hk (by rw [e]))⟩)
  rw [← hw1] at G1 ⊢
  clear hw1 hcur1 hfit
  have hz:(i+m)*2+(n - (i+m))*2≤cur1.length:=by have:=L1.out;omega
  go_wp2_with (refine wpList_clear_N rfl (.tmp 43) 84 rfl 38 Tryz.underlying84 (.agg #[.int .i64 0,.int .i64 0]) 2 16 info_rep_key (by rfl) (by decide) (by decide) _ (n - (i+m)) _ rfl g ((i+m)*2) cur1 38 G1.out (fun _=>rfl) (by omega) ?_)
  go_ret
  refine ⟨⟨_,_,rfl,⟨?_,.inr ⟨g,_,_,rfl,HB.out,setRow_heap w1 g _ _ _ _ G1.out,by omega,HCM.out,?_,?_⟩⟩⟩,?_⟩
  ·have:=HLEN.out;have:=HVL.out;rw [List.length_append,List.length_take];omega
  ·rw [List.size_toArray,length_splice _ _ _ (by rw [zeroCells_len];show _+_*2≤_;omega)]
   have:=L1.out;omega
  ·try rw [Nat.mul_one]
   rw [splice_take_le (Nat.le_refl _) (by have:=L1.out;omega)]
   exact T1.out
  ·have k1:=K1.out
   exact ⟨(show (w1.setRow g _).os=_ from k1.os),(show (w1.setRow g _).tape=_ from k1.tape),(show (w1.setRow g _).output=_ from k1.output),Nat.le_trans k1.size (by simp),fun k hk hne=>(setRow_other w1 g k _ (fun e=>hne (by rw [e];rfl))).trans (k1.block k hk hne)⟩
 ·have q4:decide (((i+m:Nat):Int)<(n:Int))=false:=by simp;omega
  go_enter Tryz.func92,Tryz.ntmps92
  go_upto_region 6 with (at_builtin;refine wpList_append_row rfl (.tmp 32) (.tmp 33) 84 rfl Tryz.underlying84 (.agg #[.int .i64 0,.int .i64 0]) 16 info_rep_key (by rfl) (by decide) _ rfl HPR.out _ _ m rfl (by have:=HVL.out;omega) HV.out H2.out (by omega) (by unfold maxLen;omega) HBW.out (i+m) rfl _ rfl ?_;intro A1 c1 x1 R1 g1;have RX:=Lib.hid R1;have GX:=Lib.hid g1;clear R1 g1)
  go_wp2_with fail
  go_ret
  exact ⟨⟨_,_,rfl,RX.out⟩,GX.out⟩
theorem rep_key_mid (base n c m d i j:Nat) (A B:Option Addr) (us vs:List Value) (w:World) (h:w.ownsRow base 38 2 (.slice A n c) n us) (hij:i<j) (hjn:j<n) (hmj:i+m≤j) (hv:CellsAt w B vs) (hvl:vs.length=m*2) (hm:n≤1000000) (h1:∀ u ∈ us,u.oneCell'=true) (h2:∀ u ∈ vs,u.oneCell'=true) :
 Calls Tryz.prog 92 #[.slice A n c,.int .i64 (i:Int),.int .i64 (j:Int),.slice B m d] w fun e w'=>(∃ A' c',e=.returned (.slice A' (i+m+(n - j)) c')∧w'.ownsRow base 38 2 (.slice A' (i+m+(n - j)) c') (i+m+(n - j)) (us.take (i*2) ++ vs ++ us.drop (j*2)))∧w.grownBy w' (Value.slice A n c).ownBlock:=by
 have HV:=Lib.hid hv
 have HVL:=Lib.hid hvl
 have H2:=Lib.hid h2
 obtain ⟨hlen,⟨_,h0⟩ | ⟨g,cap,cu,hv,hb,hg,hnc,hcm,hcs,htk⟩⟩:=h
 ·omega
 injection hv with hA _ hc
 subst hA hc
 obtain ⟨cur,hcur⟩:∃ cur,cur=cu.toList:=⟨_,rfl⟩
 have hg':w.heap[g]?=some (.cells cur.toArray 38 (0,0)):=by rw [hcur,Array.toArray_toList];exact hg
 have hcl:cur.length=c*2:=by rw [hcur,Array.length_toList];exact hcs
 rw [← hcur] at htk
 obtain ⟨cs,hcsd⟩:∃ cs,cs=us.drop (j*2):=⟨_,rfl⟩
 obtain ⟨r,hrr⟩:∃ r,r=n - j:=⟨_,rfl⟩
 have HCS:Hid (cs.length=r*2):=Lib.hid (by rw [hcsd,List.length_drop];omega)
 have HC1:Hid (∀ v ∈ cs,v.oneCell'=true):=Lib.hid (fun v hv=>h1 v (List.mem_of_mem_drop (by rw [← hcsd];exact hv)))
 have HSR:Hid (∀ x v,cs[x]?=some v→cur[j*2+x]?=some v):=Lib.hid (fun x v hv=>by
  rw [hcsd,List.getElem?_drop] at hv
  have hlt:=(List.getElem?_eq_some_iff.1 hv).1
  rw [← htk,List.getElem?_take_of_lt (by omega)] at hv
  exact hv)
 have HG:=Lib.hid hg'
 have HCL:=Lib.hid hcl
 have HTK:Hid (cur.take (i*2)=us.take (i*2)):=Lib.hid (by rw [← htk,List.take_take,Nat.min_eq_left (by omega)])
 have HLEN:=Lib.hid hlen
 have HB:=Lib.hid hb
 have HCM:=Lib.hid hcm
 rw [← hcsd]
 have hrn:n - j=r:=hrr.symm
 rw [hrn]
 have HRR:Hid (j+r=n):=Lib.hid (by omega)
 clear hg hg' hcl hcs htk hlen hb hcm hcur hv hvl h2 h1 hcsd hrr
 have hcm:=HCM.out
 unfold maxLen at hcm
 have q0:((i:Int) == (j:Int))=false:=by simp;omega
 have q1:(i:Int)≤(j:Int):=by omega
 have q2:(j:Int)≤(n:Int):=by omega
 have q2':(n:Int)≤(c:Int):=by omega
 have q3:¬ c=i:=by omega
 have q4:((j:Int) == (n:Int))=false:=by simp;omega
 have q5:¬ c=j:=by omega
 have q6:wrap64 ((i:Int)+(m:Int))=(i:Int)+(m:Int):=by unfold wrap64;omega
 have q7:wrap64 ((i:Int)+(m:Int)+(r:Int))=((i:Int)+(m:Int)+(r:Int)):=by unfold wrap64;omega
 have q8:decide (((i:Int)+(m:Int)+(r:Int)) > (c:Int))=false:=by have:=HRR.out;simp;omega
 have q9:((i:Int)+(m:Int)+(r:Int))≤(c:Int):=by have:=HRR.out;omega
 have q10:decide ((i:Int)+(m:Int)≤(j:Int))=true:=by simp;omega
 go_enter Tryz.func92,Tryz.ntmps92
 go_upto_region 9 with fail
 refine region_below w.heap.size w (Below.refl _ _) (by kernel_rfl) (by kernel_rfl) ?_
 repeat (go_big_quiet_step (fail))
 refine wpQuiet_nil ?_
 rintro w' ⟨y,rfl⟩
 obtain ⟨w0,hw0⟩:∃ w0,w0=y.at_:=⟨_,rfl⟩
 have B0:Hid (Below w.heap.size w w0):=Lib.hid (by rw [hw0];exact y.ok_)
 rw [← hw0]
 clear hw0
 have G0:=Lib.hid (row_stays HG.out B0.out)
 have HV0:Hid (CellsAt w0 B vs):=Lib.hid (fun hne=>by
  obtain ⟨b,off,h1,h2⟩:=HV.out hne
  exact ⟨b,off,h1,fun k hk=>(B0.out.cell (World.block_lt_of_cell? _ _ (h2 k hk))).trans (h2 k hk)⟩)
 have hfit:i*2+vs.length≤cur.length:=by have:=HVL.out;have:=HCL.out;omega
 have hmin:Nat.min m ((i+m+r) - i)=m:=by show min _ _=_;omega
 go_upto_region 18 with (refine wpList_copy_N rfl (.tmp 95) (.tmp 96) 84 84 rfl 38 Tryz.underlying84 2 (by kernel_rfl) _ _ _ _ _ _ rfl rfl m hmin g (i*2) cur 38 G0.out vs (by have:=HVL.out;omega) (fun hm0=>⟨rfl,HV0.out.cells (by intro e;have:=HVL.out;rw [e] at this;simp at this;omega)⟩) hfit H2.out ?_)
 obtain ⟨cur1,hcur1⟩:∃ cur1,cur1=splice cur (i*2) vs:=⟨_,rfl⟩
 have G1:Hid ((w0.setRow g (splice cur (i*2) vs).toArray).heap[g]?=some (.cells cur1.toArray 38 (0,0))):=Lib.hid (by rw [hcur1];exact setRow_heap w0 g _ _ _ _ G0.out)
 have L1:Hid (cur1.length=c*2):=Lib.hid (by rw [hcur1,length_splice _ _ _ hfit];exact HCL.out)
 have T1:Hid (cur1.take ((i+m)*2)=us.take (i*2) ++ vs):=Lib.hid (by
  rw [hcur1,splice_take_end (by have:=HVL.out;omega) (by omega),HTK.out])
 have S1:Hid (∀ x v,cs[x]?=some v→cur1[j*2+x]?=some v):=Lib.hid (fun x v hx=>by
  rw [hcur1,splice_get_hi (by have:=HVL.out;omega) hfit]
  exact HSR.out x v hx)
 obtain ⟨w1,hw1⟩:∃ w1,w1=w0.setRow g (splice cur (i*2) vs).toArray:=⟨_,rfl⟩
 have K1:Hid (w0.grownBy w1 (some g)):=Lib.hid (by rw [hw1];exact ⟨rfl,rfl,rfl,by simp,fun k _ hk=>setRow_other w0 g k _ (fun e=>hk (by rw [e]))⟩)
 rw [← hw1] at G1 ⊢
 clear hw1 hcur1 hfit hmin G0 HV0
 have q11:¬ c=i+m:=by omega
 have h12:n - j=r:=by have:=HRR.out;omega
 have h13:(i+m+r) - (i+m)=r:=by omega
 refine region_waysX 9 (fun k=>k=g) (.done [0,1,2,3,4,5,6,7,8]) (by kernel_rfl) (by kernel_rfl) ?_
 rintro wd hbd
 have BD:=Lib.hid hbd
 clear hbd
 have GD:=Lib.hid (row_stays G1.out BD.out)
 rw [wpWaysT_done]
 simp only [List.map_cons,List.map_nil,List.drop_succ_cons,List.drop_zero,opAt,List.getElem?_toArray,List.getElem?_cons_zero,List.getElem?_cons_succ,Option.getD_some]
 try simp only [Act.put,List.setIfInBounds_toArray,List.set_cons_zero,List.set_cons_succ]
 repeat (first
  | go_big_quiet_step (fail))
 refine wpQuiet_nil ?_
 have hfit:(i+m)*2+cs.length≤cur1.length:=by have:=HCS.out;have:=L1.out;have:=HRR.out;omega
 have hmin:Nat.min r (i+m+r - (i+m))=r:=by show min _ _=_;omega
 have HSD:Hid (∀ x v,cs[x]?=some v→wd.cell? ((⟨g,j*2,none⟩:Addr).add x)=some v):=Lib.hid (fun x v hv=>by
  have h1:=blk_cell GD.out (j*2+x) v (by rw [List.getElem?_toArray];exact S1.out x v hv)
  have e:((⟨g,j*2,none⟩:Addr).add x)=⟨g,j*2+x,none⟩:=by
   unfold Addr.add
   by_cases hj:x=0
   ·simp [hj]
   ·simp [hj]
  rw [e]
  exact h1)
 refine wpList_copy_N rfl (.tmp 103) (.tmp 106) 84 84 rfl 38 Tryz.underlying84 2 (by kernel_rfl) _ _ _ _ _ _ rfl rfl r hmin g ((i+m)*2) cur1 38 GD.out cs (by have:=HCS.out;omega) (fun hm0=>⟨rfl,_,rfl,HSD.out⟩) hfit HC1.out ?_
 go_upto_region 19 with fail
 obtain ⟨cur2,hcur2⟩:∃ cur2,cur2=splice cur1 ((i+m)*2) cs:=⟨_,rfl⟩
 have G2:Hid ((wd.setRow g (splice cur1 ((i+m)*2) cs).toArray).heap[g]?=some (.cells cur2.toArray 38 (0,0))):=Lib.hid (by rw [hcur2];exact setRow_heap wd g _ _ _ _ GD.out)
 have L2:Hid (cur2.length=c*2):=Lib.hid (by rw [hcur2,length_splice _ _ _ hfit];exact L1.out)
 have T2:Hid (cur2.take ((i+m+r)*2)=us.take (i*2) ++ vs ++ cs):=Lib.hid (by
  rw [hcur2,splice_take_end (by have:=HCS.out;omega) (by omega),T1.out])
 obtain ⟨w2,hw2⟩:∃ w2,w2=wd.setRow g (splice cur1 ((i+m)*2) cs).toArray:=⟨_,rfl⟩
 have K2:Hid (wd.grownBy w2 (some g)):=Lib.hid (by rw [hw2];exact ⟨rfl,rfl,rfl,by simp,fun k _ hk=>setRow_other wd g k _ (fun e=>hk (by rw [e]))⟩)
 rw [← hw2] at G2 ⊢
 clear hw2 hcur2 hfit hmin GD HSD
 have hz:(i+m+r)*2+(n - (i+m+r))*2≤cur2.length:=by have:=L2.out;have:=HRR.out;omega
 have hct0:0<n - (i+m+r)→¬ c=(i+m+r):=by omega
 by_cases hct:c=(i+m+r)
 ·go_wp2_with (refine wpList_clear_N rfl (.tmp 110) 84 rfl 38 Tryz.underlying84 (.agg #[.int .i64 0,.int .i64 0]) 2 16 info_rep_key (by rfl) (by decide) (by decide) _ (n - (i+m+r)) _ rfl g ((i+m+r)*2) cur2 38 G2.out (fun h0=>by first | rfl | exact absurd hct (hct0 h0)) (by omega) ?_)
  go_ret
  refine ⟨⟨_,_,rfl,⟨?_,.inr ⟨g,_,_,rfl,HB.out,setRow_heap w2 g _ _ _ _ G2.out,by have:=HRR.out;omega,by first | exact HCM.out | (rw [← hct];exact HCM.out),?_,?_⟩⟩⟩,?_⟩
  ·have:=HLEN.out;have:=HVL.out;have:=HCS.out
   simp only [List.length_append,List.length_take]
   omega
  ·rw [List.size_toArray,length_splice _ _ _ (by rw [zeroCells_len];show _+_*2≤_;omega)]
   have:=L2.out;omega
  ·try rw [Nat.mul_one]
   rw [splice_take_le (Nat.le_refl _) (by have:=L2.out;omega)]
   first | exact T2.out | (rw [← List.append_assoc];exact T2.out)
  ·have b0:=B0.out
   have k1:=K1.out
   have b1:=BD.out
   have k2:=K2.out
   exact ⟨(show (w2.setRow g _).os=_ from k2.os.trans (b1.os.trans (k1.os.trans b0.os))),(show (w2.setRow g _).tape=_ from k2.tape.trans (b1.tape.trans (k1.tape.trans b0.tape))),(show (w2.setRow g _).output=_ from k2.output.trans (b1.output.trans (k1.output.trans b0.output))),Nat.le_trans b0.size (Nat.le_trans k1.size (Nat.le_trans b1.size (Nat.le_trans k2.size (by simp)))),fun k hk hne=>by
    have c0:=b0.block k hk
    have s1:=Nat.lt_of_lt_of_le hk b0.size
    have c1:=k1.block k s1 hne
    have s2:=Nat.lt_of_lt_of_le s1 k1.size
    exact (setRow_other w2 g k _ (fun e=>hne (by rw [e];rfl))).trans ((k2.block k (Nat.lt_of_lt_of_le s2 b1.size) hne).trans ((b1.block k s2).trans (c1.trans c0)))⟩
 ·go_wp2_with (refine wpList_clear_N rfl (.tmp 110) 84 rfl 38 Tryz.underlying84 (.agg #[.int .i64 0,.int .i64 0]) 2 16 info_rep_key (by rfl) (by decide) (by decide) _ (n - (i+m+r)) _ rfl g ((i+m+r)*2) cur2 38 G2.out (fun h0=>by first | rfl | exact absurd hct (hct0 h0)) (by omega) ?_)
  go_ret
  refine ⟨⟨_,_,rfl,⟨?_,.inr ⟨g,_,_,rfl,HB.out,setRow_heap w2 g _ _ _ _ G2.out,by have:=HRR.out;omega,by first | exact HCM.out | (rw [← hct];exact HCM.out),?_,?_⟩⟩⟩,?_⟩
  ·have:=HLEN.out;have:=HVL.out;have:=HCS.out
   simp only [List.length_append,List.length_take]
   omega
  ·rw [List.size_toArray,length_splice _ _ _ (by rw [zeroCells_len];show _+_*2≤_;omega)]
   have:=L2.out;omega
  ·try rw [Nat.mul_one]
   rw [splice_take_le (Nat.le_refl _) (by have:=L2.out;omega)]
   first | exact T2.out | (rw [← List.append_assoc];exact T2.out)
  ·have b0:=B0.out
   have k1:=K1.out
   have b1:=BD.out
   have k2:=K2.out
   exact ⟨(show (w2.setRow g _).os=_ from k2.os.trans (b1.os.trans (k1.os.trans b0.os))),(show (w2.setRow g _).tape=_ from k2.tape.trans (b1.tape.trans (k1.tape.trans b0.tape))),(show (w2.setRow g _).output=_ from k2.output.trans (b1.output.trans (k1.output.trans b0.output))),Nat.le_trans b0.size (Nat.le_trans k1.size (Nat.le_trans b1.size (Nat.le_trans k2.size (by simp)))),fun k hk hne=>by
    have c0:=b0.block k hk
    have s1:=Nat.lt_of_lt_of_le hk b0.size
    have c1:=k1.block k s1 hne
    have s2:=Nat.lt_of_lt_of_le s1 k1.size
    exact (setRow_other w2 g k _ (fun e=>hne (by rw [e];rfl))).trans ((k2.block k (Nat.lt_of_lt_of_le s2 b1.size) hne).trans ((b1.block k s2).trans (c1.trans c0)))⟩
end Go.Proofs.YtgkddhncfaeidaaGreat
