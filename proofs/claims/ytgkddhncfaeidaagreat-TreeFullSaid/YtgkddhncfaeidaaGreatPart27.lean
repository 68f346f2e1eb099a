/- Squeezed: the texts as they are written lie in wip/tpl. -/
import Derived.Test.YtgkddhncfaeidaaGreatPart04
import Derived.Test.YtgkddhncfaeidaaGreatPart18
import Derived.Laws.CopyOwn
import Derived.Lib.SliceRun
set_option maxRecDepth 100000
set_option maxHeartbeats 4000000
set_option linter.unusedSimpArgs false
set_option linter.unusedVariables false
namespace Go.Proofs.YtgkddhncfaeidaaGreat
open Go.RowKit Go.ChangeShapes Go.WideShapes Go.ChangeAt
variable {P:Program}
theorem splice_take_le {α:Type} {L cs:List α} {off k:Nat} (h:k≤off) (ho:off≤L.length):(splice L off cs).take k=L.take k:=by
 unfold splice
 rw [List.take_append_of_le_length (by rw [List.length_take];omega),List.take_take,Nat.min_eq_left h]
theorem splice_take_end {α:Type} {L cs:List α} {off k:Nat} (hk:k=off+cs.length) (ho:off≤L.length):(splice L off cs).take k=L.take off ++ cs:=by
 unfold splice
 subst hk
 rw [← List.append_assoc,List.take_append_of_le_length (by rw [List.length_append,List.length_take];omega)]
 exact List.take_of_length_le (by rw [List.length_append,List.length_take];omega)
theorem splice_get_hi {α:Type} {L cs:List α} {off j:Nat} (h:off+cs.length≤j) (ho:off+cs.length≤L.length):(splice L off cs)[j]?=L[j]?:=by
 unfold splice
 rw [← List.append_assoc,List.getElem?_append_right (by rw [List.length_append,List.length_take];omega),List.getElem?_drop,List.length_append,List.length_take]
 congr 1
 omega
theorem splice_nil {α:Type} (L:List α) (off:Nat):splice L off []=L:=by simp [splice]
theorem run_copy_rowN (w:World) (dT sT ty elem:TypeId) (sz:Nat) (g o dLen dCap:Nat) (a:Addr) (sLen sCap:Nat) (cur:Array Value) (t:TypeId) (cs:List Value)
 (hu:P.underlying dT=some (.slice elem)) (hs:(P.info? elem).map (·.size)=some sz)
 (hg:w.heap[g]?=some (.cells cur t (0,0))) (hn:cs.length=Nat.min sLen dLen*sz)
 (hsrc:∀ j v,cs[j]?=some v→w.cell? (a.add j)=some v) (hfit:o+cs.length≤cur.size) (h1:∀ v ∈ cs,v.oneCell'=true) :
 (Builtin.copy_ #[dT,sT] ty #[.slice (some ⟨g,o,none⟩) dLen dCap,.slice (some a) sLen sCap]).run P w =
  .ok (goInt (Nat.min sLen dLen)) (w.setRow g (splice cur.toList o cs).toArray):=by
 have hl:=run_loadCells_list (P:=P) w a cs hsrc
 have hst:=run_storeCells_at P g o t cs 0 cur w hg (by simpa using hfit) h1
 cases hq:P.info? elem with
 | none=>simp [hq] at hs
 | some i =>
   have hi:i.size=sz:=by simpa [hq] using hs
   have hn':(min sLen dLen)*sz=cs.length:=hn.symm
   simp [Builtin.copy_,run_underlying hu,Builtin.lenOf,Builtin.firstCells,sizeOf,typeInfo,hq,hi,hn',hl,hst,splice]
theorem run_copy_noneN (w:World) (dT sT ty elem:TypeId) (sz:Nat) (d a:Option Addr) (dLen dCap sLen sCap:Nat) (hu:P.underlying dT=some (.slice elem)) (hs:(P.info? elem).map (·.size)=some sz) (hn:Nat.min sLen dLen=0) :
 (Builtin.copy_ #[dT,sT] ty #[.slice d dLen dCap,.slice a sLen sCap]).run P w=.ok (goInt 0) w:=by
 cases hq:P.info? elem with
 | none=>simp [hq] at hs
 | some i =>
   have hl:∀ (x:Addr),(loadCells x 0).run P w=.ok #[] w:=fun x=>by simpa using run_loadCells_list (P:=P) w x [] (by simp)
   cases d <;> cases a <;> simp [Builtin.copy_,run_underlying hu,Builtin.lenOf,Builtin.firstCells,sizeOf,typeInfo,hq,hn,storeCells,hl]
theorem wpList_copy_N {w:World} {ops:Array Oper} {rest:List Oper} {o:Oper} {a:Act} {Q:Exit→Act→World→Prop} (hgd:o.guard=none) (d s:Operand) (dT sT:TypeId)
 (ho:o.op=.call { callee:=.builtin .copy,args:=#[d,s],argTypes:=#[dT,sT] }) (elem:TypeId) (hu:P.underlying dT=some (.slice elem)) (sz:Nat) (hsz:(P.info? elem).map (·.size)=some sz)
 (dp sp:Option Addr) (dLen dCap sLen sCap:Nat) (hd:a.eval d=.slice dp dLen dCap) (hs:a.eval s=.slice sp sLen sCap)
 (m:Nat) (hm:Nat.min sLen dLen=m) (g off:Nat) (cur:List Value) (t:TypeId) (hg:w.heap[g]?=some (.cells cur.toArray t (0,0))) (cs:List Value) (hn:cs.length=m*sz)
 (hpos:0<m→dp=some ⟨g,off,none⟩∧∃ ad,sp=some ad∧∀ j v,cs[j]?=some v→w.cell? (ad.add j)=some v)
 (hfit:off+cs.length≤cur.length) (h1:∀ v ∈ cs,v.oneCell'=true)
 (h:wpList P ops Q rest (a.put o.dst (goInt m)) (w.setRow g (splice cur off cs).toArray)) :
 wpList P ops Q (o :: rest) a w:=by
 refine wpList_plain hgd fun K hK=>?_
 by_cases h0:m=0
 ·subst h0
  obtain rfl:cs=[]:=List.eq_nil_of_length_eq_zero (by simpa using hn)
  have hrun:=run_copy_noneN (P:=P) w dT sT o.type elem sz dp sp dLen dCap sLen sCap hu hsz hm
  unfold Oper.wp
  simp [execOp,ho,resolve,invoke,builtin,hd,hs,hrun,Result.andThen]
  rw [splice_nil,setRow_self w g cur.toArray t (0,0) hg] at h
  exact hK _ _ h
 ·obtain ⟨rfl,ad,rfl,hsrc⟩:=hpos (by omega)
  have hrun:=run_copy_rowN (P:=P) w dT sT o.type elem sz g off dLen dCap ad sLen sCap cur.toArray t cs hu hsz hg (by rw [hm];exact hn) hsrc (by simpa using hfit) h1
  rw [hm] at hrun
  unfold Oper.wp
  simp only [ho,execOp,resolve,invoke,builtin,hd,hs,hrun,Sem.run_bind,Sem.run_pure,Result.andThen_ok,List.map_toArray,List.map_cons,List.map_nil]
  exact hK _ _ h
theorem run_zero_info {e:TypeId} {z:Value} {sz bytes:Nat} (hi:(P.info? e).map (fun i=>(i.zero,i.size,i.bytes))=some (some z,sz,bytes)) (w:World):(zeroValue e).run P w=.ok z w:=by
 obtain ⟨i,hi0,hz,hs,hb⟩:=info_parts hi
 simp [zeroValue,typeInfo,hi0,hz]
theorem zeroCells_len (z:Array Value) (n:Nat):(Builtin.zeroCells z n).toList.length=n*z.size:=by simp [Builtin.zeroCells]
theorem zeroCells_one (z:Array Value) (n:Nat) (hz:0<z.size) (h:∀ u ∈ z.toList,u.oneCell'=true):∀ u ∈ (Builtin.zeroCells z n).toList,u.oneCell'=true:=by
 intro u hu
 simp only [Builtin.zeroCells,Array.toList_map,List.mem_map] at hu
 obtain ⟨i,_,rfl⟩:=hu
 have hlt:i % z.size<z.size:=Nat.mod_lt _ hz
 rw [getElem!_pos z (i % z.size) hlt]
 exact h _ (by simp)
theorem run_clear_rowN (w:World) (t e ty:TypeId) (z:Value) (sz bytes:Nat) (ht:P.underlying t=some (.slice e)) (hi:(P.info? e).map (fun i=>(i.zero,i.size,i.bytes))=some (some z,sz,bytes)) (hz1:z.cells.size=sz) (h1:∀ u ∈ z.cells.toList,u.oneCell'=true) (g o n c:Nat) (hsz:0<sz) (hn:0<n)
 (cur:Array Value) (T:TypeId) (hg:w.heap[g]?=some (.cells cur T (0,0))) (hfit:o+n*sz≤cur.size) :
 (Builtin.clear_ #[t] ty #[.slice (some ⟨g,o,none⟩) n c]).run P w=.ok (.tuple #[]) (w.setRow g (splice cur.toList o (Builtin.zeroCells z.cells n).toList).toArray):=by
 have hst:=run_storeCells_at P g o T (Builtin.zeroCells z.cells n).toList 0 cur w hg (by rw [zeroCells_len,hz1];simpa using hfit) (zeroCells_one _ _ (by omega) h1)
 have hv:=run_zero_info (P:=P) hi w
 obtain ⟨m,rfl⟩:∃ m,n=m+1:=⟨n - 1,by omega⟩
 simp [Builtin.clear_,run_underlying ht,hv,hst,splice]
theorem wpList_clear_N {w:World} {ops:Array Oper} {rest:List Oper} {o:Oper} {a:Act} {Q:Exit→Act→World→Prop} (hgd:o.guard=none) (s:Operand) (t:TypeId)
 (ho:o.op=.call { callee:=.builtin .clear,args:=#[s],argTypes:=#[t] }) (e:TypeId) (ht:P.underlying t=some (.slice e)) (z:Value) (sz bytes:Nat) (hi:(P.info? e).map (fun i=>(i.zero,i.size,i.bytes))=some (some z,sz,bytes)) (hz1:z.cells.size=sz) (h1:∀ u ∈ z.cells.toList,u.oneCell'=true) (hsz:0<sz)
 (sp:Option Addr) (n c:Nat) (hs:a.eval s=.slice sp n c) (g off:Nat) (cur:List Value) (T:TypeId) (hg:w.heap[g]?=some (.cells cur.toArray T (0,0))) (hpos:0<n→sp=some ⟨g,off,none⟩) (hfit:off+n*sz≤cur.length)
 (h:wpList P ops Q rest (a.put o.dst (.tuple #[])) (w.setRow g (splice cur off (Builtin.zeroCells z.cells n).toList).toArray)) :
 wpList P ops Q (o :: rest) a w:=by
 refine wpList_plain hgd fun K hK=>?_
 by_cases h0:n=0
 ·subst h0
  have e0:(Builtin.zeroCells z.cells 0).toList=[]:=List.eq_nil_of_length_eq_zero (by rw [zeroCells_len];simp)
  rw [e0,splice_nil,setRow_self w g cur.toArray T (0,0) hg] at h
  have hrun:(Builtin.clear_ #[t] o.type #[.slice sp 0 c]).run P w=.ok (.tuple #[]) w:=by
   cases sp <;> simp [Builtin.clear_,run_underlying ht]
  unfold Oper.wp
  simp only [ho,execOp,resolve,invoke,builtin,hs,hrun,Sem.run_bind,Sem.run_pure,Result.andThen_ok,List.map_toArray,List.map_cons,List.map_nil]
  exact hK _ _ h
 ·obtain rfl:=hpos (by omega)
  have hrun:=run_clear_rowN (P:=P) w t e o.type z sz bytes ht hi hz1 h1 g off n c hsz (by omega) cur.toArray T hg (by simpa using hfit)
  unfold Oper.wp
  simp only [ho,execOp,resolve,invoke,builtin,hs,hrun,Sem.run_bind,Sem.run_pure,Result.andThen_ok,List.map_toArray,List.map_cons,List.map_nil]
  exact hK _ _ h
theorem wpList_append_in {w:World} {ops:Array Oper} {rest:List Oper} {o:Oper} {a:Act} {Q:Exit→Act→World→Prop} (hgd:o.guard=none) (s x:Operand) (t:TypeId)
 (ho:o.op=.call { callee:=.builtin .append,args:=#[s,x],argTypes:=#[t,t] }) (e:TypeId) (ht:P.underlying t=some (.slice e)) (z:Value) (sz bytes:Nat) (hi:(P.info? e).map (fun i=>(i.zero,i.size,i.bytes))=some (some z,sz,bytes))
 (g n cap:Nat) (hs:a.eval s=.slice (some ⟨g,0,none⟩) n cap) (cur:List Value) (hg:w.heap[g]?=some (.cells cur.toArray e (0,0))) (sp:Option Addr) (m c:Nat) (hx:a.eval x=.slice sp m c) (cs:List Value) (hm:cs.length=m*sz)
 (hpos:0<m→∃ ad,sp=some ad∧∀ j v,cs[j]?=some v→w.cell? (ad.add j)=some v) (h1:∀ v ∈ cs,v.oneCell'=true) (hroom:n+m≤cap) (hfit:n*sz+cs.length≤cur.length) (k:Nat) (hk:n+m=k)
 (h:wpList P ops Q rest (a.put o.dst (.slice (some ⟨g,0,none⟩) k cap)) (w.setRow g (splice cur (n*sz) cs).toArray)) :
 wpList P ops Q (o :: rest) a w:=by
 refine wpList_plain hgd fun K hK=>?_
 obtain ⟨i,hi0,hz,hs0,hb⟩:=info_parts hi
 by_cases h0:m=0
 ·subst h0
  obtain rfl:cs=[]:=List.eq_nil_of_length_eq_zero (by simpa using hm)
  rw [splice_nil,setRow_self w g cur.toArray e (0,0) hg] at h
  subst hk
  have hrun:(Builtin.append_ #[t,t] o.type #[.slice (some ⟨g,0,none⟩) n cap,.slice sp 0 c]).run P w=.ok (.slice (some ⟨g,0,none⟩) n cap) w:=by
   have hn:n≤cap:=by omega
   cases sp <;> simp [Builtin.append_,run_underlying ht,sizeOf,typeInfo,hi0,Builtin.lenOf,Builtin.firstCells,hn,storeCells,loadCells,loadCellsFrom]
  unfold Oper.wp
  simp only [ho,execOp,resolve,invoke,builtin,hs,hx,hrun,Sem.run_bind,Sem.run_pure,Result.andThen_ok,List.map_toArray,List.map_cons,List.map_nil]
  exact hK _ _ h
 ·obtain ⟨ad,rfl,hsrc⟩:=hpos (by omega)
  have hrun:=_root_.Go.run_append_room (P:=P) (w:=w) t o.type e i ht hi0 g n cap cur.toArray hg ad m c cs (by rw [hs0];exact hm) hsrc h1 hroom (by rw [hs0];simpa using hfit)
  subst hk
  unfold Oper.wp
  simp only [ho,execOp,resolve,invoke,builtin,hs,hx,hrun,Sem.run_bind,Sem.run_pure,Result.andThen_ok,List.map_toArray,List.map_cons,List.map_nil]
  refine hK _ _ ?_
  simpa [splice,hs0] using h
end Go.Proofs.YtgkddhncfaeidaaGreat
namespace Go.Proofs.YtgkddhncfaeidaaGreat
open Go.RowKit Go.ChangeShapes Go.WideShapes Go.ChangeAt CrcM PageM
theorem info_del_ent:(Tryz.prog.info? 40).map (fun i=>(i.zero,i.size,i.bytes))=some (some (.agg #[.int .i64 0,.int .i64 0,.int .i64 0,.int .i64 0,.int .i64 0,.int .i64 0,.int .i64 0,.int .u32 0]),8,64):=by kernel_rfl
theorem del_ent (base n c i:Nat) (A:Option Addr) (us:List Value) (w:World) (h:w.ownsRow base 40 8 (.slice A n c) n us) (hi:i<n) (hm:n≤1000000) (h1:∀ u ∈ us,u.oneCell'=true) :
 Calls Tryz.prog 37 #[.slice A n c,.int .i64 (i:Int),.int .i64 ((i:Int)+1)] w fun e w'=>e=.returned (.slice A (n - 1) c)∧w'.ownsRow base 40 8 (.slice A (n - 1) c) (n - 1) (us.take (i*8) ++ us.drop ((i+1)*8))∧w.grownBy w' (Value.slice A n c).ownBlock:=by
 obtain ⟨hlen,⟨_,h0⟩ | ⟨g,cap,cu,hv,hb,hg,hnc,hcm,hcs,htk⟩⟩:=h
 ·omega
 injection hv with hA _ hc
 subst hA hc
 obtain ⟨cur,hcur⟩:∃ cur,cur=cu.toList:=⟨_,rfl⟩
 have hg':w.heap[g]?=some (.cells cur.toArray 40 (0,0)):=by rw [hcur,Array.toArray_toList];exact hg
 have hcl:cur.length=c*8:=by rw [hcur,Array.length_toList];exact hcs
 rw [← hcur] at htk
 obtain ⟨cs,hcsd⟩:∃ cs,cs=us.drop ((i+1)*8):=⟨_,rfl⟩
 obtain ⟨m,hmm⟩:∃ m,m=n - (i+1):=⟨_,rfl⟩
 have HCS:Hid (cs.length=m*8):=Lib.hid (by rw [hcsd,List.length_drop,hlen,← Nat.sub_mul,hmm])
 have HC1:Hid (∀ v ∈ cs,v.oneCell'=true):=Lib.hid (fun v hv=>h1 v (List.mem_of_mem_drop (by rw [← hcsd];exact hv)))
 have HSR:Hid (∀ j v,cs[j]?=some v→w.cell? ⟨g,(i+1)*8+j,none⟩=some v):=Lib.hid (fun j v hv=>by
  refine blk_cell hg' _ _ ?_
  rw [hcsd,List.getElem?_drop] at hv
  have hlt:=(List.getElem?_eq_some_iff.1 hv).1
  rw [← htk,List.getElem?_take_of_lt (by omega)] at hv
  rw [List.getElem?_toArray]
  exact hv)
 have HG:=Lib.hid hg'
 have HCL:=Lib.hid hcl
 have HTK:Hid (cur.take (i*8)=us.take (i*8)):=Lib.hid (by rw [← htk,List.take_take,Nat.min_eq_left (Nat.mul_le_mul_right _ (by omega))])
 have HLEN:=Lib.hid hlen
 have HB:=Lib.hid hb
 have HCM:=Lib.hid hcm
 have HMM:=Lib.hid hmm
 rw [← hcsd]
 clear hg hg' hcl hcs htk hlen hb hcm hcur hcsd hmm h1
 have hcm:=HCM.out
 unfold maxLen at hcm
 have q0:((i:Int) == (i:Int)+1)=false:=by simp;omega
 have q1:(i:Int)+1≤(n:Int):=by omega
 have q2:(n:Int)≤(c:Int):=by omega
 have hmn:n - (i+1)=m:=HMM.out.symm
 by_cases hic:c=i+1
 ·subst hic
  go_enter Tryz.func37,Tryz.ntmps37
  go_upto_region 5 with fail
  refine region_waysX 6 (fun k=>k=g) (.done [0,1,2,3,4,5]) (by kernel_rfl) (by kernel_rfl) ?_
  rintro wd hbd
  have BD:=Lib.hid hbd
  clear hbd
  have GD:=Lib.hid (row_stays HG.out BD.out)
  have HSD:Hid (∀ j v,cs[j]?=some v→wd.cell? ((⟨g,(i+1)*8,none⟩:Addr).add j)=some v):=Lib.hid (fun j v hv=>by
   have h1:=(BD.out.cell (World.block_lt_of_cell? _ _ (HSR.out j v hv))).trans (HSR.out j v hv)
   have e:((⟨g,(i+1)*8,none⟩:Addr).add j)=⟨g,(i+1)*8+j,none⟩:=by
    unfold Addr.add
    by_cases hj:j=0
    ·simp [hj]
    ·simp [hj]
   rw [e]
   exact h1)
  rw [wpWaysT_done]
  simp only [List.map_cons,List.map_nil,List.drop_succ_cons,List.drop_zero,opAt,List.getElem?_toArray,List.getElem?_cons_zero,List.getElem?_cons_succ,Option.getD_some]
  repeat (first
   | go_big_quiet_step (fail))
  refine wpQuiet_nil ?_
  have hn1:i+m=n - 1:=by omega
  have hfit:i*8+cs.length≤cur.length:=by rw [HCS.out,HCL.out,← Nat.add_mul];exact Nat.mul_le_mul_right _ (by omega)
  go_upto_region 6 with (at_builtin;refine wpList_append_in rfl (.tmp 22) (.tmp 25) 29 rfl 40 Tryz.underlying29 (.agg #[.int .i64 0,.int .i64 0,.int .i64 0,.int .i64 0,.int .i64 0,.int .i64 0,.int .i64 0,.int .u32 0]) 8 64 info_del_ent g i (i+1) rfl cur GD.out _ m _ rfl cs HCS.out (fun hm0=>⟨_,by first | rfl | (exfalso;omega),HSD.out⟩) HC1.out (by omega) hfit (n - 1) hn1 ?_)
  obtain ⟨cur1,hcur1⟩:∃ cur1,cur1=splice cur (i*8) cs:=⟨_,rfl⟩
  have G1:Hid ((wd.setRow g (splice cur (i*8) cs).toArray).heap[g]?=some (.cells cur1.toArray 40 (0,0))):=Lib.hid (by rw [hcur1];exact setRow_heap wd g _ _ _ _ GD.out)
  have L1:Hid (cur1.length=(i+1)*8):=Lib.hid (by rw [hcur1,length_splice _ _ _ hfit];exact HCL.out)
  have T1:Hid (cur1.take ((n - 1)*8)=us.take (i*8) ++ cs):=Lib.hid (by
   rw [hcur1,splice_take_end (by rw [HCS.out,← Nat.add_mul,hn1]) (by omega),HTK.out])
  obtain ⟨w1,hw1⟩:∃ w1,w1=wd.setRow g (splice cur (i*8) cs).toArray:=⟨_,rfl⟩
  have K1:Hid (wd.grownBy w1 (some g)):=Lib.hid (by rw [hw1];exact ⟨rfl,rfl,rfl,by simp,fun k _ hk=>setRow_other wd g k _ (fun e=>hk (by rw [e]))⟩)
  rw [← hw1] at G1 ⊢
  clear hw1 hcur1 hfit GD HSD HSR
  have hn2:n - (n - 1)=1:=by omega
  go_wp2_with (refine wpList_clear_N rfl (.tmp 31) 29 rfl 40 Tryz.underlying29 (.agg #[.int .i64 0,.int .i64 0,.int .i64 0,.int .i64 0,.int .i64 0,.int .i64 0,.int .i64 0,.int .u32 0]) 8 64 info_del_ent (by rfl) (by decide) (by decide) _ _ _ rfl g ((n - 1)*8) cur1 40 G1.out (fun _=>rfl) (by rw [L1.out];first | (rw [hn2];omega) | omega) ?_)
  go_ret
  refine ⟨rfl,⟨?_,.inr ⟨g,_,_,rfl,HB.out,setRow_heap w1 g _ _ _ _ G1.out,by omega,HCM.out,?_,?_⟩⟩,?_⟩
  ·rw [List.length_append,List.length_take,HLEN.out,HCS.out,Nat.min_eq_left (Nat.mul_le_mul_right _ (by omega)),← Nat.add_mul,hn1]
  ·rw [List.size_toArray,length_splice _ _ _ (by rw [zeroCells_len,L1.out];show (n - 1)*8+_*8≤_;first | (rw [hn2];omega) | omega)]
   exact L1.out
  ·rw [splice_take_le (Nat.le_refl _) (by rw [L1.out];exact Nat.mul_le_mul_right _ (by omega))]
   exact T1.out
  ·have b1:=BD.out
   have k1:=K1.out
   exact ⟨(show (w1.setRow g _).os=_ from k1.os.trans b1.os),(show (w1.setRow g _).tape=_ from k1.tape.trans b1.tape),(show (w1.setRow g _).output=_ from k1.output.trans b1.output),Nat.le_trans b1.size (Nat.le_trans k1.size (by simp)),fun k hk hne=>(setRow_other w1 g k _ (fun e=>hne (by rw [e];rfl))).trans ((k1.block k (Nat.lt_of_lt_of_le hk b1.size) hne).trans (b1.block k hk))⟩
 ·go_enter Tryz.func37,Tryz.ntmps37
  go_upto_region 5 with fail
  refine region_waysX 6 (fun k=>k=g) (.done [0,1,2,3,4,5]) (by kernel_rfl) (by kernel_rfl) ?_
  rintro wd hbd
  have BD:=Lib.hid hbd
  clear hbd
  have GD:=Lib.hid (row_stays HG.out BD.out)
  have HSD:Hid (∀ j v,cs[j]?=some v→wd.cell? ((⟨g,(i+1)*8,none⟩:Addr).add j)=some v):=Lib.hid (fun j v hv=>by
   have h1:=(BD.out.cell (World.block_lt_of_cell? _ _ (HSR.out j v hv))).trans (HSR.out j v hv)
   have e:((⟨g,(i+1)*8,none⟩:Addr).add j)=⟨g,(i+1)*8+j,none⟩:=by
    unfold Addr.add
    by_cases hj:j=0
    ·simp [hj]
    ·simp [hj]
   rw [e]
   exact h1)
  rw [wpWaysT_done]
  simp only [List.map_cons,List.map_nil,List.drop_succ_cons,List.drop_zero,opAt,List.getElem?_toArray,List.getElem?_cons_zero,List.getElem?_cons_succ,Option.getD_some]
  repeat (first
   | go_big_quiet_step (fail))
  refine wpQuiet_nil ?_
  have hn1:i+m=n - 1:=by omega
  have hfit:i*8+cs.length≤cur.length:=by rw [HCS.out,HCL.out,← Nat.add_mul];exact Nat.mul_le_mul_right _ (by omega)
  go_upto_region 6 with (at_builtin;refine wpList_append_in rfl (.tmp 22) (.tmp 25) 29 rfl 40 Tryz.underlying29 (.agg #[.int .i64 0,.int .i64 0,.int .i64 0,.int .i64 0,.int .i64 0,.int .i64 0,.int .i64 0,.int .u32 0]) 8 64 info_del_ent g i c rfl cur GD.out _ m _ rfl cs HCS.out (fun hm0=>⟨_,by first | rfl | (exfalso;omega),HSD.out⟩) HC1.out (by omega) hfit (n - 1) hn1 ?_)
  obtain ⟨cur1,hcur1⟩:∃ cur1,cur1=splice cur (i*8) cs:=⟨_,rfl⟩
  have G1:Hid ((wd.setRow g (splice cur (i*8) cs).toArray).heap[g]?=some (.cells cur1.toArray 40 (0,0))):=Lib.hid (by rw [hcur1];exact setRow_heap wd g _ _ _ _ GD.out)
  have L1:Hid (cur1.length=c*8):=Lib.hid (by rw [hcur1,length_splice _ _ _ hfit];exact HCL.out)
  have T1:Hid (cur1.take ((n - 1)*8)=us.take (i*8) ++ cs):=Lib.hid (by
   rw [hcur1,splice_take_end (by rw [HCS.out,← Nat.add_mul,hn1]) (by omega),HTK.out])
  obtain ⟨w1,hw1⟩:∃ w1,w1=wd.setRow g (splice cur (i*8) cs).toArray:=⟨_,rfl⟩
  have K1:Hid (wd.grownBy w1 (some g)):=Lib.hid (by rw [hw1];exact ⟨rfl,rfl,rfl,by simp,fun k _ hk=>setRow_other wd g k _ (fun e=>hk (by rw [e]))⟩)
  rw [← hw1] at G1 ⊢
  clear hw1 hcur1 hfit GD HSD HSR
  have hn2:n - (n - 1)=1:=by omega
  go_wp2_with (refine wpList_clear_N rfl (.tmp 31) 29 rfl 40 Tryz.underlying29 (.agg #[.int .i64 0,.int .i64 0,.int .i64 0,.int .i64 0,.int .i64 0,.int .i64 0,.int .i64 0,.int .u32 0]) 8 64 info_del_ent (by rfl) (by decide) (by decide) _ _ _ rfl g ((n - 1)*8) cur1 40 G1.out (fun _=>rfl) (by rw [L1.out];first | (rw [hn2];omega) | omega) ?_)
  go_ret
  refine ⟨rfl,⟨?_,.inr ⟨g,_,_,rfl,HB.out,setRow_heap w1 g _ _ _ _ G1.out,by omega,HCM.out,?_,?_⟩⟩,?_⟩
  ·rw [List.length_append,List.length_take,HLEN.out,HCS.out,Nat.min_eq_left (Nat.mul_le_mul_right _ (by omega)),← Nat.add_mul,hn1]
  ·rw [List.size_toArray,length_splice _ _ _ (by rw [zeroCells_len,L1.out];show (n - 1)*8+_*8≤_;first | (rw [hn2];omega) | omega)]
   exact L1.out
  ·rw [splice_take_le (Nat.le_refl _) (by rw [L1.out];exact Nat.mul_le_mul_right _ (by omega))]
   exact T1.out
  ·have b1:=BD.out
   have k1:=K1.out
   exact ⟨(show (w1.setRow g _).os=_ from k1.os.trans b1.os),(show (w1.setRow g _).tape=_ from k1.tape.trans b1.tape),(show (w1.setRow g _).output=_ from k1.output.trans b1.output),Nat.le_trans b1.size (Nat.le_trans k1.size (by simp)),fun k hk hne=>(setRow_other w1 g k _ (fun e=>hne (by rw [e];rfl))).trans ((k1.block k (Nat.lt_of_lt_of_le hk b1.size) hne).trans (b1.block k hk))⟩
theorem info_del_laid:(Tryz.prog.info? 151).map (fun i=>(i.zero,i.size,i.bytes))=some (some (.agg #[.int .i64 0,.bool false,.slice none 0 0,.slice none 0 0,.slice none 0 0]),5,88):=by kernel_rfl
theorem del_laid (base n c i:Nat) (A:Option Addr) (us:List Value) (w:World) (h:w.ownsRow base 151 5 (.slice A n c) n us) (hi:i<n) (hm:n≤1000000) (h1:∀ u ∈ us,u.oneCell'=true) :
 Calls Tryz.prog 80 #[.slice A n c,.int .i64 (i:Int),.int .i64 ((i:Int)+1)] w fun e w'=>e=.returned (.slice A (n - 1) c)∧w'.ownsRow base 151 5 (.slice A (n - 1) c) (n - 1) (us.take (i*5) ++ us.drop ((i+1)*5))∧w.grownBy w' (Value.slice A n c).ownBlock:=by
 obtain ⟨hlen,⟨_,h0⟩ | ⟨g,cap,cu,hv,hb,hg,hnc,hcm,hcs,htk⟩⟩:=h
 ·omega
 injection hv with hA _ hc
 subst hA hc
 obtain ⟨cur,hcur⟩:∃ cur,cur=cu.toList:=⟨_,rfl⟩
 have hg':w.heap[g]?=some (.cells cur.toArray 151 (0,0)):=by rw [hcur,Array.toArray_toList];exact hg
 have hcl:cur.length=c*5:=by rw [hcur,Array.length_toList];exact hcs
 rw [← hcur] at htk
 obtain ⟨cs,hcsd⟩:∃ cs,cs=us.drop ((i+1)*5):=⟨_,rfl⟩
 obtain ⟨m,hmm⟩:∃ m,m=n - (i+1):=⟨_,rfl⟩
 have HCS:Hid (cs.length=m*5):=Lib.hid (by rw [hcsd,List.length_drop,hlen,← Nat.sub_mul,hmm])
 have HC1:Hid (∀ v ∈ cs,v.oneCell'=true):=Lib.hid (fun v hv=>h1 v (List.mem_of_mem_drop (by rw [← hcsd];exact hv)))
 have HSR:Hid (∀ j v,cs[j]?=some v→w.cell? ⟨g,(i+1)*5+j,none⟩=some v):=Lib.hid (fun j v hv=>by
  refine blk_cell hg' _ _ ?_
  rw [hcsd,List.getElem?_drop] at hv
  have hlt:=(List.getElem?_eq_some_iff.1 hv).1
  rw [← htk,List.getElem?_take_of_lt (by omega)] at hv
  rw [List.getElem?_toArray]
  exact hv)
 have HG:=Lib.hid hg'
 have HCL:=Lib.hid hcl
 have HTK:Hid (cur.take (i*5)=us.take (i*5)):=Lib.hid (by rw [← htk,List.take_take,Nat.min_eq_left (Nat.mul_le_mul_right _ (by omega))])
 have HLEN:=Lib.hid hlen
 have HB:=Lib.hid hb
 have HCM:=Lib.hid hcm
 have HMM:=Lib.hid hmm
 rw [← hcsd]
 clear hg hg' hcl hcs htk hlen hb hcm hcur hcsd hmm h1
 have hcm:=HCM.out
 unfold maxLen at hcm
 have q0:((i:Int) == (i:Int)+1)=false:=by simp;omega
 have q1:(i:Int)+1≤(n:Int):=by omega
 have q2:(n:Int)≤(c:Int):=by omega
 have hmn:n - (i+1)=m:=HMM.out.symm
 by_cases hic:c=i+1
 ·subst hic
  go_enter Tryz.func80,Tryz.ntmps80
  go_upto_region 5 with fail
  refine region_waysX 6 (fun k=>k=g) (.done [0,1,2,3,4,5]) (by kernel_rfl) (by kernel_rfl) ?_
  rintro wd hbd
  have BD:=Lib.hid hbd
  clear hbd
  have GD:=Lib.hid (row_stays HG.out BD.out)
  have HSD:Hid (∀ j v,cs[j]?=some v→wd.cell? ((⟨g,(i+1)*5,none⟩:Addr).add j)=some v):=Lib.hid (fun j v hv=>by
   have h1:=(BD.out.cell (World.block_lt_of_cell? _ _ (HSR.out j v hv))).trans (HSR.out j v hv)
   have e:((⟨g,(i+1)*5,none⟩:Addr).add j)=⟨g,(i+1)*5+j,none⟩:=by
    unfold Addr.add
    by_cases hj:j=0
    ·simp [hj]
    ·simp [hj]
   rw [e]
   exact h1)
  rw [wpWaysT_done]
  simp only [List.map_cons,List.map_nil,List.drop_succ_cons,List.drop_zero,opAt,List.getElem?_toArray,List.getElem?_cons_zero,List.getElem?_cons_succ,Option.getD_some]
  repeat (first
   | go_big_quiet_step (fail))
  refine wpQuiet_nil ?_
  have hn1:i+m=n - 1:=by omega
  have hfit:i*5+cs.length≤cur.length:=by rw [HCS.out,HCL.out,← Nat.add_mul];exact Nat.mul_le_mul_right _ (by omega)
  go_upto_region 6 with (at_builtin;refine wpList_append_in rfl (.tmp 22) (.tmp 25) 112 rfl 151 Tryz.underlying112 (.agg #[.int .i64 0,.bool false,.slice none 0 0,.slice none 0 0,.slice none 0 0]) 5 88 info_del_laid g i (i+1) rfl cur GD.out _ m _ rfl cs HCS.out (fun hm0=>⟨_,by first | rfl | (exfalso;omega),HSD.out⟩) HC1.out (by omega) hfit (n - 1) hn1 ?_)
  obtain ⟨cur1,hcur1⟩:∃ cur1,cur1=splice cur (i*5) cs:=⟨_,rfl⟩
  have G1:Hid ((wd.setRow g (splice cur (i*5) cs).toArray).heap[g]?=some (.cells cur1.toArray 151 (0,0))):=Lib.hid (by rw [hcur1];exact setRow_heap wd g _ _ _ _ GD.out)
  have L1:Hid (cur1.length=(i+1)*5):=Lib.hid (by rw [hcur1,length_splice _ _ _ hfit];exact HCL.out)
  have T1:Hid (cur1.take ((n - 1)*5)=us.take (i*5) ++ cs):=Lib.hid (by
   rw [hcur1,splice_take_end (by rw [HCS.out,← Nat.add_mul,hn1]) (by omega),HTK.out])
  obtain ⟨w1,hw1⟩:∃ w1,w1=wd.setRow g (splice cur (i*5) cs).toArray:=⟨_,rfl⟩
  have K1:Hid (wd.grownBy w1 (some g)):=Lib.hid (by rw [hw1];exact ⟨rfl,rfl,rfl,by simp,fun k _ hk=>setRow_other wd g k _ (fun e=>hk (by rw [e]))⟩)
  rw [← hw1] at G1 ⊢
  clear hw1 hcur1 hfit GD HSD HSR
  have hn2:n - (n - 1)=1:=by omega
  go_wp2_with (refine wpList_clear_N rfl (.tmp 31) 112 rfl 151 Tryz.underlying112 (.agg #[.int .i64 0,.bool false,.slice none 0 0,.slice none 0 0,.slice none 0 0]) 5 88 info_del_laid (by rfl) (by decide) (by decide) _ _ _ rfl g ((n - 1)*5) cur1 151 G1.out (fun _=>rfl) (by rw [L1.out];first | (rw [hn2];omega) | omega) ?_)
  go_ret
  refine ⟨rfl,⟨?_,.inr ⟨g,_,_,rfl,HB.out,setRow_heap w1 g _ _ _ _ G1.out,by omega,HCM.out,?_,?_⟩⟩,?_⟩
  ·rw [List.length_append,List.length_take,HLEN.out,HCS.out,Nat.min_eq_left (Nat.mul_le_mul_right _ (by omega)),← Nat.add_mul,hn1]
  ·rw [List.size_toArray,length_splice _ _ _ (by rw [zeroCells_len,L1.out];show (n - 1)*5+_*5≤_;first | (rw [hn2];omega) | omega)]
   exact L1.out
  ·rw [splice_take_le (Nat.le_refl _) (by rw [L1.out];exact Nat.mul_le_mul_right _ (by omega))]
   exact T1.out
  ·have b1:=BD.out
   have k1:=K1.out
   exact ⟨(show (w1.setRow g _).os=_ from k1.os.trans b1.os),(show (w1.setRow g _).tape=_ from k1.tape.trans b1.tape),(show (w1.setRow g _).output=_ from k1.output.trans b1.output),Nat.le_trans b1.size (Nat.le_trans k1.size (by simp)),fun k hk hne=>(setRow_other w1 g k _ (fun e=>hne (by rw [e];rfl))).trans ((k1.block k (Nat.lt_of_lt_of_le hk b1.size) hne).trans (b1.block k hk))⟩
 ·go_enter Tryz.func80,Tryz.ntmps80
  go_upto_region 5 with fail
  refine region_waysX 6 (fun k=>k=g) (.done [0,1,2,3,4,5]) (by kernel_rfl) (by kernel_rfl) ?_
  rintro wd hbd
  have BD:=Lib.hid hbd
  clear hbd
  have GD:=Lib.hid (row_stays HG.out BD.out)
  have HSD:Hid (∀ j v,cs[j]?=some v→wd.cell? ((⟨g,(i+1)*5,none⟩:Addr).add j)=some v):=Lib.hid (fun j v hv=>by
   have h1:=(BD.out.cell (World.block_lt_of_cell? _ _ (HSR.out j v hv))).trans (HSR.out j v hv)
   have e:((⟨g,(i+1)*5,none⟩:Addr).add j)=⟨g,(i+1)*5+j,none⟩:=by
    unfold Addr.add
    by_cases hj:j=0
    ·simp [hj]
    ·simp [hj]
   rw [e]
   exact h1)
  rw [wpWaysT_done]
  simp only [List.map_cons,List.map_nil,List.drop_succ_cons,List.drop_zero,opAt,List.getElem?_toArray,List.getElem?_cons_zero,List.getElem?_cons_succ,Option.getD_some]
  repeat (first
   | go_big_quiet_step (fail))
  refine wpQuiet_nil ?_
  have hn1:i+m=n - 1:=by omega
  have hfit:i*5+cs.length≤cur.length:=by rw [HCS.out,HCL.out,← Nat.add_mul];exact Nat.mul_le_mul_right _ (by omega)
  go_upto_region 6 with (at_builtin;refine wpList_append_in rfl (.tmp 22) (.tmp 25) 112 rfl 151 Tryz.underlying112 (.agg #[.int .i64 0,.bool false,.slice none 0 0,.slice none 0 0,.slice none 0 0]) 5 88 info_del_laid g i c rfl cur GD.out _ m _ rfl cs HCS.out (fun hm0=>⟨_,by first | rfl | (exfalso;omega),HSD.out⟩) HC1.out (by omega) hfit (n - 1) hn1 ?_)
  obtain ⟨cur1,hcur1⟩:∃ cur1,cur1=splice cur (i*5) cs:=⟨_,rfl⟩
  have G1:Hid ((wd.setRow g (splice cur (i*5) cs).toArray).heap[g]?=some (.cells cur1.toArray 151 (0,0))):=Lib.hid (by rw [hcur1];exact setRow_heap wd g _ _ _ _ GD.out)
  have L1:Hid (cur1.length=c*5):=Lib.hid (by rw [hcur1,length_splice _ _ _ hfit];exact HCL.out)
  have T1:Hid (cur1.take ((n - 1)*5)=us.take (i*5) ++ cs):=Lib.hid (by
   rw [hcur1,splice_take_end (by rw [HCS.out,← Nat.add_mul,hn1]) (by omega),HTK.out])
  obtain ⟨w1,hw1⟩:∃ w1,w1=wd.setRow g (splice cur (i*5) cs).toArray:=⟨_,rfl⟩
  have K1:Hid (wd.grownBy w1 (some g)):=Lib.hid (by rw [hw1];exact ⟨rfl,rfl,rfl,by simp,fun k _ hk=>setRow_other wd g k _ (fun e=>hk (by rw [e]))⟩)
  rw [← hw1] at G1 ⊢
  clear hw1 hcur1 hfit GD HSD HSR
  have hn2:n - (n - 1)=1:=by omega
  go_wp2_with (refine wpList_clear_N rfl (.tmp 31) 112 rfl 151 Tryz.underlying112 (.agg #[.int .i64 0,.bool false,.slice none 0 0,.slice none 0 0,.slice none 0 0]) 5 88 info_del_laid (by rfl) (by decide) (by decide) _ _ _ rfl g ((n - 1)*5) cur1 151 G1.out (fun _=>rfl) (by rw [L1.out];first | (rw [hn2];omega) | omega) ?_)
  go_ret
  refine ⟨rfl,⟨?_,.inr ⟨g,_,_,rfl,HB.out,setRow_heap w1 g _ _ _ _ G1.out,by omega,HCM.out,?_,?_⟩⟩,?_⟩
  ·rw [List.length_append,List.length_take,HLEN.out,HCS.out,Nat.min_eq_left (Nat.mul_le_mul_right _ (by omega)),← Nat.add_mul,hn1]
  ·rw [List.size_toArray,length_splice _ _ _ (by rw [zeroCells_len,L1.out];show (n - 1)*5+_*5≤_;first | (rw [hn2];omega) | omega)]
   exact L1.out
  ·rw [splice_take_le (Nat.le_refl _) (by rw [L1.out];exact Nat.mul_le_mul_right _ (by omega))]
   exact T1.out
  ·have b1:=BD.out
   have k1:=K1.out
   exact ⟨(show (w1.setRow g _).os=_ from k1.os.trans b1.os),(show (w1.setRow g _).tape=_ from k1.tape.trans b1.tape),(show (w1.setRow g _).output=_ from k1.output.trans b1.output),Nat.le_trans b1.size (Nat.le_trans k1.size (by simp)),fun k hk hne=>(setRow_other w1 g k _ (fun e=>hne (by rw [e];rfl))).trans ((k1.block k (Nat.lt_of_lt_of_le hk b1.size) hne).trans (b1.block k hk))⟩
end Go.Proofs.YtgkddhncfaeidaaGreat
