/- Squeezed: the texts as they are written lie in wip/tpl. -/
import Derived.Test.YtgkddhncfaeidaaGreatPart32
import Derived.Test.YtgkddhncfaeidaaGreatTjFm
import Derived.Test.YtgkddhncfaeidaaGreatTjJo
import Derived.Test.YtgkddhncfaeidaaGreatPart28
set_option maxRecDepth 100000
set_option maxHeartbeats 4000000
set_option linter.unusedSimpArgs false
set_option linter.unusedVariables false
namespace Go.Proofs.YtgkddhncfaeidaaGreat
set_option linter.unnecessarySimpa false
open Go.RowKit Go.ChangeShapes Go.WideShapes Go.ChangeAt CrcM PageM
theorem info_rep_int:(Tryz.prog.info? 3).map (fun i=>(i.zero,i.size,i.bytes))=some (some (.int .i64 0),1,8):=by kernel_rfl
theorem rep_int_end (base n c m d i:Nat) (A B:Option Addr) (us vs:List Value) (w:World) (h:w.ownsRow base 3 1 (.slice A n c) n us) (hi:i<n) (hv:CellsAt w B vs) (hvl:vs.length=m) (hm:n≤1000000) (hm2:m≤1000000) (h2:∀ u ∈ vs,u.oneCell'=true) (hbase:base≤w.heap.size) :
 Calls Tryz.prog 93 #[.slice A n c,.int .i64 (i:Int),.int .i64 (n:Int),.slice B m d] w fun e w'=>(∃ A' c',e=.returned (.slice A' (i+m) c')∧w'.ownsRow base 3 1 (.slice A' (i+m) c') (i+m) (us.take (i) ++ vs))∧w.grownBy w' (Value.slice A n c).ownBlock:=by
 have HR:=Lib.hid h
 have HV:=Lib.hid hv
 have HVL:=Lib.hid hvl
 have H2:=Lib.hid h2
 have HBW:=Lib.hid hbase
 obtain ⟨hlen,⟨_,h0⟩ | ⟨g,cap,cu,hv,hb,hg,hnc,hcm,hcs,htk⟩⟩:=h
 ·omega
 injection hv with hA _ hc
 subst hA hc
 simp only [Nat.mul_one] at hlen hcs htk
 obtain ⟨cur,hcur⟩:∃ cur,cur=cu.toList:=⟨_,rfl⟩
 have hg':w.heap[g]?=some (.cells cur.toArray 3 (0,0)):=by rw [hcur,Array.toArray_toList];exact hg
 have hcl:cur.length=c:=by rw [hcur,Array.length_toList];exact hcs
 rw [← hcur] at htk
 have HG:=Lib.hid hg'
 have HCL:=Lib.hid hcl
 have HTK:Hid (cur.take (i)=us.take (i)):=Lib.hid (by rw [← htk,List.take_take,Nat.min_eq_left (by omega)])
 have HLEN:=Lib.hid hlen
 have HB:=Lib.hid hb
 have HCM:=Lib.hid hcm
 have HPR:=Lib.hid (by have h9:=row_pre HR.out (by omega) (Nat.le_of_lt hi);rw [Nat.mul_one] at h9;exact h9)
 clear hg hg' hcl hcs htk hlen hb hcm hcur hv hvl h2 hbase
 have hcm:=HCM.out
 unfold maxLen at hcm
 have q0:((i:Int) == (n:Int))=false:=by simp;omega
 have q1:(i:Int)≤(n:Int):=by omega
 have q2:(n:Int)≤(c:Int):=by omega
 have q3:¬ c=i:=by omega
 by_cases hlt:i+m<n
 ·have q4:decide (((i+m:Nat):Int)<(n:Int))=true:=by simp;omega
  have q5:¬ c=i+m:=by omega
  go_enter Tryz.func93,Tryz.ntmps93
  have hfit:i+vs.length≤cur.length:=by have:=HVL.out;have:=HCL.out;omega
  go_upto_region 6 with (at_builtin;refine wpList_append_in rfl (.tmp 32) (.tmp 33) 59 rfl 3 Tryz.underlying59 (.int .i64 0) 1 8 info_rep_int g i c rfl cur HG.out _ m _ rfl vs (by have:=HVL.out;omega) (fun hm0=>HV.out.cells (by intro e;have:=HVL.out;rw [e] at this;simp at this;omega)) H2.out (by omega) (by omega) (i+m) rfl ?_)
  obtain ⟨cur1,hcur1⟩:∃ cur1,cur1=splice cur (i) vs:=⟨_,rfl⟩
  have G1:Hid ((w.setRow g (splice cur (i) vs).toArray).heap[g]?=some (.cells cur1.toArray 3 (0,0))):=Lib.hid (by rw [hcur1];exact setRow_heap w g _ _ _ _ HG.out)
  have L1:Hid (cur1.length=c):=Lib.hid (by rw [hcur1,length_splice _ _ _ hfit];exact HCL.out)
  have T1:Hid (cur1.take ((i+m))=us.take (i) ++ vs):=Lib.hid (by
   rw [hcur1,splice_take_end (by have:=HVL.out;omega) (by omega),HTK.out])
  obtain ⟨w1,hw1⟩:∃ w1,w1=w.setRow g (splice cur (i) vs).toArray:=⟨_,rfl⟩
  have K1:Hid (w.grownBy w1 (some g)):=Lib.hid (by rw [hw1];exact ⟨rfl,rfl,rfl,by simp,fun k _ hk=>setRow_other w g k _ (fun e=>hk (by rw [e]))⟩)
  rw [← hw1] at G1 ⊢
  clear hw1 hcur1 hfit
  have hz:(i+m)+(n - (i+m))≤cur1.length:=by have:=L1.out;omega
  go_wp2_with (refine wpList_clear_N rfl (.tmp 43) 59 rfl 3 Tryz.underlying59 (.int .i64 0) 1 8 info_rep_int (by rfl) (by decide) (by decide) _ (n - (i+m)) _ rfl g ((i+m)) cur1 3 G1.out (fun _=>rfl) (by omega) ?_)
  go_ret
  refine ⟨⟨_,_,rfl,⟨?_,.inr ⟨g,_,_,rfl,HB.out,setRow_heap w1 g _ _ _ _ G1.out,by omega,HCM.out,?_,?_⟩⟩⟩,?_⟩
  ·have:=HLEN.out;have:=HVL.out;rw [List.length_append,List.length_take];omega
  ·rw [List.size_toArray,length_splice _ _ _ (by rw [zeroCells_len];show _+_*1≤_;omega)]
   have:=L1.out;omega
  ·try rw [Nat.mul_one]
   rw [splice_take_le (Nat.le_refl _) (by have:=L1.out;omega)]
   exact T1.out
  ·have k1:=K1.out
   exact ⟨(show (w1.setRow g _).os=_ from k1.os),(show (w1.setRow g _).tape=_ from k1.tape),(show (w1.setRow g _).output=_ from k1.output),Nat.le_trans k1.size (by simp),fun k hk hne=>(setRow_other w1 g k _ (fun e=>hne (by rw [e];rfl))).trans (k1.block k hk hne)⟩
 ·have q4:decide (((i+m:Nat):Int)<(n:Int))=false:=by simp;omega
  go_enter Tryz.func93,Tryz.ntmps93
  go_upto_region 6 with (at_builtin;refine wpList_append_row rfl (.tmp 32) (.tmp 33) 59 rfl Tryz.underlying59 (.int .i64 0) 8 info_rep_int (by rfl) (by decide) _ rfl HPR.out _ _ m rfl (by have:=HVL.out;omega) HV.out H2.out (by omega) (by unfold maxLen;omega) HBW.out (i+m) rfl _ rfl ?_;intro A1 c1 x1 R1 g1;have RX:=Lib.hid R1;have GX:=Lib.hid g1;clear R1 g1)
  go_wp2_with fail
  go_ret
  exact ⟨⟨_,_,rfl,RX.out⟩,GX.out⟩
theorem rep_int_mid (base n c m d i j:Nat) (A B:Option Addr) (us vs:List Value) (w:World) (h:w.ownsRow base 3 1 (.slice A n c) n us) (hij:i<j) (hjn:j<n) (hmj:i+m≤j) (hv:CellsAt w B vs) (hvl:vs.length=m) (hm:n≤1000000) (h1:∀ u ∈ us,u.oneCell'=true) (h2:∀ u ∈ vs,u.oneCell'=true) :
 Calls Tryz.prog 93 #[.slice A n c,.int .i64 (i:Int),.int .i64 (j:Int),.slice B m d] w fun e w'=>(∃ A' c',e=.returned (.slice A' (i+m+(n - j)) c')∧w'.ownsRow base 3 1 (.slice A' (i+m+(n - j)) c') (i+m+(n - j)) (us.take (i) ++ vs ++ us.drop (j)))∧w.grownBy w' (Value.slice A n c).ownBlock:=by
 have HV:=Lib.hid hv
 have HVL:=Lib.hid hvl
 have H2:=Lib.hid h2
 obtain ⟨hlen,⟨_,h0⟩ | ⟨g,cap,cu,hv,hb,hg,hnc,hcm,hcs,htk⟩⟩:=h
 ·omega
 injection hv with hA _ hc
 subst hA hc
 simp only [Nat.mul_one] at hlen hcs htk
 obtain ⟨cur,hcur⟩:∃ cur,cur=cu.toList:=⟨_,rfl⟩
 have hg':w.heap[g]?=some (.cells cur.toArray 3 (0,0)):=by rw [hcur,Array.toArray_toList];exact hg
 have hcl:cur.length=c:=by rw [hcur,Array.length_toList];exact hcs
 rw [← hcur] at htk
 obtain ⟨cs,hcsd⟩:∃ cs,cs=us.drop (j):=⟨_,rfl⟩
 obtain ⟨r,hrr⟩:∃ r,r=n - j:=⟨_,rfl⟩
 have HCS:Hid (cs.length=r):=Lib.hid (by rw [hcsd,List.length_drop];omega)
 have HC1:Hid (∀ v ∈ cs,v.oneCell'=true):=Lib.hid (fun v hv=>h1 v (List.mem_of_mem_drop (by rw [← hcsd];exact hv)))
 have HSR:Hid (∀ x v,cs[x]?=some v→cur[j+x]?=some v):=Lib.hid (fun x v hv=>by
  rw [hcsd,List.getElem?_drop] at hv
  have hlt:=(List.getElem?_eq_some_iff.1 hv).1
  rw [← htk,List.getElem?_take_of_lt (by omega)] at hv
  exact hv)
 have HG:=Lib.hid hg'
 have HCL:=Lib.hid hcl
 have HTK:Hid (cur.take (i)=us.take (i)):=Lib.hid (by rw [← htk,List.take_take,Nat.min_eq_left (by omega)])
 have HLEN:=Lib.hid hlen
 have HB:=Lib.hid hb
 have HCM:=Lib.hid hcm
 rw [← hcsd]
 have hrn:n - j=r:=hrr.symm
 rw [hrn]
 have HRR:Hid (j+r=n):=Lib.hid (by omega)
 clear hg hg' hcl hcs htk hlen hb hcm hcur hv hvl h2 h1 hcsd hrr
 have hcm:=HCM.out
 unfold maxLen at hcm
 have q0:((i:Int) == (j:Int))=false:=by simp;omega
 have q1:(i:Int)≤(j:Int):=by omega
 have q2:(j:Int)≤(n:Int):=by omega
 have q2':(n:Int)≤(c:Int):=by omega
 have q3:¬ c=i:=by omega
 have q4:((j:Int) == (n:Int))=false:=by simp;omega
 have q5:¬ c=j:=by omega
 have q6:wrap64 ((i:Int)+(m:Int))=(i:Int)+(m:Int):=by unfold wrap64;omega
 have q7:wrap64 ((i:Int)+(m:Int)+(r:Int))=((i:Int)+(m:Int)+(r:Int)):=by unfold wrap64;omega
 have q8:decide (((i:Int)+(m:Int)+(r:Int)) > (c:Int))=false:=by have:=HRR.out;simp;omega
 have q9:((i:Int)+(m:Int)+(r:Int))≤(c:Int):=by have:=HRR.out;omega
 have q10:decide ((i:Int)+(m:Int)≤(j:Int))=true:=by simp;omega
 go_enter Tryz.func93,Tryz.ntmps93
 go_upto_region 9 with fail
 refine region_below w.heap.size w (Below.refl _ _) (by kernel_rfl) (by kernel_rfl) ?_
 repeat (go_big_quiet_step (fail))
 refine wpQuiet_nil ?_
 rintro w' ⟨y,rfl⟩
 obtain ⟨w0,hw0⟩:∃ w0,w0=y.at_:=⟨_,rfl⟩
 have B0:Hid (Below w.heap.size w w0):=Lib.hid (by rw [hw0];exact y.ok_)
 rw [← hw0]
 clear hw0
 have G0:=Lib.hid (row_stays HG.out B0.out)
 have HV0:Hid (CellsAt w0 B vs):=Lib.hid (fun hne=>by
  obtain ⟨b,off,h1,h2⟩:=HV.out hne
  exact ⟨b,off,h1,fun k hk=>(B0.out.cell (World.block_lt_of_cell? _ _ (h2 k hk))).trans (h2 k hk)⟩)
 have hfit:i+vs.length≤cur.length:=by have:=HVL.out;have:=HCL.out;omega
 have hmin:Nat.min m ((i+m+r) - i)=m:=by show min _ _=_;omega
 go_upto_region 18 with (refine wpList_copy_N rfl (.tmp 95) (.tmp 96) 59 59 rfl 3 Tryz.underlying59 1 (by kernel_rfl) _ _ _ _ _ _ rfl rfl m hmin g (i) cur 3 G0.out vs (by have:=HVL.out;omega) (fun hm0=>⟨rfl,HV0.out.cells (by intro e;have:=HVL.out;rw [e] at this;simp at this;omega)⟩) hfit H2.out ?_)
 obtain ⟨cur1,hcur1⟩:∃ cur1,cur1=splice cur (i) vs:=⟨_,rfl⟩
 have G1:Hid ((w0.setRow g (splice cur (i) vs).toArray).heap[g]?=some (.cells cur1.toArray 3 (0,0))):=Lib.hid (by rw [hcur1];exact setRow_heap w0 g _ _ _ _ G0.out)
 have L1:Hid (cur1.length=c):=Lib.hid (by rw [hcur1,length_splice _ _ _ hfit];exact HCL.out)
 have T1:Hid (cur1.take ((i+m))=us.take (i) ++ vs):=Lib.hid (by
  rw [hcur1,splice_take_end (by have:=HVL.out;omega) (by omega),HTK.out])
 have S1:Hid (∀ x v,cs[x]?=some v→cur1[j+x]?=some v):=Lib.hid (fun x v hx=>by
  rw [hcur1,splice_get_hi (by have:=HVL.out;omega) hfit]
  exact HSR.out x v hx)
 obtain ⟨w1,hw1⟩:∃ w1,w1=w0.setRow g (splice cur (i) vs).toArray:=⟨_,rfl⟩
 have K1:Hid (w0.grownBy w1 (some g)):=Lib.hid (by rw [hw1];exact ⟨rfl,rfl,rfl,by simp,fun k _ hk=>setRow_other w0 g k _ (fun e=>hk (by rw [e]))⟩)
 rw [← hw1] at G1 ⊢
 clear hw1 hcur1 hfit hmin G0 HV0
 have q11:¬ c=i+m:=by omega
 have h12:n - j=r:=by have:=HRR.out;omega
 have h13:(i+m+r) - (i+m)=r:=by omega
 refine region_waysX 9 (fun k=>k=g) (.done [0,1,2,3,4,5,6,7,8]) (by kernel_rfl) (by kernel_rfl) ?_
 rintro wd hbd
 have BD:=Lib.hid hbd
 clear hbd
 have GD:=Lib.hid (row_stays G1.out BD.out)
 rw [wpWaysT_done]
 simp only [List.map_cons,List.map_nil,List.drop_succ_cons,List.drop_zero,opAt,List.getElem?_toArray,List.getElem?_cons_zero,List.getElem?_cons_succ,Option.getD_some]
 try simp only [Act.put,List.setIfInBounds_toArray,List.set_cons_zero,List.set_cons_succ]
 repeat (first
  | go_big_quiet_step (fail))
 refine wpQuiet_nil ?_
 have hfit:(i+m)+cs.length≤cur1.length:=by have:=HCS.out;have:=L1.out;have:=HRR.out;omega
 have hmin:Nat.min r (i+m+r - (i+m))=r:=by show min _ _=_;omega
 have HSD:Hid (∀ x v,cs[x]?=some v→wd.cell? ((⟨g,j,none⟩:Addr).add x)=some v):=Lib.hid (fun x v hv=>by
  have h1:=blk_cell GD.out (j+x) v (by rw [List.getElem?_toArray];exact S1.out x v hv)
  have e:((⟨g,j,none⟩:Addr).add x)=⟨g,j+x,none⟩:=by
   unfold Addr.add
   by_cases hj:x=0
   ·simp [hj]
   ·simp [hj]
  rw [e]
  exact h1)
 refine wpList_copy_N rfl (.tmp 103) (.tmp 106) 59 59 rfl 3 Tryz.underlying59 1 (by kernel_rfl) _ _ _ _ _ _ rfl rfl r hmin g ((i+m)) cur1 3 GD.out cs (by have:=HCS.out;omega) (fun hm0=>⟨rfl,_,rfl,HSD.out⟩) hfit HC1.out ?_
 go_upto_region 19 with fail
 obtain ⟨cur2,hcur2⟩:∃ cur2,cur2=splice cur1 ((i+m)) cs:=⟨_,rfl⟩
 have G2:Hid ((wd.setRow g (splice cur1 ((i+m)) cs).toArray).heap[g]?=some (.cells cur2.toArray 3 (0,0))):=Lib.hid (by rw [hcur2];exact setRow_heap wd g _ _ _ _ GD.out)
 have L2:Hid (cur2.length=c):=Lib.hid (by rw [hcur2,length_splice _ _ _ hfit];exact L1.out)
 have T2:Hid (cur2.take ((i+m+r))=us.take (i) ++ vs ++ cs):=Lib.hid (by
  rw [hcur2,splice_take_end (by have:=HCS.out;omega) (by omega),T1.out])
 obtain ⟨w2,hw2⟩:∃ w2,w2=wd.setRow g (splice cur1 ((i+m)) cs).toArray:=⟨_,rfl⟩
 have K2:Hid (wd.grownBy w2 (some g)):=Lib.hid (by rw [hw2];exact ⟨rfl,rfl,rfl,by simp,fun k _ hk=>setRow_other wd g k _ (fun e=>hk (by rw [e]))⟩)
 rw [← hw2] at G2 ⊢
 clear hw2 hcur2 hfit hmin GD HSD
 have hz:(i+m+r)+(n - (i+m+r))≤cur2.length:=by have:=L2.out;have:=HRR.out;omega
 have hct0:0<n - (i+m+r)→¬ c=(i+m+r):=by omega
 by_cases hct:c=(i+m+r)
 ·go_wp2_with (refine wpList_clear_N rfl (.tmp 110) 59 rfl 3 Tryz.underlying59 (.int .i64 0) 1 8 info_rep_int (by rfl) (by decide) (by decide) _ (n - (i+m+r)) _ rfl g ((i+m+r)) cur2 3 G2.out (fun h0=>by first | rfl | exact absurd hct (hct0 h0)) (by omega) ?_)
  go_ret
  refine ⟨⟨_,_,rfl,⟨?_,.inr ⟨g,_,_,rfl,HB.out,setRow_heap w2 g _ _ _ _ G2.out,by have:=HRR.out;omega,by first | exact HCM.out | (rw [← hct];exact HCM.out),?_,?_⟩⟩⟩,?_⟩
  ·have:=HLEN.out;have:=HVL.out;have:=HCS.out
   simp only [List.length_append,List.length_take]
   omega
  ·rw [List.size_toArray,length_splice _ _ _ (by rw [zeroCells_len];show _+_*1≤_;omega)]
   have:=L2.out;omega
  ·try rw [Nat.mul_one]
   rw [splice_take_le (Nat.le_refl _) (by have:=L2.out;omega)]
   first | exact T2.out | (rw [← List.append_assoc];exact T2.out)
  ·have b0:=B0.out
   have k1:=K1.out
   have b1:=BD.out
   have k2:=K2.out
   exact ⟨(show (w2.setRow g _).os=_ from k2.os.trans (b1.os.trans (k1.os.trans b0.os))),(show (w2.setRow g _).tape=_ from k2.tape.trans (b1.tape.trans (k1.tape.trans b0.tape))),(show (w2.setRow g _).output=_ from k2.output.trans (b1.output.trans (k1.output.trans b0.output))),Nat.le_trans b0.size (Nat.le_trans k1.size (Nat.le_trans b1.size (Nat.le_trans k2.size (by simp)))),fun k hk hne=>by
    have c0:=b0.block k hk
    have s1:=Nat.lt_of_lt_of_le hk b0.size
    have c1:=k1.block k s1 hne
    have s2:=Nat.lt_of_lt_of_le s1 k1.size
    exact (setRow_other w2 g k _ (fun e=>hne (by rw [e];rfl))).trans ((k2.block k (Nat.lt_of_lt_of_le s2 b1.size) hne).trans ((b1.block k s2).trans (c1.trans c0)))⟩
 ·go_wp2_with (refine wpList_clear_N rfl (.tmp 110) 59 rfl 3 Tryz.underlying59 (.int .i64 0) 1 8 info_rep_int (by rfl) (by decide) (by decide) _ (n - (i+m+r)) _ rfl g ((i+m+r)) cur2 3 G2.out (fun h0=>by first | rfl | exact absurd hct (hct0 h0)) (by omega) ?_)
  go_ret
  refine ⟨⟨_,_,rfl,⟨?_,.inr ⟨g,_,_,rfl,HB.out,setRow_heap w2 g _ _ _ _ G2.out,by have:=HRR.out;omega,by first | exact HCM.out | (rw [← hct];exact HCM.out),?_,?_⟩⟩⟩,?_⟩
  ·have:=HLEN.out;have:=HVL.out;have:=HCS.out
   simp only [List.length_append,List.length_take]
   omega
  ·rw [List.size_toArray,length_splice _ _ _ (by rw [zeroCells_len];show _+_*1≤_;omega)]
   have:=L2.out;omega
  ·try rw [Nat.mul_one]
   rw [splice_take_le (Nat.le_refl _) (by have:=L2.out;omega)]
   first | exact T2.out | (rw [← List.append_assoc];exact T2.out)
  ·have b0:=B0.out
   have k1:=K1.out
   have b1:=BD.out
   have k2:=K2.out
   exact ⟨(show (w2.setRow g _).os=_ from k2.os.trans (b1.os.trans (k1.os.trans b0.os))),(show (w2.setRow g _).tape=_ from k2.tape.trans (b1.tape.trans (k1.tape.trans b0.tape))),(show (w2.setRow g _).output=_ from k2.output.trans (b1.output.trans (k1.output.trans b0.output))),Nat.le_trans b0.size (Nat.le_trans k1.size (Nat.le_trans b1.size (Nat.le_trans k2.size (by simp)))),fun k hk hne=>by
    have c0:=b0.block k hk
    have s1:=Nat.lt_of_lt_of_le hk b0.size
    have c1:=k1.block k s1 hne
    have s2:=Nat.lt_of_lt_of_le s1 k1.size
    exact (setRow_other w2 g k _ (fun e=>hne (by rw [e];rfl))).trans ((k2.block k (Nat.lt_of_lt_of_le s2 b1.size) hne).trans ((b1.block k s2).trans (c1.trans c0)))⟩
theorem flatR_take {α:Type} {f:α→List Value} {sz:Nat} (hf:∀ x,(f x).length=sz):∀ (l:List α) (i:Nat),(l.flatMap f).take (i*sz)=(l.take i).flatMap f
 | [],i=>by simp
 | x :: l,0=>by simp
 | x :: l,i+1=>by
   rw [List.flatMap_cons,List.take_succ_cons,List.flatMap_cons,Nat.add_mul,Nat.one_mul,List.take_append,hf,← flatR_take hf l i,Nat.add_sub_cancel]
   congr 1
   exact List.take_of_length_le (by rw [hf];omega)
theorem flatR_drop {α:Type} {f:α→List Value} {sz:Nat} (hf:∀ x,(f x).length=sz):∀ (l:List α) (i:Nat),(l.flatMap f).drop (i*sz)=(l.drop i).flatMap f
 | [],i=>by simp
 | x :: l,0=>by simp
 | x :: l,i+1=>by
   rw [List.flatMap_cons,List.drop_succ_cons,Nat.add_mul,Nat.one_mul,List.drop_append,hf,← flatR_drop hf l i,Nat.add_sub_cancel,List.drop_of_length_le (by rw [hf];omega),List.nil_append]
theorem rep_keys (base n c m d i j:Nat) (A B:Option Addr) (ks vs:List KeyD) (w:World) (hn:ks.length=n) (h:w.ownsRow base 38 2 (.slice A n c) n (ks.flatMap kyC)) (hij:i<j) (hjn:j≤n) (hvm:vs.length=m) (hm2:m≤1000000) (hmj:i+m≤j∨j=n) (hv:KyAt w B vs) (hm:n≤1000000) (hbase:base≤w.heap.size) :
 Calls Tryz.prog 92 #[.slice A n c,.int .i64 (i:Int),.int .i64 (j:Int),.slice B m d] w fun e w'=>(∃ A' c',e=.returned (.slice A' (i+m+(n - j)) c')∧w'.ownsRow base 38 2 (.slice A' (i+m+(n - j)) c') (i+m+(n - j)) ((ks.take i ++ vs ++ ks.drop j).flatMap kyC))∧w.grownBy w' (Value.slice A n c).ownBlock:=by
 have e1:(ks.take i ++ vs ++ ks.drop j).flatMap kyC=(ks.flatMap kyC).take (i*2) ++ vs.flatMap kyC ++ (ks.flatMap kyC).drop (j*2):=by
  rw [flatR_take lenKyC,flatR_drop lenKyC,List.flatMap_append,List.flatMap_append]
 rw [e1]
 by_cases hj:j=n
 ·subst hj
  have h0:(ks.flatMap kyC).drop (j*2)=[]:=List.drop_of_length_le (by rw [flatV_len lenKyC,hn];exact Nat.le_refl _)
  rw [h0,List.append_nil,Nat.sub_self,Nat.add_zero]
  exact rep_key_end base j c m d i A B _ _ w h hij hv.cells (by rw [flatV_len lenKyC,hvm]) hm hm2 (flat_one kyC_one _) hbase
 ·exact rep_key_mid base n c m d i j A B _ _ w h hij (by omega) (by omega) hv.cells (by rw [flatV_len lenKyC,hvm]) hm (flat_one kyC_one _) (flat_one kyC_one _)
theorem rep_kids (base n c m d i j:Nat) (A B:Option Addr) (ds vs:List Int) (w:World) (hn:ds.length=n) (h:w.ownsRow base 3 1 (.slice A n c) n (ds.map kdC)) (hij:i<j) (hjn:j≤n) (hvm:vs.length=m) (hm2:m≤1000000) (hmj:i+m≤j∨j=n) (hv:KdAt w B vs) (hm:n≤1000000) (hbase:base≤w.heap.size) :
 Calls Tryz.prog 93 #[.slice A n c,.int .i64 (i:Int),.int .i64 (j:Int),.slice B m d] w fun e w'=>(∃ A' c',e=.returned (.slice A' (i+m+(n - j)) c')∧w'.ownsRow base 3 1 (.slice A' (i+m+(n - j)) c') (i+m+(n - j)) ((ds.take i ++ vs ++ ds.drop j).map kdC))∧w.grownBy w' (Value.slice A n c).ownBlock:=by
 have e1:(ds.take i ++ vs ++ ds.drop j).map kdC=(ds.map kdC).take i ++ vs.map kdC ++ (ds.map kdC).drop j:=by
  rw [← List.map_take,← List.map_drop,List.map_append,List.map_append]
 rw [e1]
 by_cases hj:j=n
 ·subst hj
  have h0:(ds.map kdC).drop j=[]:=List.drop_of_length_le (by rw [List.length_map,hn];exact Nat.le_refl _)
  rw [h0,List.append_nil,Nat.sub_self,Nat.add_zero]
  exact rep_int_end base j c m d i A B _ _ w h hij hv.cells (by rw [List.length_map,hvm]) hm hm2 (kdC_one _) hbase
 ·exact rep_int_mid base n c m d i j A B _ _ w h hij (by omega) (by omega) hv.cells (by rw [List.length_map,hvm]) hm (kdC_one _) (kdC_one _)
structure OutS (gc B0:Nat) (X:Nat→Prop) (w w':World):Prop where
 os:w'.os=w.os
 tape:w'.tape=w.tape
 output:w'.output=w.output
 size:w.heap.size≤w'.heap.size
 block:∀ k,k<w.heap.size→k≠gc→¬ X k→(B0≤k→∀ cs fr,w.heap[k]?≠some (.cells cs 151 fr))→w'.heap[k]?=w.heap[k]?
section
variable {gc B0:Nat} {X:Nat→Prop} {w w1 w2:World}
theorem OutS.of_outer (h:OuterX (fun k=>k=gc) w w1):OutS gc B0 X w w1:=⟨h.os,h.tape,h.output,h.size,fun k hk hg _ _=>h.block k hk hg⟩
theorem OutS.of_outerX (h:OuterX X w w1):OutS gc B0 X w w1:=⟨h.os,h.tape,h.output,h.size,fun k hk _ hX _=>h.block k hk hX⟩
theorem OutS.of_below (h:Below w.heap.size w w1):OutS gc B0 X w w1:=⟨h.os,h.tape,h.output,h.size,fun k hk _ _ _=>h.block k hk⟩
theorem OutS.of_outT (h:OutT gc B0 151 w w1):OutS gc B0 X w w1:=⟨h.os,h.tape,h.output,h.size,fun k hk hg _ hT=>h.block k hk hg hT⟩
theorem OutS.trans (h:OutS gc B0 X w w1) (k:OutS gc B0 X w1 w2):OutS gc B0 X w w2 :=
 ⟨k.os.trans h.os,k.tape.trans h.tape,k.output.trans h.output,Nat.le_trans h.size k.size,fun i hi hg hX hT=>by
  have h1:=h.block i hi hg hX hT
  exact (k.block i (Nat.lt_of_lt_of_le hi h.size) hg hX (fun hb cs fr=>by rw [h1];exact hT hb cs fr)).trans h1⟩
theorem OutS.wider {Y:Nat→Prop} (h:OutS gc B0 X w w1) (hXY:∀ k,X k→Y k):OutS gc B0 Y w w1:=⟨h.os,h.tape,h.output,h.size,fun k hk hg hY hT=>h.block k hk hg (fun hx=>hY (hXY k hx)) hT⟩
theorem OutS.typed (h:OutS gc B0 X w w1) {gv p:Nat} {U V:List Bool} {lv:Value} (hc:ChgAt w gc gv (p:Int) U V lv) {k:Nat} {cs:Array Value} {T2:TypeId} {fr:Nat × Nat} (hk:w.heap[k]?=some (.cells cs T2 fr)) (h1:T2≠151) (h2:T2≠114) (hX:¬ X k):w1.heap[k]?=some (.cells cs T2 fr) :=
 (h.block k (Array.getElem?_eq_some_iff.1 hk).1 (fun e=>row_ne_typed hc e hk h2) hX (fun _ cs' fr' e=>by rw [hk] at e;cases e;exact h1 rfl)).trans hk
theorem OutS.own (h:OutS gc B0 X w w1) {gv p:Nat} {U V:List Bool} {lv:Value} (hc:ChgAt w gc gv (p:Int) U V lv) {base:Nat} {n:NodeD} {l:NdL} (ho:OwnN w base n l) (hX:∀ a,l.EA=some a∨l.KA=some a∨l.DA=some a→¬ X a.block):OwnN w1 base n l :=
 ho.keepT fun b cs T fr hb hA hT=>by
  have hne:¬ X b:=by
   rcases hA with hA | hA | hA
   ·obtain ⟨a,ha,rfl⟩:=Option.map_eq_some_iff.1 hA
    exact hX a (.inl ha)
   ·obtain ⟨a,ha,rfl⟩:=Option.map_eq_some_iff.1 hA
    exact hX a (.inr (.inl ha))
   ·obtain ⟨a,ha,rfl⟩:=Option.map_eq_some_iff.1 hA
    exact hX a (.inr (.inr ha))
  rw [h.typed hc hb (by rcases hT with rfl | rfl | rfl <;> decide) (by rcases hT with rfl | rfl | rfl <;> decide) hne]
  exact hb.symm
end
theorem own_blk {w:World} {base:Nat} {n:NodeD} {l:NdL} (h:OwnN w base n l):∀ a,l.EA=some a∨l.KA=some a∨l.DA=some a→base≤a.block∧a.block<w.heap.size:=fun a ha=>by
 rcases ha with ha | ha | ha
 ·exact World.ownsRow.lt h.1 a.block (by rw [ha];rfl)
 ·exact World.ownsRow.lt h.2.1 a.block (by rw [ha];rfl)
 ·exact World.ownsRow.lt h.2.2 a.block (by rw [ha];rfl)
theorem ChgS.offgc {w w':World} {gc gv p B0:Nat} {U U' V:List Bool} {lv:Value} {L:List (Nat × (NodeD × NdL))} (h:ChgS w gc gv p B0 U V lv L) (hc:ChgAt w' gc gv (p:Int) U' V lv) (ho:OuterX (fun k=>k=gc) w w'):ChgS w' gc gv p B0 U' V lv L :=
 ⟨hc,row_keep h.row (fun k cur _ hk=>ho.block k (Array.getElem?_eq_some_iff.1 hk).1 (fun e=>row_ne_typed h.chg e hk (by decide))),h.B0⟩
theorem sub_flatE {α β:Type} {x:α × List β}:∀ {pe:List (α × List β)},x ∈ pe→x.2.Sublist (pe.flatMap Prod.snd)
 | [],h=>by cases h
 | y :: pe,h=>by
   rw [List.flatMap_cons]
   rcases List.mem_cons.1 h with rfl | h
   ·exact List.sublist_append_left _ _
   ·exact (sub_flatE h).trans (List.sublist_append_right _ _)
theorem row_blk {w:World} {base sz n c k:Nat} {E T:TypeId} {A:Option Addr} {us:List Value} {cs:Array Value} {fr:Nat × Nat} (h:w.ownsRow base E sz (.slice A n c) n us) (hk:w.heap[k]?=some (.cells cs T fr)) (hT:T≠E):¬ A.map (·.block)=some k:=fun e=>by
 rcases h.2 with ⟨h0,_⟩ | ⟨g,cap,cur,hv,_,hg,_⟩
 ·injection h0 with h1 _ _
  subst h1
  cases e
 ·injection hv with h1 _ _
  subst h1
  obtain rfl:g=k:=by simpa using e
  rw [hk] at hg
  cases hg
  exact hT rfl
theorem own_map {A:Option Addr} {n c k:Nat} (h:(Value.slice A n c).ownBlock=some k):A.map (·.block)=some k:=by
 cases A with
 | none=>simp [Value.ownBlock] at h
 | some a=>simpa [Value.ownBlock] using h
theorem kd_kept {w w1:World} {n:NodeD} {l:NdL} (h:NodeT w n l) (k:KeptNot 38 w w1):KdAt w1 l.DA n.ds:=fun hne=>by
 obtain ⟨b,off,hA,hc⟩:=h.at_.d hne
 obtain ⟨b',off',cs,fr,hA',hb⟩:=h.td hne
 rw [hA] at hA'
 cases hA'
 exact ⟨b,off,hA,fun i e he=>(World.cell?_of_block (a:=⟨b,off+i,none⟩) (k.kept _ _ _ _ hb (by decide))).trans (hc i e he)⟩
theorem own_kept {w w1:World} {E:TypeId} (k:KeptNot E w w1) {base:Nat} {n:NodeD} {l:NdL} (h:OwnN w base n l) (h1:40≠E) (h2:38≠E) (h3:3≠E):OwnN w1 base n l :=
 h.keepT fun b cs T fr hb _ hT=>k.kept b cs T fr hb (by rcases hT with rfl | rfl | rfl <;> assumption)
def WiS (s:StepD) (n0 n':NodeD) (Lx:List (Nat × (NodeD × NdL))) (U U':List Bool):Prop:=SplitOf n0 (Lx.map fun x=>x.2.1)∧n'=⟨false,[],s.n.ks.take s.at_ ++ (Lx.map fun x=>leastK x.2.1) ++ s.n.ks.drop (s.at_+1),s.n.ds.take s.at_ ++ (Lx.map fun x=>kidI x.1) ++ s.n.ds.drop (s.at_+1)⟩∧U'=marks U (Lx.map Prod.fst)
end Go.Proofs.YtgkddhncfaeidaaGreat
namespace Go.Proofs.YtgkddhncfaeidaaGreat
open Go.ChangeShapes Go.WideShapes Go.ChangeAt Go.RowKit CrcM PageM
structure LinkD (rd:Nat→NodeD→Prop) (j:Nat) (s:StepD) (E E1:List EntD) (parts:List PartD):Prop where
 leaf:s.n.leaf=false
 es:s.n.es=[]
 ds:s.n.ds=parts.map (fun x=>kidI x.1)
 ks:s.n.ks=parts.map (fun x=>leastK x.2.1)
 all:∀ x ∈ parts,rd x.1 x.2.1∧Tre rd j x.2.1 x.2.2∧1≤x.2.2.length
 at_:∃ x,parts[s.at_]?=some x∧x.2.2=E
 sum:esOf parts=E1
 rd_:rd s.a s.n
theorem Down.chain {rd:Nat→NodeD→Prop} {k:KeyD}:∀ {h a:Nat} {n:NodeD} {es:List EntD} {ss:List StepD},rd a n→Tre rd h n es→Down rd k h a n es ss →
 ∃ E:Nat→List EntD,E h=es∧(∃ sl,ss[h]?=some sl∧sl.n.leaf=true∧sl.n.es=E 0∧sl.n.ks=[]∧sl.n.ds=[]∧rd sl.a sl.n∧PlaceOf sl.n k sl.at_)∧∀ j,j<h→∃ s parts,ss[h - 1 - j]?=some s∧LinkD rd j s (E j) (E (j+1)) parts
 | 0,a,n,es,ss,hr,⟨h1,h2,h3,h4⟩,⟨r,hp,e⟩=>⟨fun _=>es,rfl,⟨⟨a,n,r⟩,by rw [e];rfl,h1,h2,h3,h4,hr,hp⟩,fun j hj=>by omega⟩
 | h+1,a,n,es,ss,hr,⟨h1,h2,_⟩,⟨r,parts,x,ss',hp,e1,e2,e3,e4,hx,hd,e⟩=>by
   have hxm:=List.mem_of_getElem? hx
   have h3:=e3 x hxm
   obtain ⟨E,k1,⟨sl,k2,k3⟩,k4⟩:=Down.chain h3.1 h3.2.1 hd
   refine ⟨fun j=>if j≤h then E j else es,by dsimp only;rw [if_neg (by omega)],⟨sl,by rw [e];exact k2,?_⟩,fun j hj=>?_⟩
   ·dsimp only
    rw [if_pos (Nat.zero_le _)]
    exact k3
   ·by_cases hjh:j=h
    ·subst hjh
     refine ⟨⟨a,n,r⟩,parts,?_,?_⟩
     ·rw [e,show j+1 - 1 - j=0 by omega]
      rfl
     ·dsimp only
      rw [if_pos (Nat.le_refl _),if_neg (by omega)]
      exact ⟨h1,h2,e1,e2,e3,⟨x,hx,k1.symm⟩,e4.symm,hr⟩
    ·obtain ⟨s,ps,q1,q2⟩:=k4 j (by omega)
     refine ⟨s,ps,?_,?_⟩
     ·rw [e,show h+1 - 1 - j=(h - 1 - j)+1 by omega,List.getElem?_cons_succ]
      exact q1
     ·dsimp only
      rw [if_pos (by omega),if_pos (by omega)]
      exact q2
def Apt (es:List EntD):Prop:=es.Pairwise (fun a b=>apartB a b=true)
def GoodE (es:List EntD):Prop:=Apt es∧∀ e ∈ es,okEnt e∧inEnt e
theorem GoodE.sub {a b:List EntD} (h:GoodE b) (hs:a.Sublist b):GoodE a:=⟨List.Pairwise.sublist hs h.1,fun e he=>h.2 e (hs.subset he)⟩
theorem apt_less {a b:EntD} (h:apartB a b=true):lessB a.key b.key=true:=by
 unfold apartB at h
 exact (Bool.and_eq_true_iff.1 h).1
theorem apt_parts {parts:List PartD} (h:Apt (esOf parts)):∀ (i j:Nat) (x y:PartD),i<j→parts[i]?=some x→parts[j]?=some y→∀ e ∈ x.2.2,∀ f ∈ y.2.2,lessB e.key f.key=true :=
 fun i j x y hij hx hy e he f hf=>(Up.part (parts:=parts) (List.Pairwise.imp apt_less h)).2 i j x y hij hx hy e he f hf
theorem parts_sub {parts:List PartD} {x:PartD} (hx:x ∈ parts):x.2.2.Sublist (esOf parts):=by
 have h1:(esOf parts)=(parts.map Prod.snd).flatMap Prod.snd:=by unfold esOf;rw [List.flatMap_map]
 rw [h1]
 exact sub_flatE (x:=x.2) (List.mem_map_of_mem hx)
theorem ok_tre {rn:Nat→NodeD→Prop} (hfun:∀ a m m',rn a m→rn a m'→m=m') (hpg:∀ a m,rn a m→2≤a∧a<512):∀ {h:Nat} {n:NodeD} {es:List EntD},Tre rn h n es→GoodE es→1≤n.size→n.size≤capN n.leaf→okNode n∧inNode n
 | 0,n,es,⟨h1,h2,h3,h4⟩,hg,hs1,hs2=>by
   unfold NodeD.size at hs1 hs2
   unfold capN at hs2
   rw [if_pos h1] at hs1 hs2
   rw [if_pos h1] at hs2
   subst h2
   refine ⟨?_,by unfold inNode;exact ⟨fun e he=>(hg.2 e he).2,fun k hk=>by rw [h3] at hk;cases hk⟩⟩
   unfold okNode
   rw [if_pos h1]
   refine ⟨h3,h4,hs1,hs2,fun i hi=>?_⟩
   refine ⟨n.es[i],List.getElem?_eq_getElem hi,(hg.2 _ (List.getElem_mem hi)).1,?_⟩
   by_cases h0:i=0
   ·exact .inl h0
   ·exact .inr ⟨n.es[i - 1]'(by omega),List.getElem?_eq_getElem (by omega),List.pairwise_iff_getElem.1 hg.1 (i - 1) i (by omega) hi (by omega)⟩
 | h+1,n,es,⟨h1,h2,parts,e1,e2,e3,e4,e5⟩,hg,hs1,hs2=>by
   unfold NodeD.size at hs1 hs2
   unfold capN at hs2
   rw [if_neg (by simp [h1])] at hs1 hs2
   rw [if_neg (by simp [h1])] at hs2
   have hlp:n.ds.length=parts.length:=by rw [e1,List.length_map]
   have hlk:n.ks.length=parts.length:=by rw [e2,List.length_map]
   rw [hlp] at hs1 hs2
   have e4':es=esOf parts:=e4
   have hfirst:∀ (i:Nat) (x:PartD),parts[i]?=some x→∃ e,e ∈ x.2.2∧e ∈ es∧leastK x.2.1=e.key:=fun i x hx=>by
    have hm:=List.mem_of_getElem? hx
    obtain ⟨e,h3,h4⟩:=(e3 x hm).2.1.least (e3 x hm).2.2
    exact ⟨e,List.mem_of_getElem? h3,by rw [e4'];exact (parts_sub hm).subset (List.mem_of_getElem? h3),h4⟩
   have hless:∀ (i j:Nat) (x y:PartD),i<j→parts[i]?=some x→parts[j]?=some y→lessB (leastK x.2.1) (leastK y.2.1)=true:=fun i j x y hij hx hy=>by
    obtain ⟨e,q1,_,q3⟩:=hfirst i x hx
    obtain ⟨f,r1,_,r3⟩:=hfirst j y hy
    rw [q3,r3]
    exact apt_parts (by rw [← e4'];exact hg.1) i j x y hij hx hy e q1 f r1
   refine ⟨?_,?_⟩
   rotate_left
   ·unfold inNode
    refine ⟨fun e he=>(by rw [h2] at he;cases he),fun k hk=>?_⟩
    rw [e2] at hk
    obtain ⟨x,hx,rfl⟩:=List.mem_map.1 hk
    obtain ⟨i,hi⟩:=List.mem_iff_getElem?.1 hx
    obtain ⟨e,q1,q2,q3⟩:=hfirst i x hi
    rw [q3]
    exact (hg.2 e q2).2.1
   ·unfold okNode
    rw [if_neg (by simp [h1])]
    refine ⟨h2,by rw [hlp,hlk],⟨by rw [hlk];exact hs1,by rw [hlk];exact hs2,fun i hi=>?_⟩,fun i hi=>?_⟩
    ·rw [hlk] at hi
     have hx:=List.getElem?_eq_getElem hi
     obtain ⟨e,q1,q2,q3⟩:=hfirst i _ hx
     refine ⟨leastK parts[i].2.1,by rw [e2,List.getElem?_map,hx];rfl,?_,?_⟩
     ·rw [q3]
      exact (hg.2 e q2).1.1
     ·by_cases h0:i=0
      ·exact .inl h0
      ·have hy:=List.getElem?_eq_getElem (show i - 1<parts.length by omega)
       exact .inr ⟨leastK (parts[i - 1]'(by omega)).2.1,by rw [e2,List.getElem?_map,hy];rfl,hless (i - 1) i _ _ (by omega) hy hx⟩
    ·rw [hlp] at hi
     have hx:=List.getElem?_eq_getElem hi
     have hpx:=hpg _ _ (e3 _ (List.mem_of_getElem? hx)).1
     refine ⟨kidI parts[i].1,by rw [e1,List.getElem?_map,hx];rfl,by unfold kidI okAddr;omega,fun hm=>?_⟩
     obtain ⟨j,hj⟩:=List.mem_iff_getElem?.1 hm
     have hji:j<i:=by
      have:=(List.getElem?_eq_some_iff.1 hj).1
      rw [List.length_take] at this
      omega
     rw [List.getElem?_take_of_lt hji,e1,List.getElem?_map] at hj
     obtain ⟨y,hy,hyx⟩:=Option.map_eq_some_iff.1 hj
     have hpe:y.1=parts[i].1:=by
      unfold kidI at hyx
      exact Int.ofNat.inj hyx
     have hn:=hfun y.1 y.2.1 parts[i].2.1 (e3 y (List.mem_of_getElem? hy)).1 (by rw [hpe];exact (e3 _ (List.mem_of_getElem? hx)).1)
     have hl:=hless j i y _ hji hy hx
     rw [hn,lessB_irrefl] at hl
     cases hl
def rdL (rd:Nat→NodeD→Prop) (L:List (Nat × (NodeD × NdL))) (a:Nat) (n:NodeD):Prop:=rd a n∨∃ l,(a,(n,l)) ∈ L
end Go.Proofs.YtgkddhncfaeidaaGreat
