/- Squeezed: the texts as they are written lie in wip/tpl. -/
import Derived.Test.YtgkddhncfaeidaaGreatPart27
import Derived.Test.YtgkddhncfaeidaaGreatPart26
set_option maxRecDepth 100000
set_option maxHeartbeats 4000000
set_option linter.unusedSimpArgs false
set_option linter.unusedVariables false
namespace Go.Proofs.YtgkddhncfaeidaaGreat
open Go.RowKit Go.ChangeShapes Go.WideShapes Go.ChangeAt CrcM PageM
theorem row_pre {w:World} {base sz n c:Nat} {E:TypeId} {A:Option Addr} {us:List Value} (h:w.ownsRow base E sz (.slice A n c) n us) (h0:0<n) {i:Nat} (hi:i≤n):w.ownsRow base E sz (.slice A i c) i (us.take (i*sz)):=by
 obtain ⟨hlen,⟨_,hz⟩ | ⟨g,cap,cu,hv,hb,hg,hnc,hcm,hcs,htk⟩⟩:=h
 ·omega
 injection hv with hA _ hc
 subst hA hc
 refine ⟨?_,.inr ⟨g,c,cu,rfl,hb,hg,by omega,hcm,hcs,?_⟩⟩
 ·rw [List.length_take,hlen,Nat.min_eq_left (Nat.mul_le_mul_right _ hi)]
 ·rw [← htk,List.take_take,Nat.min_eq_left (Nat.mul_le_mul_right _ hi)]
theorem info_rep_key:(Tryz.prog.info? 38).map (fun i=>(i.zero,i.size,i.bytes))=some (some (.agg #[.int .i64 0,.int .i64 0]),2,16):=by kernel_rfl
theorem rep_key_end (base n c m d i:Nat) (A B:Option Addr) (us vs:List Value) (w:World) (h:w.ownsRow base 38 2 (.slice A n c) n us) (hi:i<n) (hv:CellsAt w B vs) (hvl:vs.length=m*2) (hm:n≤1000000) (hm2:m≤1000000) (h2:∀ u ∈ vs,u.oneCell'=true) (hbase:base≤w.heap.size) :
 Calls Tryz.prog 92 #[.slice A n c,.int .i64 (i:Int),.int .i64 (n:Int),.slice B m d] w fun e w'=>(∃ A' c',e=.returned (.slice A' (i+m) c')∧w'.ownsRow base 38 2 (.slice A' (i+m) c') (i+m) (us.take (i*2) ++ vs))∧w.grownBy w' (Value.slice A n c).ownBlock:=by
 have HR:=Lib.hid h
 have HV:=Lib.hid hv
 have HVL:=Lib.hid hvl
 have H2:=Lib.hid h2
 have HBW:=Lib.hid hbase
 obtain ⟨hlen,⟨_,h0⟩ | ⟨g,cap,cu,hv,hb,hg,hnc,hcm,hcs,htk⟩⟩:=h
 ·omega
 injection hv with hA _ hc
 subst hA hc
 obtain ⟨cur,hcur⟩:∃ cur,cur=cu.toList:=⟨_,rfl⟩
 have hg':w.heap[g]?=some (.cells cur.toArray 38 (0,0)):=by rw [hcur,Array.toArray_toList];exact hg
 have hcl:cur.length=c*2:=by rw [hcur,Array.length_toList];exact hcs
 rw [← hcur] at htk
 have HG:=Lib.hid hg'
 have HCL:=Lib.hid hcl
 have HTK:Hid (cur.take (i*2)=us.take (i*2)):=Lib.hid (by rw [← htk,List.take_take,Nat.min_eq_left (by omega)])
 have HLEN:=Lib.hid hlen
 have HB:=Lib.hid hb
 have HCM:=Lib.hid hcm
 have HPR:=Lib.hid (row_pre HR.out (by omega) (Nat.le_of_lt hi))
 clear hg hg' hcl hcs htk hlen hb hcm hcur hv hvl h2 hbase
 have hcm:=HCM.out
 unfold maxLen at hcm
 have q0:((i:Int) == (n:Int))=false:=by simp;omega
 have q1:(i:Int)≤(n:Int):=by omega
 have q2:(n:Int)≤(c:Int):=by omega
 have q3:¬ c=i:=by omega
 by_cases hlt:i+m<n
 ·have q4:decide (((i+m:Nat):Int)<(n:Int))=true:=by simp;omega
  have q5:¬ c=i+m:=by omega
  go_enter Tryz.func92,Tryz.ntmps92
  have hfit:i*2+vs.length≤cur.length:=by have:=HVL.out;have:=HCL.out;omega
  go_upto_region 6 with (at_builtin;refine wpList_append_in rfl (.tmp 32) (.tmp 33) 84 rfl 38 Tryz.underlying84 (.agg #[.int .i64 0,.int .i64 0]) 2 16 info_rep_key g i c rfl cur HG.out _ m _ rfl vs (by have:=HVL.out;omega) (fun hm0=>HV.out.cells (by intro e;have:=HVL.out;rw [e] at this;simp at this;omega)) H2.out (by omega) (by omega) (i+m) rfl ?_)
  obtain ⟨cur1,hcur1⟩:∃ cur1,cur1=splice cur (i*2) vs:=⟨_,rfl⟩
  have G1:Hid ((w.setRow g (splice cur (i*2) vs).toArray).heap[g]?=some (.cells cur1.toArray 38 (0,0))):=Lib.hid (by rw [hcur1];exact setRow_heap w g _ _ _ _ HG.out)
  have L1:Hid (cur1.length=c*2):=Lib.hid (by rw [hcur1,length_splice _ _ _ hfit];exact HCL.out)
  have T1:Hid (cur1.take ((i+m)*2)=us.take (i*2) ++ vs):=Lib.hid (by
   rw [hcur1,splice_take_end (by have:=HVL.out;omega) (by omega),HTK.out])
  obtain ⟨w1,hw1⟩:∃ w1,w1=w.setRow g (splice cur (i*2) vs).toArray:=⟨_,rfl⟩
  have K1:Hid (w.grownBy w1 (some g)):=Lib.hid (by rw [hw1];exact ⟨rfl,rfl,rfl,by simp,fun k _ hk=>setRow_other w g k _ (fun e=>hk (by rw [e]))⟩)
  rw [← hw1] at G1 ⊢
  clear hw1 hcur1 hfit
  have hz:(i+m)*2+(n - (i+m))*2≤cur1.length:=by have:=L1.out;omega
  go_wp2_with (refine wpList_clear_N rfl (.tmp 43) 84 rfl 38 Tryz.underlying84 (.agg #[.int .i64 0,.int .i64 0]) 2 16 info_rep_key (by rfl) (by decide) (by decide) _ (n - (i+m)) _ rfl g ((i+m)*2) cur1 38 G1.out (fun _=>rfl) (by omega) ?_)
  go_ret
  refine ⟨⟨_,_,rfl,⟨?_,.inr ⟨g,_,_,rfl,HB.out,setRow_heap w1 g _ _ _ _ G1.out,by omega,HCM.out,?_,?_⟩⟩⟩,?_⟩
  ·have:=HLEN.out;have:=HVL.out;rw [List.length_append,List.length_take];omega
  ·rw [List.size_toArray,length_splice _ _ _ (by rw [zeroCells_len];show _+_*2≤_;omega)]
   have:=L1.out;omega
  ·try rw [Nat.mul_one]
   rw [splice_take_le (Nat.le_refl _) (by have:=L1.out;omega)]
   exact T1.out
  ·have k1:=K1.out
   exact ⟨(show (w1.setRow g _).os=_ from k1.os),(show (w1.setRow g _).tape=_ from k1.tape),(show (w1.setRow g _).output=_ from k1.output),Nat.le_trans k1.size (by simp),fun k hk hne=>(setRow_other w1 g k _ (fun e=>hne (by rw [e];rfl))).trans (k1.block k hk hne)⟩
 ·have q4:decide (((i+m:Nat):Int)<(n:Int))=false:=by simp;omega
  go_enter Tryz.func92,Tryz.ntmps92
  go_upto_region 6 with (at_builtin;refine wpList_append_row rfl (.tmp 32) (.tmp 33) 84 rfl Tryz.underlying84 (.agg #[.int .i64 0,.int .i64 0]) 16 info_rep_key (by rfl) (by decide) _ rfl HPR.out _ _ m rfl (by have:=HVL.out;omega) HV.out H2.out (by omega) (by unfold maxLen;omega) HBW.out (i+m) rfl _ rfl ?_;intro A1 c1 x1 R1 g1;have RX:=Lib.hid R1;have GX:=Lib.hid g1;clear R1 g1)
  go_wp2_with fail
  go_ret
  exact ⟨⟨_,_,rfl,RX.out⟩,GX.out⟩
theorem rep_key_mid (base n c m d i j:Nat) (A B:Option Addr) (us vs:List Value) (w:World) (h:w.ownsRow base 38 2 (.slice A n c) n us) (hij:i<j) (hjn:j<n) (hmj:i+m≤j) (hv:CellsAt w B vs) (hvl:vs.length=m*2) (hm:n≤1000000) (h1:∀ u ∈ us,u.oneCell'=true) (h2:∀ u ∈ vs,u.oneCell'=true) :
 Calls Tryz.prog 92 #[.slice A n c,.int .i64 (i:Int),.int .i64 (j:Int),.slice B m d] w fun e w'=>(∃ A' c',e=.returned (.slice A' (i+m+(n - j)) c')∧w'.ownsRow base 38 2 (.slice A' (i+m+(n - j)) c') (i+m+(n - j)) (us.take (i*2) ++ vs ++ us.drop (j*2)))∧w.grownBy w' (Value.slice A n c).ownBlock:=by
 have HV:=Lib.hid hv
 have HVL:=Lib.hid hvl
 have H2:=Lib.hid h2
 obtain ⟨hlen,⟨_,h0⟩ | ⟨g,cap,cu,hv,hb,hg,hnc,hcm,hcs,htk⟩⟩:=h
 ·omega
 injection hv with hA _ hc
 subst hA hc
 obtain ⟨cur,hcur⟩:∃ cur,cur=cu.toList:=⟨_,rfl⟩
 have hg':w.heap[g]?=some (.cells cur.toArray 38 (0,0)):=by rw [hcur,Array.toArray_toList];exact hg
 have hcl:cur.length=c*2:=by rw [hcur,Array.length_toList];exact hcs
 rw [← hcur] at htk
 obtain ⟨cs,hcsd⟩:∃ cs,cs=us.drop (j*2):=⟨_,rfl⟩
 obtain ⟨r,hrr⟩:∃ r,r=n - j:=⟨_,rfl⟩
 have HCS:Hid (cs.length=r*2):=Lib.hid (by rw [hcsd,List.length_drop];omega)
 have HC1:Hid (∀ v ∈ cs,v.oneCell'=true):=Lib.hid (fun v hv=>h1 v (List.mem_of_mem_drop (by rw [← hcsd];exact hv)))
 have HSR:Hid (∀ x v,cs[x]?=some v→cur[j*2+x]?=some v):=Lib.hid (fun x v hv=>by
  rw [hcsd,List.getElem?_drop] at hv
  have hlt:=(List.getElem?_eq_some_iff.1 hv).1
  rw [← htk,List.getElem?_take_of_lt (by omega)] at hv
  exact hv)
 have HG:=Lib.hid hg'
 have HCL:=Lib.hid hcl
 have HTK:Hid (cur.take (i*2)=us.take (i*2)):=Lib.hid (by rw [← htk,List.take_take,Nat.min_eq_left (by omega)])
 have HLEN:=Lib.hid hlen
 have HB:=Lib.hid hb
 have HCM:=Lib.hid hcm
 rw [← hcsd]
 have hrn:n - j=r:=hrr.symm
 rw [hrn]
 have HRR:Hid (j+r=n):=Lib.hid (by omega)
 clear hg hg' hcl hcs htk hlen hb hcm hcur hv hvl h2 h1 hcsd hrr
 have hcm:=HCM.out
 unfold maxLen at hcm
 have q0:((i:Int) == (j:Int))=false:=by simp;omega
 have q1:(i:Int)≤(j:Int):=by omega
 have q2:(j:Int)≤(n:Int):=by omega
 have q2':(n:Int)≤(c:Int):=by omega
 have q3:¬ c=i:=by omega
 have q4:((j:Int) == (n:Int))=false:=by simp;omega
 have q5:¬ c=j:=by omega
 have q6:wrap64 ((i:Int)+(m:Int))=(i:Int)+(m:Int):=by unfold wrap64;omega
 have q7:wrap64 ((i:Int)+(m:Int)+(r:Int))=((i:Int)+(m:Int)+(r:Int)):=by unfold wrap64;omega
 have q8:decide (((i:Int)+(m:Int)+(r:Int)) > (c:Int))=false:=by have:=HRR.out;simp;omega
 have q9:((i:Int)+(m:Int)+(r:Int))≤(c:Int):=by have:=HRR.out;omega
 have q10:decide ((i:Int)+(m:Int)≤(j:Int))=true:=by simp;omega
 go_enter Tryz.func92,Tryz.ntmps92
 go_upto_region 9 with fail
 refine region_below w.heap.size w (Below.refl _ _) (by kernel_rfl) (by kernel_rfl) ?_
 repeat (go_big_quiet_step (fail))
 refine wpQuiet_nil ?_
 rintro w' ⟨y,rfl⟩
 obtain ⟨w0,hw0⟩:∃ w0,w0=y.at_:=⟨_,rfl⟩
 have B0:Hid (Below w.heap.size w w0):=Lib.hid (by rw [hw0];exact y.ok_)
 rw [← hw0]
 clear hw0
 have G0:=Lib.hid (row_stays HG.out B0.out)
 have HV0:Hid (CellsAt w0 B vs):=Lib.hid (fun hne=>by
  obtain ⟨b,off,h1,h2⟩:=HV.out hne
  exact ⟨b,off,h1,fun k hk=>(B0.out.cell (World.block_lt_of_cell? _ _ (h2 k hk))).trans (h2 k hk)⟩)
 have hfit:i*2+vs.length≤cur.length:=by have:=HVL.out;have:=HCL.out;omega
 have hmin:Nat.min m ((i+m+r) - i)=m:=by show min _ _=_;omega
 go_upto_region 18 with (refine wpList_copy_N rfl (.tmp 95) (.tmp 96) 84 84 rfl 38 Tryz.underlying84 2 (by kernel_rfl) _ _ _ _ _ _ rfl rfl m hmin g (i*2) cur 38 G0.out vs (by have:=HVL.out;omega) (fun hm0=>⟨rfl,HV0.out.cells (by intro e;have:=HVL.out;rw [e] at this;simp at this;omega)⟩) hfit H2.out ?_)
 obtain ⟨cur1,hcur1⟩:∃ cur1,cur1=splice cur (i*2) vs:=⟨_,rfl⟩
 have G1:Hid ((w0.setRow g (splice cur (i*2) vs).toArray).heap[g]?=some (.cells cur1.toArray 38 (0,0))):=Lib.hid (by rw [hcur1];exact setRow_heap w0 g _ _ _ _ G0.out)
 have L1:Hid (cur1.length=c*2):=Lib.hid (by rw [hcur1,length_splice _ _ _ hfit];exact HCL.out)
 have T1:Hid (cur1.take ((i+m)*2)=us.take (i*2) ++ vs):=Lib.hid (by
  rw [hcur1,splice_take_end (by have:=HVL.out;omega) (by omega),HTK.out])
 have S1:Hid (∀ x v,cs[x]?=some v→cur1[j*2+x]?=some v):=Lib.hid (fun x v hx=>by
  rw [hcur1,splice_get_hi (by have:=HVL.out;omega) hfit]
  exact HSR.out x v hx)
 obtain ⟨w1,hw1⟩:∃ w1,w1=w0.setRow g (splice cur (i*2) vs).toArray:=⟨_,rfl⟩
 have K1:Hid (w0.grownBy w1 (some g)):=Lib.hid (by rw [hw1];exact ⟨rfl,rfl,rfl,by simp,fun k _ hk=>setRow_other w0 g k _ (fun e=>hk (by rw [e]))⟩)
 rw [← hw1] at G1 ⊢
 clear hw1 hcur1 hfit hmin G0 HV0
 have q11:¬ c=i+m:=by omega
 have h12:n - j=r:=by have:=HRR.out;omega
 have h13:(i+m+r) - (i+m)=r:=by omega
 refine region_waysX 9 (fun k=>k=g) (.done [0,1,2,3,4,5,6,7,8]) (by kernel_rfl) (by kernel_rfl) ?_
 rintro wd hbd
 have BD:=Lib.hid hbd
 clear hbd
 have GD:=Lib.hid (row_stays G1.out BD.out)
 rw [wpWaysT_done]
 simp only [List.map_cons,List.map_nil,List.drop_succ_cons,List.drop_zero,opAt,List.getElem?_toArray,List.getElem?_cons_zero,List.getElem?_cons_succ,Option.getD_some]
 try simp only [Act.put,List.setIfInBounds_toArray,List.set_cons_zero,List.set_cons_succ]
 repeat (first
  | go_big_quiet_step (fail))
 refine wpQuiet_nil ?_
 have hfit:(i+m)*2+cs.length≤cur1.length:=by have:=HCS.out;have:=L1.out;have:=HRR.out;omega
 have hmin:Nat.min r (i+m+r - (i+m))=r:=by show min _ _=_;omega
 have HSD:Hid (∀ x v,cs[x]?=some v→wd.cell? ((⟨g,j*2,none⟩:Addr).add x)=some v):=Lib.hid (fun x v hv=>by
  have h1:=blk_cell GD.out (j*2+x) v (by rw [List.getElem?_toArray];exact S1.out x v hv)
  have e:((⟨g,j*2,none⟩:Addr).add x)=⟨g,j*2+x,none⟩:=by
   unfold Addr.add
   by_cases hj:x=0
   ·simp [hj]
   ·simp [hj]
  rw [e]
  exact h1)
 refine wpList_copy_N rfl (.tmp 103) (.tmp 106) 84 84 rfl 38 Tryz.underlying84 2 (by kernel_rfl) _ _ _ _ _ _ rfl rfl r hmin g ((i+m)*2) cur1 38 GD.out cs (by have:=HCS.out;omega) (fun hm0=>⟨rfl,_,rfl,HSD.out⟩) hfit HC1.out ?_
 go_upto_region 19 with fail
 obtain ⟨cur2,hcur2⟩:∃ cur2,cur2=splice cur1 ((i+m)*2) cs:=⟨_,rfl⟩
 have G2:Hid ((wd.setRow g (splice cur1 ((i+m)*2) cs).toArray).heap[g]?=some (.cells cur2.toArray 38 (0,0))):=Lib.hid (by rw [hcur2];exact setRow_heap wd g _ _ _ _ GD.out)
 have L2:Hid (cur2.length=c*2):=Lib.hid (by rw [hcur2,length_splice _ _ _ hfit];exact L1.out)
 have T2:Hid (cur2.take ((i+m+r)*2)=us.take (i*2) ++ vs ++ cs):=Lib.hid (by
  rw [hcur2,splice_take_end (by have:=HCS.out;omega) (by omega),T1.out])
 obtain ⟨w2,hw2⟩:∃ w2,w2=wd.setRow g (splice cur1 ((i+m)*2) cs).toArray:=⟨_,rfl⟩
 have K2:Hid (wd.grownBy w2 (some g)):=Lib.hid (by rw [hw2];exact ⟨rfl,rfl,rfl,by simp,fun k _ hk=>setRow_other wd g k _ (fun e=>hk (by rw [e]))⟩)
 rw [← hw2] at G2 ⊢
 clear hw2 hcur2 hfit hmin GD HSD
 have hz:(i+m+r)*2+(n - (i+m+r))*2≤cur2.length:=by have:=L2.out;have:=HRR.out;omega
 have hct0:0<n - (i+m+r)→¬ c=(i+m+r):=by omega
 by_cases hct:c=(i+m+r)
 ·go_wp2_with (refine wpList_clear_N rfl (.tmp 110) 84 rfl 38 Tryz.underlying84 (.agg #[.int .i64 0,.int .i64 0]) 2 16 info_rep_key (by rfl) (by decide) (by decide) _ (n - (i+m+r)) _ rfl g ((i+m+r)*2) cur2 38 G2.out (fun h0=>by first | rfl | exact absurd hct (hct0 h0)) (by omega) ?_)
  go_ret
  refine ⟨⟨_,_,rfl,⟨?_,.inr ⟨g,_,_,rfl,HB.out,setRow_heap w2 g _ _ _ _ G2.out,by have:=HRR.out;omega,by first | exact HCM.out | (rw [← hct];exact HCM.out),?_,?_⟩⟩⟩,?_⟩
  ·have:=HLEN.out;have:=HVL.out;have:=HCS.out
   simp only [List.length_append,List.length_take]
   omega
  ·rw [List.size_toArray,length_splice _ _ _ (by rw [zeroCells_len];show _+_*2≤_;omega)]
   have:=L2.out;omega
  ·try rw [Nat.mul_one]
   rw [splice_take_le (Nat.le_refl _) (by have:=L2.out;omega)]
   first | exact T2.out | (rw [← List.append_assoc];exact T2.out)
  ·have b0:=B0.out
   have k1:=K1.out
   have b1:=BD.out
   have k2:=K2.out
   exact ⟨(show (w2.setRow g _).os=_ from k2.os.trans (b1.os.trans (k1.os.trans b0.os))),(show (w2.setRow g _).tape=_ from k2.tape.trans (b1.tape.trans (k1.tape.trans b0.tape))),(show (w2.setRow g _).output=_ from k2.output.trans (b1.output.trans (k1.output.trans b0.output))),Nat.le_trans b0.size (Nat.le_trans k1.size (Nat.le_trans b1.size (Nat.le_trans k2.size (by simp)))),fun k hk hne=>by
    have c0:=b0.block k hk
    have s1:=Nat.lt_of_lt_of_le hk b0.size
    have c1:=k1.block k s1 hne
    have s2:=Nat.lt_of_lt_of_le s1 k1.size
    exact (setRow_other w2 g k _ (fun e=>hne (by rw [e];rfl))).trans ((k2.block k (Nat.lt_of_lt_of_le s2 b1.size) hne).trans ((b1.block k s2).trans (c1.trans c0)))⟩
 ·go_wp2_with (refine wpList_clear_N rfl (.tmp 110) 84 rfl 38 Tryz.underlying84 (.agg #[.int .i64 0,.int .i64 0]) 2 16 info_rep_key (by rfl) (by decide) (by decide) _ (n - (i+m+r)) _ rfl g ((i+m+r)*2) cur2 38 G2.out (fun h0=>by first | rfl | exact absurd hct (hct0 h0)) (by omega) ?_)
  go_ret
  refine ⟨⟨_,_,rfl,⟨?_,.inr ⟨g,_,_,rfl,HB.out,setRow_heap w2 g _ _ _ _ G2.out,by have:=HRR.out;omega,by first | exact HCM.out | (rw [← hct];exact HCM.out),?_,?_⟩⟩⟩,?_⟩
  ·have:=HLEN.out;have:=HVL.out;have:=HCS.out
   simp only [List.length_append,List.length_take]
   omega
  ·rw [List.size_toArray,length_splice _ _ _ (by rw [zeroCells_len];show _+_*2≤_;omega)]
   have:=L2.out;omega
  ·try rw [Nat.mul_one]
   rw [splice_take_le (Nat.le_refl _) (by have:=L2.out;omega)]
   first | exact T2.out | (rw [← List.append_assoc];exact T2.out)
  ·have b0:=B0.out
   have k1:=K1.out
   have b1:=BD.out
   have k2:=K2.out
   exact ⟨(show (w2.setRow g _).os=_ from k2.os.trans (b1.os.trans (k1.os.trans b0.os))),(show (w2.setRow g _).tape=_ from k2.tape.trans (b1.tape.trans (k1.tape.trans b0.tape))),(show (w2.setRow g _).output=_ from k2.output.trans (b1.output.trans (k1.output.trans b0.output))),Nat.le_trans b0.size (Nat.le_trans k1.size (Nat.le_trans b1.size (Nat.le_trans k2.size (by simp)))),fun k hk hne=>by
    have c0:=b0.block k hk
    have s1:=Nat.lt_of_lt_of_le hk b0.size
    have c1:=k1.block k s1 hne
    have s2:=Nat.lt_of_lt_of_le s1 k1.size
    exact (setRow_other w2 g k _ (fun e=>hne (by rw [e];rfl))).trans ((k2.block k (Nat.lt_of_lt_of_le s2 b1.size) hne).trans ((b1.block k s2).trans (c1.trans c0)))⟩
theorem info_rep_int:(Tryz.prog.info? 3).map (fun i=>(i.zero,i.size,i.bytes))=some (some (.int .i64 0),1,8):=by kernel_rfl
theorem rep_int_end (base n c m d i:Nat) (A B:Option Addr) (us vs:List Value) (w:World) (h:w.ownsRow base 3 1 (.slice A n c) n us) (hi:i<n) (hv:CellsAt w B vs) (hvl:vs.length=m) (hm:n≤1000000) (hm2:m≤1000000) (h2:∀ u ∈ vs,u.oneCell'=true) (hbase:base≤w.heap.size) :
 Calls Tryz.prog 93 #[.slice A n c,.int .i64 (i:Int),.int .i64 (n:Int),.slice B m d] w fun e w'=>(∃ A' c',e=.returned (.slice A' (i+m) c')∧w'.ownsRow base 3 1 (.slice A' (i+m) c') (i+m) (us.take (i) ++ vs))∧w.grownBy w' (Value.slice A n c).ownBlock:=by
 have HR:=Lib.hid h
 have HV:=Lib.hid hv
 have HVL:=Lib.hid hvl
 have H2:=Lib.hid h2
 have HBW:=Lib.hid hbase
 obtain ⟨hlen,⟨_,h0⟩ | ⟨g,cap,cu,hv,hb,hg,hnc,hcm,hcs,htk⟩⟩:=h
 ·omega
 injection hv with hA _ hc
 subst hA hc
 simp only [Nat.mul_one] at hlen hcs htk
 obtain ⟨cur,hcur⟩:∃ cur,cur=cu.toList:=⟨_,rfl⟩
 have hg':w.heap[g]?=some (.cells cur.toArray 3 (0,0)):=by rw [hcur,Array.toArray_toList];exact hg
 have hcl:cur.length=c:=by rw [hcur,Array.length_toList];exact hcs
 rw [← hcur] at htk
 have HG:=Lib.hid hg'
 have HCL:=Lib.hid hcl
 have HTK:Hid (cur.take (i)=us.take (i)):=Lib.hid (by rw [← htk,List.take_take,Nat.min_eq_left (by omega)])
 have HLEN:=Lib.hid hlen
 have HB:=Lib.hid hb
 have HCM:=Lib.hid hcm
 have HPR:=Lib.hid (by have h9:=row_pre HR.out (by omega) (Nat.le_of_lt hi);rw [Nat.mul_one] at h9;exact h9)
 clear hg hg' hcl hcs htk hlen hb hcm hcur hv hvl h2 hbase
 have hcm:=HCM.out
 unfold maxLen at hcm
 have q0:((i:Int) == (n:Int))=false:=by simp;omega
 have q1:(i:Int)≤(n:Int):=by omega
 have q2:(n:Int)≤(c:Int):=by omega
 have q3:¬ c=i:=by omega
 by_cases hlt:i+m<n
 ·have q4:decide (((i+m:Nat):Int)<(n:Int))=true:=by simp;omega
  have q5:¬ c=i+m:=by omega
  go_enter Tryz.func93,Tryz.ntmps93
  have hfit:i+vs.length≤cur.length:=by have:=HVL.out;have:=HCL.out;omega
  go_upto_region 6 with (at_builtin;refine wpList_append_in rfl (.tmp 32) (.tmp 33) 59 rfl 3 Tryz.underlying59 (.int .i64 0) 1 8 info_rep_int g i c rfl cur HG.out _ m _ rfl vs (by have:=HVL.out;omega) (fun hm0=>HV.out.cells (by intro e;have:=HVL.out;rw [e] at this;simp at this;omega)) H2.out (by omega) (by omega) (i+m) rfl ?_)
  obtain ⟨cur1,hcur1⟩:∃ cur1,cur1=splice cur (i) vs:=⟨_,rfl⟩
  have G1:Hid ((w.setRow g (splice cur (i) vs).toArray).heap[g]?=some (.cells cur1.toArray 3 (0,0))):=Lib.hid (by rw [hcur1];exact setRow_heap w g _ _ _ _ HG.out)
  have L1:Hid (cur1.length=c):=Lib.hid (by rw [hcur1,length_splice _ _ _ hfit];exact HCL.out)
  have T1:Hid (cur1.take ((i+m))=us.take (i) ++ vs):=Lib.hid (by
   rw [hcur1,splice_take_end (by have:=HVL.out;omega) (by omega),HTK.out])
  obtain ⟨w1,hw1⟩:∃ w1,w1=w.setRow g (splice cur (i) vs).toArray:=⟨_,rfl⟩
  have K1:Hid (w.grownBy w1 (some g)):=Lib.hid (by rw [hw1];exact ⟨rfl,rfl,rfl,by simp,fun k _ hk=>setRow_other w g k _ (fun e=>hk (by rw [e]))⟩)
  rw [← hw1] at G1 ⊢
  clear hw1 hcur1 hfit
  have hz:(i+m)+(n - (i+m))≤cur1.length:=by have:=L1.out;omega
  go_wp2_with (refine wpList_clear_N rfl (.tmp 43) 59 rfl 3 Tryz.underlying59 (.int .i64 0) 1 8 info_rep_int (by rfl) (by decide) (by decide) _ (n - (i+m)) _ rfl g ((i+m)) cur1 3 G1.out (fun _=>rfl) (by omega) ?_)
  go_ret
  refine ⟨⟨_,_,rfl,⟨?_,.inr ⟨g,_,_,rfl,HB.out,setRow_heap w1 g _ _ _ _ G1.out,by omega,HCM.out,?_,?_⟩⟩⟩,?_⟩
  ·have:=HLEN.out;have:=HVL.out;rw [List.length_append,List.length_take];omega
  ·rw [List.size_toArray,length_splice _ _ _ (by rw [zeroCells_len];show _+_*1≤_;omega)]
   have:=L1.out;omega
  ·try rw [Nat.mul_one]
   rw [splice_take_le (Nat.le_refl _) (by have:=L1.out;omega)]
   exact T1.out
  ·have k1:=K1.out
   exact ⟨(show (w1.setRow g _).os=_ from k1.os),(show (w1.setRow g _).tape=_ from k1.tape),(show (w1.setRow g _).output=_ from k1.output),Nat.le_trans k1.size (by simp),fun k hk hne=>(setRow_other w1 g k _ (fun e=>hne (by rw [e];rfl))).trans (k1.block k hk hne)⟩
 ·have q4:decide (((i+m:Nat):Int)<(n:Int))=false:=by simp;omega
  go_enter Tryz.func93,Tryz.ntmps93
  go_upto_region 6 with (at_builtin;refine wpList_append_row rfl (.tmp 32) (.tmp 33) 59 rfl Tryz.underlying59 (.int .i64 0) 8 info_rep_int (by rfl) (by decide) _ rfl HPR.out _ _ m rfl (by have:=HVL.out;omega) HV.out H2.out (by omega) (by unfold maxLen;omega) HBW.out (i+m) rfl _ rfl ?_;intro A1 c1 x1 R1 g1;have RX:=Lib.hid R1;have GX:=Lib.hid g1;clear R1 g1)
  go_wp2_with fail
  go_ret
  exact ⟨⟨_,_,rfl,RX.out⟩,GX.out⟩
theorem rep_int_mid (base n c m d i j:Nat) (A B:Option Addr) (us vs:List Value) (w:World) (h:w.ownsRow base 3 1 (.slice A n c) n us) (hij:i<j) (hjn:j<n) (hmj:i+m≤j) (hv:CellsAt w B vs) (hvl:vs.length=m) (hm:n≤1000000) (h1:∀ u ∈ us,u.oneCell'=true) (h2:∀ u ∈ vs,u.oneCell'=true) :
 Calls Tryz.prog 93 #[.slice A n c,.int .i64 (i:Int),.int .i64 (j:Int),.slice B m d] w fun e w'=>(∃ A' c',e=.returned (.slice A' (i+m+(n - j)) c')∧w'.ownsRow base 3 1 (.slice A' (i+m+(n - j)) c') (i+m+(n - j)) (us.take (i) ++ vs ++ us.drop (j)))∧w.grownBy w' (Value.slice A n c).ownBlock:=by
 have HV:=Lib.hid hv
 have HVL:=Lib.hid hvl
 have H2:=Lib.hid h2
 obtain ⟨hlen,⟨_,h0⟩ | ⟨g,cap,cu,hv,hb,hg,hnc,hcm,hcs,htk⟩⟩:=h
 ·omega
 injection hv with hA _ hc
 subst hA hc
 simp only [Nat.mul_one] at hlen hcs htk
 obtain ⟨cur,hcur⟩:∃ cur,cur=cu.toList:=⟨_,rfl⟩
 have hg':w.heap[g]?=some (.cells cur.toArray 3 (0,0)):=by rw [hcur,Array.toArray_toList];exact hg
 have hcl:cur.length=c:=by rw [hcur,Array.length_toList];exact hcs
 rw [← hcur] at htk
 obtain ⟨cs,hcsd⟩:∃ cs,cs=us.drop (j):=⟨_,rfl⟩
 obtain ⟨r,hrr⟩:∃ r,r=n - j:=⟨_,rfl⟩
 have HCS:Hid (cs.length=r):=Lib.hid (by rw [hcsd,List.length_drop];omega)
 have HC1:Hid (∀ v ∈ cs,v.oneCell'=true):=Lib.hid (fun v hv=>h1 v (List.mem_of_mem_drop (by rw [← hcsd];exact hv)))
 have HSR:Hid (∀ x v,cs[x]?=some v→cur[j+x]?=some v):=Lib.hid (fun x v hv=>by
  rw [hcsd,List.getElem?_drop] at hv
  have hlt:=(List.getElem?_eq_some_iff.1 hv).1
  rw [← htk,List.getElem?_take_of_lt (by omega)] at hv
  exact hv)
 have HG:=Lib.hid hg'
 have HCL:=Lib.hid hcl
 have HTK:Hid (cur.take (i)=us.take (i)):=Lib.hid (by rw [← htk,List.take_take,Nat.min_eq_left (by omega)])
 have HLEN:=Lib.hid hlen
 have HB:=Lib.hid hb
 have HCM:=Lib.hid hcm
 rw [← hcsd]
 have hrn:n - j=r:=hrr.symm
 rw [hrn]
 have HRR:Hid (j+r=n):=Lib.hid (by omega)
 clear hg hg' hcl hcs htk hlen hb hcm hcur hv hvl h2 h1 hcsd hrr
 have hcm:=HCM.out
 unfold maxLen at hcm
 have q0:((i:Int) == (j:Int))=false:=by simp;omega
 have q1:(i:Int)≤(j:Int):=by omega
 have q2:(j:Int)≤(n:Int):=by omega
 have q2':(n:Int)≤(c:Int):=by omega
 have q3:¬ c=i:=by omega
 have q4:((j:Int) == (n:Int))=false:=by simp;omega
 have q5:¬ c=j:=by omega
 have q6:wrap64 ((i:Int)+(m:Int))=(i:Int)+(m:Int):=by unfold wrap64;omega
 have q7:wrap64 ((i:Int)+(m:Int)+(r:Int))=((i:Int)+(m:Int)+(r:Int)):=by unfold wrap64;omega
 have q8:decide (((i:Int)+(m:Int)+(r:Int)) > (c:Int))=false:=by have:=HRR.out;simp;omega
 have q9:((i:Int)+(m:Int)+(r:Int))≤(c:Int):=by have:=HRR.out;omega
 have q10:decide ((i:Int)+(m:Int)≤(j:Int))=true:=by simp;omega
 go_enter Tryz.func93,Tryz.ntmps93
 go_upto_region 9 with fail
 refine region_below w.heap.size w (Below.refl _ _) (by kernel_rfl) (by kernel_rfl) ?_
 repeat (go_big_quiet_step (fail))
 refine wpQuiet_nil ?_
 rintro w' ⟨y,rfl⟩
 obtain ⟨w0,hw0⟩:∃ w0,w0=y.at_:=⟨_,rfl⟩
 have B0:Hid (Below w.heap.size w w0):=Lib.hid (by rw [hw0];exact y.ok_)
 rw [← hw0]
 clear hw0
 have G0:=Lib.hid (row_stays HG.out B0.out)
 have HV0:Hid (CellsAt w0 B vs):=Lib.hid (fun hne=>by
  obtain ⟨b,off,h1,h2⟩:=HV.out hne
  exact ⟨b,off,h1,fun k hk=>(B0.out.cell (World.block_lt_of_cell? _ _ (h2 k hk))).trans (h2 k hk)⟩)
 have hfit:i+vs.length≤cur.length:=by have:=HVL.out;have:=HCL.out;omega
 have hmin:Nat.min m ((i+m+r) - i)=m:=by show min _ _=_;omega
 go_upto_region 18 with (refine wpList_copy_N rfl (.tmp 95) (.tmp 96) 59 59 rfl 3 Tryz.underlying59 1 (by kernel_rfl) _ _ _ _ _ _ rfl rfl m hmin g (i) cur 3 G0.out vs (by have:=HVL.out;omega) (fun hm0=>⟨rfl,HV0.out.cells (by intro e;have:=HVL.out;rw [e] at this;simp at this;omega)⟩) hfit H2.out ?_)
 obtain ⟨cur1,hcur1⟩:∃ cur1,cur1=splice cur (i) vs:=⟨_,rfl⟩
 have G1:Hid ((w0.setRow g (splice cur (i) vs).toArray).heap[g]?=some (.cells cur1.toArray 3 (0,0))):=Lib.hid (by rw [hcur1];exact setRow_heap w0 g _ _ _ _ G0.out)
 have L1:Hid (cur1.length=c):=Lib.hid (by rw [hcur1,length_splice _ _ _ hfit];exact HCL.out)
 have T1:Hid (cur1.take ((i+m))=us.take (i) ++ vs):=Lib.hid (by
  rw [hcur1,splice_take_end (by have:=HVL.out;omega) (by omega),HTK.out])
 have S1:Hid (∀ x v,cs[x]?=some v→cur1[j+x]?=some v):=Lib.hid (fun x v hx=>by
  rw [hcur1,splice_get_hi (by have:=HVL.out;omega) hfit]
  exact HSR.out x v hx)
 obtain ⟨w1,hw1⟩:∃ w1,w1=w0.setRow g (splice cur (i) vs).toArray:=⟨_,rfl⟩
 have K1:Hid (w0.grownBy w1 (some g)):=Lib.hid (by rw [hw1];exact ⟨rfl,rfl,rfl,by simp,fun k _ hk=>setRow_other w0 g k _ (fun e=>hk (by rw [e]))⟩)
 rw [← hw1] at G1 ⊢
 clear hw1 hcur1 hfit hmin G0 HV0
 have q11:¬ c=i+m:=by omega
 have h12:n - j=r:=by have:=HRR.out;omega
 have h13:(i+m+r) - (i+m)=r:=by omega
 refine region_waysX 9 (fun k=>k=g) (.done [0,1,2,3,4,5,6,7,8]) (by kernel_rfl) (by kernel_rfl) ?_
 rintro wd hbd
 have BD:=Lib.hid hbd
 clear hbd
 have GD:=Lib.hid (row_stays G1.out BD.out)
 rw [wpWaysT_done]
 simp only [List.map_cons,List.map_nil,List.drop_succ_cons,List.drop_zero,opAt,List.getElem?_toArray,List.getElem?_cons_zero,List.getElem?_cons_succ,Option.getD_some]
 try simp only [Act.put,List.setIfInBounds_toArray,List.set_cons_zero,List.set_cons_succ]
 repeat (first
  | go_big_quiet_step (fail))
 refine wpQuiet_nil ?_
 have hfit:(i+m)+cs.length≤cur1.length:=by have:=HCS.out;have:=L1.out;have:=HRR.out;omega
 have hmin:Nat.min r (i+m+r - (i+m))=r:=by show min _ _=_;omega
 have HSD:Hid (∀ x v,cs[x]?=some v→wd.cell? ((⟨g,j,none⟩:Addr).add x)=some v):=Lib.hid (fun x v hv=>by
  have h1:=blk_cell GD.out (j+x) v (by rw [List.getElem?_toArray];exact S1.out x v hv)
  have e:((⟨g,j,none⟩:Addr).add x)=⟨g,j+x,none⟩:=by
   unfold Addr.add
   by_cases hj:x=0
   ·simp [hj]
   ·simp [hj]
  rw [e]
  exact h1)
 refine wpList_copy_N rfl (.tmp 103) (.tmp 106) 59 59 rfl 3 Tryz.underlying59 1 (by kernel_rfl) _ _ _ _ _ _ rfl rfl r hmin g ((i+m)) cur1 3 GD.out cs (by have:=HCS.out;omega) (fun hm0=>⟨rfl,_,rfl,HSD.out⟩) hfit HC1.out ?_
 go_upto_region 19 with fail
 obtain ⟨cur2,hcur2⟩:∃ cur2,cur2=splice cur1 ((i+m)) cs:=⟨_,rfl⟩
 have G2:Hid ((wd.setRow g (splice cur1 ((i+m)) cs).toArray).heap[g]?=some (.cells cur2.toArray 3 (0,0))):=Lib.hid (by rw [hcur2];exact setRow_heap wd g _ _ _ _ GD.out)
 have L2:Hid (cur2.length=c):=Lib.hid (by rw [hcur2,length_splice _ _ _ hfit];exact L1.out)
 have T2:Hid (cur2.take ((i+m+r))=us.take (i) ++ vs ++ cs):=Lib.hid (by
  rw [hcur2,splice_take_end (by have:=HCS.out;omega) (by omega),T1.out])
 obtain ⟨w2,hw2⟩:∃ w2,w2=wd.setRow g (splice cur1 ((i+m)) cs).toArray:=⟨_,rfl⟩
 have K2:Hid (wd.grownBy w2 (some g)):=Lib.hid (by rw [hw2];exact ⟨rfl,rfl,rfl,by simp,fun k _ hk=>setRow_other wd g k _ (fun e=>hk (by rw [e]))⟩)
 rw [← hw2] at G2 ⊢
 clear hw2 hcur2 hfit hmin GD HSD
 have hz:(i+m+r)+(n - (i+m+r))≤cur2.length:=by have:=L2.out;have:=HRR.out;omega
 have hct0:0<n - (i+m+r)→¬ c=(i+m+r):=by omega
 by_cases hct:c=(i+m+r)
 ·go_wp2_with (refine wpList_clear_N rfl (.tmp 110) 59 rfl 3 Tryz.underlying59 (.int .i64 0) 1 8 info_rep_int (by rfl) (by decide) (by decide) _ (n - (i+m+r)) _ rfl g ((i+m+r)) cur2 3 G2.out (fun h0=>by first | rfl | exact absurd hct (hct0 h0)) (by omega) ?_)
  go_ret
  refine ⟨⟨_,_,rfl,⟨?_,.inr ⟨g,_,_,rfl,HB.out,setRow_heap w2 g _ _ _ _ G2.out,by have:=HRR.out;omega,by first | exact HCM.out | (rw [← hct];exact HCM.out),?_,?_⟩⟩⟩,?_⟩
  ·have:=HLEN.out;have:=HVL.out;have:=HCS.out
   simp only [List.length_append,List.length_take]
   omega
  ·rw [List.size_toArray,length_splice _ _ _ (by rw [zeroCells_len];show _+_*1≤_;omega)]
   have:=L2.out;omega
  ·try rw [Nat.mul_one]
   rw [splice_take_le (Nat.le_refl _) (by have:=L2.out;omega)]
   first | exact T2.out | (rw [← List.append_assoc];exact T2.out)
  ·have b0:=B0.out
   have k1:=K1.out
   have b1:=BD.out
   have k2:=K2.out
   exact ⟨(show (w2.setRow g _).os=_ from k2.os.trans (b1.os.trans (k1.os.trans b0.os))),(show (w2.setRow g _).tape=_ from k2.tape.trans (b1.tape.trans (k1.tape.trans b0.tape))),(show (w2.setRow g _).output=_ from k2.output.trans (b1.output.trans (k1.output.trans b0.output))),Nat.le_trans b0.size (Nat.le_trans k1.size (Nat.le_trans b1.size (Nat.le_trans k2.size (by simp)))),fun k hk hne=>by
    have c0:=b0.block k hk
    have s1:=Nat.lt_of_lt_of_le hk b0.size
    have c1:=k1.block k s1 hne
    have s2:=Nat.lt_of_lt_of_le s1 k1.size
    exact (setRow_other w2 g k _ (fun e=>hne (by rw [e];rfl))).trans ((k2.block k (Nat.lt_of_lt_of_le s2 b1.size) hne).trans ((b1.block k s2).trans (c1.trans c0)))⟩
 ·go_wp2_with (refine wpList_clear_N rfl (.tmp 110) 59 rfl 3 Tryz.underlying59 (.int .i64 0) 1 8 info_rep_int (by rfl) (by decide) (by decide) _ (n - (i+m+r)) _ rfl g ((i+m+r)) cur2 3 G2.out (fun h0=>by first | rfl | exact absurd hct (hct0 h0)) (by omega) ?_)
  go_ret
  refine ⟨⟨_,_,rfl,⟨?_,.inr ⟨g,_,_,rfl,HB.out,setRow_heap w2 g _ _ _ _ G2.out,by have:=HRR.out;omega,by first | exact HCM.out | (rw [← hct];exact HCM.out),?_,?_⟩⟩⟩,?_⟩
  ·have:=HLEN.out;have:=HVL.out;have:=HCS.out
   simp only [List.length_append,List.length_take]
   omega
  ·rw [List.size_toArray,length_splice _ _ _ (by rw [zeroCells_len];show _+_*1≤_;omega)]
   have:=L2.out;omega
  ·try rw [Nat.mul_one]
   rw [splice_take_le (Nat.le_refl _) (by have:=L2.out;omega)]
   first | exact T2.out | (rw [← List.append_assoc];exact T2.out)
  ·have b0:=B0.out
   have k1:=K1.out
   have b1:=BD.out
   have k2:=K2.out
   exact ⟨(show (w2.setRow g _).os=_ from k2.os.trans (b1.os.trans (k1.os.trans b0.os))),(show (w2.setRow g _).tape=_ from k2.tape.trans (b1.tape.trans (k1.tape.trans b0.tape))),(show (w2.setRow g _).output=_ from k2.output.trans (b1.output.trans (k1.output.trans b0.output))),Nat.le_trans b0.size (Nat.le_trans k1.size (Nat.le_trans b1.size (Nat.le_trans k2.size (by simp)))),fun k hk hne=>by
    have c0:=b0.block k hk
    have s1:=Nat.lt_of_lt_of_le hk b0.size
    have c1:=k1.block k s1 hne
    have s2:=Nat.lt_of_lt_of_le s1 k1.size
    exact (setRow_other w2 g k _ (fun e=>hne (by rw [e];rfl))).trans ((k2.block k (Nat.lt_of_lt_of_le s2 b1.size) hne).trans ((b1.block k s2).trans (c1.trans c0)))⟩
theorem flatR_take {α:Type} {f:α→List Value} {sz:Nat} (hf:∀ x,(f x).length=sz):∀ (l:List α) (i:Nat),(l.flatMap f).take (i*sz)=(l.take i).flatMap f
 | [],i=>by simp
 | x :: l,0=>by simp
 | x :: l,i+1=>by
   rw [List.flatMap_cons,List.take_succ_cons,List.flatMap_cons,Nat.add_mul,Nat.one_mul,List.take_append,hf,← flatR_take hf l i,Nat.add_sub_cancel]
   congr 1
   exact List.take_of_length_le (by rw [hf];omega)
theorem flatR_drop {α:Type} {f:α→List Value} {sz:Nat} (hf:∀ x,(f x).length=sz):∀ (l:List α) (i:Nat),(l.flatMap f).drop (i*sz)=(l.drop i).flatMap f
 | [],i=>by simp
 | x :: l,0=>by simp
 | x :: l,i+1=>by
   rw [List.flatMap_cons,List.drop_succ_cons,Nat.add_mul,Nat.one_mul,List.drop_append,hf,← flatR_drop hf l i,Nat.add_sub_cancel,List.drop_of_length_le (by rw [hf];omega),List.nil_append]
theorem rep_keys (base n c m d i j:Nat) (A B:Option Addr) (ks vs:List KeyD) (w:World) (hn:ks.length=n) (h:w.ownsRow base 38 2 (.slice A n c) n (ks.flatMap kyC)) (hij:i<j) (hjn:j≤n) (hvm:vs.length=m) (hm2:m≤1000000) (hmj:i+m≤j∨j=n) (hv:KyAt w B vs) (hm:n≤1000000) (hbase:base≤w.heap.size) :
 Calls Tryz.prog 92 #[.slice A n c,.int .i64 (i:Int),.int .i64 (j:Int),.slice B m d] w fun e w'=>(∃ A' c',e=.returned (.slice A' (i+m+(n - j)) c')∧w'.ownsRow base 38 2 (.slice A' (i+m+(n - j)) c') (i+m+(n - j)) ((ks.take i ++ vs ++ ks.drop j).flatMap kyC))∧w.grownBy w' (Value.slice A n c).ownBlock:=by
 have e1:(ks.take i ++ vs ++ ks.drop j).flatMap kyC=(ks.flatMap kyC).take (i*2) ++ vs.flatMap kyC ++ (ks.flatMap kyC).drop (j*2):=by
  rw [flatR_take lenKyC,flatR_drop lenKyC,List.flatMap_append,List.flatMap_append]
 rw [e1]
 by_cases hj:j=n
 ·subst hj
  have h0:(ks.flatMap kyC).drop (j*2)=[]:=List.drop_of_length_le (by rw [flatV_len lenKyC,hn];exact Nat.le_refl _)
  rw [h0,List.append_nil,Nat.sub_self,Nat.add_zero]
  exact rep_key_end base j c m d i A B _ _ w h hij hv.cells (by rw [flatV_len lenKyC,hvm]) hm hm2 (flat_one kyC_one _) hbase
 ·exact rep_key_mid base n c m d i j A B _ _ w h hij (by omega) (by omega) hv.cells (by rw [flatV_len lenKyC,hvm]) hm (flat_one kyC_one _) (flat_one kyC_one _)
theorem rep_kids (base n c m d i j:Nat) (A B:Option Addr) (ds vs:List Int) (w:World) (hn:ds.length=n) (h:w.ownsRow base 3 1 (.slice A n c) n (ds.map kdC)) (hij:i<j) (hjn:j≤n) (hvm:vs.length=m) (hm2:m≤1000000) (hmj:i+m≤j∨j=n) (hv:KdAt w B vs) (hm:n≤1000000) (hbase:base≤w.heap.size) :
 Calls Tryz.prog 93 #[.slice A n c,.int .i64 (i:Int),.int .i64 (j:Int),.slice B m d] w fun e w'=>(∃ A' c',e=.returned (.slice A' (i+m+(n - j)) c')∧w'.ownsRow base 3 1 (.slice A' (i+m+(n - j)) c') (i+m+(n - j)) ((ds.take i ++ vs ++ ds.drop j).map kdC))∧w.grownBy w' (Value.slice A n c).ownBlock:=by
 have e1:(ds.take i ++ vs ++ ds.drop j).map kdC=(ds.map kdC).take i ++ vs.map kdC ++ (ds.map kdC).drop j:=by
  rw [← List.map_take,← List.map_drop,List.map_append,List.map_append]
 rw [e1]
 by_cases hj:j=n
 ·subst hj
  have h0:(ds.map kdC).drop j=[]:=List.drop_of_length_le (by rw [List.length_map,hn];exact Nat.le_refl _)
  rw [h0,List.append_nil,Nat.sub_self,Nat.add_zero]
  exact rep_int_end base j c m d i A B _ _ w h hij hv.cells (by rw [List.length_map,hvm]) hm hm2 (kdC_one _) hbase
 ·exact rep_int_mid base n c m d i j A B _ _ w h hij (by omega) (by omega) hv.cells (by rw [List.length_map,hvm]) hm (kdC_one _) (kdC_one _)
structure OutS (gc B0:Nat) (X:Nat→Prop) (w w':World):Prop where
 os:w'.os=w.os
 tape:w'.tape=w.tape
 output:w'.output=w.output
 size:w.heap.size≤w'.heap.size
 block:∀ k,k<w.heap.size→k≠gc→¬ X k→(B0≤k→∀ cs fr,w.heap[k]?≠some (.cells cs 151 fr))→w'.heap[k]?=w.heap[k]?
section
variable {gc B0:Nat} {X:Nat→Prop} {w w1 w2:World}
theorem OutS.of_outer (h:OuterX (fun k=>k=gc) w w1):OutS gc B0 X w w1:=⟨h.os,h.tape,h.output,h.size,fun k hk hg _ _=>h.block k hk hg⟩
theorem OutS.of_outerX (h:OuterX X w w1):OutS gc B0 X w w1:=⟨h.os,h.tape,h.output,h.size,fun k hk _ hX _=>h.block k hk hX⟩
theorem OutS.of_below (h:Below w.heap.size w w1):OutS gc B0 X w w1:=⟨h.os,h.tape,h.output,h.size,fun k hk _ _ _=>h.block k hk⟩
theorem OutS.of_outT (h:OutT gc B0 151 w w1):OutS gc B0 X w w1:=⟨h.os,h.tape,h.output,h.size,fun k hk hg _ hT=>h.block k hk hg hT⟩
theorem OutS.trans (h:OutS gc B0 X w w1) (k:OutS gc B0 X w1 w2):OutS gc B0 X w w2 :=
 ⟨k.os.trans h.os,k.tape.trans h.tape,k.output.trans h.output,Nat.le_trans h.size k.size,fun i hi hg hX hT=>by
  have h1:=h.block i hi hg hX hT
  exact (k.block i (Nat.lt_of_lt_of_le hi h.size) hg hX (fun hb cs fr=>by rw [h1];exact hT hb cs fr)).trans h1⟩
theorem OutS.wider {Y:Nat→Prop} (h:OutS gc B0 X w w1) (hXY:∀ k,X k→Y k):OutS gc B0 Y w w1:=⟨h.os,h.tape,h.output,h.size,fun k hk hg hY hT=>h.block k hk hg (fun hx=>hY (hXY k hx)) hT⟩
theorem OutS.typed (h:OutS gc B0 X w w1) {gv p:Nat} {U V:List Bool} {lv:Value} (hc:ChgAt w gc gv (p:Int) U V lv) {k:Nat} {cs:Array Value} {T2:TypeId} {fr:Nat × Nat} (hk:w.heap[k]?=some (.cells cs T2 fr)) (h1:T2≠151) (h2:T2≠114) (hX:¬ X k):w1.heap[k]?=some (.cells cs T2 fr) :=
 (h.block k (Array.getElem?_eq_some_iff.1 hk).1 (fun e=>row_ne_typed hc e hk h2) hX (fun _ cs' fr' e=>by rw [hk] at e;cases e;exact h1 rfl)).trans hk
theorem OutS.own (h:OutS gc B0 X w w1) {gv p:Nat} {U V:List Bool} {lv:Value} (hc:ChgAt w gc gv (p:Int) U V lv) {base:Nat} {n:NodeD} {l:NdL} (ho:OwnN w base n l) (hX:∀ a,l.EA=some a∨l.KA=some a∨l.DA=some a→¬ X a.block):OwnN w1 base n l :=
 ho.keepT fun b cs T fr hb hA hT=>by
  have hne:¬ X b:=by
   rcases hA with hA | hA | hA
   ·obtain ⟨a,ha,rfl⟩:=Option.map_eq_some_iff.1 hA
    exact hX a (.inl ha)
   ·obtain ⟨a,ha,rfl⟩:=Option.map_eq_some_iff.1 hA
    exact hX a (.inr (.inl ha))
   ·obtain ⟨a,ha,rfl⟩:=Option.map_eq_some_iff.1 hA
    exact hX a (.inr (.inr ha))
  rw [h.typed hc hb (by rcases hT with rfl | rfl | rfl <;> decide) (by rcases hT with rfl | rfl | rfl <;> decide) hne]
  exact hb.symm
end
theorem own_blk {w:World} {base:Nat} {n:NodeD} {l:NdL} (h:OwnN w base n l):∀ a,l.EA=some a∨l.KA=some a∨l.DA=some a→base≤a.block∧a.block<w.heap.size:=fun a ha=>by
 rcases ha with ha | ha | ha
 ·exact World.ownsRow.lt h.1 a.block (by rw [ha];rfl)
 ·exact World.ownsRow.lt h.2.1 a.block (by rw [ha];rfl)
 ·exact World.ownsRow.lt h.2.2 a.block (by rw [ha];rfl)
end Go.Proofs.YtgkddhncfaeidaaGreat
