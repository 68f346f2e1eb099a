/- Squeezed: the texts as they are written lie in wip/tpl. -/
import Derived.Test.YtgkddhncfaeidaaGreatPart40
import Derived.Test.YtgkddhncfaeidaaGreatPart04
import Derived.Test.YtgkddhncfaeidaaGreatPart09
import Derived.Test.YtgkddhncfaeidaaGreatPart28
set_option maxRecDepth 100000
set_option maxHeartbeats 8000000
set_option linter.unnecessarySimpa false
set_option linter.unusedSimpArgs false
set_option linter.unusedVariables false
namespace Go.Proofs.YtgkddhncfaeidaaGreat
open Go.RowKit Go.ChangeShapes Go.WideShapes Go.ChangeAt CrcM PageM
def entL (Q R i:Nat):EntD:=⟨((i / 40:Nat):Int),((i % 40*10:Nat):Int),((i % 40*10+i % 6:Nat):Int),((2+Q % 400:Nat):Int),((1+Q % 900:Nat):Int),((1+i:Nat):Int),((Q % 16:Nat):Int),(R:Int)⟩
def entsL (Q R k:Nat):List EntD:=(List.range k).map (entL Q R)
theorem entsL_len (Q R k:Nat):(entsL Q R k).length=k:=by simp [entsL]
theorem entsL_get {Q R k i:Nat} (h:i<k):(entsL Q R k)[i]?=some (entL Q R i):=by simp [entsL,h]
theorem entsL_inv {Q R k i:Nat} {e:EntD} (h:(entsL Q R k)[i]?=some e):i<k∧e=entL Q R i:=by
 have h1:i<k:=by
  have:=(List.getElem?_eq_some_iff.1 h).1
  rwa [entsL_len] at this
 rw [entsL_get h1] at h
 cases h
 exact ⟨h1,rfl⟩
theorem entsL_succ (Q R k:Nat):entsL Q R (k+1)=entsL Q R k ++ [entL Q R k]:=by simp [entsL,List.range_succ]
theorem entsL_flat (Q R k:Nat):(entsL Q R (k+1)).flatMap enC=(entsL Q R k).flatMap enC ++ enC (entL Q R k):=by rw [entsL_succ];simp
theorem entL_ok {Q R i:Nat} (hi:i<150):okEnt (entL Q R i):=by
 refine ⟨⟨by simp [entL];omega,by simp only [entL];omega⟩,by simp only [entL];omega,by simp only [entL];omega,by simp only [entL];omega,⟨by simp only [entL];omega,by simp only [entL];omega⟩,by simp only [entL];omega,by simp only [entL];omega,by simp only [entL];omega,by simp only [entL];omega,by simp only [entL];omega⟩
theorem entL_in {Q R i:Nat} (hi:i<150) (hR:R<4294967296):inEnt (entL Q R i):=by
 refine ⟨⟨?_,?_⟩,⟨?_,?_⟩,?_,?_⟩ <;> simp only [entL] <;> omega
theorem entL_less {Q R i j:Nat} (h:i<j) (hj:j<150):apartB (entL Q R i) (entL Q R j)=true:=by
 have e1:∀ x,(entL Q R x).se=((x / 40:Nat):Int):=fun x=>rfl
 have e2:∀ x,(entL Q R x).st=((x % 40*10:Nat):Int):=fun x=>rfl
 have e3:∀ x,(entL Q R x).en=((x % 40*10+x % 6:Nat):Int):=fun x=>rfl
 have hl:(entL Q R i).se<(entL Q R j).se∨(entL Q R i).se=(entL Q R j).se∧(entL Q R i).st<(entL Q R j).st:=by
  rw [e1,e1,e2,e2]
  by_cases h0:i / 40=j / 40
  ·exact .inr ⟨by rw [h0],by omega⟩
  ·exact .inl (by omega)
 have ha:(entL Q R i).se≠(entL Q R j).se∨(entL Q R i).en<(entL Q R j).st:=by
  rw [e1,e1,e2,e3]
  by_cases h0:i / 40=j / 40
  ·exact .inr (by omega)
  ·exact .inl (by omega)
 unfold apartB lessB
 rw [Bool.and_eq_true,Bool.or_eq_true]
 refine ⟨decide_eq_true hl,?_⟩
 rcases ha with ha | ha
 ·exact .inl (decide_eq_true ha)
 ·exact .inr (decide_eq_true ha)
theorem entL_up {Q R i:Nat} (hi:i+1<150):apartB (entL Q R i) (entL Q R (i+1))=true:=entL_less (by omega) hi
theorem entsL_rising {Q R k:Nat} (hk:k≤150):RisingD (entsL Q R k) where
 ok:=fun e he=>by
  obtain ⟨i,hi,rfl⟩:=List.mem_map.1 he
  have:=List.mem_range.1 hi
  exact entL_ok (by omega)
 up:=fun i p e hp he=>by
  obtain ⟨h1,rfl⟩:=entsL_inv hp
  obtain ⟨h2,rfl⟩:=entsL_inv he
  exact entL_up (by omega)
theorem entsL_in {Q R k:Nat} (hk:k≤150) (hR:R<4294967296):∀ e ∈ entsL Q R k,inEnt e:=fun e he=>by
 obtain ⟨i,hi,rfl⟩:=List.mem_map.1 he
 have:=List.mem_range.1 hi
 exact entL_in (by omega) hR
theorem act_entry (i:Nat) (hi:i<150) (z:Int) (Q R:Nat) (hQ:IntKind.u64.wrap z=(Q:Int)) (hR:z % 4294967296=(R:Int)) (w:World) :
 Calls Tryz.prog 8 #[.agg #[.int .i64 0,.int .i64 ((i / 40:Nat):Int),.int .i64 ((i % 40*10:Nat):Int),.int .i64 (i:Int),.int .i64 z]] w fun e w'=>e=.returned (.agg (enC (entL Q R i)).toArray)∧Below w.heap.size w w':=by
 obtain ⟨s,hs⟩:∃ s,s=i / 40:=⟨_,rfl⟩
 obtain ⟨t,ht⟩:∃ t,t=i % 40*10:=⟨_,rfl⟩
 have hs3:s≤3:=by omega
 have ht3:t≤390:=by omega
 have hq:(Q:Int)<18446744073709551616:=by
  rw [← hQ,IntKind.wrap_u64]
  omega
 have e1:(s:Int) % 4=(s:Int):=by omega
 have e2:(t:Int) % 1000=(t:Int):=by omega
 have e3:(i:Int) % 200=(i:Int):=by omega
 have hC:enC (entL Q R i)=[.int .i64 (s:Int),.int .i64 (t:Int),.int .i64 ((t:Int)+(i:Int) % 6),.int .i64 (2+(Q:Int) % 400),.int .i64 (1+(Q:Int) % 900),.int .i64 (1+(i:Int)),.int .i64 ((Q:Int) % 16),.int .u32 (R:Int)]:=by
  rw [hs,ht]
  rfl
 rw [hC,← hs,← ht]
 have HS:=Lib.hid hs
 have HT:=Lib.hid ht
 clear hs ht hC
 go_enter Tryz.func8,Tryz.ntmps8
 go_upto_region 2 with fail
 go_wp2_with fail
 refine bodyPost_ret (v:=.agg #[.int .i64 (s:Int),.int .i64 (t:Int),.int .i64 ((t:Int)+(i:Int) % 6),.int .i64 (2+(Q:Int) % 400),.int .i64 (1+(Q:Int) % 900),.int .i64 (1+(i:Int)),.int .i64 ((Q:Int) % 16),.int .u32 (R:Int)]) (results_cell_row (p:=2) (ty:=34) rfl _ _ (w.heap.size+1) 34 _ (0,0) _ rfl (heap_alloc2_new _ _ _) Tryz.underlying34 rfl (by kernel_rfl)) rfl ⟨rfl,below_two (Below.refl _ _)⟩
end Go.Proofs.YtgkddhncfaeidaaGreat
namespace Go.Proofs.YtgkddhncfaeidaaGreat
open Go.ChangeShapes Go.WideShapes Go.ChangeAt Go.RowKit CrcM PageM
theorem back_list (es:List EntD) (A:Option Addr) (n c:Nat) (w:World) (hn:es.length=n) (hm:n≤1000000) (h:EnAt w A es) :
 Calls Tryz.prog 13 #[.slice A n c] w fun e w'=>∃ A' c',e=.returned (.slice A' n c')∧w'.ownsRow w.heap.size 34 8 (.slice A' n c') n (es.flatMap enC)∧Below w.heap.size w w':=by
 have HN:=Lib.hid hn
 have H:=Lib.hid h
 have HM:=Lib.hid hm
 obtain ⟨ie,hie,hiez,hies,hieb⟩:=info_parts (infoEnt_from_any)
 clear hn h
 go_enter Tryz.func13,Tryz.ntmps13
 go_upto_region 3 with fail
 go_loopw [3,4] (fun o i wr=>∃ (k:Nat) (A':Option Addr) (c':Nat),k≤n∧o=.slice A' k c'∧i=.int .i64 k∧Hid (wr.ownsRow w.heap.size 34 8 (.slice A' k c') k ((es.take k).flatMap enC))∧Hid (Below w.heap.size w wr)) (fun _ i _=>n - (intOf i).toNat)
 case atStart=>exact ⟨0,none,0,by omega,rfl,rfl,Lib.hid (by simpa using World.ownsRow_nil w w.heap.size 34 8),Lib.hid (Below.refl _ _)⟩
 case round =>
  obtain ⟨k,A',c',hk,rfl,rfl,HR,HB⟩:=hrel
  obtain ⟨W0,rfl⟩:∃ W0,W0=wr:=⟨_,rfl⟩
  by_cases hlt:k<n
  ·obtain ⟨e,he⟩:∃ e,es[k]?=some e:=⟨_,List.getElem?_eq_getElem (by rw [HN.out];exact hlt)⟩
   obtain ⟨b,off,rfl,hc⟩:=H.out (by intro e';have h':=HN.out;rw [e'] at h';simp at h';omega)
   obtain ⟨c0,c1,c2,c3,c4,c5,c6,c7⟩:=hc k e he
   have hl0:=World.block_lt_of_cell? _ _ c0
   have HE:=Lib.hid he
   clear he hc
   have z0:W0.cell? ⟨b,off+k*8,none⟩=some (.int .i64 e.se):=(HB.out.cell (p:=⟨b,off+k*8,none⟩) hl0).trans c0
   have z1:W0.cell? ⟨b,off+k*8+1,none⟩=some (.int .i64 e.st):=(HB.out.cell (p:=⟨b,off+k*8+1,none⟩) hl0).trans c1
   have z2:W0.cell? ⟨b,off+k*8+2,none⟩=some (.int .i64 e.en):=(HB.out.cell (p:=⟨b,off+k*8+2,none⟩) hl0).trans c2
   have z3:W0.cell? ⟨b,off+k*8+3,none⟩=some (.int .i64 e.ad):=(HB.out.cell (p:=⟨b,off+k*8+3,none⟩) hl0).trans c3
   have z4:W0.cell? ⟨b,off+k*8+4,none⟩=some (.int .i64 e.le):=(HB.out.cell (p:=⟨b,off+k*8+4,none⟩) hl0).trans c4
   have z5:W0.cell? ⟨b,off+k*8+5,none⟩=some (.int .i64 e.cn):=(HB.out.cell (p:=⟨b,off+k*8+5,none⟩) hl0).trans c5
   have z6:W0.cell? ⟨b,off+k*8+6,none⟩=some (.int .i64 e.co):=(HB.out.cell (p:=⟨b,off+k*8+6,none⟩) hl0).trans c6
   have z7:W0.cell? ⟨b,off+k*8+7,none⟩=some (.int .u32 e.cr):=(HB.out.cell (p:=⟨b,off+k*8+7,none⟩) hl0).trans c7
   clear c0 c1 c2 c3 c4 c5 c6 c7 hl0
   have hfill:Hid (Instr.fill (fun i=>some (i*ie.size,ie.size)) ((Array.range (1*ie.size)).map ((Value.agg #[.int .i64 0,.int .i64 0,.int .i64 0,.int .i64 0,.int .i64 0,.int .i64 0,.int .i64 0,.int .u32 0]).cells[· % (Value.agg #[.int .i64 0,.int .i64 0,.int .i64 0,.int .i64 0,.int .i64 0,.int .i64 0,.int .i64 0,.int .u32 0]).cells.size]!)) [(0,.agg #[.int .i64 e.se,.int .i64 e.st,.int .i64 e.en,.int .i64 e.ad,.int .i64 e.le,.int .i64 e.cn,.int .i64 e.co,.int .u32 e.cr])]=some #[.int .i64 e.se,.int .i64 e.st,.int .i64 e.en,.int .i64 e.ad,.int .i64 e.le,.int .i64 e.cn,.int .i64 e.co,.int .u32 e.cr]):=Lib.hid (by rw [hies];exact fill_eight _ _ rfl (by simp))
   go_wp2_with (first
    | (go_at_call 34;refine (back_any e _).mono ?_;rintro e' x1 ⟨rfl,hb1⟩;have B1:=Lib.hid (HB.out.trans (hb1.mono HB.out.size));have R1:=Lib.hid (row_below HR.out hb1);clear hb1)
    | (refine wpList_buildSlice rfl 28 34 1 _ rfl #[.int .i64 e.se,.int .i64 e.st,.int .i64 e.en,.int .i64 e.ad,.int .i64 e.le,.int .i64 e.cn,.int .i64 e.co,.int .u32 e.cr] ie _ Tryz.underlying28 hie hiez (by rw [hies];decide) (by rw [hies];decide) (by rw [Array.toList_map];exact hfill.out) ?_)
    | (at_builtin;refine wpList_append_own_at _ rfl (.tmp 11) (.tmp 17) 28 rfl w.heap.size 34 ie _ 8 64 Tryz.underlying28 hie hiez hies hieb rfl (by omega) _ k ((es.take k).flatMap enC) rfl (row_below R1.out ((Below.refl _ _).alloc (Nat.le_refl _) (.cells #[.int .i64 e.se,.int .i64 e.st,.int .i64 e.en,.int .i64 e.ad,.int .i64 e.le,.int .i64 e.cn,.int .i64 e.co,.int .u32 e.cr] 34))) ⟨x1.heap.size,0,none⟩ 1 1 (enC e) rfl rfl (fun j u hj=>by rw [Addr.add_mid,World.cell?_alloc_new];simpa [enC] using hj) (enC_one e) (by have:=HM.out;unfold maxLen;omega) (by have:=HM.out;omega) (by have:=B1.out.size;simp;omega) ?_;intro v3 x3 ho3 hg3 _ _;obtain ⟨A3,c3,rfl⟩:=row_form ho3;have HR3:=Lib.hid ho3;have HB3:=Lib.hid (((B1.out.alloc B1.out.size (.cells #[.int .i64 e.se,.int .i64 e.st,.int .i64 e.en,.int .i64 e.ad,.int .i64 e.le,.int .i64 e.cn,.int .i64 e.co,.int .u32 e.cr] 34))).grown hg3 (by have:=B1.out.size;simp;omega) (fun j hj=>(World.ownsRow.lt R1.out j hj).1));clear ho3 hg3))
   go_roundw
   case rel=>exact ⟨k+1,A3,c3,by omega,rfl,by go_num,Lib.hid (by rw [flat_takeV HE.out];exact HR3.out),HB3⟩
   case measure=>first | (simp [intOf];done) | (simp [intOf];omega)
  ·obtain rfl:k=n:=by omega
   have hdk:decide ((k:Int)<(k:Int))=false:=by simp
   go_wp2_with fail
   go_ret
   exact ⟨_,_,rfl,by have:=HR.out;rwa [← HN.out,List.take_length,HN.out] at this,HB.out⟩
theorem same_list (es:List EntD) (A A2:Option Addr) (n c c2:Nat) (w:World) (hn:es.length=n) (hm:n≤1000000) (h1:EnAt w A es) (h2:EnAt w A2 es) :
 Calls Tryz.prog 12 #[.slice A n c,.slice A2 n c2] w fun e w'=>e=.returned (.bool true)∧Below w.heap.size w w':=by
 have HN:=Lib.hid hn
 have H1:=Lib.hid h1
 have H2:=Lib.hid h2
 clear hn h1 h2
 go_enter Tryz.func12,Tryz.ntmps12
 go_upto_region 4 with fail
 go_loopw [5] (fun i wr=>∃ k:Nat,k≤n∧i=.int .i64 k∧Hid (Below w.heap.size w wr)) (fun i _=>n - (intOf i).toNat)
 case atStart=>exact ⟨0,by omega,rfl,Lib.hid (Below.refl _ _)⟩
 case round =>
  obtain ⟨k,hk,rfl,HBR⟩:=hrel
  obtain ⟨W0,rfl⟩:∃ W0,W0=wr:=⟨_,rfl⟩
  by_cases hlt:k<n
  ·obtain ⟨e,he⟩:∃ e,es[k]?=some e:=⟨_,List.getElem?_eq_getElem (by rw [HN.out];exact hlt)⟩
   obtain ⟨b1,o1,rfl,hc0⟩:=(H1.out.below HBR.out) (by intro e';have h':=HN.out;rw [e'] at h';simp at h';omega)
   obtain ⟨b2,o2,rfl,hc1⟩:=(H2.out.below HBR.out) (by intro e';have h':=HN.out;rw [e'] at h';simp at h';omega)
   obtain ⟨z00,z01,z02,z03,z04,z05,z06,z07⟩:=hc0 k e he
   have hl0:=World.block_lt_of_cell? _ _ z00
   have P0:∀ y:SubW W0.heap.size W0,y.at_.cell? ⟨b1,o1+k*8,none⟩=some (.int .i64 e.se):=fun y=>(y.ok_.cell (p:=⟨b1,o1+k*8,none⟩) hl0).trans z00
   have P1:∀ y:SubW W0.heap.size W0,y.at_.cell? ⟨b1,o1+k*8+1,none⟩=some (.int .i64 e.st):=fun y=>(y.ok_.cell (p:=⟨b1,o1+k*8+1,none⟩) hl0).trans z01
   have P2:∀ y:SubW W0.heap.size W0,y.at_.cell? ⟨b1,o1+k*8+2,none⟩=some (.int .i64 e.en):=fun y=>(y.ok_.cell (p:=⟨b1,o1+k*8+2,none⟩) hl0).trans z02
   have P3:∀ y:SubW W0.heap.size W0,y.at_.cell? ⟨b1,o1+k*8+3,none⟩=some (.int .i64 e.ad):=fun y=>(y.ok_.cell (p:=⟨b1,o1+k*8+3,none⟩) hl0).trans z03
   have P4:∀ y:SubW W0.heap.size W0,y.at_.cell? ⟨b1,o1+k*8+4,none⟩=some (.int .i64 e.le):=fun y=>(y.ok_.cell (p:=⟨b1,o1+k*8+4,none⟩) hl0).trans z04
   have P5:∀ y:SubW W0.heap.size W0,y.at_.cell? ⟨b1,o1+k*8+5,none⟩=some (.int .i64 e.cn):=fun y=>(y.ok_.cell (p:=⟨b1,o1+k*8+5,none⟩) hl0).trans z05
   have P6:∀ y:SubW W0.heap.size W0,y.at_.cell? ⟨b1,o1+k*8+6,none⟩=some (.int .i64 e.co):=fun y=>(y.ok_.cell (p:=⟨b1,o1+k*8+6,none⟩) hl0).trans z06
   have P7:∀ y:SubW W0.heap.size W0,y.at_.cell? ⟨b1,o1+k*8+7,none⟩=some (.int .u32 e.cr):=fun y=>(y.ok_.cell (p:=⟨b1,o1+k*8+7,none⟩) hl0).trans z07
   obtain ⟨z10,z11,z12,z13,z14,z15,z16,z17⟩:=hc1 k e he
   have hl1:=World.block_lt_of_cell? _ _ z10
   have Q0:∀ y:SubW W0.heap.size W0,y.at_.cell? ⟨b2,o2+k*8,none⟩=some (.int .i64 e.se):=fun y=>(y.ok_.cell (p:=⟨b2,o2+k*8,none⟩) hl1).trans z10
   have Q1:∀ y:SubW W0.heap.size W0,y.at_.cell? ⟨b2,o2+k*8+1,none⟩=some (.int .i64 e.st):=fun y=>(y.ok_.cell (p:=⟨b2,o2+k*8+1,none⟩) hl1).trans z11
   have Q2:∀ y:SubW W0.heap.size W0,y.at_.cell? ⟨b2,o2+k*8+2,none⟩=some (.int .i64 e.en):=fun y=>(y.ok_.cell (p:=⟨b2,o2+k*8+2,none⟩) hl1).trans z12
   have Q3:∀ y:SubW W0.heap.size W0,y.at_.cell? ⟨b2,o2+k*8+3,none⟩=some (.int .i64 e.ad):=fun y=>(y.ok_.cell (p:=⟨b2,o2+k*8+3,none⟩) hl1).trans z13
   have Q4:∀ y:SubW W0.heap.size W0,y.at_.cell? ⟨b2,o2+k*8+4,none⟩=some (.int .i64 e.le):=fun y=>(y.ok_.cell (p:=⟨b2,o2+k*8+4,none⟩) hl1).trans z14
   have Q5:∀ y:SubW W0.heap.size W0,y.at_.cell? ⟨b2,o2+k*8+5,none⟩=some (.int .i64 e.cn):=fun y=>(y.ok_.cell (p:=⟨b2,o2+k*8+5,none⟩) hl1).trans z15
   have Q6:∀ y:SubW W0.heap.size W0,y.at_.cell? ⟨b2,o2+k*8+6,none⟩=some (.int .i64 e.co):=fun y=>(y.ok_.cell (p:=⟨b2,o2+k*8+6,none⟩) hl1).trans z16
   have Q7:∀ y:SubW W0.heap.size W0,y.at_.cell? ⟨b2,o2+k*8+7,none⟩=some (.int .u32 e.cr):=fun y=>(y.ok_.cell (p:=⟨b2,o2+k*8+7,none⟩) hl1).trans z17
   clear hc0 hc1 hl0 hl1 he z00 z01 z02 z03 z04 z05 z06 z07 z10 z11 z12 z13 z14 z15 z16 z17
   go_upto_region 6 with fail
   refine region_below W0.heap.size W0 (Below.refl _ _) (by kernel_rfl) (by kernel_rfl) ?_
   repeat (first
    | (go_big_quiet_want;refine quiet_binOpN .neq 34 (.tmp 20) (.tmp 24) 34 rfl (.agg #[.int .i64 e.se,.int .i64 e.st,.int .i64 e.en,.int .i64 e.ad,.int .i64 e.le,.int .i64 e.cn,.int .i64 e.co,.int .u32 e.cr]) (.agg #[.int .i64 e.se,.int .i64 e.st,.int .i64 e.en,.int .i64 e.ad,.int .i64 e.le,.int .i64 e.cn,.int .i64 e.co,.int .u32 e.cr]) (.bool false) rfl rfl (fun W=>guard_ent _ _ _ _ _ W) (fun W=>neq_ent e W) ?_;simp only [Act.put,List.setIfInBounds_toArray,List.set_cons_zero,List.set_cons_succ];go_big_quiet_on)
    | go_big_quiet_step (fail))
   refine wpQuiet_nil ?_
   rintro w' ⟨y,rfl⟩
   have HY:=Lib.hid (HBR.out.trans (y.ok_.mono HBR.out.size))
   clear P0 P1 P2 P3 P4 P5 P6 P7 Q0 Q1 Q2 Q3 Q4 Q5 Q6 Q7
   go_wp2_with fail
   go_roundw
   case rel=>exact ⟨k+1,by omega,by go_num,HY⟩
   case measure=>first | (simp [intOf];done) | (simp [intOf];omega)
  ·obtain rfl:k=n:=by omega
   have hdk:decide ((k:Int)<(k:Int))=false:=by simp
   go_wp2_with fail
   go_ret
   exact ⟨rfl,HBR.out⟩
def eqE (a b:EntD):Bool:=(a.se == b.se && a.st == b.st) && (a.en == b.en && (a.ad == b.ad && (a.le == b.le && (a.cn == b.cn && (a.co == b.co && a.cr == b.cr)))))
theorem eqE_iff {a b:EntD}:eqE a b=true ↔ a=b:=by
 cases a;cases b
 simp [eqE,and_assoc]
theorem eq_key2 (k:Nat) (hk:2≤k) (a b a' b':Int) (w:World):(Op.equalIn k 31 (.agg #[.int .i64 a,.int .i64 b]) (.agg #[.int .i64 a',.int .i64 b'])).run Tryz.prog w=.ok (a == a' && b == b') w:=by
 obtain ⟨d,rfl⟩:∃ d,k=d+1+1:=⟨k - 2,by omega⟩
 have ht:Tryz.prog.underlying 31=some (.struct (Tryz.prog.fieldsOf 31)):=by kernel_rfl
 have hp:Tryz.prog.stoodInHeld 31=false:=by kernel_rfl
 have hf:(Tryz.prog.fieldsOf 31).toList=[⟨"Series",3,0,false,"","",0⟩,⟨"Start",2,1,false,"","",8⟩]:=by kernel_rfl
 have h:=run_equalIn_agg (P:=Tryz.prog) w (d+1) 31 #[.int .i64 a,.int .i64 b] #[.int .i64 a',.int .i64 b'] ht hp
 rw [hf] at h
 rw [h]
 have hki:Tryz.prog.plainKey 3=true:=by kernel_rfl
 have hk6:Tryz.prog.plainKey 2=true:=by kernel_rfl
 have e0:=run_part_plain (P:=Tryz.prog) w hki (xs:=#[.int .i64 a,.int .i64 b]) (off:=0) (v:=.int .i64 a) rfl
 have e1:=run_part_plain (P:=Tryz.prog) w hk6 (xs:=#[.int .i64 a,.int .i64 b]) (off:=1) (v:=.int .i64 b) rfl
 have f0:=run_part_plain (P:=Tryz.prog) w hki (xs:=#[.int .i64 a',.int .i64 b']) (off:=0) (v:=.int .i64 a') rfl
 have f1:=run_part_plain (P:=Tryz.prog) w hk6 (xs:=#[.int .i64 a',.int .i64 b']) (off:=1) (v:=.int .i64 b') rfl
 have qi:=run_equalIn_int (P:=Tryz.prog) w d 3 .i64 .i64 a a' Tryz.underlying3
 have q6:=run_equalIn_int (P:=Tryz.prog) w d 2 .i64 .i64 b b' Tryz.underlying2
 obtain ⟨b0,hb0⟩:∃ x,x=(a == a'):=⟨_,rfl⟩
 obtain ⟨b1,hb1⟩:∃ x,x=(b == b'):=⟨_,rfl⟩
 rw [← hb0] at qi ⊢
 rw [← hb1] at q6 ⊢
 clear h hb0 hb1
 cases b0 <;> cases b1 <;> simp [Op.eqFields,Sem.run_bind,e0,e1,f0,f1,qi,q6]
end Go.Proofs.YtgkddhncfaeidaaGreat
namespace Go.Proofs.YtgkddhncfaeidaaGreat
open Go.RowKit Go.ChangeShapes Go.WideShapes Go.ChangeAt CrcM PageM
theorem neq_key2 (a b c d:Int) (w:World):(binOp .neq 31 (.agg #[.int .i64 a,.int .i64 b]) (.agg #[.int .i64 c,.int .i64 d])).run Tryz.prog w=.ok (.bool (!(a == c && b == d))) w:=by
 rw [run_neq_struct,eq_key2 10000 (by decide) a b c d w]
 rfl
theorem guard_key2 (op:BinOp) (x y:Operand) (C D:Array Value) (w:World):(eqGuard op 31 x y (.agg C) (.agg D)).run Tryz.prog w=.ok () w:=run_eqGuard_agg w op _ x y C D (by kernel_rfl)
def offK (a b:Int) (e:EntD):Bool:=!(e.se == a && e.st == b)
theorem off_step {es:List EntD} {k:Nat} {e:EntD} {a b:Int} (he:es[k]?=some e):(es.take (k+1)).filter (offK a b)=(es.take k).filter (offK a b) ++ if offK a b e then [e] else []:=by
 rw [List.take_add_one,he,List.filter_append]
 simp [List.filter_cons]
theorem off_le {es:List EntD} {k:Nat} {a b:Int}:((es.take k).filter (offK a b)).length≤k:=Nat.le_trans (List.length_filter_le _ _) (List.length_take_le ..)
theorem ref_delete (es:List EntD) (kse kst:Int) (A:Option Addr) (n c m:Nat) (w:World) (hn:es.length=n) (hm:n≤1000000) (h:EnAt w A es) (hf:(es.filter (offK kse kst)).length=m) (hmn:m≠n) :
 Calls Tryz.prog 16 #[.slice A n c,.agg #[.int .i64 kse,.int .i64 kst]] w fun e w'=>∃ A' c',e=.returned (.tuple #[.slice A' m c',.int .i64 0])∧w'.ownsRow w.heap.size 34 8 (.slice A' m c') m ((es.filter (offK kse kst)).flatMap enC)∧Below w.heap.size w w':=by
 have HN:=Lib.hid hn
 have H:=Lib.hid h
 have HM:=Lib.hid hm
 have HF:=Lib.hid hf
 have HMN:=Lib.hid hmn
 obtain ⟨ie,hie,hiez,hies,hieb⟩:=info_parts (infoEnt_from_any)
 clear hn h hf hmn
 obtain ⟨w1,hw1⟩:∃ w1,w1=w.alloc (.cells #[.int .i64 kse,.int .i64 kst] 31):=⟨_,rfl⟩
 have G1:Hid (w1.heap[w.heap.size]?=some (.cells #[.int .i64 kse,.int .i64 kst] 31 (0,0))):=Lib.hid (by rw [hw1];exact heap_alloc_new _ _)
 have B1:=Lib.hid (alloc_bel hw1)
 have HW1:=Lib.hid hw1
 clear hw1
 go_enter Tryz.func16,Tryz.ntmps16
 go_upto_region 1 with fail
 rw [← HW1.out]
 clear HW1
 go_upto_region 3 with fail
 go_loopw [6,7] (fun o i wr=>∃ (k q:Nat) (A':Option Addr) (c':Nat),k≤n∧o=.slice A' q c'∧i=.int .i64 k∧Hid (((es.take k).filter (offK kse kst)).length=q)∧Hid (wr.ownsRow w1.heap.size 34 8 (.slice A' q c') q (((es.take k).filter (offK kse kst)).flatMap enC))∧Hid (Below w1.heap.size w1 wr)) (fun _ i _=>n - (intOf i).toNat)
 case atStart=>exact ⟨0,0,none,0,by omega,rfl,rfl,Lib.hid (by simp),Lib.hid (by simpa using World.ownsRow_nil w1 w1.heap.size 34 8),Lib.hid (Below.refl _ _)⟩
 case round =>
  obtain ⟨k,q,A',c',hk,rfl,rfl,HQ,HR,HB1⟩:=hrel
  obtain ⟨W0,rfl⟩:∃ W0,W0=wr:=⟨_,rfl⟩
  have HB:=Lib.hid (B1.out.trans (HB1.out.mono B1.out.size))
  by_cases hlt:k<n
  ·obtain ⟨e,he⟩:∃ e,es[k]?=some e:=⟨_,List.getElem?_eq_getElem (by rw [HN.out];exact hlt)⟩
   obtain ⟨b,off,rfl,hc⟩:=H.out (by intro e';have h':=HN.out;rw [e'] at h';simp at h';omega)
   obtain ⟨c0,c1,c2,c3,c4,c5,c6,c7⟩:=hc k e he
   have hl0:=World.block_lt_of_cell? _ _ c0
   have hl0':b<W0.heap.size:=Nat.lt_of_lt_of_le hl0 HB.out.size
   have HE:=Lib.hid he
   have GK:=row_stays G1.out HB1.out
   clear he hc
   have z0:=(HB.out.cell (p:=⟨b,off+k*8,none⟩) hl0).trans c0
   have z1:=(HB.out.cell (p:=⟨b,off+k*8+1,none⟩) hl0).trans c1
   have z2:=(HB.out.cell (p:=⟨b,off+k*8+2,none⟩) hl0).trans c2
   have z3:=(HB.out.cell (p:=⟨b,off+k*8+3,none⟩) hl0).trans c3
   have z4:=(HB.out.cell (p:=⟨b,off+k*8+4,none⟩) hl0).trans c4
   have z5:=(HB.out.cell (p:=⟨b,off+k*8+5,none⟩) hl0).trans c5
   have z6:=(HB.out.cell (p:=⟨b,off+k*8+6,none⟩) hl0).trans c6
   have z7:=(HB.out.cell (p:=⟨b,off+k*8+7,none⟩) hl0).trans c7
   have P0:∀ y:SubW W0.heap.size W0,y.at_.cell? ⟨b,off+k*8,none⟩=some (.int .i64 e.se):=fun y=>(y.ok_.cell (p:=⟨b,off+k*8,none⟩) hl0').trans z0
   have P1:∀ y:SubW W0.heap.size W0,y.at_.cell? ⟨b,off+k*8+1,none⟩=some (.int .i64 e.st):=fun y=>(y.ok_.cell (p:=⟨b,off+k*8+1,none⟩) hl0').trans z1
   have K0:∀ y:SubW W0.heap.size W0,y.at_.cell? ⟨w.heap.size,0,none⟩=some (.int .i64 kse):=fun y=>nd_cell (row_stays GK y.ok_) 0 _ rfl
   have K1:∀ y:SubW W0.heap.size W0,y.at_.cell? ⟨w.heap.size,1,none⟩=some (.int .i64 kst):=fun y=>nd_cell (row_stays GK y.ok_) 1 _ rfl
   obtain ⟨d,hd⟩:∃ d,d=(e.se == kse && e.st == kst):=⟨_,rfl⟩
   have HNQ:Hid (∀ W,(binOp .neq 31 (.agg #[.int .i64 e.se,.int .i64 e.st]) (.agg #[.int .i64 kse,.int .i64 kst])).run Tryz.prog W=.ok (.bool (!d)) W):=Lib.hid (fun W=>by rw [hd];exact neq_key2 _ _ _ _ W)
   have HD:=Lib.hid hd
   have HZ:Hid (W0.cell? ⟨b,off+k*8,none⟩=some (.int .i64 e.se)∧W0.cell? ⟨b,off+k*8+1,none⟩=some (.int .i64 e.st)∧W0.cell? ⟨b,off+k*8+2,none⟩=some (.int .i64 e.en)∧W0.cell? ⟨b,off+k*8+3,none⟩=some (.int .i64 e.ad)∧W0.cell? ⟨b,off+k*8+4,none⟩=some (.int .i64 e.le)∧W0.cell? ⟨b,off+k*8+5,none⟩=some (.int .i64 e.cn)∧W0.cell? ⟨b,off+k*8+6,none⟩=some (.int .i64 e.co)∧W0.cell? ⟨b,off+k*8+7,none⟩=some (.int .u32 e.cr)):=Lib.hid ⟨z0,z1,z2,z3,z4,z5,z6,z7⟩
   have HL:=Lib.hid hl0'
   clear GK c0 c1 c2 c3 c4 c5 c6 c7 z0 z1 z2 z3 z4 z5 z6 z7 hl0 hl0' hd
   go_upto_region 5 with fail
   refine region_below W0.heap.size W0 (Below.refl _ _) (by kernel_rfl) (by kernel_rfl) ?_
   repeat (first
    | (go_big_quiet_want;refine quiet_binOpN .neq 31 (.tmp 18) (.tmp 19) 31 rfl (.agg #[.int .i64 e.se,.int .i64 e.st]) (.agg #[.int .i64 kse,.int .i64 kst]) (.bool (!d)) rfl rfl (fun W=>guard_key2 _ _ _ _ _ W) (fun W=>HNQ.out W) ?_;simp only [Act.put,List.setIfInBounds_toArray,List.set_cons_zero,List.set_cons_succ];go_big_quiet_on)
    | go_big_quiet_step (fail))
   refine wpQuiet_nil ?_
   rintro w' ⟨y,rfl⟩
   have BY:=Lib.hid y.ok_
   obtain ⟨V,hV⟩:∃ V,V=y.at_:=⟨_,rfl⟩
   rw [← hV] at BY ⊢
   clear hV P0 P1 K0 K1 y
   have HBV:=Lib.hid (HB1.out.trans (BY.out.mono HB1.out.size))
   have HRV:=Lib.hid (row_below HR.out BY.out)
   cases d with
   | true =>
     clear HNQ
     go_wp2_with fail
     go_roundw
     case rel=>exact ⟨k+1,q,A',c',by omega,rfl,by go_num,Lib.hid (by rw [off_step HE.out,show offK kse kst e=false by unfold offK;rw [← HD.out];rfl];simpa using HQ.out),Lib.hid (by rw [off_step HE.out,show offK kse kst e=false by unfold offK;rw [← HD.out];rfl];simpa using HRV.out),HBV⟩
     case measure=>first | (simp [intOf];done) | (simp [intOf];omega)
   | false =>
     clear HNQ
     have hoe:offK kse kst e=true:=by unfold offK;rw [← HD.out];rfl
     have HOE:=Lib.hid hoe
     clear hoe
     obtain ⟨v0,v1,v2,v3,v4,v5,v6,v7⟩:=HZ.out
     have z0:=(BY.out.cell (p:=⟨b,off+k*8,none⟩) HL.out).trans v0
     have z1:=(BY.out.cell (p:=⟨b,off+k*8+1,none⟩) HL.out).trans v1
     have z2:=(BY.out.cell (p:=⟨b,off+k*8+2,none⟩) HL.out).trans v2
     have z3:=(BY.out.cell (p:=⟨b,off+k*8+3,none⟩) HL.out).trans v3
     have z4:=(BY.out.cell (p:=⟨b,off+k*8+4,none⟩) HL.out).trans v4
     have z5:=(BY.out.cell (p:=⟨b,off+k*8+5,none⟩) HL.out).trans v5
     have z6:=(BY.out.cell (p:=⟨b,off+k*8+6,none⟩) HL.out).trans v6
     have z7:=(BY.out.cell (p:=⟨b,off+k*8+7,none⟩) HL.out).trans v7
     clear v0 v1 v2 v3 v4 v5 v6 v7
     have hqk:Hid (q≤k):=Lib.hid (by rw [← HQ.out];exact off_le)
     have hfill:Hid (Instr.fill (fun i=>some (i*ie.size,ie.size)) ((Array.range (1*ie.size)).map ((Value.agg #[.int .i64 0,.int .i64 0,.int .i64 0,.int .i64 0,.int .i64 0,.int .i64 0,.int .i64 0,.int .u32 0]).cells[· % (Value.agg #[.int .i64 0,.int .i64 0,.int .i64 0,.int .i64 0,.int .i64 0,.int .i64 0,.int .i64 0,.int .u32 0]).cells.size]!)) [(0,.agg #[.int .i64 e.se,.int .i64 e.st,.int .i64 e.en,.int .i64 e.ad,.int .i64 e.le,.int .i64 e.cn,.int .i64 e.co,.int .u32 e.cr])]=some #[.int .i64 e.se,.int .i64 e.st,.int .i64 e.en,.int .i64 e.ad,.int .i64 e.le,.int .i64 e.cn,.int .i64 e.co,.int .u32 e.cr]):=Lib.hid (by rw [hies];exact fill_eight _ _ rfl (by simp))
     go_wp2_with (first
      | (refine wpList_buildSlice rfl 28 34 1 _ rfl #[.int .i64 e.se,.int .i64 e.st,.int .i64 e.en,.int .i64 e.ad,.int .i64 e.le,.int .i64 e.cn,.int .i64 e.co,.int .u32 e.cr] ie _ Tryz.underlying28 hie hiez (by rw [hies];decide) (by rw [hies];decide) (by rw [Array.toList_map];exact hfill.out) ?_)
      | (at_builtin;refine wpList_append_own_at _ rfl (.tmp 21) (.tmp 26) 28 rfl w1.heap.size 34 ie _ 8 64 Tryz.underlying28 hie hiez hies hieb rfl (by omega) _ q (((es.take k).filter (offK kse kst)).flatMap enC) rfl (row_below HRV.out ((Below.refl _ _).alloc (Nat.le_refl _) (.cells #[.int .i64 e.se,.int .i64 e.st,.int .i64 e.en,.int .i64 e.ad,.int .i64 e.le,.int .i64 e.cn,.int .i64 e.co,.int .u32 e.cr] 34))) ⟨V.heap.size,0,none⟩ 1 1 (enC e) rfl rfl (fun j u hj=>by rw [Addr.add_mid,World.cell?_alloc_new];simpa [enC] using hj) (enC_one e) (by have:=hqk.out;have:=HM.out;unfold maxLen;omega) (by have:=hqk.out;have:=HM.out;omega) (by have:=HBV.out.size;simp;omega) ?_;intro v3 x3 ho3 hg3 _ _;obtain ⟨A3,c3,rfl⟩:=row_form ho3;have HR3:=Lib.hid ho3;have HB3:=Lib.hid (((HBV.out.alloc HBV.out.size (.cells #[.int .i64 e.se,.int .i64 e.st,.int .i64 e.en,.int .i64 e.ad,.int .i64 e.le,.int .i64 e.cn,.int .i64 e.co,.int .u32 e.cr] 34))).grown hg3 (by have:=HBV.out.size;simp;omega) (fun j hj=>(World.ownsRow.lt HRV.out j hj).1));clear ho3 hg3))
     go_roundw
     case rel=>exact ⟨k+1,q+1,A3,c3,by omega,rfl,by go_num,Lib.hid (by rw [off_step HE.out,HOE.out];simp [HQ.out]),Lib.hid (by rw [off_step HE.out,HOE.out];simpa using HR3.out),HB3⟩
     case measure=>first | (simp [intOf];done) | (simp [intOf];omega)
  ·obtain rfl:k=n:=by omega
   have hq:q=m:=by
    have h1:=HQ.out
    rw [← HN.out,List.take_length,HF.out] at h1
    exact h1.symm
   subst hq
   have hdk:decide ((k:Int)<(k:Int))=false:=by simp
   have hne:((q:Int) == (k:Int))=false:=by have:=HMN.out;simp;omega
   go_wp2_with fail
   go_ret2
   exact ⟨_,_,rfl,by have h1:=row_mono HR.out B1.out.size;rwa [← HN.out,List.take_length] at h1,HB.out⟩
end Go.Proofs.YtgkddhncfaeidaaGreat
namespace Go.Proofs.YtgkddhncfaeidaaGreat
open Go.ChangeShapes Go.WideShapes Go.ChangeAt Go.RowKit CrcM PageM
theorem eq_entN (k:Nat) (hk:3≤k) (e f:EntD) (w:World):(Op.equalIn k 40 (.agg #[.int .i64 e.se,.int .i64 e.st,.int .i64 e.en,.int .i64 e.ad,.int .i64 e.le,.int .i64 e.cn,.int .i64 e.co,.int .u32 e.cr]) (.agg #[.int .i64 f.se,.int .i64 f.st,.int .i64 f.en,.int .i64 f.ad,.int .i64 f.le,.int .i64 f.cn,.int .i64 f.co,.int .u32 f.cr])).run Tryz.prog w=.ok (eqE e f) w:=by
 obtain ⟨d,rfl⟩:∃ d,k=d+1+1+1:=⟨k - 3,by omega⟩
 obtain ⟨xs,hxs⟩:∃ xs,xs=#[.int .i64 e.se,.int .i64 e.st,.int .i64 e.en,.int .i64 e.ad,.int .i64 e.le,.int .i64 e.cn,.int .i64 e.co,Value.int .u32 e.cr]:=⟨_,rfl⟩
 obtain ⟨ys,hys⟩:∃ ys,ys=#[.int .i64 f.se,.int .i64 f.st,.int .i64 f.en,.int .i64 f.ad,.int .i64 f.le,.int .i64 f.cn,.int .i64 f.co,Value.int .u32 f.cr]:=⟨_,rfl⟩
 rw [← hxs,← hys]
 have ht:Tryz.prog.underlying 40=some (.struct (Tryz.prog.fieldsOf 40)):=by kernel_rfl
 have hp:Tryz.prog.stoodInHeld 40=false:=by kernel_rfl
 have hf:(Tryz.prog.fieldsOf 40).toList=[⟨"Key",38,0,false,"","",0⟩,⟨"End",2,2,false,"","",16⟩,⟨"Addr",3,3,false,"","",24⟩,⟨"Len",3,4,false,"","",32⟩,⟨"Count",3,5,false,"","",40⟩,⟨"Codec",3,6,false,"","",48⟩,⟨"Crc",32,7,false,"","",56⟩]:=by kernel_rfl
 have h:=run_equalIn_agg (P:=Tryz.prog) w (d+1+1) 40 xs ys ht hp
 rw [hf] at h
 rw [h]
 have hki:Tryz.prog.plainKey 3=true:=by kernel_rfl
 have hk6:Tryz.prog.plainKey 2=true:=by kernel_rfl
 have hk3:Tryz.prog.plainKey 32=true:=by kernel_rfl
 have p0:(part 38 xs 0).run Tryz.prog w=.ok (.agg #[.int .i64 e.se,.int .i64 e.st]) w:=by rw [hxs];exact part_key _ _ _ w
 have p2:=run_part_plain (P:=Tryz.prog) w hk6 (xs:=xs) (off:=2) (v:=.int .i64 e.en) (by rw [hxs];rfl)
 have p3:=run_part_plain (P:=Tryz.prog) w hki (xs:=xs) (off:=3) (v:=.int .i64 e.ad) (by rw [hxs];rfl)
 have p4:=run_part_plain (P:=Tryz.prog) w hki (xs:=xs) (off:=4) (v:=.int .i64 e.le) (by rw [hxs];rfl)
 have p5:=run_part_plain (P:=Tryz.prog) w hki (xs:=xs) (off:=5) (v:=.int .i64 e.cn) (by rw [hxs];rfl)
 have p6:=run_part_plain (P:=Tryz.prog) w hki (xs:=xs) (off:=6) (v:=.int .i64 e.co) (by rw [hxs];rfl)
 have p7:=run_part_plain (P:=Tryz.prog) w hk3 (xs:=xs) (off:=7) (v:=.int .u32 e.cr) (by rw [hxs];rfl)
 have q0:(part 38 ys 0).run Tryz.prog w=.ok (.agg #[.int .i64 f.se,.int .i64 f.st]) w:=by rw [hys];exact part_key _ _ _ w
 have q2:=run_part_plain (P:=Tryz.prog) w hk6 (xs:=ys) (off:=2) (v:=.int .i64 f.en) (by rw [hys];rfl)
 have q3:=run_part_plain (P:=Tryz.prog) w hki (xs:=ys) (off:=3) (v:=.int .i64 f.ad) (by rw [hys];rfl)
 have q4:=run_part_plain (P:=Tryz.prog) w hki (xs:=ys) (off:=4) (v:=.int .i64 f.le) (by rw [hys];rfl)
 have q5:=run_part_plain (P:=Tryz.prog) w hki (xs:=ys) (off:=5) (v:=.int .i64 f.cn) (by rw [hys];rfl)
 have q6:=run_part_plain (P:=Tryz.prog) w hki (xs:=ys) (off:=6) (v:=.int .i64 f.co) (by rw [hys];rfl)
 have q7:=run_part_plain (P:=Tryz.prog) w hk3 (xs:=ys) (off:=7) (v:=.int .u32 f.cr) (by rw [hys];rfl)
 have r0:=eq_keyN (d+1+1) (by omega) e.se e.st f.se f.st w
 clear h hxs hys
 obtain ⟨b0,hb0⟩:∃ b,b=(e.se == f.se && e.st == f.st):=⟨_,rfl⟩
 have r2:=run_equalIn_int (P:=Tryz.prog) w (d+1) 2 .i64 .i64 e.en f.en Tryz.underlying2
 obtain ⟨b2,hb2⟩:∃ b,b=(e.en == f.en):=⟨_,rfl⟩
 have r3:=run_equalIn_int (P:=Tryz.prog) w (d+1) 3 .i64 .i64 e.ad f.ad Tryz.underlying3
 obtain ⟨b3,hb3⟩:∃ b,b=(e.ad == f.ad):=⟨_,rfl⟩
 have r4:=run_equalIn_int (P:=Tryz.prog) w (d+1) 3 .i64 .i64 e.le f.le Tryz.underlying3
 obtain ⟨b4,hb4⟩:∃ b,b=(e.le == f.le):=⟨_,rfl⟩
 have r5:=run_equalIn_int (P:=Tryz.prog) w (d+1) 3 .i64 .i64 e.cn f.cn Tryz.underlying3
 obtain ⟨b5,hb5⟩:∃ b,b=(e.cn == f.cn):=⟨_,rfl⟩
 have r6:=run_equalIn_int (P:=Tryz.prog) w (d+1) 3 .i64 .i64 e.co f.co Tryz.underlying3
 obtain ⟨b6,hb6⟩:∃ b,b=(e.co == f.co):=⟨_,rfl⟩
 have r7:=run_equalIn_int (P:=Tryz.prog) w (d+1) 32 .u32 .u32 e.cr f.cr Tryz.underlying32
 obtain ⟨b7,hb7⟩:∃ b,b=(e.cr == f.cr):=⟨_,rfl⟩
 unfold eqE
 rw [← hb0] at r0 ⊢
 rw [← hb2] at r2 ⊢
 rw [← hb3] at r3 ⊢
 rw [← hb4] at r4 ⊢
 rw [← hb5] at r5 ⊢
 rw [← hb6] at r6 ⊢
 rw [← hb7] at r7 ⊢
 clear hb0 hb2 hb3 hb4 hb5 hb6 hb7
 cases b0
 ·simp [Op.eqFields,Sem.run_bind,p0,q0,r0]
 cases b2
 ·simp [Op.eqFields,Sem.run_bind,p0,q0,r0,p2,q2,r2]
 cases b3
 ·simp [Op.eqFields,Sem.run_bind,p0,q0,r0,p2,q2,r2,p3,q3,r3]
 cases b4
 ·simp [Op.eqFields,Sem.run_bind,p0,q0,r0,p2,q2,r2,p3,q3,r3,p4,q4,r4]
 cases b5
 ·simp [Op.eqFields,Sem.run_bind,p0,q0,r0,p2,q2,r2,p3,q3,r3,p4,q4,r4,p5,q5,r5]
 cases b6
 ·simp [Op.eqFields,Sem.run_bind,p0,q0,r0,p2,q2,r2,p3,q3,r3,p4,q4,r4,p5,q5,r5,p6,q6,r6]
 cases b7 <;> simp [Op.eqFields,Sem.run_bind,p0,q0,r0,p2,q2,r2,p3,q3,r3,p4,q4,r4,p5,q5,r5,p6,q6,r6,p7,q7,r7]
theorem neq_entN (e f:EntD) (w:World):(binOp .neq 40 (.agg #[.int .i64 e.se,.int .i64 e.st,.int .i64 e.en,.int .i64 e.ad,.int .i64 e.le,.int .i64 e.cn,.int .i64 e.co,.int .u32 e.cr]) (.agg #[.int .i64 f.se,.int .i64 f.st,.int .i64 f.en,.int .i64 f.ad,.int .i64 f.le,.int .i64 f.cn,.int .i64 f.co,.int .u32 f.cr])).run Tryz.prog w=.ok (.bool (!eqE e f)) w:=by
 rw [run_neq_struct,eq_entN 10000 (by decide) e f w]
 rfl
theorem guard_entN (op:BinOp) (x y:Operand) (C D:Array Value) (w:World):(eqGuard op 40 x y (.agg C) (.agg D)).run Tryz.prog w=.ok () w:=run_eqGuard_agg w op _ x y C D (by kernel_rfl)
theorem neq_entE (e:EntD) (w:World):(binOp .neq 40 (.agg #[.int .i64 e.se,.int .i64 e.st,.int .i64 e.en,.int .i64 e.ad,.int .i64 e.le,.int .i64 e.cn,.int .i64 e.co,.int .u32 e.cr]) (.agg #[.int .i64 e.se,.int .i64 e.st,.int .i64 e.en,.int .i64 e.ad,.int .i64 e.le,.int .i64 e.cn,.int .i64 e.co,.int .u32 e.cr])).run Tryz.prog w=.ok (.bool false) w:=by
 rw [neq_entN,eqE_iff.2 rfl]
 rfl
end Go.Proofs.YtgkddhncfaeidaaGreat
