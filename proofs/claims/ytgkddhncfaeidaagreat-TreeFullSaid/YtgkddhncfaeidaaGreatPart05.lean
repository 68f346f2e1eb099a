/- Squeezed: the texts as they are written lie in wip/tpl. -/
import Derived.Test.YtgkddhncfaeidaaGreatPart04
import Derived.Lib.SliceRun
import Derived.Test.YtgkddhncfaeidaaGreatPart01
set_option maxRecDepth 100000
set_option maxHeartbeats 4000000
set_option linter.unusedSimpArgs false
set_option linter.unusedVariables false
namespace Go.Proofs.YtgkddhncfaeidaaGreat
open Go.ChangeShapes Go.WideShapes Go.ChangeAt Go.RowKit CrcM PageM
theorem clone_ent (A:Option Addr) (n c:Nat) (us:List Value) (hn:us.length=n*8) (h1:∀ u ∈ us,u.oneCell'=true) (hl:n*64≤140737488355328) (hc:n≤c) (hm:c≤maxLen) (w:World) (hA:CellsAt w A us) :
 Calls Tryz.prog 136 #[.slice A n c] w fun e w'=>∃ A' c',e=.returned (.slice A' n c')∧w'.ownsRow w.heap.size 40 8 (.slice A' n c') n us∧Below w.heap.size w w':=by
 cases A with
 | none =>
   have hus:us=[]:=by
    rcases hu:us with _ | ⟨u,r⟩
    ·rfl
    ·obtain ⟨b,off,h,_⟩:=hA (by rw [hu];simp)
     cases h
   subst hus
   have hn0:n=0:=by simp at hn;omega
   subst hn0
   clear hn hA
   have e1:∀ W,(binOp .eql 29 (.slice none 0 c) (.slice none 0 0)).run Tryz.prog W=.ok (.bool true) W:=fun W=>Lib.run_eql_slice_nil W _ _ none 0 c 0 0 Tryz.underlying29
   go_enter Tryz.func136,Tryz.ntmps136
   go_wp2_with fail
   go_ret
   exact ⟨none,0,rfl,World.ownsRow_nil w _ _ _,Below.refl _ _⟩
 | some ad =>
   have HN:=Lib.hid hn
   have HL:=Lib.hid hl
   have H1:=Lib.hid h1
   have HA:=Lib.hid hA
   have HM:Hid (n≤maxLen):=Lib.hid (Nat.le_trans hc hm)
   clear hn hl h1 hA hc hm
   have HB:Hid (Below w.heap.size w (w.alloc (.cells #[] 40))):=Lib.hid ((Below.refl _ _).alloc (Nat.le_refl _) _)
   have HO:Hid ((w.alloc (.cells #[] 40)).ownsRow w.heap.size 40 8 (.slice (some ⟨w.heap.size,0,none⟩) 0 0) 0 []):=Lib.hid ⟨rfl,.inr ⟨w.heap.size,0,#[],rfl,Nat.le_refl _,heap_alloc_new _ _,Nat.le_refl _,by unfold maxLen;omega,rfl,rfl⟩⟩
   have e1:∀ W,(binOp .eql 29 (.slice (some ad) n c) (.slice none 0 0)).run Tryz.prog W=.ok (.bool false) W:=fun W=>Lib.run_eql_slice_nil W _ _ (some ad) n c 0 0 Tryz.underlying29
   go_enter Tryz.func136,Tryz.ntmps136
   go_wp2_with (at_builtin;refine wpList_append_row rfl (.tmp 5) (.tmp 6) 29 rfl Tryz.underlying29 (.agg #[.int .i64 0,.int .i64 0,.int .i64 0,.int .i64 0,.int .i64 0,.int .i64 0,.int .i64 0,.int .u32 0]) 64 infoEnt_to_any (by rfl) (by decide) _ rfl HO.out (some ad) c n rfl HN.out (HA.out.below HB.out) H1.out (by have:=HL.out;omega) (by have:=HM.out;omega) HB.out.size n (Nat.zero_add n) us (by rfl) ?_;intro A' c' w' ho hg;have HO2:=Lib.hid ho;have HG2:=Lib.hid hg;clear ho hg)
   go_ret
   exact ⟨A',c',rfl,HO2.out,HB.out.grown HG2.out HB.out.size (fun k hk=>by injection hk with hk;exact Nat.le_of_eq hk)⟩
theorem grow_ent (m:Nat) (hl:m*64≤140737488355328) (w:World) :
 Calls Tryz.prog 170 #[.slice none 0 0,.int .i64 (m:Int)] w fun e w'=>∃ A c,e=.returned (.slice A 0 c)∧w'.ownsRow w.heap.size 40 8 (.slice A 0 c) 0 []∧Below w.heap.size w w':=by
 rcases Nat.eq_zero_or_pos m with h0 | h0
 ·subst h0
  go_enter Tryz.func170,Tryz.ntmps170
  go_wp2_with fail
  go_ret
  exact ⟨none,0,rfl,World.ownsRow_nil w _ _ _,Below.refl _ _⟩
 ·have HL:=Lib.hid hl
  have p1:¬ ((m:Int)<0):=by omega
  have p2:(0:Int)<(m:Int):=by omega
  have p3:decide ((m:Int)<0)=false:=by simp
  have p4:decide ((0:Int)<(m:Int))=true:=by simp;omega
  have p5:wrap64 (m:Int)=(m:Int):=by unfold wrap64;omega
  obtain ⟨cg,wg,hr,ho,hcg,hb⟩:=run_append_room (P:=Tryz.prog) (w:=w) 29 3 29 Tryz.underlying29 .i64 .i64 Tryz.underlying3 (.agg #[.int .i64 0,.int .i64 0,.int .i64 0,.int .i64 0,.int .i64 0,.int .i64 0,.int .i64 0,.int .u32 0]) 64 infoEnt_to_any (by rfl) (by decide) m h0 hl (by omega) (by decide)
  have HO:=Lib.hid ho
  have HB:=Lib.hid hb
  have hr':=hr
  rw [← p5] at hr'
  have HR:=Lib.hid hr'
  clear ho hb hr hr' hl
  go_enter Tryz.func170,Tryz.ntmps170
  go_wp2_with (at_builtin;refine Lib.wpList_append_run w rfl (.tmp 20) (.tmp 21) 29 3 rfl (.slice none 0 0) (.int .i64 (wrap64 (m:Int))) rfl rfl _ _ HR.out ?_)
  go_ret
  exact ⟨_,cg,rfl,HO.out,HB.out⟩
theorem concat_ent (g:Nat) (A1 A2:Option Addr) (n1 c1 n2 c2 N:Nat) (hN:n1+n2=N) (us1 us2:List Value) (l1:us1.length=n1*8) (l2:us2.length=n2*8) (o1:∀ u ∈ us1,u.oneCell'=true) (o2:∀ u ∈ us2,u.oneCell'=true) (hl:N*64≤140737488355328) (w:World)
 (hg:w.heap[g]?=some (.cells #[.slice A1 n1 c1,.slice A2 n2 c2] 29 (0,0))) (hA1:CellsAt w A1 us1) (hA2:CellsAt w A2 us2) :
 Calls Tryz.prog 159 #[.slice (some ⟨g,0,none⟩) 2 2] w fun e w'=>∃ A c,e=.returned (.slice A N c)∧w'.ownsRow w.heap.size 40 8 (.slice A N c) N (us1 ++ us2)∧Below w.heap.size w w':=by
 have HG:=Lib.hid hg
 have HA1:=Lib.hid hA1
 have HA2:=Lib.hid hA2
 have L1:=Lib.hid l1
 have L2:=Lib.hid l2
 have O1:=Lib.hid o1
 have O2:=Lib.hid o2
 have HL:=Lib.hid hl
 have HN:=Lib.hid hN
 have e0:w.cell? ⟨g,0,none⟩=some (.slice A1 n1 c1):=nd_cell hg 0 _ rfl
 have e1:w.cell? ⟨g,1,none⟩=some (.slice A2 n2 c2):=nd_cell hg 1 _ rfl
 have hgl:=(Array.getElem?_eq_some_iff.1 hg).1
 have q1:wrap64 ((0:Int)+(n1:Int))=(n1:Int):=by unfold wrap64;omega
 have q2:wrap64 ((n1:Int)+(n2:Int))=(N:Int):=by unfold wrap64;omega
 have q3:decide ((n1:Int)<0)=false:=by simp
 have q4:decide ((N:Int)<0)=false:=by simp
 have Q1:=Lib.hid q1
 have Q2:=Lib.hid q2
 clear hg hA1 hA2 l1 l2 o1 o2 hl hN q1 q2
 go_enter Tryz.func159,Tryz.ntmps159
 go_upto_region 3 with fail
 go_loopw [11,3] (fun i s wr=>∃ k z:Nat,k≤2∧i=.int .i64 k∧s=.int .i64 (z:Int)∧w=wr∧Hid (k=0∧0=z∨k=1∧n1=z∨k=2∧N=z)) (fun i _ _=>2 - (intOf i).toNat)
 case atStart=>exact ⟨0,0,by omega,rfl,rfl,rfl,Lib.hid (.inl ⟨rfl,rfl⟩)⟩
 case round =>
  obtain ⟨k,z,hk,rfl,rfl,rfl,hcase⟩:=hrel
  obtain ⟨rfl,rfl⟩ | ⟨rfl,rfl⟩ | ⟨rfl,rfl⟩:=hcase.out
  ·have q1:=Q1.out
   have q1':wrap64 (n1:Int)=(n1:Int):=by have:=HL.out;have:=HN.out;unfold wrap64;omega
   go_wp2_with fail
   go_roundw
   case rel=>exact ⟨1,n1,by omega,by go_num,by go_num,(by first | rfl | trivial),Lib.hid (.inr (.inl ⟨rfl,rfl⟩))⟩
   case measure=>first | (simp [intOf];done) | (simp [intOf];omega)
  ·have q2:=Q2.out
   have q2':wrap64 (N:Int)=(N:Int):=by have:=HL.out;unfold wrap64;omega
   go_wp2_with fail
   go_roundw
   case rel=>exact ⟨2,N,by omega,by go_num,by go_num,(by first | rfl | trivial),Lib.hid (.inr (.inr ⟨rfl,rfl⟩))⟩
   case measure=>first | (simp [intOf];done) | (simp [intOf];omega)
  ·go_upto_region 11 with (go_at_call 170;refine (grow_ent _ HL.out _).mono ?_;rintro e w1 ⟨A,c,rfl,ho1,hb1⟩;have HO1:=Lib.hid ho1;have HB1:=Lib.hid hb1;clear ho1 hb1)
   clear e0 e1 hcase q3 q4
   go_loopw [27,6] (fun i s wr=>∃ (k z:Nat) (A:Option Addr) (c:Nat) (us:List Value),k≤2∧i=.int .i64 k∧s=.slice A z c∧Hid (Below wr.heap.size wr wr∧Below w.heap.size w wr∧wr.ownsRow w.heap.size 40 8 (.slice A z c) z us)∧Hid (k=0∧0=z∧[]=us∨k=1∧n1=z∧us1=us∨k=2∧N=z∧us1 ++ us2=us)) (fun i _ _=>2 - (intOf i).toNat)
   case atStart=>exact ⟨0,0,A,c,[],by omega,rfl,rfl,Lib.hid ⟨Below.refl _ _,HB1.out,HO1.out⟩,Lib.hid (.inl ⟨rfl,rfl,rfl⟩)⟩
   case round =>
    obtain ⟨k,z,A',c',us,hk,rfl,rfl,HW,hcase⟩:=hrel
    have f0:=(HW.out.2.1.cell (p:=⟨g,0,none⟩) hgl).trans (nd_cell HG.out 0 _ rfl)
    have f1:=(HW.out.2.1.cell (p:=⟨g,1,none⟩) hgl).trans (nd_cell HG.out 1 _ rfl)
    simp only [List.getElem_toArray,List.getElem_cons_zero,List.getElem_cons_succ] at f0 f1
    obtain ⟨rfl,rfl,rfl⟩ | ⟨rfl,rfl,rfl⟩ | ⟨rfl,rfl,rfl⟩:=hcase.out
    ·go_wp2_with (at_builtin;refine wpList_append_row rfl (.tmp 31) (.tmp 32) 29 rfl Tryz.underlying29 (.agg #[.int .i64 0,.int .i64 0,.int .i64 0,.int .i64 0,.int .i64 0,.int .i64 0,.int .i64 0,.int .u32 0]) 64 infoEnt_to_any (by rfl) (by decide) _ rfl HW.out.2.2 A1 c1 n1 rfl L1.out (HA1.out.below HW.out.2.1) O1.out (by have:=HL.out;have:=HN.out;omega) (by have:=HL.out;have:=HN.out;unfold maxLen;omega) HW.out.2.1.size n1 (Nat.zero_add n1) us1 (by rfl) ?_;intro A3 c3 w3 ho hgr;have HO3:=Lib.hid ho;have HG3:=Lib.hid hgr;clear ho hgr)
     go_roundw
     case rel=>exact ⟨1,n1,A3,c3,us1,by omega,by go_num,rfl,Lib.hid ⟨Below.refl _ _,HW.out.2.1.grown HG3.out HW.out.2.1.size (fun k hk=>(World.ownsRow.lt HW.out.2.2 k hk).1),HO3.out⟩,Lib.hid (.inr (.inl ⟨rfl,rfl,rfl⟩))⟩
     case measure=>first | (simp [intOf];done) | (simp [intOf];omega)
    ·go_wp2_with (at_builtin;refine wpList_append_row rfl (.tmp 31) (.tmp 32) 29 rfl Tryz.underlying29 (.agg #[.int .i64 0,.int .i64 0,.int .i64 0,.int .i64 0,.int .i64 0,.int .i64 0,.int .i64 0,.int .u32 0]) 64 infoEnt_to_any (by rfl) (by decide) _ rfl HW.out.2.2 A2 c2 n2 rfl L2.out (HA2.out.below HW.out.2.1) O2.out (by have:=HL.out;have:=HN.out;omega) (by have:=HL.out;have:=HN.out;unfold maxLen;omega) HW.out.2.1.size N HN.out _ rfl ?_;intro A3 c3 w3 ho hgr;have HO3:=Lib.hid ho;have HG3:=Lib.hid hgr;clear ho hgr)
     go_roundw
     case rel=>exact ⟨2,N,A3,c3,_,by omega,by go_num,rfl,Lib.hid ⟨Below.refl _ _,HW.out.2.1.grown HG3.out HW.out.2.1.size (fun k hk=>(World.ownsRow.lt HW.out.2.2 k hk).1),HO3.out⟩,Lib.hid (.inr (.inr ⟨rfl,rfl,rfl⟩))⟩
     case measure=>first | (simp [intOf];done) | (simp [intOf];omega)
    ·go_wp2_with fail
     go_ret
     exact ⟨A',c',rfl,HW.out.2.2,HW.out.2.1⟩
theorem clone_key (A:Option Addr) (n c:Nat) (us:List Value) (hn:us.length=n*2) (h1:∀ u ∈ us,u.oneCell'=true) (hl:n*16≤140737488355328) (hc:n≤c) (hm:c≤maxLen) (w:World) (hA:CellsAt w A us) :
 Calls Tryz.prog 137 #[.slice A n c] w fun e w'=>∃ A' c',e=.returned (.slice A' n c')∧w'.ownsRow w.heap.size 38 2 (.slice A' n c') n us∧Below w.heap.size w w':=by
 cases A with
 | none =>
   have hus:us=[]:=by
    rcases hu:us with _ | ⟨u,r⟩
    ·rfl
    ·obtain ⟨b,off,h,_⟩:=hA (by rw [hu];simp)
     cases h
   subst hus
   have hn0:n=0:=by simp at hn;omega
   subst hn0
   clear hn hA
   have e1:∀ W,(binOp .eql 84 (.slice none 0 c) (.slice none 0 0)).run Tryz.prog W=.ok (.bool true) W:=fun W=>Lib.run_eql_slice_nil W _ _ none 0 c 0 0 Tryz.underlying84
   go_enter Tryz.func137,Tryz.ntmps137
   go_wp2_with fail
   go_ret
   exact ⟨none,0,rfl,World.ownsRow_nil w _ _ _,Below.refl _ _⟩
 | some ad =>
   have HN:=Lib.hid hn
   have HL:=Lib.hid hl
   have H1:=Lib.hid h1
   have HA:=Lib.hid hA
   have HM:Hid (n≤maxLen):=Lib.hid (Nat.le_trans hc hm)
   clear hn hl h1 hA hc hm
   have HB:Hid (Below w.heap.size w (w.alloc (.cells #[] 38))):=Lib.hid ((Below.refl _ _).alloc (Nat.le_refl _) _)
   have HO:Hid ((w.alloc (.cells #[] 38)).ownsRow w.heap.size 38 2 (.slice (some ⟨w.heap.size,0,none⟩) 0 0) 0 []):=Lib.hid ⟨rfl,.inr ⟨w.heap.size,0,#[],rfl,Nat.le_refl _,heap_alloc_new _ _,Nat.le_refl _,by unfold maxLen;omega,rfl,rfl⟩⟩
   have e1:∀ W,(binOp .eql 84 (.slice (some ad) n c) (.slice none 0 0)).run Tryz.prog W=.ok (.bool false) W:=fun W=>Lib.run_eql_slice_nil W _ _ (some ad) n c 0 0 Tryz.underlying84
   go_enter Tryz.func137,Tryz.ntmps137
   go_wp2_with (at_builtin;refine wpList_append_row rfl (.tmp 5) (.tmp 6) 84 rfl Tryz.underlying84 (.agg #[.int .i64 0,.int .i64 0]) 16 infoKey_to_any (by rfl) (by decide) _ rfl HO.out (some ad) c n rfl HN.out (HA.out.below HB.out) H1.out (by have:=HL.out;omega) (by have:=HM.out;omega) HB.out.size n (Nat.zero_add n) us (by rfl) ?_;intro A' c' w' ho hg;have HO2:=Lib.hid ho;have HG2:=Lib.hid hg;clear ho hg)
   go_ret
   exact ⟨A',c',rfl,HO2.out,HB.out.grown HG2.out HB.out.size (fun k hk=>by injection hk with hk;exact Nat.le_of_eq hk)⟩
theorem grow_key (m:Nat) (hl:m*16≤140737488355328) (w:World) :
 Calls Tryz.prog 171 #[.slice none 0 0,.int .i64 (m:Int)] w fun e w'=>∃ A c,e=.returned (.slice A 0 c)∧w'.ownsRow w.heap.size 38 2 (.slice A 0 c) 0 []∧Below w.heap.size w w':=by
 rcases Nat.eq_zero_or_pos m with h0 | h0
 ·subst h0
  go_enter Tryz.func171,Tryz.ntmps171
  go_wp2_with fail
  go_ret
  exact ⟨none,0,rfl,World.ownsRow_nil w _ _ _,Below.refl _ _⟩
 ·have HL:=Lib.hid hl
  have p1:¬ ((m:Int)<0):=by omega
  have p2:(0:Int)<(m:Int):=by omega
  have p3:decide ((m:Int)<0)=false:=by simp
  have p4:decide ((0:Int)<(m:Int))=true:=by simp;omega
  have p5:wrap64 (m:Int)=(m:Int):=by unfold wrap64;omega
  obtain ⟨cg,wg,hr,ho,hcg,hb⟩:=run_append_room (P:=Tryz.prog) (w:=w) 84 3 84 Tryz.underlying84 .i64 .i64 Tryz.underlying3 (.agg #[.int .i64 0,.int .i64 0]) 16 infoKey_to_any (by rfl) (by decide) m h0 hl (by omega) (by decide)
  have HO:=Lib.hid ho
  have HB:=Lib.hid hb
  have hr':=hr
  rw [← p5] at hr'
  have HR:=Lib.hid hr'
  clear ho hb hr hr' hl
  go_enter Tryz.func171,Tryz.ntmps171
  go_wp2_with (at_builtin;refine Lib.wpList_append_run w rfl (.tmp 20) (.tmp 21) 84 3 rfl (.slice none 0 0) (.int .i64 (wrap64 (m:Int))) rfl rfl _ _ HR.out ?_)
  go_ret
  exact ⟨_,cg,rfl,HO.out,HB.out⟩
theorem concat_key (g:Nat) (A1 A2:Option Addr) (n1 c1 n2 c2 N:Nat) (hN:n1+n2=N) (us1 us2:List Value) (l1:us1.length=n1*2) (l2:us2.length=n2*2) (o1:∀ u ∈ us1,u.oneCell'=true) (o2:∀ u ∈ us2,u.oneCell'=true) (hl:N*16≤140737488355328) (w:World)
 (hg:w.heap[g]?=some (.cells #[.slice A1 n1 c1,.slice A2 n2 c2] 84 (0,0))) (hA1:CellsAt w A1 us1) (hA2:CellsAt w A2 us2) :
 Calls Tryz.prog 160 #[.slice (some ⟨g,0,none⟩) 2 2] w fun e w'=>∃ A c,e=.returned (.slice A N c)∧w'.ownsRow w.heap.size 38 2 (.slice A N c) N (us1 ++ us2)∧Below w.heap.size w w':=by
 have HG:=Lib.hid hg
 have HA1:=Lib.hid hA1
 have HA2:=Lib.hid hA2
 have L1:=Lib.hid l1
 have L2:=Lib.hid l2
 have O1:=Lib.hid o1
 have O2:=Lib.hid o2
 have HL:=Lib.hid hl
 have HN:=Lib.hid hN
 have e0:w.cell? ⟨g,0,none⟩=some (.slice A1 n1 c1):=nd_cell hg 0 _ rfl
 have e1:w.cell? ⟨g,1,none⟩=some (.slice A2 n2 c2):=nd_cell hg 1 _ rfl
 have hgl:=(Array.getElem?_eq_some_iff.1 hg).1
 have q1:wrap64 ((0:Int)+(n1:Int))=(n1:Int):=by unfold wrap64;omega
 have q2:wrap64 ((n1:Int)+(n2:Int))=(N:Int):=by unfold wrap64;omega
 have q3:decide ((n1:Int)<0)=false:=by simp
 have q4:decide ((N:Int)<0)=false:=by simp
 have Q1:=Lib.hid q1
 have Q2:=Lib.hid q2
 clear hg hA1 hA2 l1 l2 o1 o2 hl hN q1 q2
 go_enter Tryz.func160,Tryz.ntmps160
 go_upto_region 3 with fail
 go_loopw [11,3] (fun i s wr=>∃ k z:Nat,k≤2∧i=.int .i64 k∧s=.int .i64 (z:Int)∧w=wr∧Hid (k=0∧0=z∨k=1∧n1=z∨k=2∧N=z)) (fun i _ _=>2 - (intOf i).toNat)
 case atStart=>exact ⟨0,0,by omega,rfl,rfl,rfl,Lib.hid (.inl ⟨rfl,rfl⟩)⟩
 case round =>
  obtain ⟨k,z,hk,rfl,rfl,rfl,hcase⟩:=hrel
  obtain ⟨rfl,rfl⟩ | ⟨rfl,rfl⟩ | ⟨rfl,rfl⟩:=hcase.out
  ·have q1:=Q1.out
   have q1':wrap64 (n1:Int)=(n1:Int):=by have:=HL.out;have:=HN.out;unfold wrap64;omega
   go_wp2_with fail
   go_roundw
   case rel=>exact ⟨1,n1,by omega,by go_num,by go_num,(by first | rfl | trivial),Lib.hid (.inr (.inl ⟨rfl,rfl⟩))⟩
   case measure=>first | (simp [intOf];done) | (simp [intOf];omega)
  ·have q2:=Q2.out
   have q2':wrap64 (N:Int)=(N:Int):=by have:=HL.out;unfold wrap64;omega
   go_wp2_with fail
   go_roundw
   case rel=>exact ⟨2,N,by omega,by go_num,by go_num,(by first | rfl | trivial),Lib.hid (.inr (.inr ⟨rfl,rfl⟩))⟩
   case measure=>first | (simp [intOf];done) | (simp [intOf];omega)
  ·go_upto_region 11 with (go_at_call 171;refine (grow_key _ HL.out _).mono ?_;rintro e w1 ⟨A,c,rfl,ho1,hb1⟩;have HO1:=Lib.hid ho1;have HB1:=Lib.hid hb1;clear ho1 hb1)
   clear e0 e1 hcase q3 q4
   go_loopw [27,6] (fun i s wr=>∃ (k z:Nat) (A:Option Addr) (c:Nat) (us:List Value),k≤2∧i=.int .i64 k∧s=.slice A z c∧Hid (Below wr.heap.size wr wr∧Below w.heap.size w wr∧wr.ownsRow w.heap.size 38 2 (.slice A z c) z us)∧Hid (k=0∧0=z∧[]=us∨k=1∧n1=z∧us1=us∨k=2∧N=z∧us1 ++ us2=us)) (fun i _ _=>2 - (intOf i).toNat)
   case atStart=>exact ⟨0,0,A,c,[],by omega,rfl,rfl,Lib.hid ⟨Below.refl _ _,HB1.out,HO1.out⟩,Lib.hid (.inl ⟨rfl,rfl,rfl⟩)⟩
   case round =>
    obtain ⟨k,z,A',c',us,hk,rfl,rfl,HW,hcase⟩:=hrel
    have f0:=(HW.out.2.1.cell (p:=⟨g,0,none⟩) hgl).trans (nd_cell HG.out 0 _ rfl)
    have f1:=(HW.out.2.1.cell (p:=⟨g,1,none⟩) hgl).trans (nd_cell HG.out 1 _ rfl)
    simp only [List.getElem_toArray,List.getElem_cons_zero,List.getElem_cons_succ] at f0 f1
    obtain ⟨rfl,rfl,rfl⟩ | ⟨rfl,rfl,rfl⟩ | ⟨rfl,rfl,rfl⟩:=hcase.out
    ·go_wp2_with (at_builtin;refine wpList_append_row rfl (.tmp 31) (.tmp 32) 84 rfl Tryz.underlying84 (.agg #[.int .i64 0,.int .i64 0]) 16 infoKey_to_any (by rfl) (by decide) _ rfl HW.out.2.2 A1 c1 n1 rfl L1.out (HA1.out.below HW.out.2.1) O1.out (by have:=HL.out;have:=HN.out;omega) (by have:=HL.out;have:=HN.out;unfold maxLen;omega) HW.out.2.1.size n1 (Nat.zero_add n1) us1 (by rfl) ?_;intro A3 c3 w3 ho hgr;have HO3:=Lib.hid ho;have HG3:=Lib.hid hgr;clear ho hgr)
     go_roundw
     case rel=>exact ⟨1,n1,A3,c3,us1,by omega,by go_num,rfl,Lib.hid ⟨Below.refl _ _,HW.out.2.1.grown HG3.out HW.out.2.1.size (fun k hk=>(World.ownsRow.lt HW.out.2.2 k hk).1),HO3.out⟩,Lib.hid (.inr (.inl ⟨rfl,rfl,rfl⟩))⟩
     case measure=>first | (simp [intOf];done) | (simp [intOf];omega)
    ·go_wp2_with (at_builtin;refine wpList_append_row rfl (.tmp 31) (.tmp 32) 84 rfl Tryz.underlying84 (.agg #[.int .i64 0,.int .i64 0]) 16 infoKey_to_any (by rfl) (by decide) _ rfl HW.out.2.2 A2 c2 n2 rfl L2.out (HA2.out.below HW.out.2.1) O2.out (by have:=HL.out;have:=HN.out;omega) (by have:=HL.out;have:=HN.out;unfold maxLen;omega) HW.out.2.1.size N HN.out _ rfl ?_;intro A3 c3 w3 ho hgr;have HO3:=Lib.hid ho;have HG3:=Lib.hid hgr;clear ho hgr)
     go_roundw
     case rel=>exact ⟨2,N,A3,c3,_,by omega,by go_num,rfl,Lib.hid ⟨Below.refl _ _,HW.out.2.1.grown HG3.out HW.out.2.1.size (fun k hk=>(World.ownsRow.lt HW.out.2.2 k hk).1),HO3.out⟩,Lib.hid (.inr (.inr ⟨rfl,rfl,rfl⟩))⟩
     case measure=>first | (simp [intOf];done) | (simp [intOf];omega)
    ·go_wp2_with fail
     go_ret
     exact ⟨A',c',rfl,HW.out.2.2,HW.out.2.1⟩
theorem clone_int (A:Option Addr) (n c:Nat) (us:List Value) (hn:us.length=n*1) (h1:∀ u ∈ us,u.oneCell'=true) (hl:n*8≤140737488355328) (hc:n≤c) (hm:c≤maxLen) (w:World) (hA:CellsAt w A us) :
 Calls Tryz.prog 138 #[.slice A n c] w fun e w'=>∃ A' c',e=.returned (.slice A' n c')∧w'.ownsRow w.heap.size 3 1 (.slice A' n c') n us∧Below w.heap.size w w':=by
 cases A with
 | none =>
   have hus:us=[]:=by
    rcases hu:us with _ | ⟨u,r⟩
    ·rfl
    ·obtain ⟨b,off,h,_⟩:=hA (by rw [hu];simp)
     cases h
   subst hus
   have hn0:n=0:=by simp at hn;omega
   subst hn0
   clear hn hA
   have e1:∀ W,(binOp .eql 59 (.slice none 0 c) (.slice none 0 0)).run Tryz.prog W=.ok (.bool true) W:=fun W=>Lib.run_eql_slice_nil W _ _ none 0 c 0 0 Tryz.underlying59
   go_enter Tryz.func138,Tryz.ntmps138
   go_wp2_with fail
   go_ret
   exact ⟨none,0,rfl,World.ownsRow_nil w _ _ _,Below.refl _ _⟩
 | some ad =>
   have HN:=Lib.hid hn
   have HL:=Lib.hid hl
   have H1:=Lib.hid h1
   have HA:=Lib.hid hA
   have HM:Hid (n≤maxLen):=Lib.hid (Nat.le_trans hc hm)
   clear hn hl h1 hA hc hm
   have HB:Hid (Below w.heap.size w (w.alloc (.cells #[] 3))):=Lib.hid ((Below.refl _ _).alloc (Nat.le_refl _) _)
   have HO:Hid ((w.alloc (.cells #[] 3)).ownsRow w.heap.size 3 1 (.slice (some ⟨w.heap.size,0,none⟩) 0 0) 0 []):=Lib.hid ⟨rfl,.inr ⟨w.heap.size,0,#[],rfl,Nat.le_refl _,heap_alloc_new _ _,Nat.le_refl _,by unfold maxLen;omega,rfl,rfl⟩⟩
   have e1:∀ W,(binOp .eql 59 (.slice (some ad) n c) (.slice none 0 0)).run Tryz.prog W=.ok (.bool false) W:=fun W=>Lib.run_eql_slice_nil W _ _ (some ad) n c 0 0 Tryz.underlying59
   go_enter Tryz.func138,Tryz.ntmps138
   go_wp2_with (at_builtin;refine wpList_append_row rfl (.tmp 5) (.tmp 6) 59 rfl Tryz.underlying59 (.int .i64 0) 8 infoIntN (by rfl) (by decide) _ rfl HO.out (some ad) c n rfl HN.out (HA.out.below HB.out) H1.out (by have:=HL.out;omega) (by have:=HM.out;omega) HB.out.size n (Nat.zero_add n) us (by rfl) ?_;intro A' c' w' ho hg;have HO2:=Lib.hid ho;have HG2:=Lib.hid hg;clear ho hg)
   go_ret
   exact ⟨A',c',rfl,HO2.out,HB.out.grown HG2.out HB.out.size (fun k hk=>by injection hk with hk;exact Nat.le_of_eq hk)⟩
theorem grow_int (m:Nat) (hl:m*8≤140737488355328) (w:World) :
 Calls Tryz.prog 172 #[.slice none 0 0,.int .i64 (m:Int)] w fun e w'=>∃ A c,e=.returned (.slice A 0 c)∧w'.ownsRow w.heap.size 3 1 (.slice A 0 c) 0 []∧Below w.heap.size w w':=by
 rcases Nat.eq_zero_or_pos m with h0 | h0
 ·subst h0
  go_enter Tryz.func172,Tryz.ntmps172
  go_wp2_with fail
  go_ret
  exact ⟨none,0,rfl,World.ownsRow_nil w _ _ _,Below.refl _ _⟩
 ·have HL:=Lib.hid hl
  have p1:¬ ((m:Int)<0):=by omega
  have p2:(0:Int)<(m:Int):=by omega
  have p3:decide ((m:Int)<0)=false:=by simp
  have p4:decide ((0:Int)<(m:Int))=true:=by simp;omega
  have p5:wrap64 (m:Int)=(m:Int):=by unfold wrap64;omega
  obtain ⟨cg,wg,hr,ho,hcg,hb⟩:=run_append_room (P:=Tryz.prog) (w:=w) 59 3 59 Tryz.underlying59 .i64 .i64 Tryz.underlying3 (.int .i64 0) 8 infoIntN (by rfl) (by decide) m h0 hl (by omega) (by decide)
  have HO:=Lib.hid ho
  have HB:=Lib.hid hb
  have hr':=hr
  rw [← p5] at hr'
  have HR:=Lib.hid hr'
  clear ho hb hr hr' hl
  go_enter Tryz.func172,Tryz.ntmps172
  go_wp2_with (at_builtin;refine Lib.wpList_append_run w rfl (.tmp 20) (.tmp 21) 59 3 rfl (.slice none 0 0) (.int .i64 (wrap64 (m:Int))) rfl rfl _ _ HR.out ?_)
  go_ret
  exact ⟨_,cg,rfl,HO.out,HB.out⟩
theorem concat_int (g:Nat) (A1 A2:Option Addr) (n1 c1 n2 c2 N:Nat) (hN:n1+n2=N) (us1 us2:List Value) (l1:us1.length=n1*1) (l2:us2.length=n2*1) (o1:∀ u ∈ us1,u.oneCell'=true) (o2:∀ u ∈ us2,u.oneCell'=true) (hl:N*8≤140737488355328) (w:World)
 (hg:w.heap[g]?=some (.cells #[.slice A1 n1 c1,.slice A2 n2 c2] 59 (0,0))) (hA1:CellsAt w A1 us1) (hA2:CellsAt w A2 us2) :
 Calls Tryz.prog 161 #[.slice (some ⟨g,0,none⟩) 2 2] w fun e w'=>∃ A c,e=.returned (.slice A N c)∧w'.ownsRow w.heap.size 3 1 (.slice A N c) N (us1 ++ us2)∧Below w.heap.size w w':=by
 have HG:=Lib.hid hg
 have HA1:=Lib.hid hA1
 have HA2:=Lib.hid hA2
 have L1:=Lib.hid l1
 have L2:=Lib.hid l2
 have O1:=Lib.hid o1
 have O2:=Lib.hid o2
 have HL:=Lib.hid hl
 have HN:=Lib.hid hN
 have e0:w.cell? ⟨g,0,none⟩=some (.slice A1 n1 c1):=nd_cell hg 0 _ rfl
 have e1:w.cell? ⟨g,1,none⟩=some (.slice A2 n2 c2):=nd_cell hg 1 _ rfl
 have hgl:=(Array.getElem?_eq_some_iff.1 hg).1
 have q1:wrap64 ((0:Int)+(n1:Int))=(n1:Int):=by unfold wrap64;omega
 have q2:wrap64 ((n1:Int)+(n2:Int))=(N:Int):=by unfold wrap64;omega
 have q3:decide ((n1:Int)<0)=false:=by simp
 have q4:decide ((N:Int)<0)=false:=by simp
 have Q1:=Lib.hid q1
 have Q2:=Lib.hid q2
 clear hg hA1 hA2 l1 l2 o1 o2 hl hN q1 q2
 go_enter Tryz.func161,Tryz.ntmps161
 go_upto_region 3 with fail
 go_loopw [11,3] (fun i s wr=>∃ k z:Nat,k≤2∧i=.int .i64 k∧s=.int .i64 (z:Int)∧w=wr∧Hid (k=0∧0=z∨k=1∧n1=z∨k=2∧N=z)) (fun i _ _=>2 - (intOf i).toNat)
 case atStart=>exact ⟨0,0,by omega,rfl,rfl,rfl,Lib.hid (.inl ⟨rfl,rfl⟩)⟩
 case round =>
  obtain ⟨k,z,hk,rfl,rfl,rfl,hcase⟩:=hrel
  obtain ⟨rfl,rfl⟩ | ⟨rfl,rfl⟩ | ⟨rfl,rfl⟩:=hcase.out
  ·have q1:=Q1.out
   have q1':wrap64 (n1:Int)=(n1:Int):=by have:=HL.out;have:=HN.out;unfold wrap64;omega
   go_wp2_with fail
   go_roundw
   case rel=>exact ⟨1,n1,by omega,by go_num,by go_num,(by first | rfl | trivial),Lib.hid (.inr (.inl ⟨rfl,rfl⟩))⟩
   case measure=>first | (simp [intOf];done) | (simp [intOf];omega)
  ·have q2:=Q2.out
   have q2':wrap64 (N:Int)=(N:Int):=by have:=HL.out;unfold wrap64;omega
   go_wp2_with fail
   go_roundw
   case rel=>exact ⟨2,N,by omega,by go_num,by go_num,(by first | rfl | trivial),Lib.hid (.inr (.inr ⟨rfl,rfl⟩))⟩
   case measure=>first | (simp [intOf];done) | (simp [intOf];omega)
  ·go_upto_region 11 with (go_at_call 172;refine (grow_int _ HL.out _).mono ?_;rintro e w1 ⟨A,c,rfl,ho1,hb1⟩;have HO1:=Lib.hid ho1;have HB1:=Lib.hid hb1;clear ho1 hb1)
   clear e0 e1 hcase q3 q4
   go_loopw [27,6] (fun i s wr=>∃ (k z:Nat) (A:Option Addr) (c:Nat) (us:List Value),k≤2∧i=.int .i64 k∧s=.slice A z c∧Hid (Below wr.heap.size wr wr∧Below w.heap.size w wr∧wr.ownsRow w.heap.size 3 1 (.slice A z c) z us)∧Hid (k=0∧0=z∧[]=us∨k=1∧n1=z∧us1=us∨k=2∧N=z∧us1 ++ us2=us)) (fun i _ _=>2 - (intOf i).toNat)
   case atStart=>exact ⟨0,0,A,c,[],by omega,rfl,rfl,Lib.hid ⟨Below.refl _ _,HB1.out,HO1.out⟩,Lib.hid (.inl ⟨rfl,rfl,rfl⟩)⟩
   case round =>
    obtain ⟨k,z,A',c',us,hk,rfl,rfl,HW,hcase⟩:=hrel
    have f0:=(HW.out.2.1.cell (p:=⟨g,0,none⟩) hgl).trans (nd_cell HG.out 0 _ rfl)
    have f1:=(HW.out.2.1.cell (p:=⟨g,1,none⟩) hgl).trans (nd_cell HG.out 1 _ rfl)
    simp only [List.getElem_toArray,List.getElem_cons_zero,List.getElem_cons_succ] at f0 f1
    obtain ⟨rfl,rfl,rfl⟩ | ⟨rfl,rfl,rfl⟩ | ⟨rfl,rfl,rfl⟩:=hcase.out
    ·go_wp2_with (at_builtin;refine wpList_append_row rfl (.tmp 31) (.tmp 32) 59 rfl Tryz.underlying59 (.int .i64 0) 8 infoIntN (by rfl) (by decide) _ rfl HW.out.2.2 A1 c1 n1 rfl L1.out (HA1.out.below HW.out.2.1) O1.out (by have:=HL.out;have:=HN.out;omega) (by have:=HL.out;have:=HN.out;unfold maxLen;omega) HW.out.2.1.size n1 (Nat.zero_add n1) us1 (by rfl) ?_;intro A3 c3 w3 ho hgr;have HO3:=Lib.hid ho;have HG3:=Lib.hid hgr;clear ho hgr)
     go_roundw
     case rel=>exact ⟨1,n1,A3,c3,us1,by omega,by go_num,rfl,Lib.hid ⟨Below.refl _ _,HW.out.2.1.grown HG3.out HW.out.2.1.size (fun k hk=>(World.ownsRow.lt HW.out.2.2 k hk).1),HO3.out⟩,Lib.hid (.inr (.inl ⟨rfl,rfl,rfl⟩))⟩
     case measure=>first | (simp [intOf];done) | (simp [intOf];omega)
    ·go_wp2_with (at_builtin;refine wpList_append_row rfl (.tmp 31) (.tmp 32) 59 rfl Tryz.underlying59 (.int .i64 0) 8 infoIntN (by rfl) (by decide) _ rfl HW.out.2.2 A2 c2 n2 rfl L2.out (HA2.out.below HW.out.2.1) O2.out (by have:=HL.out;have:=HN.out;omega) (by have:=HL.out;have:=HN.out;unfold maxLen;omega) HW.out.2.1.size N HN.out _ rfl ?_;intro A3 c3 w3 ho hgr;have HO3:=Lib.hid ho;have HG3:=Lib.hid hgr;clear ho hgr)
     go_roundw
     case rel=>exact ⟨2,N,A3,c3,_,by omega,by go_num,rfl,Lib.hid ⟨Below.refl _ _,HW.out.2.1.grown HG3.out HW.out.2.1.size (fun k hk=>(World.ownsRow.lt HW.out.2.2 k hk).1),HO3.out⟩,Lib.hid (.inr (.inr ⟨rfl,rfl,rfl⟩))⟩
     case measure=>first | (simp [intOf];done) | (simp [intOf];omega)
    ·go_wp2_with fail
     go_ret
     exact ⟨A',c',rfl,HW.out.2.2,HW.out.2.1⟩
end Go.Proofs.YtgkddhncfaeidaaGreat
namespace Go.Proofs.YtgkddhncfaeidaaGreat
open Go.RowKit CrcM PageM
theorem or_u64n (a:Nat) (c:UInt8) (ha:a<72057594037927936):bits BinOp.or IntKind.u64 ((a:Int)*256) (c.toNat:Int)=((a*256+c.toNat:Nat):Int):=by
 have hc:=c.toNat_lt
 have e:bits BinOp.or IntKind.u64 ((a*256:Nat):Int) ((c.toNat:Nat):Int)=((a*256 ||| c.toNat:Nat):Int):=u64_or_nat _ _ (by omega) (by omega)
 rw [nat_join 8 (a*256) c.toNat (by omega) (by omega)] at e
 exact e
theorem high_nd (r g o len cap:Nat) (xs:List UInt8) (w:World) (hr:w.heap[r]?=some (.cells #[.slice (some ⟨g,o,none⟩) len cap] 205 (0,0))) (hx:BytesAt w (some ⟨g,o,none⟩) xs) (hlen:xs.length=len) (hc:len≤cap) (hcm:cap≤maxLen) (z:Int) (s:Nat) (hz:z=(s:Int)) (hs:s≤len) (hs8:s≤8) :
 Calls Tryz.prog 125 #[.pointer (some ⟨r,0,none⟩),.int .i64 z] w fun e w'=>e=.returned (.int .u64 (val (xs.take s)))∧∃ A',w'=w.setCell ⟨r,0,none⟩ (.slice A' (len - s) (cap - s))∧(s<len→A'=some ⟨g,o+s,none⟩):=by
 subst hz hlen
 unfold maxLen at hcm
 have h0:=nd_cell hr 0 _ rfl
 have hfz:w.frozen? ⟨r,0,none⟩=false:=by simp [World.frozen?,hr]
 go_enter Tryz.func125,Tryz.ntmps125
 go_wp2_with fail
 go_loop [5,14] (fun v i=>∃ k:Nat,k≤s∧i=.int .i64 k∧v=.int .u64 (val (xs.take k))) (fun _ i=>s - (intOf i).toNat)
 case atStart=>exact ⟨0,by omega,rfl,by simp [val]⟩
 case round =>
  obtain ⟨k,hk,rfl,rfl⟩:=hrel
  by_cases hlt:k<s
  ·obtain ⟨b,off,hbo,hcl⟩:=hx (by intro h;subst h;simp at hs;omega)
   injection hbo with hbo
   injection hbo with e1 e2 e3
   subst e1 e2
   have hck:=hcl k (by omega)
   clear hcl
   have hv:val (xs.take k)<72057594037927936:=by
    have:=val_lt (xs.take k)
    have h2:256 ^ (xs.take k).length≤256 ^ 7:=Nat.pow_le_pow_right (by omega) (by simp;omega)
    omega
   go_wp2_with fail
   go_round
   case rel =>
    refine ⟨k+1,by omega,by go_num,?_⟩
    have hlt2:k<xs.length:=by omega
    have hw:IntKind.u64.wrap (xs[k].toNat:Int)=(xs[k].toNat:Int):=by have:=xs[k].toNat_lt;rw [IntKind.wrap_u64];omega
    rw [hw,or_u64n _ _ hv,List.take_succ_eq_append_getElem hlt2,val_snoc]
   case measure=>simp [intOf];omega
  ·obtain rfl:k=s:=by omega
   by_cases hcs:cap=k
   ·subst hcs
    go_wp2_with fail
    go_ret
    exact ⟨rfl,_,rfl,fun h=>by omega⟩
   ·go_wp2_with fail
    go_ret
    exact ⟨rfl,_,rfl,fun _=>rfl⟩
theorem _root_.Go.World.grownBy.setCell_own {w w':World} {g:Nat} (h:w.grownBy w' (some g)) (i:Nat) (v:Value):w.grownBy (w'.setCell ⟨g,i,none⟩ v) (some g) :=
 ⟨h.os,h.tape,h.output,by simpa using h.size,fun k hk hne=>(Below.heap_setCell w' ⟨g,i,none⟩ v k (fun e=>hne (by rw [e]))).trans (h.block k hk hne)⟩
theorem bytes_grown {w w':World} {g o r:Nat} {xs:List UInt8} (h:BytesAt w (some ⟨g,o,none⟩) xs) (hg:w.grownBy w' (some r)) (hne:g≠r):BytesAt w' (some ⟨g,o,none⟩) xs:=fun hx=>by
 obtain ⟨b,off,hbo,hc⟩:=h hx
 injection hbo with hbo
 injection hbo with e1 e2 e3
 subst e1 e2
 exact ⟨g,o,rfl,fun k hk=>(World.cell?_of_block (a:=⟨g,o+k,none⟩) (hg.block g (World.block_lt_of_cell? _ _ (hc k hk)) (fun e=>hne (by injection e)))).trans (hc k hk)⟩
end Go.Proofs.YtgkddhncfaeidaaGreat
namespace Go.Proofs.YtgkddhncfaeidaaGreat
open Go.ChangeShapes Go.WideShapes Go.ChangeAt Go.RowKit CrcM PageM
def CurAt (w:World) (r:Nat) (xs:List UInt8):Prop:=∃ A cap,w.heap[r]?=some (.cells #[.slice A xs.length cap] 205 (0,0))∧xs.length≤cap∧cap≤maxLen∧BytesAt w A xs∧(xs≠[]→∀ a,A=some a→a.block<r)
theorem CurAt.below {w w':World} {r:Nat} {xs:List UInt8} (h:CurAt w r xs) (hb:Below w.heap.size w w'):CurAt w' r xs:=by
 obtain ⟨A,cap,h1,h2,h3,h4,h5⟩:=h
 exact ⟨A,cap,(hb.block r (Array.getElem?_eq_some_iff.1 h1).1).trans h1,h2,h3,h4.below hb,h5⟩
theorem CurAt.lt {w:World} {r:Nat} {xs:List UInt8} (h:CurAt w r xs):r<w.heap.size:=by
 obtain ⟨A,cap,h1,_⟩:=h
 exact (Array.getElem?_eq_some_iff.1 h1).1
theorem high_cur (w:World) (r:Nat) (xs:List UInt8) (h:CurAt w r xs) (z:Int) (s:Nat) (hz:z=(s:Int)) (h1:1≤s) (hs:s≤xs.length) (hs8:s≤8) :
 Calls Tryz.prog 125 #[.pointer (some ⟨r,0,none⟩),.int .i64 z] w fun e w'=>e=.returned (.int .u64 (val (xs.take s)))∧CurAt w' r (xs.drop s)∧w.grownBy w' (some r)∧w'.heap.size=w.heap.size:=by
 obtain ⟨A,cap,k1,k2,k3,k4,k5⟩:=h
 obtain ⟨g,o,rfl,hc⟩:=k4 (by intro e;rw [e] at hs;simp at hs;omega)
 refine (high_nd r g o xs.length cap xs w k1 (fun _=>⟨g,o,rfl,hc⟩) rfl k2 k3 z s hz hs hs8).mono ?_
 rintro e w' ⟨rfl,A',rfl,hA⟩
 have hg:w.grownBy (w.setCell ⟨r,0,none⟩ (.slice A' (xs.length - s) (cap - s))) (some r):=World.grownBy.setCell_own (World.grownBy.refl w _) 0 _
 have hlt0:g<r:=k5 (by intro e;rw [e] at hs;simp at hs;omega) _ rfl
 have hne:g≠r:=by omega
 refine ⟨rfl,⟨A',cap - s,?_,by rw [List.length_drop];omega,by omega,?_,?_⟩,hg,by simp⟩
 ·rw [heap_setCell_same w r 0 _ _ _ k1,List.length_drop]
  rfl
 ·intro hne'
  have hlt:s<xs.length:=by
   rcases Nat.lt_or_ge s xs.length with h | h
   ·exact h
   ·exact absurd (List.drop_eq_nil_of_le h) hne'
  obtain rfl:=hA hlt
  have hb:=bytes_grown (fun _=>⟨g,o,rfl,hc⟩:BytesAt w (some ⟨g,o,none⟩) xs) hg hne
  exact hb.cut s (some ⟨g,o+s,none⟩) (fun _=>by rw [Option.map_some];congr 1;unfold Addr.add;split <;> simp_all) hne'
 ·intro hne' a ha
  have hlt:s<xs.length:=by
   rcases Nat.lt_or_ge s xs.length with h | h
   ·exact h
   ·exact absurd (List.drop_eq_nil_of_le h) hne'
  obtain rfl:=hA hlt
  injection ha with ha
  rw [← ha]
  exact hlt0
theorem CurAt.setRow {w:World} {r g:Nat} {xs:List UInt8} {cs cs':Array Value} {T:TypeId} (h:CurAt w r xs) (hg:w.heap[g]?=some (.cells cs T (0,0))) (hne:g≠r) (hcs:∀ (i:Nat) (z:Int),cs[i]?≠some (.int .u8 z)):CurAt (w.setRow g cs') r xs:=by
 obtain ⟨A,cap,h1,h2,h3,h4,h5⟩:=h
 refine ⟨A,cap,(setRow_other w g r cs' (Ne.symm hne)).trans h1,h2,h3,fun hx=>?_,h5⟩
 obtain ⟨b,off,hA,hc⟩:=h4 hx
 refine ⟨b,off,hA,fun k hk=>?_⟩
 have hb:b≠g:=fun e=>by
  subst e
  have h6:=hc k hk
  rw [cell_of_row w b (off+k) _ _ _ hg] at h6
  exact hcs _ _ h6
 exact (World.cell?_of_block (a:=⟨b,off+k,none⟩) (setRow_other w g b cs' hb)).trans (hc k hk)
def s64 (n:Nat):Int:=wrap64 (n:Int)
def keyP (b:List UInt8):KeyD:=⟨s64 (val (b.take 4)),s64 (val ((b.drop 4).take 8))⟩
theorem key_cur (w:World) (r:Nat) (xs:List UInt8) (h:CurAt w r xs) (hl:12≤xs.length) :
 Calls Tryz.prog 124 #[.pointer (some ⟨r,0,none⟩)] w fun e w'=>e=.returned (.agg #[.int .i64 (keyP xs).se,.int .i64 (keyP xs).st])∧CurAt w' r (xs.drop 12)∧w.grownBy w' (some r):=by
 have hlt:=h.lt
 have hra:=h.below ((Below.refl w.heap.size w).alloc (Nat.le_refl _) (.cells #[.int .i64 0,.int .i64 0] 38))
 have hkr:(w.alloc (.cells #[.int .i64 0,.int .i64 0] 38)).heap[w.heap.size]?=_:=heap_alloc_new w _
 have HRA:=Lib.hid hra
 have HKR:=Lib.hid hkr
 obtain ⟨n4,h4⟩:∃ n,val (xs.take 4)=n:=⟨_,rfl⟩
 obtain ⟨n8,h8⟩:∃ n,val ((xs.drop 4).take 8)=n:=⟨_,rfl⟩
 obtain ⟨z4,hz4⟩:∃ z,wrap64 (n4:Int)=z:=⟨_,rfl⟩
 obtain ⟨z8,hz8⟩:∃ z,wrap64 (n8:Int)=z:=⟨_,rfl⟩
 have hk:keyP xs=⟨z4,z8⟩:=by unfold keyP s64;rw [h4,h8,hz4,hz8]
 rw [hk]
 dsimp only
 have H4:=Lib.hid h4
 have H8:=Lib.hid h8
 have H84:Hid ((xs.drop 4).drop 8=xs.drop 12):=Lib.hid (by rw [List.drop_drop])
 have q1:4≤xs.length:=by omega
 have q2:8≤(xs.drop 4).length:=by rw [List.length_drop];omega
 have Q1:=Lib.hid q1
 have Q2:=Lib.hid q2
 have HHI4:Hid (∀ W,CurAt W r xs→Calls Tryz.prog 125 #[.pointer (some ⟨r,0,none⟩),.int .i64 4] W fun e w'=>e=.returned (.int .u64 n4)∧CurAt w' r (xs.drop 4)∧W.grownBy w' (some r)):=Lib.hid (fun W hW=>(high_cur W r xs hW 4 4 (by decide) (by decide) q1 (by decide)).mono (fun e w' ⟨a,b,c,_⟩=>⟨h4 ▸ a,b,c⟩))
 have HHI8:Hid (∀ W,CurAt W r (xs.drop 4)→Calls Tryz.prog 125 #[.pointer (some ⟨r,0,none⟩),.int .i64 8] W fun e w'=>e=.returned (.int .u64 n8)∧CurAt w' r (xs.drop 12)∧W.grownBy w' (some r)):=Lib.hid (fun W hW=>(high_cur W r (xs.drop 4) hW 8 8 (by decide) (by decide) q2 (by decide)).mono (fun e w' ⟨a,b,c,_⟩=>⟨h8 ▸ a,by rw [List.drop_drop] at b;exact b,c⟩))
 clear h hra hkr h4 h8 hk q1 q2 H4 H8 H84
 go_enter Tryz.func124,Tryz.ntmps124
 go_wp2_with (first
  | (go_at_call 125;(with_reducible refine (HHI4.out _ HRA.out).mono ?_);rintro e w1 ⟨rfl,hc1,hg1⟩;have HC1:=Lib.hid hc1;clear hc1)
  | (go_at_call 125;(with_reducible refine (HHI8.out _ HC1.out).mono ?_);rintro e w2 ⟨rfl,hc2,hg2⟩;have HC2:=Lib.hid hc2;clear hc2;have hk2:=(hg2.block w.heap.size (by have:=hg1.size;simp at this;omega) (by intro e;injection e;omega)).trans ((hg1.block w.heap.size (by simp) (by intro e;injection e;omega)).trans HKR.out))
  | (refine wpList_store_row rfl 38 (.tmp 2) (.tmp 9) rfl w.heap.size _ rfl rfl 38 _ hk2 (by kernel_rfl) (by kernel_rfl) (by kernel_rfl) ?_))
 have hlt1:w.heap.size<w1.heap.size:=by have:=hg1.size;simp at this;omega
 have hlt2:w.heap.size<w2.heap.size:=Nat.lt_of_lt_of_le hlt1 hg2.size
 have hg:w.grownBy w2 (some r):=(grown_alloc w _ _).trans' (hg1.trans' hg2)
 refine bodyPost_ret (v:=.agg #[.int .i64 z4,.int .i64 z8]) (results_cell_row (p:=2) (ty:=38) rfl _ _ w.heap.size 38 #[.int .i64 z4,.int .i64 z8] (0,0) _ rfl (setRow_heap _ _ _ _ _ _ hk2) Tryz.underlying38 rfl (by kernel_rfl)) rfl ⟨rfl,?_,?_⟩
 ·exact HC2.out.setRow hk2 (by omega) (fun i z=>by match i with | 0=>simp | 1=>simp | i+2=>simp)
 ·exact ⟨hg.os,hg.tape,hg.output,by simpa using hg.size,fun k hk hne=>(setRow_other _ _ _ _ (by omega)).trans (hg.block k hk hne)⟩
end Go.Proofs.YtgkddhncfaeidaaGreat
