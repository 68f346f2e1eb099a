/- Squeezed: the texts as they are written lie in wip/tpl. -/
import Derived.Test.YtgkddhncfaeidaaGreatChecked
import Derived.Test.YtgkddhncfaeidaaGreatPart00
import Derived.WalkKit
import Derived.WalkLawsBesides
import Derived.WalkSpells
import Derived.Handy
import Derived.KernelRfl
import Derived.Lib.MinMax
import Derived.Lib.SlBytesConst
import Derived.Lib.BufferMore
import Derived.Laws.CopyOwn
import Derived.Test.YtgkddhncfaeidaaGreatPart01
import Derived.Deep.MidRow
import Derived.Test.YtgkddhncfaeidaaGreatPart04
import Derived.Great.BuildSlice
import Derived.Deep.DeepCutAuto
set_option maxRecDepth 100000
set_option linter.unusedSimpArgs false
set_option linter.unusedVariables false
namespace Go.Proofs.YtgkddhncfaeidaaGreat
open Go.RowKit CrcM
theorem ret_eq {u v:Value} (h:u=v):Ending.returned u=Ending.returned v:=by rw [h]
theorem u32_eq {a b:Int} (h:a=b):Value.int .u32 a=Value.int .u32 b:=by rw [h]
theorem and1_u32 (n:Nat) (hn:n<4294967296):bits BinOp.and IntKind.u32 (n:Int) 1=((n % 2:Nat):Int):=by
 have e:bits BinOp.and IntKind.u32 (n:Int) ((1:Nat):Int)=((n &&& 1:Nat):Int):=u32_and_nat _ _ hn (by omega)
 rw [Nat.and_one_is_mod] at e
 exact e
theorem stpN_cases (n:Nat) (hn:n<4294967296):stpN n=if n % 2=1 then (n / 2) ^^^ 2197175160 else n / 2:=by
 have e:(BitVec.ofNat 32 n).toNat=n:=by rw [BitVec.toNat_ofNat];exact Nat.mod_eq_of_lt hn
 have e0:(BitVec.ofNat 32 n).getLsbD 0=decide (n % 2=1):=by
  rw [← BitVec.testBit_toNat,e,Nat.testBit_zero]
 unfold stpN stp
 rw [e0]
 by_cases h:n % 2=1
 ·simp only [h,decide_true,if_true]
  rw [BitVec.toNat_xor,BitVec.toNat_ushiftRight,e,Nat.shiftRight_eq_div_pow]
  rfl
 ·simp only [h,decide_false,if_false,Bool.false_eq_true]
  rw [BitVec.toNat_ushiftRight,e,Nat.shiftRight_eq_div_pow]
theorem stp_odd_walk (n:Nat) (hn:n<4294967296) (h:n % 2=1):bits BinOp.xor IntKind.u32 ((n:Int) / 2) 2197175160=(stpN n:Int):=by
 rw [stpN_cases n hn,if_pos h]
 exact u32_xor_nat (n / 2) 2197175160 (by omega) (by omega)
theorem stp_even_walk (n:Nat) (hn:n<4294967296) (h:¬ n % 2=1):(n:Int) / 2=(stpN n:Int):=by
 rw [stpN_cases n hn,if_neg h]
 rfl
theorem step_any (n:Nat) (hn:n<4294967296) (w:World):Calls Tryz.prog 47 #[.int .u32 n] w fun e w'=>e=.returned (.int .u32 (stpN n))∧w=w':=by
 go_enter Tryz.func47,Tryz.ntmps47
 go_wp2
 ·have h:(bits BinOp.and IntKind.u32 (n:Int) 1 == 1)=true:=by assumption
  go_ret
  refine ⟨ret_eq (u32_eq (stp_odd_walk n hn ?_)),rfl⟩
  rw [and1_u32 n hn] at h
  simp at h
  omega
 ·have h:(bits BinOp.and IntKind.u32 (n:Int) 1 == 1)=false:=by assumption
  go_ret
  refine ⟨ret_eq (u32_eq (stp_even_walk n hn ?_)),rfl⟩
  rw [and1_u32 n hn] at h
  simp at h
  omega
def tabC (k:Nat):Array Value:=Array.ofFn (n:=256) fun i=>.int .u32 (if i.val<k then (tbN i.val:Int) else 0)
def tab:Array Value:=tabC 256
theorem size_tabC (k:Nat):(tabC k).size=256:=by simp [tabC]
theorem tabC_get (k i:Nat) (hi:i<256):(tabC k)[i]?=some (.int .u32 (if i<k then (tbN i:Int) else 0)):=by
 simp [tabC,hi]
theorem tab_get (i:Nat) (hi:i<256):tab[i]?=some (.int .u32 (tbN i)):=by
 unfold tab
 rw [tabC_get 256 i hi,if_pos hi]
theorem tabC_set (k:Nat) (hk:k<256):(tabC k).setIfInBounds k (.int .u32 (tbN k))=tabC (k+1):=by
 apply Array.ext_getElem?
 intro i
 by_cases hi:i<256
 ·rw [tabC_get (k+1) i hi]
  by_cases h:k=i
  ·subst h
   simp [size_tabC,hk]
  ·rw [Array.getElem?_setIfInBounds_ne h,tabC_get k i hi]
   by_cases h1:i<k
   ·simp [h1,show i<k+1 by omega]
   ·simp [h1,show ¬ i<k+1 by omega]
 ·have h1:(tabC (k+1))[i]?=none:=by simp [size_tabC];omega
  rw [h1]
  simp [size_tabC];omega
theorem zero64:Tryz.zeroCells71=tabC 0:=by
 apply Array.ext_getElem?
 intro i
 have hz:Tryz.zeroCells71=Array.replicate 256 (.int .u32 0):=by kernel_rfl
 rw [hz,Array.getElem?_replicate]
 by_cases hi:i<256
 ·rw [tabC_get 0 i hi,if_pos hi,if_neg (by omega)]
 ·have h1:(tabC 0)[i]?=none:=by simp [size_tabC];omega
  rw [h1,if_neg hi]
theorem info64:(Tryz.prog.info? 71).map (·.size)=some 256:=by kernel_rfl
theorem tab_one (k:Nat):(tabC k).all (·.oneCell')=true:=by
 rw [Array.all_eq_true_iff_forall_mem]
 intro v hv
 simp only [tabC,Array.mem_ofFn] at hv
 obtain ⟨i,rfl⟩:=hv
 rfl
theorem below_setRow {B:Nat} {a w:World} (h:Below B a w) {g:Nat} (hg:B≤g) (c:Array Value):Below B a (w.setRow g c) :=
 h.trans ⟨rfl,rfl,rfl,by simp,fun k hk=>setRow_other _ _ _ _ (by omega)⟩
theorem new_any (w:World):Calls Tryz.prog 23 #[] w fun e w'=>e=.returned (.agg tab)∧Below w.heap.size w w':=by
 go_enter Tryz.func23,Tryz.ntmps23
 go_wp2_with fail
 rw [zero64]
 go_loopw [4] (fun i wr=>∃ k:Nat,k≤256∧i=.int .i64 k∧wr=(w.alloc (.cells (tabC 0) 71)).alloc (.cells (tabC k) 71)) (fun i _=>256 - (intOf i).toNat)
 case atStart=>exact ⟨0,by omega,rfl,rfl⟩
 case round =>
  obtain ⟨k,hk,rfl,rfl⟩:=hrel
  by_cases hlt:k<256
  ·have hd:decide ((k:Int)<256)=true:=by simp;omega
   go_wp2_with fail
   go_loop [3,9] (fun n j=>∃ m:Nat,m≤8∧j=.int .i64 m∧n=.int .u32 (stpsN m k)) (fun _ j=>8 - (intOf j).toNat)
   case atStart=>exact ⟨0,by omega,rfl,by rw [stpsN_zero (by omega)]⟩
   case round =>
    obtain ⟨m,hm,rfl,rfl⟩:=hrel
    have hb:=stpsN_lt m k
    by_cases hm8:m<8
    ·go_wp2_with (go_at_call 47;refine (step_any _ hb _).mono ?_;rintro e w' ⟨rfl,rfl⟩)
     go_round
     case rel=>exact ⟨m+1,by omega,by go_num,by rw [stpsN_succ]⟩
     case measure=>simp [intOf];omega
    ·obtain rfl:m=8:=by omega
     have hc:(tabC k)[k]?=some (.int .u32 0):=by rw [tabC_get k k hlt,if_neg (by omega)]
     have hset:=tabC_set k hlt
     rw [← stpsN_tb] at hset
     have HS:=Lib.hid hset
     clear hset
     go_wp2_with fail
     rw [HS.out]
     go_roundw
     case rel=>exact ⟨k+1,by omega,by go_num,rfl⟩
     case measure=>simp [intOf];omega
  ·obtain rfl:k=256:=by omega
   go_wp2_with (first
    | (refine wpList_load_row rfl 71 (.tmp 1) rfl (w.heap.size+1) rfl 71 (tabC 256) (0,0) _ (heap_alloc2_new _ _ _) Tryz.underlying71 rfl (by rw [size_tabC];exact info64) ?_)
    | (refine wpList_store_row rfl 71 (.tmp 0) (.tmp 18) rfl w.heap.size (tabC 256) rfl rfl 71 (tabC 0) (heap_alloc2_old _ _ _) (by rw [size_tabC];exact info64) (by rw [size_tabC,size_tabC]) (tab_one _) ?_))
   refine bodyPost_ret (v:=.agg tab) (results_cell_row (p:=0) (ty:=71) rfl _ _ w.heap.size 71 (tabC 256) (0,0) _ rfl (setRow_heap _ _ (tabC 0) _ _ _ (heap_alloc2_old _ _ _)) Tryz.underlying71 rfl (by rw [size_tabC];exact info64)) rfl ⟨rfl,?_⟩
   exact below_setRow (((Below.refl _ _).alloc (Nat.le_refl _) _).alloc (by simp) _) (Nat.le_refl _) _
theorem tab_cell (w:World) (i:Nat) (hi:i<256):(w.alloc (.cells tab 71)).cell? ⟨w.heap.size,i,none⟩=some (.int .u32 (tbN i)):=by
 rw [World.cell?_alloc_new,tab_get i hi]
theorem not_u32 (n:Nat) (hn:n<4294967296):bits BinOp.xor IntKind.u32 IntKind.u32.max (n:Int)=((4294967295 - n:Nat):Int):=by
 have e:bits BinOp.xor IntKind.u32 ((4294967295:Nat):Int) (n:Int)=((4294967295 ^^^ n:Nat):Int):=u32_xor_nat _ _ (by omega) hn
 have e2:4294967295 ^^^ n=4294967295 - n:=by
  have h1:=notN hn
  rw [← h1]
  have:(~~~ BitVec.ofNat 32 n)=BitVec.ofNat 32 4294967295 ^^^ BitVec.ofNat 32 n:=by
   rw [show BitVec.ofNat 32 4294967295=BitVec.allOnes 32 from rfl,BitVec.allOnes_xor]
  rw [this,BitVec.toNat_xor,BitVec.toNat_ofNat,BitVec.toNat_ofNat,Nat.mod_eq_of_lt hn]
 rw [e2] at e
 exact e
theorem byteN_walk (m:Nat) (hm:m<4294967296) (c:UInt8):bits BinOp.xor IntKind.u32 ((m:Int) / 256) (tbN ((m % 256) ^^^ c.toNat))=(byteN m c:Int):=by
 have e:bits BinOp.xor IntKind.u32 ((m / 256:Nat):Int) ((tbN ((m % 256) ^^^ c.toNat):Nat):Int)=_:=u32_xor_nat _ _ (by omega) (tbN_lt _)
 rw [show ((m:Int) / 256)=((m / 256:Nat):Int) from rfl,e]
 unfold byteN byteStep tbN
 rw [BitVec.toNat_xor,BitVec.toNat_ushiftRight,BitVec.toNat_ofNat,Nat.mod_eq_of_lt hm,Nat.shiftRight_eq_div_pow]
theorem ix_walk (m:Nat) (c:UInt8):bits BinOp.xor IntKind.u8 ((m:Int) % 256) (c.toNat:Int)=(((m % 256) ^^^ c.toNat:Nat):Int) :=
 u8_xor_nat (m % 256) c.toNat (Nat.mod_lt _ (by omega)) (by have:=c.toNat_lt;omega)
theorem ix_lt (m:Nat) (c:UInt8):(m % 256) ^^^ c.toNat<256 :=
 Nat.xor_lt_two_pow (n:=8) (by omega) (by have:=c.toNat_lt;omega)
theorem behind_any (n:Nat) (hn:n<4294967296) (A:Option Addr) (cap:Nat) (xs:List UInt8) (w:World) (hx:BytesAt w A xs) (hl:xs.length≤140737488355328) :
 Calls Tryz.prog 165 #[.agg tab,.int .u32 n,.slice A xs.length cap] w fun e w'=>e=.returned (.int .u32 (behindN n xs))∧Below w.heap.size w w':=by
 obtain ⟨m,em⟩:∃ m:Nat,m=4294967295 - n:=⟨_,rfl⟩
 have hm:m<4294967296:=by omega
 have hnot:bits BinOp.xor IntKind.u32 IntKind.u32.max (n:Int)=(m:Int):=by
  subst em
  exact not_u32 n hn
 have EM:=Lib.hid em
 clear em
 go_enter Tryz.func165,Tryz.ntmps165
 go_wp2_with fail
 go_loop [7,14] (fun v i=>∃ k:Nat,k≤xs.length∧i=.int .i64 k∧v=.int .u32 (rowN m (xs.take k))) (fun _ i=>xs.length - (intOf i).toNat)
 case atStart=>exact ⟨0,by omega,rfl,by rw [List.take_zero,rowN_nil hm]⟩
 case round =>
  obtain ⟨k,hk,rfl,rfl⟩:=hrel
  have hr:=rowN_lt m (xs.take k)
  by_cases hlt:k<xs.length
  ·obtain ⟨b,off,rfl,hc⟩:=hx (by intro h;subst h;simp at hlt)
   have hck:=hc k hlt
   clear hc
   have hblt:=World.block_lt_of_cell? w _ hck
   obtain ⟨j,ej⟩:∃ j:Nat,j=(rowN m (xs.take k) % 256) ^^^ xs[k].toNat:=⟨_,rfl⟩
   have hj:j<256:=by rw [ej];exact ix_lt _ _
   have hix:bits BinOp.xor IntKind.u8 ((rowN m (xs.take k):Int) % 256) (xs[k].toNat:Int)=(j:Int):=by rw [ej];exact ix_walk _ _
   have htc:=tab_cell w j hj
   have EJ:=Lib.hid ej
   clear ej
   go_wp2_with fail
   go_round
   case rel =>
    refine ⟨k+1,by omega,by go_num,?_⟩
    rw [EJ.out,byteN_walk _ hr,rowN_snoc,List.take_append_getElem]
   case measure=>simp [intOf];omega
  ·obtain rfl:k=xs.length:=by omega
   go_wp2_with fail
   go_ret
   refine ⟨ret_eq (u32_eq ?_),(Below.refl _ _).alloc (Nat.le_refl _) _⟩
   rw [not_u32 _ (rowN_lt _ _),behindN_eq hn,← EM.out]
theorem size_tab:tab.size=256:=size_tabC 256
theorem sum_any (A:Option Addr) (cap:Nat) (xs:List UInt8) (w:World) (hx:BytesAt w A xs) (hl:xs.length≤140737488355328) :
 Calls Tryz.prog 152 #[.agg tab,.slice A xs.length cap] w fun e w'=>e=.returned (.int .u32 (sumN xs))∧Below w.heap.size w w':=by
 have hx2:BytesAt (w.alloc (.cells tab 71)) A xs:=hx.below ((Below.refl _ _).alloc (Nat.le_refl _) _)
 go_enter Tryz.func152,Tryz.ntmps152
 go_wp2_with (first
  | (refine wpList_load_row rfl 71 (.tmp 2) rfl w.heap.size rfl 71 tab (0,0) _ (heap_alloc_new _ _) Tryz.underlying71 rfl (by rw [size_tab];exact info64) ?_)
  | (go_at_call 165;refine (behind_any 0 (by omega) _ _ _ _ hx2 hl).mono ?_;rintro e w' ⟨rfl,hb⟩))
 go_ret
 exact ⟨rfl,((Below.refl _ _).alloc (Nat.le_refl _) _).trans (hb.mono (by simp))⟩
theorem sum_len (A:Option Addr) (cap n:Nat) (xs:List UInt8) (w:World) (hn:xs.length=n) (hx:BytesAt w A xs) (hl:n≤140737488355328) :
 Calls Tryz.prog 152 #[.agg tab,.slice A n cap] w fun e w'=>e=.returned (.int .u32 (sumN xs))∧Below w.heap.size w w':=by
 subst hn
 exact sum_any A cap xs w hx hl
end Go.Proofs.YtgkddhncfaeidaaGreat
namespace Go.Proofs.YtgkddhncfaeidaaGreat
open Go.RowKit
theorem infoU8:(Tryz.prog.info? 5).map (fun i=>(i.zero,i.size,i.bytes))=some (some (.int .u8 0),1,1):=by kernel_rfl
theorem ret_eq_d0 {u v:Value} (h:u=v):Ending.returned u=Ending.returned v:=by rw [h]
theorem clone_nil (w:World):Calls Tryz.prog 70 #[.slice none 0 0] w fun e w'=>e=.returned (.slice none 0 0)∧w=w':=by
 have hnil:∀ W,(binOp .eql 110 (.slice none 0 0) (.slice none 0 0)).run Tryz.prog W=.ok (.bool true) W:=fun W=>Lib.run_eql_slice_nil_nil W _ _ Tryz.underlying110
 go_enter Tryz.func70,Tryz.ntmps70
 go_wp2
 go_ret
 exact ⟨rfl,rfl⟩
theorem clone_some (A:Addr) (n c:Nat) (xs:List UInt8) (w:World) (hn:xs.length=n) (hx:BytesAt w (some A) xs) (hl:n≤140737488355328) :
 Calls Tryz.prog 70 #[.slice (some A) n c] w fun e w'=>∃ A' c',e=.returned (.slice A' n c')∧OwnS w' w.heap.size (.slice A' n c') 5 xs∧Below w.heap.size w w':=by
 have hb:Below w.heap.size w (w.alloc (.cells #[] 5)):=(Below.refl _ _).alloc (Nat.le_refl _) _
 have hown:=OwnS.new w 5 [] w.heap.size (Nat.le_refl _) (by simp)
 have hnil:∀ W,(binOp .eql 110 (.slice (some A) n c) (.slice none 0 0)).run Tryz.prog W=.ok (.bool false) W:=fun W=>Lib.run_eql_slice_some_nil W _ _ _ Tryz.underlying110
 go_enter Tryz.func70,Tryz.ntmps70
 go_wp2_with (at_builtin;refine wpList_append_s rfl (.tmp 5) (.tmp 6) 110 rfl Tryz.underlying110 infoU8 rfl hown _ _ _ xs rfl hn (hx.below hb) (by simpa using hl) (by simp) ?_;intro A' c' w1 ho1 hg1)
 go_ret
 rw [List.nil_append,hn] at *
 exact ⟨A',c',rfl,ho1,hown.belowGrown (Nat.le_refl _) (by simp) hb hg1⟩
theorem clone_any (A:Option Addr) (n c:Nat) (xs:List UInt8) (w:World) (hn:xs.length=n) (hx:BytesAt w A xs) (hl:n≤140737488355328) (h0:A=none→n=0∧c=0) :
 Calls Tryz.prog 70 #[.slice A n c] w fun e w'=>∃ A' c',e=.returned (.slice A' n c')∧OwnS w' w.heap.size (.slice A' n c') 5 xs∧Below w.heap.size w w':=by
 cases A with
 | none =>
   obtain ⟨rfl,rfl⟩:=h0 rfl
   obtain rfl:=List.eq_nil_of_length_eq_zero hn
   refine (clone_nil w).mono ?_
   rintro e w' ⟨rfl,rfl⟩
   exact ⟨none,0,rfl,OwnS.nil _ _ _,Below.refl _ _⟩
 | some a=>exact clone_some a n c xs w hn hx hl
theorem take_map_take {cur:List Value} {xs:List UInt8} (h:cur.take xs.length=xs.map bv) (k:Nat) (hk:k≤xs.length):cur.take k=(xs.take k).map bv:=by
 have:=congrArg (List.take k) h
 rw [List.take_take,Nat.min_eq_left hk] at this
 rw [this,List.map_take]
theorem own_splice {w w':World} {base g cap:Nat} {E:TypeId} {pre ys rest:List UInt8} {cur:Array Value} (hown:OwnB w base g cap E (pre ++ rest)) (hcur:w.heap[g]?=some (.cells cur E (0,0)))
 (hw':w'.heap[g]?=some (.cells (cur.toList.take pre.length ++ (ys.map bv ++ cur.toList.drop (pre.length+ys.length))).toArray E (0,0))) (hfit:ys.length≤rest.length) :
 OwnB w' base g cap E (pre ++ ys ++ rest.drop ys.length):=by
 obtain ⟨hb,hn,hm,cur',hh,hs,ht⟩:=hown.parts
 rw [hcur] at hh
 injection hh with hh
 injection hh with hh _
 subst hh
 have hsz:cur.toList.length=cap:=by simpa using hs
 have hlen:(pre ++ ys ++ rest.drop ys.length).length=(pre ++ rest).length:=by simp;omega
 simp only [List.length_append] at hn
 refine ⟨by simp,.inr ⟨g,cap,_,rfl,hb,hw',by rw [hlen];simpa using hn,hm,?_,?_⟩⟩
 ·simp;omega
 ·rw [hlen,Nat.mul_one,List.length_append]
  have h1:=take_map_take ht pre.length (by simp)
  rw [List.take_left'  rfl] at h1
  have h2:(cur.toList.drop (pre.length+ys.length)).take (rest.length - ys.length)=(rest.drop ys.length).map bv:=by
   have:=congrArg (List.drop (pre.length+ys.length)) ht
   rw [List.drop_take,List.length_append,show pre.length+rest.length - (pre.length+ys.length)=rest.length - ys.length by omega] at this
   rw [this,← List.map_drop,List.drop_append,List.drop_eq_nil_of_le (by omega),List.nil_append,show pre.length+ys.length - pre.length=ys.length by omega]
  rw [h1,List.take_append,List.take_of_length_le (by simp),List.take_append,List.take_of_length_le (by simp;omega)]
  simp only [List.length_map]
  rw [show pre.length+rest.length - pre.length - ys.length=rest.length - ys.length by omega,h2]
  simp only [List.map_append,List.append_assoc]
theorem wpList_copy_bytes {P:Program} {w:World} {ops:Array Oper} {rest:List Oper} {o:Oper} {a:Act} {Q:Exit→Act→World→Prop} (hgd:o.guard=none) (d s:Operand) (dT sT:TypeId)
 (ho:o.op=.call { callee:=.builtin .copy,args:=#[d,s],argTypes:=#[dT,sT] }) (E:TypeId) (hu:P.underlying dT=some (.slice E)) (hsz:(P.info? E).map (·.size)=some 1)
 (base g cap off L c:Nat) (A:Option Addr) (m sc:Nat) (pre tl ys:List UInt8) (hd:a.eval d=.slice (some ⟨g,off,none⟩) L c) (hs:a.eval s=.slice A m sc)
 (hoff:off=pre.length) (hown:OwnB w base g cap E (pre ++ tl)) (hy:BytesAt w A ys) (hm:ys.length=m) (hL:m≤L) (hfit:m≤tl.length)
 (h:∀ w',OwnB w' base g cap E (pre ++ ys ++ tl.drop m)→w.grownBy w' (some g)→wpList P ops Q rest (a.put o.dst (goInt (m:Int))) w'):wpList P ops Q (o :: rest) a w:=by
 subst hoff
 subst hm
 by_cases h0:ys=[]
 ·subst h0
  refine wpList_copy_nothing hgd d s dT sT ho E hu hsz _ _ L c _ sc hd hs (Nat.zero_min _) ?_
  exact h w (by simpa using hown) (World.grownBy.refl w _)
 ·obtain ⟨ad,rfl,hc⟩:=byteV_cells hy h0
  obtain ⟨hb,hn,hmx,cur,hh,hs2,ht⟩:=hown.parts
  simp only [List.length_append] at hn
  refine wpList_copy_own hgd d s dT sT ho E hu hsz g pre.length L c ad _ sc hd hs cur E hh (ys.map bv) (by rw [List.length_map];exact (Nat.min_eq_left hL).symm) hc (by simp;omega) (bv_one ys) ?_
  have hgr:w.grownBy (w.setRow g (cur.toList.take pre.length ++ (ys.map bv ++ cur.toList.drop (pre.length+(ys.map bv).length))).toArray) (some g) :=
   ⟨rfl,rfl,rfl,by simp,fun k hk hne=>setRow_other _ _ _ _ (fun e=>hne (by rw [e]))⟩
  have:=h _ (own_splice hown hh (by have:=setRow_heap w g cur (cur.toList.take pre.length ++ (ys.map bv ++ cur.toList.drop (pre.length+(ys.map bv).length))).toArray E (0,0) hh;rw [List.length_map] at this;rw [List.length_map];exact this) hfit) hgr
  rw [List.length_map]
  rw [List.length_map] at this
  exact this
def wrC (p:Nat × List UInt8):List Value:=.int .i64 (p.1:Int) :: p.2.map bv
structure Dk (w:World) (B N g gs gn:Nat) (rw:Value) (L cs cn:Nat) (st nw:List UInt8) (ws:List (Nat × List UInt8)) (on:Bool) (left:Int):Prop where
 head:w.heap[g]?=some (.cells #[.slice (some ⟨gs,0,none⟩) L cs,.slice (some ⟨gn,0,none⟩) L cn,rw,.bool on,.int .i64 left] 145 (0,0))
 stay:OwnB w B gs cs 5 st
 now:OwnB w B gn cn 5 nw
 wait:w.ownsRow B 251 65 rw ws.length (ws.flatMap wrC)
 lst:st.length=L
 lnw:nw.length=L
 gB:B≤g
 ne:gs≠gn
 gN:g<N
 sN:gs<N
 nN:gn<N
 wN:∀ k,rw.ownBlock=some k→k<N
 NN:N≤w.heap.size
 fit:∀ p ∈ ws,p.2.length=64∧64*p.1+64≤L
 lo:2048≤L
 hi:L≤131072
 pg:L % 256=0
theorem grown_setC {w w':World} {g:Nat} (h:w.grownBy w' (some g)) (i:Nat) (v:Value):w.grownBy (w'.setCell ⟨g,i,none⟩ v) (some g) :=
 ⟨h.os,h.tape,h.output,by simpa using h.size,fun k hk hne=>(Below.heap_setCell w' ⟨g,i,none⟩ v k (fun e=>hne (by rw [e]))).trans (h.block k hk hne)⟩
theorem blk_cell {w1:World} {g:Nat} {cs:Array Value} {t:TypeId} (h:w1.heap[g]?=some (.cells cs t (0,0))) (i:Nat) (v:Value) (hv:cs[i]?=some v):w1.cell? ⟨g,i,none⟩=some v:=(cell_of_row w1 g i cs t _ h).trans hv
section
variable {w w':World} {B N g gs gn L cs cn:Nat} {rw:Value} {st nw:List UInt8} {ws:List (Nat × List UInt8)} {on:Bool} {left:Int}
theorem Dk.keep (h:Dk w B N g gs gn rw L cs cn st nw ws on left) (hs:w.heap.size≤w'.heap.size) (hk:∀ k,B≤k→k<N→w'.heap[k]?=w.heap[k]?):Dk w' B N g gs gn rw L cs cn st nw ws on left :=
 { h with
   head:=(hk g h.gB h.gN).trans h.head
   stay:=h.stay.keep (hk gs h.stay.parts.1 h.sN)
   now:=h.now.keep (hk gn h.now.parts.1 h.nN)
   wait:=by
    rcases h.wait.2 with ⟨h0,h1⟩ | ⟨g',cap',cur,hv,hb,hh,hr⟩
    ·exact ⟨h.wait.1,.inl ⟨h0,h1⟩⟩
    ·exact ⟨h.wait.1,.inr ⟨g',cap',cur,hv,hb,(hk g' hb (h.wN g' (by rw [hv];rfl))).trans hh,hr⟩⟩
   NN:=Nat.le_trans h.NN hs }
theorem Dk.below (h:Dk w B N g gs gn rw L cs cn st nw ws on left) (hb:Below w.heap.size w w'):Dk w' B N g gs gn rw L cs cn st nw ws on left :=
 h.keep hb.size fun k _ hk=>hb.block k (Nat.lt_of_lt_of_le hk h.NN)
theorem refused_on (h:Dk w B N g gs gn rw L cs cn st nw ws true left) :
 Calls Tryz.prog 166 #[.pointer (some ⟨g,0,none⟩)] w fun e w'=>e=.returned (.int .i64 0)∧w=w':=by
 have c3:=blk_cell h.head 3 _ rfl
 go_enter Tryz.func166,Tryz.ntmps166
 go_wp2_with fail
 go_ret
 exact ⟨rfl,rfl⟩
theorem has_yes (h:Dk w B N g gs gn rw L cs cn st nw ws on left) (z:Int) (i:Nat) (hz:z=(i:Int)) (hi:64*i+64≤L) :
 Calls Tryz.prog 167 #[.pointer (some ⟨g,0,none⟩),.int .i64 z] w fun e w'=>e=.returned (.bool true)∧w=w':=by
 subst hz
 have c0:=blk_cell h.head 0 _ rfl
 have hl:=h.hi
 have hd:decide ((i:Int)<(L:Int) / 64)=true:=by simp;omega
 go_enter Tryz.func167,Tryz.ntmps167
 go_wp2_with fail
 all_goals go_ret
 all_goals exact ⟨rfl,rfl⟩
theorem on_any (h:Dk w B N g gs gn rw L cs cn st nw ws on left) :
 Calls Tryz.prog 148 #[.pointer (some ⟨g,0,none⟩)] w fun e w'=>e=.returned (.bool on)∧w=w':=by
 have c3:=blk_cell h.head 3 _ rfl
 go_enter Tryz.func148,Tryz.ntmps148
 go_wp2_with fail
 go_ret
 exact ⟨rfl,rfl⟩
theorem pages_any (h:Dk w B N g gs gn rw L cs cn st nw ws on left) :
 Calls Tryz.prog 67 #[.pointer (some ⟨g,0,none⟩)] w fun e w'=>e=.returned (.int .i64 ((L / 256:Nat):Int))∧w=w':=by
 have c0:=blk_cell h.head 0 _ rfl
 have hl:=h.hi
 go_enter Tryz.func67,Tryz.ntmps67
 go_wp2_with fail
 go_ret
 exact ⟨rfl,rfl⟩
theorem sector_any (b c i:Nat) (hi:64*i+64≤L) (hL:L≤131072) (hc:L≤c) (hcm:c≤maxLen) (z:Int) (hz:z=(i:Int)) :
 Calls Tryz.prog 169 #[.slice (some ⟨b,0,none⟩) L c,.int .i64 z] w fun e w'=>e=.returned (.slice (some ⟨b,64*i,none⟩) 64 (c - 64*i))∧w=w':=by
 subst hz
 unfold maxLen at hcm
 have hne:¬ c=64*i:=by omega
 go_enter Tryz.func169,Tryz.ntmps169
 go_wp2_with fail
 go_ret
 refine ⟨congrArg Ending.returned (?_:Value.slice (some ⟨b,i*64,none⟩) ((i+1)*64 - i*64) (c - i*64)=_),rfl⟩
 rw [show (i+1)*64 - i*64=64 by omega,Nat.mul_comm i 64]
end
theorem OwnS.ownB {w:World} {base n c:Nat} {A:Option Addr} {E:TypeId} {xs:List UInt8} (h:OwnS w base (.slice A n c) E xs) (hp:0<n):∃ g,A=some ⟨g,0,none⟩∧OwnB w base g c E xs∧xs.length=n:=by
 have hc:=h.caps
 rcases h.cases with ⟨h1,h2⟩ | ⟨g,cap,hv,hob⟩
 ·subst h2
  have:=hc.1
  simp at this
  omega
 ·injection hv with hv1 hv2 hv3
  subst hv1 hv3
  exact ⟨g,rfl,hob,hc.1⟩
theorem load_bad (A:Option Addr) (n c:Nat) (w:World) (h:n % 256≠0∨n<2048∨131327<n) (hn:n≤1000000) :
 Calls Tryz.prog 48 #[.slice A n c] w fun e w'=>e=.returned (.tuple #[.pointer none,.int .i64 1])∧w=w':=by
 by_cases h1:n % 256=0
 ·by_cases h2:n<2048
  ·go_enter Tryz.func48,Tryz.ntmps48
   go_wp2_with fail
   all_goals go_ret2
   all_goals exact ⟨rfl,rfl⟩
  ·go_enter Tryz.func48,Tryz.ntmps48
   go_wp2_with fail
   all_goals go_ret2
   all_goals exact ⟨rfl,rfl⟩
 ·go_enter Tryz.func48,Tryz.ntmps48
  go_wp2_with fail
  all_goals go_ret2
  all_goals exact ⟨rfl,rfl⟩
theorem load_ok (A:Option Addr) (n c:Nat) (xs:List UInt8) (w:World) (hx:BytesAt w A xs) (hl:xs.length=n) (hn:n % 256=0) (h1:2048≤n) (h2:n≤131072) (hA:A=none→n=0∧c=0) :
 Calls Tryz.prog 48 #[.slice A n c] w fun e w'=>∃ g gs gn cs cn,e=.returned (.tuple #[.pointer (some ⟨g,0,none⟩),.int .i64 0])∧Dk w' w.heap.size w'.heap.size g gs gn (.slice none 0 0) n cs cn xs xs [] true (-1)∧Below w.heap.size w w':=by
 have HX:=Lib.hid hx
 have HL:=Lib.hid hl
 have HA:=Lib.hid hA
 clear hx hl hA
 go_enter Tryz.func48,Tryz.ntmps48
 go_wp2_with (first
  | (go_at_call 70;refine (clone_any A n c xs w HL.out HX.out (by omega) HA.out).mono ?_;rintro e w1 ⟨A1,c1,rfl,ho1,hb1⟩;obtain ⟨gs,rfl,hob1,_⟩:=ho1.ownB (by omega))
  | (go_at_call 70;refine (clone_any A n c xs w1 HL.out (HX.out.below hb1) (by omega) HA.out).mono ?_;rintro e w2 ⟨A2,c2,rfl,ho2,hb2⟩;obtain ⟨gn,rfl,hob2,_⟩:=ho2.ownB (by omega)))
 go_ret2
 have hs1:=hb1.size
 have hs2:=hb2.size
 have p1:=hob1.lt
 have p2:=hob2.lt
 have q2:=hob2.parts.1
 refine ⟨w2.heap.size,gs,gn,c1,c2,rfl,?_,(hb1.trans (hb2.mono hs1)).alloc (by omega) _⟩
 exact {
  head:=heap_alloc_new _ _
  stay:=(hob1.below hb2 p1).alloc _
  now:=by
   have:=hob2.alloc (.cells #[.slice (some ⟨gs,0,none⟩) n c1,.slice (some ⟨gn,0,none⟩) n c2,.slice none 0 0,.bool true,.int .i64 (-1)] 145)
   exact OwnS.mono this hs1
  wait:=World.ownsRow_nil _ _ _ _
  lst:=HL.out
  lnw:=HL.out
  gB:=by omega
  ne:=by omega
  gN:=by simp
  sN:=by simp;omega
  nN:=by simp;omega
  wN:=fun k hk=>by cases hk
  NN:=Nat.le_refl _
  fit:=fun p hp=>by cases hp
  lo:=h1
  hi:=h2
  pg:=hn }
section
variable {w w':World} {B N g gs gn L cs cn:Nat} {rw:Value} {st nw:List UInt8} {ws:List (Nat × List UInt8)} {on:Bool} {left:Int}
theorem BytesAt.mid {b:Nat} {xs:List UInt8} (h:BytesAt w (some ⟨b,0,none⟩) xs) (o n:Nat):BytesAt w (some ⟨b,o,none⟩) ((xs.drop o).take n) :=
 (h.cut o (some ⟨b,o,none⟩) (fun _=>by rw [Option.map_some];congr 1;unfold Addr.add;split <;> simp_all)).take n
theorem read_ok (h:Dk w B N g gs gn rw L cs cn st nw ws true left) (z:Int) (i:Nat) (hz:z=(i:Int)) (hi:64*i+64≤L) :
 Calls Tryz.prog 156 #[.pointer (some ⟨g,0,none⟩),.int .i64 z] w fun e w'=>∃ A c,e=.returned (.tuple #[.slice A 64 c,.int .i64 0])∧OwnS w' w.heap.size (.slice A 64 c) 5 ((nw.drop (64*i)).take 64)∧Below w.heap.size w w':=by
 subst hz
 have c1:=blk_cell h.head 1 _ rfl
 have hl:=h.hi
 obtain ⟨_,hcn,hcm,_⟩:=h.now.parts
 rw [h.lnw] at hcn
 have H:=Lib.hid h
 have hby:=Lib.hid (BytesAt.mid h.now.bytes (64*i) 64)
 have hln:Hid (((nw.drop (64*i)).take 64).length=64):=Lib.hid (by simp [h.lnw];omega)
 clear h
 go_enter Tryz.func156,Tryz.ntmps156
 go_wp2_with (first
  | (go_at_call 166;refine (refused_on H.out).mono ?_;rintro e w1 ⟨rfl,rfl⟩)
  | (go_at_call 167;refine (has_yes H.out _ i rfl hi).mono ?_;rintro e w1 ⟨rfl,rfl⟩)
  | (go_at_call 169;refine (sector_any gn cn i hi hl hcn hcm _ rfl).mono ?_;rintro e w1 ⟨rfl,rfl⟩)
  | (go_at_call 70;refine (clone_any _ 64 _ _ _ hln.out hby.out (by omega) (fun h=>by cases h)).mono ?_;rintro e w1 ⟨A1,c1,rfl,ho1,hb1⟩))
 go_ret2
 exact ⟨A1,c1,rfl,ho1,hb1⟩
end
section
variable {w w':World} {B N g gs gn L cs cn:Nat} {rw:Value} {st nw:List UInt8} {ws:List (Nat × List UInt8)} {on:Bool} {left:Int}
theorem Dk.with (h:Dk w B N g gs gn rw L cs cn st nw ws on left) (on':Bool) (left':Int) (hs:w.heap.size=w'.heap.size) (hk:∀ k,k≠g→w'.heap[k]?=w.heap[k]?)
 (hg:w'.heap[g]?=some (.cells #[.slice (some ⟨gs,0,none⟩) L cs,.slice (some ⟨gn,0,none⟩) L cn,rw,.bool on',.int .i64 left'] 145 (0,0))) :
 Dk w' B N g gs gn rw L cs cn st nw ws on' left':=by
 have hgs:gs≠g:=by
  intro e
  obtain ⟨_,_,_,cur,hh,_⟩:=h.stay.parts
  rw [e,h.head] at hh
  simp at hh
 have hgn:gn≠g:=by
  intro e
  obtain ⟨_,_,_,cur,hh,_⟩:=h.now.parts
  rw [e,h.head] at hh
  simp at hh
 exact { h with
  head:=hg
  stay:=h.stay.keep (hk gs hgs)
  now:=h.now.keep (hk gn hgn)
  wait:=by
   rcases h.wait.2 with ⟨h0,h1⟩ | ⟨g',cap',cur,hv,hb,hh,hr⟩
   ·exact ⟨h.wait.1,.inl ⟨h0,h1⟩⟩
   ·refine ⟨h.wait.1,.inr ⟨g',cap',cur,hv,hb,(hk g' ?_).trans hh,hr⟩⟩
    intro e
    rw [e,h.head] at hh
    simp at hh
  NN:=by rw [← hs];exact h.NN }
def stepped (left:Int):Int:=if 0<left then left - 1 else left
theorem step_yes (h:Dk w B N g gs gn rw L cs cn st nw ws true left) (hne:left≠0) (hl:-1≤left) (hm:left≤9223372036854775807) (l':Int) (hl':stepped left=l') :
 Calls Tryz.prog 168 #[.pointer (some ⟨g,0,none⟩)] w fun e w'=>e=.returned (.bool true)∧Dk w' B N g gs gn rw L cs cn st nw ws true l'∧w.grownBy w' (some g)∧w'.heap.size=w.heap.size:=by
 have c4:=blk_cell h.head 4 _ rfl
 have f4:w.frozen? ⟨g,4,none⟩=false:=by simp [World.frozen?,h.head]
 have hz:(left == 0)=false:=by simp [hne]
 unfold stepped at hl'
 by_cases hp:0<left
 ·rw [if_pos hp] at hl'
  subst hl'
  go_enter Tryz.func168,Tryz.ntmps168
  go_wp2_with fail
  go_ret
  exact ⟨rfl,h.with true (left - 1) (by simp) (fun k hk=>Below.heap_setCell w ⟨g,4,none⟩ _ k hk) ((heap_setCell_same w g 4 _ _ _ h.head).trans rfl),grown_setC (World.grownBy.refl w _) 4 _,by simp⟩
 ·rw [if_neg hp] at hl'
  subst hl'
  go_enter Tryz.func168,Tryz.ntmps168
  go_wp2_with fail
  go_ret
  exact ⟨rfl,h,World.grownBy.refl w _,rfl⟩
end
section
variable {w w':World} {B N g gs gn L cs cn:Nat} {rw:Value} {st nw:List UInt8} {ws:List (Nat × List UInt8)} {on:Bool} {left:Int}
def putAt (nw:List UInt8) (i:Nat) (bs:List UInt8):List UInt8:=nw.take (64*i) ++ bs ++ (nw.drop (64*i)).drop 64
theorem length_putAt {i:Nat} {bs:List UInt8} (hi:64*i+64≤nw.length) (hb:bs.length=64):(putAt nw i bs).length=nw.length:=by
 unfold putAt
 simp only [List.length_append,List.length_take,List.length_drop]
 omega
theorem infoWr:(Tryz.prog.info? 251).map (fun i=>(i.zero,i.size,i.bytes))=some (some (.agg (.int .i64 0 :: List.replicate 64 (.int .u8 0)).toArray),65,72):=by kernel_rfl
theorem splice_wr (i:Nat) (bs:List UInt8) (hb:bs.length=64):splice (Value.int .i64 (i:Int) :: List.replicate 64 (.int .u8 0)) 1 (bs.map bv)=wrC (i,bs):=by
 unfold splice wrC
 rw [List.length_map,hb]
 simp
theorem fill_wr (C cells:Array Value) (hC:C.size=65) (hn:cells.size=65):Instr.fill (fun i=>some (i*65,65)) cells [(0,.agg C)]=some C:=by
 have:=Great.fill_whole (s:=65) (by omega) [.agg C] cells (fun v hv=>by simp at hv;subst hv;exact hC) (by simp [hn])
 simpa [Value.cells] using this
theorem wrC_one (p:Nat × List UInt8):∀ u ∈ wrC p,u.oneCell'=true:=by
 intro u hu
 rcases List.mem_cons.1 hu with rfl | h
 ·rfl
 ·exact bv_one _ u h
theorem own_form {w:World} {base sz n:Nat} {v:Value} {E:TypeId} {us:List Value} (h:w.ownsRow base E sz v n us):∃ A c,v=.slice A n c:=by
 rcases h.2 with ⟨rfl,rfl⟩ | ⟨g,cap,cur,rfl,_⟩
 ·exact ⟨none,0,rfl⟩
 ·exact ⟨_,_,rfl⟩
theorem below_setC' {B:Nat} {w:World} {g i:Nat} {v:Value} (hB:B≤w.heap.size) (hg:B≤g):Below B w (w.setCell ⟨g,i,none⟩ v) :=
 ⟨rfl,rfl,rfl,by simp,fun k hk=>Below.heap_setCell w ⟨g,i,none⟩ v k (fun e=>by simp at e;omega)⟩
theorem Dk.blk (h:Dk w B N g gs gn rw L cs cn st nw ws on left):∀ k,rw.ownBlock=some k→B≤k:=by
 intro k hk
 rcases h.wait.2 with ⟨h0,h1⟩ | ⟨g',cap',cur,hv,hb,_⟩
 ·rw [h0] at hk;simp [Value.ownBlock] at hk
 ·rw [hv] at hk;simp [Value.ownBlock] at hk;omega
theorem Dk.setNow {nw2:List UInt8} (h:Dk w B N g gs gn rw L cs cn st nw ws on left) (hg:w.grownBy w' (some gn)) (ho:OwnB w' B gn cn 5 nw2) (hl:nw2.length=L) :
 Dk w' B w'.heap.size g gs gn rw L cs cn st nw2 ws on left:=by
 obtain ⟨_,_,_,c2,hh2,_⟩:=h.now.parts
 have gnn:g≠gn:=by
  intro e
  rw [← e,h.head] at hh2
  simp at hh2
 have hs:=hg.size
 have hN:=h.NN
 exact { h with
  head:=(hg.block g (Array.getElem?_eq_some_iff.1 h.head).1 (fun e=>gnn (by injection e))).trans h.head
  stay:=h.stay.keep (hg.block gs h.stay.lt (fun e=>h.ne (by injection e)))
  now:=ho
  wait:=by
   rcases h.wait.2 with ⟨h0,h1⟩ | ⟨g',cap',cur,hv,hb,hh,hr⟩
   ·exact ⟨h.wait.1,.inl ⟨h0,h1⟩⟩
   ·refine ⟨h.wait.1,.inr ⟨g',cap',cur,hv,hb,(hg.block g' (Array.getElem?_eq_some_iff.1 hh).1 ?_).trans hh,hr⟩⟩
    intro e
    injection e with e
    rw [e,hh2] at hh
    simp at hh
  lnw:=hl
  gN:=by have:=h.gN;omega
  sN:=by have:=h.sN;omega
  nN:=by have:=h.nN;omega
  wN:=fun k hk=>by have:=h.wN k hk;omega
  NN:=Nat.le_refl _ }
theorem Dk.more {rw2:Value} {i:Nat} {bs:List UInt8} (h:Dk w B N g gs gn rw L cs cn st nw ws on left) (hg:w.grownBy w' rw.ownBlock) (ho:w'.ownsRow B 251 65 rw2 (ws.length+1) (ws.flatMap wrC ++ wrC (i,bs)))
 (how:rw2.ownBlock=rw.ownBlock∨rw2.ownBlock=some w.heap.size) (hbl:bs.length=64) (hi:64*i+64≤L) :
 w'.heap[g]?=some (.cells #[.slice (some ⟨gs,0,none⟩) L cs,.slice (some ⟨gn,0,none⟩) L cn,rw,.bool on,.int .i64 left] 145 (0,0)) ∧
 Dk (w'.setCell ⟨g,2,none⟩ rw2) B (w'.setCell ⟨g,2,none⟩ rw2).heap.size g gs gn rw2 L cs cn st nw (ws ++ [(i,bs)]) on left:=by
 have hrt:∀ k,rw.ownBlock=some k→∃ cur,w.heap[k]?=some (.cells cur 251 (0,0)):=by
  intro k hk
  rcases h.wait.2 with ⟨h0,h1⟩ | ⟨g',cap',cur,hv,hb,hh,_⟩
  ·rw [h0] at hk;simp [Value.ownBlock] at hk
  ·rw [hv] at hk;simp [Value.ownBlock] at hk;subst hk;exact ⟨_,hh⟩
 have ne1:∀ k t cur,w.heap[k]?=some (.cells cur t (0,0))→t≠251→some k≠rw.ownBlock:=by
  intro k t cur hk ht e
  obtain ⟨cur2,h2⟩:=hrt k e.symm
  rw [hk] at h2
  simp at h2
  exact ht h2.2
 obtain ⟨_,_,_,c1,hh1,_⟩:=h.stay.parts
 obtain ⟨_,_,_,c2,hh2,_⟩:=h.now.parts
 have a0:=(hg.block g (Array.getElem?_eq_some_iff.1 h.head).1 (ne1 g _ _ h.head (by decide))).trans h.head
 have e1:=hg.block gs (Array.getElem?_eq_some_iff.1 hh1).1 (ne1 gs _ _ hh1 (by decide))
 have e2:=hg.block gn (Array.getElem?_eq_some_iff.1 hh2).1 (ne1 gn _ _ hh2 (by decide))
 have gsn:gs≠g:=by
  intro e
  rw [e,h.head] at hh1
  simp at hh1
 have gnn:gn≠g:=by
  intro e
  rw [e,h.head] at hh2
  simp at hh2
 have hs:=hg.size
 have hN:=h.NN
 refine ⟨a0,?_⟩
 have hlen:(ws ++ [(i,bs)]).length=ws.length+1:=by simp
 exact {
  head:=(heap_setCell_same w' g 2 _ _ _ a0).trans rfl
  stay:=(h.stay.keep e1).keep (Below.heap_setCell w' ⟨g,2,none⟩ rw2 gs gsn)
  now:=(h.now.keep e2).keep (Below.heap_setCell w' ⟨g,2,none⟩ rw2 gn gnn)
  wait:=by
   rw [hlen,List.flatMap_append,List.flatMap_singleton]
   rcases ho.2 with ⟨h0,h1⟩ | ⟨g',cap',cur,hv,hb,hh,hr⟩
   ·omega
   ·refine ⟨ho.1,.inr ⟨g',cap',cur,hv,hb,(Below.heap_setCell w' ⟨g,2,none⟩ rw2 g' ?_).trans hh,hr⟩⟩
    intro e
    simp at e
    rw [e,a0] at hh
    simp at hh
  lst:=h.lst
  lnw:=h.lnw
  gB:=h.gB
  ne:=h.ne
  gN:=by have:=h.gN;simp;omega
  sN:=by have:=h.sN;simp;omega
  nN:=by have:=h.nN;simp;omega
  wN:=fun k hk=>by
   rcases ho.2 with ⟨h0,h1⟩ | ⟨g',cap',cur,hv,hb,hh,hr⟩
   ·omega
   ·rw [hv] at hk
    simp [Value.ownBlock] at hk
    subst hk
    simpa using (Array.getElem?_eq_some_iff.1 hh).1
  NN:=Nat.le_refl _
  fit:=fun p hp=>by
   rcases List.mem_append.1 hp with hp | hp
   ·exact h.fit p hp
   ·simp at hp;subst hp;exact ⟨hbl,hi⟩
  lo:=h.lo
  hi:=h.hi
  pg:=h.pg }
end
end Go.Proofs.YtgkddhncfaeidaaGreat
