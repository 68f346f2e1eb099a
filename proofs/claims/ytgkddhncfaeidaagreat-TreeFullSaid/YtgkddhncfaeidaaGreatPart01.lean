/- Squeezed: the texts as they are written lie in wip/tpl. -/
import Derived.Test.YtgkddhncfaeidaaGreatChecked
import Derived.Test.YtgkddhncfaeidaaGreatPart00
import Derived.Lib.MinMax
import Derived.Lib.SlBytesConst
import Derived.Lib.BufferMore
import Derived.KernelRfl
import Derived.Handy
import Derived.WalkSpells
import Derived.WalkLawsBesides
import Derived.OrdersHeld
import Derived.Deep.RegionHeld3
import Derived.Deep.MidRow
set_option maxRecDepth 100000
set_option maxHeartbeats 4000000
set_option linter.unusedSimpArgs false
set_option linter.unusedVariables false
namespace Go.Proofs.YtgkddhncfaeidaaGreat
open Go.RowKit CrcM PageM
theorem infoB:(Tryz.prog.info? 5).map (fun i=>(i.zero,i.size,i.bytes))=some (some (.int .u8 0),1,1):=by kernel_rfl
theorem nd_byte (n t:Nat):((n:Int) / 2 ^ (8*t)) % 256=((UInt8.ofNat (n / 256 ^ t)).toNat:Int):=by
 rw [UInt8.toNat_ofNat',show (256:Nat) ^ t=2 ^ (8*t) by rw [show (256:Nat)=2 ^ 8 from rfl,← Nat.pow_mul]]
 simp
theorem putHigh_nd (B len:Nat) (A:Option Addr) (c:Nat) (xs:List UInt8) (w:World) (hlen:xs.length=len) (ho:OwnS w B (.slice A len c) 5 xs) (hB:B≤w.heap.size) (z:Int) (s:Nat) (hz:z=(s:Int)) (hs:s≤8) (n:Nat) (hn:n<18446744073709551616) (hl:len≤1000000) :
 Calls Tryz.prog 116 #[.slice A len c,.int .i64 z,.int .u64 n] w fun e w'=>∃ A' c',e=.returned (.slice A' (len+s) c')∧OwnS w' B (.slice A' (len+s) c') 5 (xs ++ be n s)∧w.grownBy w' (Value.slice A len c).ownBlock∧Moved w (Value.slice A len c).ownBlock (Value.slice A' (len+s) c').ownBlock:=by
 subst hz hlen
 obtain ⟨r0,hr0⟩:∃ r0,r0=(Value.slice A xs.length c).ownBlock:=⟨_,rfl⟩
 rw [← hr0]
 have HR:=Lib.hid hr0
 clear hr0
 go_enter Tryz.func116,Tryz.ntmps116
 go_wp2_with fail
 go_loopw [0,7] (fun v i wr=>∃ (t:Nat) (done:List UInt8) (A1:Option Addr) (c1:Nat),t≤s∧done ++ be n t=be n s∧i=.int .i64 ((t:Int) - 1)∧v=.slice A1 (xs ++ done).length c1∧OwnS wr B (.slice A1 (xs ++ done).length c1) 5 (xs ++ done)∧w.grownBy wr r0∧Moved w r0 (Value.slice A1 (xs ++ done).length c1).ownBlock) (fun _ i _=>(intOf i+1).toNat)
 case atStart=>exact ⟨s,[],A,c,Nat.le_refl _,rfl,rfl,by rw [List.append_nil],by rw [List.append_nil];exact ho,World.grownBy.refl w _,.inl (by rw [List.append_nil];exact HR.out.symm)⟩
 case round =>
  obtain ⟨t,done,A1,c1,ht,hd,rfl,rfl,hor,hg,hm⟩:=hrel
  cases t with
  | succ t =>
    have e1:((t+1:Nat):Int) - 1=(t:Int):=by omega
    rw [e1]
    have hdl:(xs ++ done).length+1≤140737488355328:=by
     have h1:=congrArg List.length hd
     simp [length_be] at h1 ⊢
     omega
    have hy:=Lib.hid (nd_byte n t)
    have HD:=Lib.hid hd
    clear hd e1
    go_wp2_with (at_builtin;refine wpList_append_s2' rfl (.tmp 14) (.tmp 20) 110 rfl Tryz.underlying110 infoB rfl (hor.alloc _) _ _ 1 [UInt8.ofNat (n / 256 ^ t)] rfl rfl (bytesAt_one _ _ _ _ hy.out) hdl (by have:=hg.size;simp;omega) ?_;intro A3 c3 w3 ho3 hg3 how3)
    go_roundw
    case rel =>
     refine ⟨t,done ++ [UInt8.ofNat (n / 256 ^ t)],A3,c3,by omega,?_,rfl,?_,?_,grown_chain' hg _ hm hg3,?_⟩
     ·rw [← HD.out,be_cons,List.append_assoc];rfl
     ·rw [← List.append_assoc];simp
     ·rw [← List.append_assoc];exact ho3
     ·rw [← List.append_assoc];exact own_chain' hg.size _ hm how3
    case measure=>simp [intOf]
  | zero =>
    go_wp2_with fail
    go_ret
    have hd2:done=be n s:=by rw [← hd];simp [be]
    have e3:(xs ++ be n s).length=xs.length+s:=by simp [length_be]
    refine ⟨A1,c1,by rw [hd2,e3];rfl,by rw [← e3,← hd2];exact hor,hg,by rw [← e3,← hd2];exact hm⟩
theorem putKey_nd (B len:Nat) (A:Option Addr) (c:Nat) (xs:List UInt8) (w:World) (hlen:xs.length=len) (ho:OwnS w B (.slice A len c) 5 xs) (hB:B≤w.heap.size) (s t:Int) (n m:Nat) (hn:IntKind.u64.wrap s=(n:Int)) (hm:IntKind.u64.wrap t=(m:Int)) (hn2:n<18446744073709551616) (hm2:m<18446744073709551616) (hl:len≤100000) :
 Calls Tryz.prog 115 #[.slice A len c,.agg #[.int .i64 s,.int .i64 t]] w fun e w'=>∃ A' c',e=.returned (.slice A' (len+12) c')∧OwnS w' B (.slice A' (len+12) c') 5 (xs ++ be n 4 ++ be m 8)∧w.grownBy w' (Value.slice A len c).ownBlock∧Moved w (Value.slice A len c).ownBlock (Value.slice A' (len+12) c').ownBlock:=by
 have HN:=Lib.hid hn
 have HM:=Lib.hid hm
 have HL:=Lib.hid hlen
 clear hn hm hlen
 go_enter Tryz.func115,Tryz.ntmps115
 have hne:(Value.slice A len c).ownBlock≠some w.heap.size:=fun h=>by have:=(ho.block _ h).2;omega
 go_wp2_with (first
  | (go_at_call 116;rw [HN.out];refine (putHigh_nd B len A c xs _ HL.out (ho.alloc _) (by simp;omega) 4 4 rfl (by omega) n hn2 (by omega)).mono ?_;rintro e w1 ⟨A1,c1,rfl,ho1,hg1,hm1⟩;have hblk:=(hg1.block w.heap.size (by simp) (fun h=>hne h.symm)).trans (heap_alloc_new w _);have k1:w1.cell? ⟨w.heap.size,1,none⟩=some (.int .i64 t):=(cell_of_row w1 w.heap.size 1 _ _ _ hblk).trans rfl;have hs1:=hg1.size)
  | (go_at_call 116;rw [HM.out];refine (putHigh_nd B (len+4) A1 c1 (xs ++ be n 4) _ (by rw [List.length_append,HL.out,length_be]) ho1 (by simp at hs1;omega) 8 8 rfl (by omega) m hm2 (by omega)).mono ?_;rintro e w2 ⟨A2,c2,rfl,ho2,hg2,hm2'⟩))
 go_ret
 refine ⟨A2,c2,rfl,ho2,grown_trans ((grown_alloc w _ _).trans' hg1) hm1.of_alloc hg2,?_⟩
 exact hm1.of_alloc.trans (by simp at hs1;omega) hm2'
end Go.Proofs.YtgkddhncfaeidaaGreat
namespace Go.Proofs.YtgkddhncfaeidaaGreat
open Go.RowKit
def softB (o:Oper):Bool:=match o.op with
 | .move _ | .assign _ | .pick _ _ _ | .load _ _ | .binOp _ _ _ _ _ | .unOp _ _ _ | .convert _ _ _ | .slice _ _ _ _ _ | .fieldAddr _ _ _ | .field _ _ _ | .indexAddr _ _ _ | .index _ _ _ | .extract _ _=>true
 | .call c=>match c.callee with
   | .builtin .len | .builtin .cap | .builtin .min | .builtin .max=>true
   | _=>false
 | _=>false
theorem andThen_value {m:Result Value} {n:Next} {w':World} (h:(m.andThen fun a w=>Result.ok (Next.value a) w)=.ok n w'):∃ u,n=.value u:=by
 cases m with
 | ok v w=>simp [Result.andThen] at h;exact ⟨v,h.1.symm⟩
 | halt x w=>simp [Result.andThen] at h
theorem soft_value {P:Program} {o:Oper} (hs:softB o=true) {ρ:Operand→Value} {w w':World} {n:Next} (h:(execOp ρ o).run P w=.ok n w'):∃ u,n=.value u:=by
 obtain ⟨dst,op,type,pos,after,guard⟩:=o
 cases op <;> simp only [softB,Bool.false_eq_true] at hs <;> simp only [execOp,Sem.run_bind,Sem.run_pure] at h
 case move=>exact ⟨_,by injection h with h1;exact h1.symm⟩
 case assign=>exact ⟨_,by injection h with h1;exact h1.symm⟩
 case call c =>
  obtain ⟨callee,args,argTypes⟩:=c
  cases callee with
  | builtin b =>
    cases b <;> simp only [Bool.false_eq_true] at hs <;> simp only [resolve,invoke,builtin,Sem.run_bind,Sem.run_pure,Result.andThen_ok] at h <;> exact andThen_value h
  | _=>simp only [Bool.false_eq_true] at hs
 case pick c a b =>
  generalize (asBool _).run P w=m at h
  cases m with
  | ok v w2=>simp [Result.andThen] at h;exact ⟨_,h.1.symm⟩
  | halt x w2=>simp [Result.andThen] at h
 all_goals exact andThen_value h
section
variable {P:Program} {ops:Array Oper} {md:Region.Mode} {S:World→Prop}
def opAt (ops:Array Oper) (i:Nat):Oper:=(ops[i]?).getD ⟨none,.move (.const undef),0,"",#[],none⟩
theorem opAt_some {i:Nat} (h:i<ops.size):ops[i]?=some (opAt ops i):=by
 unfold opAt
 rw [Array.getElem?_eq_getElem h]
 rfl
def softs (md:Region.Mode) (ops:Array Oper):List Nat→Array Bool→Option (Array Bool)
 | [],listed=>some listed
 | i :: r,listed=>if (decide (i<ops.size) && softB (opAt ops i) && Region.free md ops listed i && (Region.ready md ops listed).contains i)=true then softs md ops r (listed.setIfInBounds i true) else none
theorem softs_take {Q:Exit→Act→World→Prop} {K:Act→Prop} (hsel:Region.noSelect ops=true) {fuel:Nat} {l':Array Bool} {w:World} (hS:S w) (hK:∀ a,K a→wpAnyH P md ops (NoPanic Q) S fuel l' a w) :
 ∀ (qs:List Nat) (listed:Array Bool) (a:Act),softs md ops qs listed=some l'→wpQuiet P ops S K (qs.map (opAt ops)) a→wpAnyH P md ops (NoPanic Q) S (qs.length+fuel) listed a w
 | [],listed,a,h,hq=>by
   simp only [softs,Option.some.injEq] at h
   subst h
   rw [List.length_nil,Nat.zero_add]
   exact hK a hq
 | i :: r,listed,a,h,hq=>by
   simp only [softs] at h
   split at h
   ·rename_i hc
    simp only [Bool.and_eq_true,decide_eq_true_eq] at hc
    obtain ⟨⟨⟨h1,h2⟩,h3⟩,h4⟩:=hc
    have ho:=opAt_some h1
    rw [List.length_cons,show r.length+1+fuel=(r.length+fuel)+1 by omega]
    simp only [List.map_cons,wpQuiet] at hq
    split at hq
    ·rename_i hw
     obtain ⟨v,hv,hn⟩:=hq
     refine wpAnyH_take ho hsel h3 h4 (fun _ _ _ h=>h) (v:=v) (.inl ⟨hw,fun w2 hw2=>?_⟩) hS (softs_take hsel hS hK r _ _ h hn)
     have hv2:=hv w2 hw2
     unfold Oper.quietAt at hv2
     generalize hr:(execOp a.eval (opAt ops i)).run P w2=x at hv2
     cases x with
     | ok n w3 =>
       obtain ⟨u,rfl⟩:=soft_value h2 hr
       obtain ⟨rfl,rfl⟩:=hv2
       rfl
     | halt x w3=>exact hv2.elim
    ·rename_i hw
     exact wpAnyH_take ho hsel h3 h4 (fun _ _ _ h=>h) (v:=undef) (.inr ⟨by simpa using hw,rfl⟩) hS (softs_take hsel hS hK r _ _ h hq)
   ·cases h
def blB (md:Region.Mode) (ops:Array Oper):List (List Nat × Nat)→List Nat→Array Bool→Bool
 | [],last,listed=>match softs md ops last listed with
   | some l'=>(Region.ready md ops l').isEmpty
   | none=>false
 | (qs,h) :: r,last,listed=>match softs md ops qs listed with
   | some l'=>decide (Region.ready md ops l'=[h]) && blB md ops r last (l'.setIfInBounds h true)
   | none=>false
def blN:List (List Nat × Nat)→List Nat→Nat
 | [],last=>last.length
 | (qs,_) :: r,last=>qs.length+(blN r last+1)
def wpBl (P:Program) (ops:Array Oper) (Q:Exit→Act→World→Prop) (S:World→Prop):List (List Nat × Nat)→List Nat→Act→World→Prop
 | [],last,a,w=>wpQuiet P ops S (fun a'=>Q .normal a' w) (last.map (opAt ops)) a
 | (qs,h) :: r,last,a,w=>wpQuiet P ops S (fun a'=>wpList P ops (Exit.then (fun a2 w2=>S w2∧wpBl P ops Q S r last a2 w2) (NoPanic Q)) [opAt ops h] a' w) (qs.map (opAt ops)) a
theorem wpBl_cons {Q:Exit→Act→World→Prop} {qs:List Nat} {h:Nat} {r:List (List Nat × Nat)} {last:List Nat} {a:Act} {w:World} :
 wpBl P ops Q S ((qs,h) :: r) last a w=wpQuiet P ops S (fun a'=>wpList P ops (Exit.then (fun a2 w2=>S w2∧wpBl P ops Q S r last a2 w2) (NoPanic Q)) [opAt ops h] a' w) (qs.map (opAt ops)) a:=rfl
theorem wpBl_nil {Q:Exit→Act→World→Prop} {last:List Nat} {a:Act} {w:World}:wpBl P ops Q S [] last a w=wpQuiet P ops S (fun a'=>Q .normal a' w) (last.map (opAt ops)) a:=rfl
theorem wpAnyH_of_bl {Q:Exit→Act→World→Prop} (hsel:Region.noSelect ops=true) :
 ∀ (bl:List (List Nat × Nat)) (last:List Nat) (listed:Array Bool) (a:Act) (w:World),S w→blB md ops bl last listed=true→wpBl P ops Q S bl last a w→wpAnyH P md ops (NoPanic Q) S (blN bl last) listed a w
 | [],last,listed,a,w,hS,hB,h=>by
   simp only [blB] at hB
   split at hB
   ·rename_i l' hl
    have hr:Region.ready md ops l'=[]:=by simpa using hB
    have:=softs_take (P:=P) (Q:=Q) (K:=fun a'=>Q .normal a' w) (fuel:=0) hsel hS (fun a' ha=>wpAnyH_done hr (NoPanic.normal ha) 0) last listed a hl h
    simpa [blN] using this
   ·cases hB
 | (qs,i) :: r,last,listed,a,w,hS,hB,h=>by
   simp only [blB] at hB
   split at hB
   ·rename_i l' hl
    simp only [Bool.and_eq_true,decide_eq_true_eq] at hB
    obtain ⟨hr,hB2⟩:=hB
    have hi:i<ops.size:=by
     have:i ∈ Region.ready md ops l':=by rw [hr];simp
     obtain ⟨_,o,ho,_⟩:=mem_ready.1 this
     exact (Array.getElem?_eq_some_iff.1 ho).1
    refine softs_take (fuel:=blN r last+1) hsel hS (fun a' ha=>?_) qs listed a hl h
    refine wpAnyH_all hr (by simp) fun j hj=>?_
    obtain rfl:j=i:=by simpa using hj
    unfold wpOp
    rw [opAt_some hi]
    simp only [wpList] at ha
    have key:∀ a2 w2,Exit.then (fun a2 w2=>S w2∧wpBl P ops Q S r last a2 w2) (NoPanic Q) .normal a2 w2→S w2∧wpAnyH P md ops (NoPanic Q) S (blN r last) (l'.setIfInBounds j true) a2 w2 :=
     fun a2 w2 h2=>⟨h2.1,wpAnyH_of_bl hsel r last _ a2 w2 h2.1 hB2 h2.2⟩
    simp only
    split at ha
    ·rename_i hw
     rw [if_pos hw]
     rcases ha with ha | ⟨h1,h2⟩
     ·left
      unfold Oper.wp at *
      generalize (execOp a'.eval (opAt ops j)).run P w=x at *
      cases x with
      | ok n w3 =>
        cases n <;> simp only [Oper.upon] at ha ⊢
        case value u=>exact key _ _ ha
        case skip=>exact key _ _ ha
        case defer d=>exact key _ _ ha
        case enter f args =>
         refine Calls.mono ha fun e w'' he=>?_
         cases e with
         | returned u=>exact key _ _ he
         | panicked c=>exact he
         | outgrown=>exact he
        case row row args=>exact Rows.mono ha fun u w'' he=>key _ _ he
      | halt x w3=>cases x <;> simp only [Oper.upon] at ha ⊢ <;> exact ha
     ·right
      exact ⟨h1,h2⟩
    ·rename_i hw
     rw [if_neg hw]
     exact key _ _ ha
   ·cases hB
def blOK (ops:Array Oper) (bl:List (List Nat × Nat)) (last:List Nat):Bool :=
 Region.noSelect ops && decide (blN bl last=ops.size) && blB .any ops bl last (Array.replicate ops.size false)
theorem region_bl {id:Nat} {Q:Exit→Act→World→Prop} {a:Act} {w:World} (bl:List (List Nat × Nat)) (last:List Nat) (S:World→Prop) (hm:P.follows .mixedOrders=true) (hB:blOK ops bl last=true) (hS:S { w with drawn:=w.drawn+1 })
 (h:wpBl P ops Q S bl last a { w with drawn:=w.drawn+1 }):(Code.region id ops true).wp P Q a w:=by
 simp only [blOK,Bool.and_eq_true,decide_eq_true_eq] at hB
 obtain ⟨⟨h1,h2⟩,h3⟩:=hB
 refine wp_region_noPanic (wp_region_held (S:=S) hm ?_)
 have:=wpAnyH_of_bl (P:=P) (Q:=Q) (S:=S) (md:=.any) h1 bl last _ a _ hS h3 h
 rwa [h2] at this
theorem region_bl' {id:Nat} {Q:Exit→Act→World→Prop} {a:Act} {w:World} (bl:List (List Nat × Nat)) (last:List Nat) (S:World→Prop) (hm:P.follows .mixedOrders=true) (hB:blOK ops bl last=true)
 (hS:∀ w',Below w.heap.size w w'→S w') (h:∀ w',Below w.heap.size w w'→w'.heap=w.heap→wpBl P ops Q S bl last a w'):(Code.region id ops true).wp P Q a w :=
 region_bl bl last S hm hB (hS _ (below_drewN (Below.refl _ _) 1)) (h _ (below_drewN (Below.refl _ _) 1) rfl)
theorem region_overB {id:Nat} {Q:Exit→Act→World→Prop} {a:Act} {w:World} (B:Nat) (hBw:B≤w.heap.size) (bl:List (List Nat × Nat)) (last:List Nat) (hm:P.follows .mixedOrders=true) (hB:blOK ops bl last=true)
 (h:∀ w',Below w.heap.size w w'→wpBl P ops Q (fun w'=>∃ x:SubW B w,w'=x.at_) bl last a w'):(Code.region id ops true).wp P Q a w :=
 region_bl' bl last _ hm hB (fun w' hw=>⟨⟨w',hw.mono hBw⟩,rfl⟩) (fun w' hw _=>h w' hw)
end
section
variable {P:Program} {ops:Array Oper} {md:Region.Mode} {S:World→Prop}
theorem wpOp_of_one {Q:Exit→Act→World→Prop} {K K':Act→World→Prop} {j:Nat} {a:Act} {w:World} (hj:j<ops.size) (hK:∀ a2 w2,K a2 w2→K' a2 w2)
 (ha:wpList P ops (Exit.then K (NoPanic Q)) [opAt ops j] a w):wpOp P ops (NoPanic Q) j K' a w:=by
 unfold wpOp
 rw [opAt_some hj]
 simp only [wpList] at ha
 have key:∀ a2 w2,Exit.then K (NoPanic Q) .normal a2 w2→K' a2 w2:=fun a2 w2 h2=>hK _ _ h2
 simp only
 split at ha
 ·rename_i hw
  rw [if_pos hw]
  rcases ha with ha | ⟨h1,h2⟩
  ·left
   unfold Oper.wp at *
   generalize (execOp a.eval (opAt ops j)).run P w=x at *
   cases x with
   | ok n w3 =>
     cases n <;> simp only [Oper.upon] at ha ⊢
     case value u=>exact key _ _ ha
     case skip=>exact key _ _ ha
     case defer d=>exact key _ _ ha
     case enter f args =>
      refine Calls.mono ha fun e w'' he=>?_
      cases e with
      | returned u=>exact key _ _ he
      | panicked c=>exact he
      | outgrown=>exact he
     case row row args=>exact Rows.mono ha fun u w'' he=>key _ _ he
   | halt x w3=>cases x <;> simp only [Oper.upon] at ha ⊢ <;> exact ha
  ·right
   exact ⟨h1,h2⟩
 ·rename_i hw
  rw [if_neg hw]
  exact key _ _ ha
theorem ready_lt {l:Array Bool} {i:Nat} (h:i ∈ Region.ready md ops l):i<ops.size:=by
 obtain ⟨_,o,ho,_⟩:=mem_ready.1 h
 exact (Array.getElem?_eq_some_iff.1 ho).1
end
end Go.Proofs.YtgkddhncfaeidaaGreat
namespace Go.Proofs.YtgkddhncfaeidaaGreat
open Go.RowKit CrcM PageM
theorem nd_cell {w1:World} {g:Nat} {cs:Array Value} {t:TypeId} (h:w1.heap[g]?=some (.cells cs t (0,0))) (i:Nat) (v:Value) (hv:cs[i]?=some v):w1.cell? ⟨g,i,none⟩=some v:=(cell_of_row w1 g i cs t _ h).trans hv
end Go.Proofs.YtgkddhncfaeidaaGreat
namespace Go.Proofs.YtgkddhncfaeidaaGreat
open Go.ChangeShapes Go.WideShapes Go.ChangeAt Go.RowKit CrcM PageM
structure KeyD where
 se:Int
 st:Int
structure EntD where
 se:Int
 st:Int
 en:Int
 ad:Int
 le:Int
 cn:Int
 co:Int
 cr:Int
def kyC (k:KeyD):List Value:=[.int .i64 k.se,.int .i64 k.st]
def enC (e:EntD):List Value:=[.int .i64 e.se,.int .i64 e.st,.int .i64 e.en,.int .i64 e.ad,.int .i64 e.le,.int .i64 e.cn,.int .i64 e.co,.int .u32 e.cr]
def EntD.key (e:EntD):KeyD:=⟨e.se,e.st⟩
def okKey (s:Int):Prop:=0≤s∧s≤4294967295
instance (s:Int):Decidable (okKey s):=by unfold okKey;infer_instance
def okAddr (a:Int):Prop:=2≤a∧a<512
instance (s:Int):Decidable (okAddr s):=by unfold okAddr;infer_instance
def okEnt (e:EntD):Prop:=okKey e.se∧e.st≤e.en∧1≤e.le∧e.le≤65535∧okAddr e.ad∧e.ad+(e.le+255) / 256≤512∧1≤e.cn∧e.cn≤200∧0≤e.co∧e.co<16
instance (e:EntD):Decidable (okEnt e):=by unfold okEnt;infer_instance
def lessB (a b:KeyD):Bool:=decide (a.se<b.se∨a.se=b.se∧a.st<b.st)
def apartB (a b:EntD):Bool:=lessB a.key b.key && (decide (a.se≠b.se) || decide (a.en<b.st))
theorem nd_retB {a b:Bool} (h:a=b):Ending.returned (Value.bool a)=Ending.returned (.bool b):=by rw [h]
theorem rightKey_any (s t:Int) (w:World) :
 Calls Tryz.prog 110 #[.agg #[.int .i64 s,.int .i64 t]] w fun e w'=>e=.returned (.bool (decide (okKey s)))∧Below w.heap.size w w':=by
 by_cases h1:0≤s
 ·have d1:decide ((0:Int)≤s)=true:=by simpa using h1
  go_enter Tryz.func110,Tryz.ntmps110
  go_wp2_with fail
  go_ret
  exact ⟨nd_retB (by first | (simp [okKey,h1];done) | (symm;exact decide_eq_false (fun h=>by have:=h.1;omega)) | (simp [okKey];omega)),(Below.refl _ _).alloc (Nat.le_refl _) _⟩
 ·have d1:decide ((0:Int)≤s)=false:=by simpa using h1
  go_enter Tryz.func110,Tryz.ntmps110
  go_wp2_with fail
  go_ret
  exact ⟨nd_retB (by first | (simp [okKey];done) | (symm;exact decide_eq_false (fun h=>by have:=h.1;omega)) | (simp [okKey];omega)),(Below.refl _ _).alloc (Nat.le_refl _) _⟩
theorem isAddr_any (a:Int) (w:World) :
 Calls Tryz.prog 112 #[.int .i64 a] w fun e w'=>e=.returned (.bool (decide (okAddr a)))∧Below w.heap.size w w':=by
 by_cases h1:2≤a
 ·have d1:decide ((2:Int)≤a)=true:=by simpa using h1
  go_enter Tryz.func112,Tryz.ntmps112
  go_wp2_with fail
  go_ret
  exact ⟨nd_retB (by first | (simp [okAddr,h1];done) | (symm;exact decide_eq_false (fun h=>by have:=h.1;omega)) | (simp [okAddr];omega)),Below.refl _ _⟩
 ·have d1:decide ((2:Int)≤a)=false:=by simpa using h1
  go_enter Tryz.func112,Tryz.ntmps112
  go_wp2_with fail
  go_ret
  exact ⟨nd_retB (by first | (simp [okAddr];done) | (symm;exact decide_eq_false (fun h=>by have:=h.1;omega)) | (simp [okAddr];omega)),Below.refl _ _⟩
theorem npages_any (e:EntD) (h1:1≤e.le) (h2:e.le≤65535) (w:World) :
 Calls Tryz.prog 146 #[.agg #[.int .i64 e.se,.int .i64 e.st,.int .i64 e.en,.int .i64 e.ad,.int .i64 e.le,.int .i64 e.cn,.int .i64 e.co,.int .u32 e.cr]] w fun e' w'=>e'=.returned (.int .i64 ((e.le+255) / 256))∧Below w.heap.size w w':=by
 obtain ⟨v,hv⟩:=Int.eq_ofNat_of_zero_le (show 0≤e.le by omega)
 rw [hv] at h1 h2 ⊢
 go_enter Tryz.func146,Tryz.ntmps146
 go_wp2_with fail
 go_ret
 refine ⟨congrArg (fun x=>Ending.returned (Value.int .i64 x)) (?_:((v:Int)+256 - 1) / 256=_),(Below.refl _ _).alloc (Nat.le_refl _) _⟩
 omega
theorem less_any (a b:KeyD) (w:World) :
 Calls Tryz.prog 111 #[.agg #[.int .i64 a.se,.int .i64 a.st],.agg #[.int .i64 b.se,.int .i64 b.st]] w fun e w'=>e=.returned (.bool (lessB a b))∧Below w.heap.size w w':=by
 by_cases h:a.se=b.se
 ·have hb:(a.se != b.se)=false:=by simp [h]
  go_enter Tryz.func111,Tryz.ntmps111
  go_wp2_with fail
  go_ret
  exact ⟨nd_retB (by simp [lessB,h]),((Below.refl _ _).alloc (Nat.le_refl _) _).alloc (by simp) _⟩
 ·have hb:(a.se != b.se)=true:=by simp [h]
  go_enter Tryz.func111,Tryz.ntmps111
  go_wp2_with fail
  go_ret
  exact ⟨nd_retB (by simp [lessB,h]),((Below.refl _ _).alloc (Nat.le_refl _) _).alloc (by simp) _⟩
theorem rightKey_r (s t:Int) (r:Bool) (hr:r=decide (okKey s)) (w:World) :
 Calls Tryz.prog 110 #[.agg #[.int .i64 s,.int .i64 t]] w fun e w'=>e=.returned (.bool r)∧Below w.heap.size w w':=by subst hr;exact rightKey_any s t w
theorem isAddr_r (a:Int) (r:Bool) (hr:r=decide (okAddr a)) (w:World) :
 Calls Tryz.prog 112 #[.int .i64 a] w fun e w'=>e=.returned (.bool r)∧Below w.heap.size w w':=by subst hr;exact isAddr_any a w
theorem pages_r (e:EntD) (h1:1≤e.le) (h2:e.le≤65535) (P:Int) (hP:P=(e.le+255) / 256) (w:World) :
 Calls Tryz.prog 146 #[.agg #[.int .i64 e.se,.int .i64 e.st,.int .i64 e.en,.int .i64 e.ad,.int .i64 e.le,.int .i64 e.cn,.int .i64 e.co,.int .u32 e.cr]] w fun e' w'=>e'=.returned (.int .i64 P)∧Below w.heap.size w w':=by subst hP;exact npages_any e h1 h2 w
theorem rightEntry_any (e:EntD) (r:Bool) (hr:decide (okEnt e)=r) (w:World) :
 Calls Tryz.prog 108 #[.agg #[.int .i64 e.se,.int .i64 e.st,.int .i64 e.en,.int .i64 e.ad,.int .i64 e.le,.int .i64 e.cn,.int .i64 e.co,.int .u32 e.cr]] w fun e' w'=>e'=.returned (.bool r)∧Below w.heap.size w w':=by
 obtain ⟨W,eW⟩:∃ W,W=w.alloc (.cells #[.int .i64 e.se,.int .i64 e.st,.int .i64 e.en,.int .i64 e.ad,.int .i64 e.le,.int .i64 e.cn,.int .i64 e.co,.int .u32 e.cr] 40):=⟨_,rfl⟩
 have hrow:W.heap[w.heap.size]?=some (.cells #[.int .i64 e.se,.int .i64 e.st,.int .i64 e.en,.int .i64 e.ad,.int .i64 e.le,.int .i64 e.cn,.int .i64 e.co,.int .u32 e.cr] 40 (0,0)):=by rw [eW];exact heap_alloc_new _ _
 have hbel:Below w.heap.size w W:=by rw [eW];exact (Below.refl _ _).alloc (Nat.le_refl _) _
 have EW:=Lib.hid eW.symm
 have HB:=Lib.hid hbel
 have G0:∀ y:SubW W.heap.size W,y.at_.cell? ⟨w.heap.size,0,none⟩=some (.int .i64 e.se):=fun y=>nd_cell ((y.ok_.block _ (Array.getElem?_eq_some_iff.1 hrow).1).trans hrow) 0 _ rfl
 have G1:∀ y:SubW W.heap.size W,y.at_.cell? ⟨w.heap.size,1,none⟩=some (.int .i64 e.st):=fun y=>nd_cell ((y.ok_.block _ (Array.getElem?_eq_some_iff.1 hrow).1).trans hrow) 1 _ rfl
 have G2:∀ y:SubW W.heap.size W,y.at_.cell? ⟨w.heap.size,2,none⟩=some (.int .i64 e.en):=fun y=>nd_cell ((y.ok_.block _ (Array.getElem?_eq_some_iff.1 hrow).1).trans hrow) 2 _ rfl
 have G3:∀ y:SubW W.heap.size W,y.at_.cell? ⟨w.heap.size,3,none⟩=some (.int .i64 e.ad):=fun y=>nd_cell ((y.ok_.block _ (Array.getElem?_eq_some_iff.1 hrow).1).trans hrow) 3 _ rfl
 have G4:∀ y:SubW W.heap.size W,y.at_.cell? ⟨w.heap.size,4,none⟩=some (.int .i64 e.le):=fun y=>nd_cell ((y.ok_.block _ (Array.getElem?_eq_some_iff.1 hrow).1).trans hrow) 4 _ rfl
 have G5:∀ y:SubW W.heap.size W,y.at_.cell? ⟨w.heap.size,5,none⟩=some (.int .i64 e.cn):=fun y=>nd_cell ((y.ok_.block _ (Array.getElem?_eq_some_iff.1 hrow).1).trans hrow) 5 _ rfl
 have G6:∀ y:SubW W.heap.size W,y.at_.cell? ⟨w.heap.size,6,none⟩=some (.int .i64 e.co):=fun y=>nd_cell ((y.ok_.block _ (Array.getElem?_eq_some_iff.1 hrow).1).trans hrow) 6 _ rfl
 have G7:∀ y:SubW W.heap.size W,y.at_.cell? ⟨w.heap.size,7,none⟩=some (.int .u32 e.cr):=fun y=>nd_cell ((y.ok_.block _ (Array.getElem?_eq_some_iff.1 hrow).1).trans hrow) 7 _ rfl
 obtain ⟨P,hP⟩:∃ P,P=(e.le+255) / 256:=⟨_,rfl⟩
 obtain ⟨rk,hrk⟩:∃ x,x=decide (okKey e.se):=⟨_,rfl⟩
 obtain ⟨ia,hia⟩:∃ x,x=decide (okAddr e.ad):=⟨_,rfl⟩
 have HRK:=Lib.hid hrk
 have HIA:=Lib.hid hia
 have HP:=Lib.hid hP
 have HR:=Lib.hid hr
 clear hrk hia hr hP hrow hbel eW
 by_cases h0:rk=true
 ·subst h0
  by_cases h1:e.st≤e.en
  ·have d1:decide (e.st≤e.en)=true:=by simpa using h1
   by_cases h2:1≤e.le
   ·have d2:decide ((1:Int)≤e.le)=true:=by simpa using h2
    by_cases h3:e.le≤65535
    ·have d3:decide (e.le≤65535)=true:=by simpa using h3
     by_cases h4:ia=true
     ·subst h4
      have hwr:wrap64 (e.ad+P)=e.ad+P:=by have hq:okAddr e.ad:=of_decide_eq_true HIA.out.symm;have hp:=HP.out;unfold okAddr at hq;exact IntWalk.wrap64_in _ ⟨by omega,by omega⟩
      by_cases h5:e.ad+P≤512
      ·have d5:decide (e.ad+P≤512)=true:=by simpa using h5
       by_cases h6:1≤e.cn
       ·have d6:decide ((1:Int)≤e.cn)=true:=by simpa using h6
        by_cases h7:e.cn≤200
        ·have d7:decide (e.cn≤200)=true:=by simpa using h7
         by_cases h8:0≤e.co
         ·have d8:decide ((0:Int)≤e.co)=true:=by simpa using h8
          go_enter Tryz.func108,Tryz.ntmps108
          go_upto_region 1 with fail
          rw [EW.out]
          refine region_below W.heap.size W (Below.refl _ _) (by kernel_rfl) (by kernel_rfl) ?_
          repeat (go_big_quiet_step ((first | (go_at_call 110;exact calls_sub (Nat.le_refl _) (rightKey_r _ _ _ HRK.out _)) | (go_at_call 112;exact calls_sub (Nat.le_refl _) (isAddr_r _ _ HIA.out _)) | (go_at_call 146;exact calls_sub (Nat.le_refl _) (pages_r e h2 h3 P HP.out _)))))
          refine wpQuiet_nil ?_
          rintro w' ⟨y,rfl⟩
          have HY:=Lib.hid (HB.out.trans (y.ok_.mono HB.out.size))
          clear G0 G1 G2 G3 G4 G5 G6 G7
          go_wp2_with fail
          go_ret
          refine ⟨nd_retB ?_,HY.out⟩
          rw [← HR.out,Bool.eq_iff_iff,decide_eq_true_eq,decide_eq_true_eq]
          unfold okEnt
          have e0:=HRK.out;have e4:=HIA.out;have eP:=HP.out
          replace e0:=of_decide_eq_true e0.symm;replace e4:=of_decide_eq_true e4.symm;subst eP
          exact ⟨fun h=>⟨e0,h1,h2,h3,e4,h5,h6,h7,h8,h⟩,fun h=>h.2.2.2.2.2.2.2.2.2⟩
         ·have d8:decide ((0:Int)≤e.co)=false:=by simpa using h8
          go_enter Tryz.func108,Tryz.ntmps108
          go_upto_region 1 with fail
          rw [EW.out]
          refine region_below W.heap.size W (Below.refl _ _) (by kernel_rfl) (by kernel_rfl) ?_
          repeat (go_big_quiet_step ((first | (go_at_call 110;exact calls_sub (Nat.le_refl _) (rightKey_r _ _ _ HRK.out _)) | (go_at_call 112;exact calls_sub (Nat.le_refl _) (isAddr_r _ _ HIA.out _)) | (go_at_call 146;exact calls_sub (Nat.le_refl _) (pages_r e h2 h3 P HP.out _)))))
          refine wpQuiet_nil ?_
          rintro w' ⟨y,rfl⟩
          have HY:=Lib.hid (HB.out.trans (y.ok_.mono HB.out.size))
          clear G0 G1 G2 G3 G4 G5 G6 G7
          go_wp2_with fail
          go_ret
          refine ⟨nd_retB ?_,HY.out⟩
          rw [← HR.out];symm;rw [decide_eq_false_iff_not];unfold okEnt;intro hx
          have h':=hx.2.2.2.2.2.2.2.2.1;omega
        ·have d7:decide (e.cn≤200)=false:=by simpa using h7
         go_enter Tryz.func108,Tryz.ntmps108
         go_upto_region 1 with fail
         rw [EW.out]
         refine region_below W.heap.size W (Below.refl _ _) (by kernel_rfl) (by kernel_rfl) ?_
         repeat (go_big_quiet_step ((first | (go_at_call 110;exact calls_sub (Nat.le_refl _) (rightKey_r _ _ _ HRK.out _)) | (go_at_call 112;exact calls_sub (Nat.le_refl _) (isAddr_r _ _ HIA.out _)) | (go_at_call 146;exact calls_sub (Nat.le_refl _) (pages_r e h2 h3 P HP.out _)))))
         refine wpQuiet_nil ?_
         rintro w' ⟨y,rfl⟩
         have HY:=Lib.hid (HB.out.trans (y.ok_.mono HB.out.size))
         clear G0 G1 G2 G3 G4 G5 G6 G7
         go_wp2_with fail
         go_ret
         refine ⟨nd_retB ?_,HY.out⟩
         rw [← HR.out];symm;rw [decide_eq_false_iff_not];unfold okEnt;intro hx
         have h':=hx.2.2.2.2.2.2.2.1;omega
       ·have d6:decide ((1:Int)≤e.cn)=false:=by simpa using h6
        go_enter Tryz.func108,Tryz.ntmps108
        go_upto_region 1 with fail
        rw [EW.out]
        refine region_below W.heap.size W (Below.refl _ _) (by kernel_rfl) (by kernel_rfl) ?_
        repeat (go_big_quiet_step ((first | (go_at_call 110;exact calls_sub (Nat.le_refl _) (rightKey_r _ _ _ HRK.out _)) | (go_at_call 112;exact calls_sub (Nat.le_refl _) (isAddr_r _ _ HIA.out _)) | (go_at_call 146;exact calls_sub (Nat.le_refl _) (pages_r e h2 h3 P HP.out _)))))
        refine wpQuiet_nil ?_
        rintro w' ⟨y,rfl⟩
        have HY:=Lib.hid (HB.out.trans (y.ok_.mono HB.out.size))
        clear G0 G1 G2 G3 G4 G5 G6 G7
        go_wp2_with fail
        go_ret
        refine ⟨nd_retB ?_,HY.out⟩
        rw [← HR.out];symm;rw [decide_eq_false_iff_not];unfold okEnt;intro hx
        have h':=hx.2.2.2.2.2.2.1;omega
      ·have d5:decide (e.ad+P≤512)=false:=by simpa using h5
       go_enter Tryz.func108,Tryz.ntmps108
       go_upto_region 1 with fail
       rw [EW.out]
       refine region_below W.heap.size W (Below.refl _ _) (by kernel_rfl) (by kernel_rfl) ?_
       repeat (go_big_quiet_step ((first | (go_at_call 110;exact calls_sub (Nat.le_refl _) (rightKey_r _ _ _ HRK.out _)) | (go_at_call 112;exact calls_sub (Nat.le_refl _) (isAddr_r _ _ HIA.out _)) | (go_at_call 146;exact calls_sub (Nat.le_refl _) (pages_r e h2 h3 P HP.out _)))))
       refine wpQuiet_nil ?_
       rintro w' ⟨y,rfl⟩
       have HY:=Lib.hid (HB.out.trans (y.ok_.mono HB.out.size))
       clear G0 G1 G2 G3 G4 G5 G6 G7
       go_wp2_with fail
       go_ret
       refine ⟨nd_retB ?_,HY.out⟩
       rw [← HR.out];symm;rw [decide_eq_false_iff_not];unfold okEnt;intro hx
       have eP:=HP.out;have h':=hx.2.2.2.2.2.1;omega
     ·have d4:ia=false:=by simpa using h4
      subst d4
      clear h4
      go_enter Tryz.func108,Tryz.ntmps108
      go_upto_region 1 with fail
      rw [EW.out]
      refine region_below W.heap.size W (Below.refl _ _) (by kernel_rfl) (by kernel_rfl) ?_
      repeat (go_big_quiet_step ((first | (go_at_call 110;exact calls_sub (Nat.le_refl _) (rightKey_r _ _ _ HRK.out _)) | (go_at_call 112;exact calls_sub (Nat.le_refl _) (isAddr_r _ _ HIA.out _)) | (go_at_call 146;exact calls_sub (Nat.le_refl _) (pages_r e h2 h3 P HP.out _)))))
      refine wpQuiet_nil ?_
      rintro w' ⟨y,rfl⟩
      have HY:=Lib.hid (HB.out.trans (y.ok_.mono HB.out.size))
      clear G0 G1 G2 G3 G4 G5 G6 G7
      go_wp2_with fail
      go_ret
      refine ⟨nd_retB ?_,HY.out⟩
      rw [← HR.out];symm;rw [decide_eq_false_iff_not];unfold okEnt;intro hx
      have e4:=HIA.out;rw [decide_eq_true hx.2.2.2.2.1] at e4;cases e4
    ·have d3:decide (e.le≤65535)=false:=by simpa using h3
     go_enter Tryz.func108,Tryz.ntmps108
     go_upto_region 1 with fail
     rw [EW.out]
     refine region_below W.heap.size W (Below.refl _ _) (by kernel_rfl) (by kernel_rfl) ?_
     repeat (go_big_quiet_step ((first | (go_at_call 110;exact calls_sub (Nat.le_refl _) (rightKey_r _ _ _ HRK.out _)) | (go_at_call 112;exact calls_sub (Nat.le_refl _) (isAddr_r _ _ HIA.out _)) | (go_at_call 146;exact calls_sub (Nat.le_refl _) (pages_r e h2 h3 P HP.out _)))))
     refine wpQuiet_nil ?_
     rintro w' ⟨y,rfl⟩
     have HY:=Lib.hid (HB.out.trans (y.ok_.mono HB.out.size))
     clear G0 G1 G2 G3 G4 G5 G6 G7
     go_wp2_with fail
     go_ret
     refine ⟨nd_retB ?_,HY.out⟩
     rw [← HR.out];symm;rw [decide_eq_false_iff_not];unfold okEnt;intro hx
     have h':=hx.2.2.2.1;omega
   ·have d2:decide ((1:Int)≤e.le)=false:=by simpa using h2
    go_enter Tryz.func108,Tryz.ntmps108
    go_upto_region 1 with fail
    rw [EW.out]
    refine region_below W.heap.size W (Below.refl _ _) (by kernel_rfl) (by kernel_rfl) ?_
    repeat (go_big_quiet_step ((first | (go_at_call 110;exact calls_sub (Nat.le_refl _) (rightKey_r _ _ _ HRK.out _)) | (go_at_call 112;exact calls_sub (Nat.le_refl _) (isAddr_r _ _ HIA.out _)) | (go_at_call 146;exact calls_sub (Nat.le_refl _) (pages_r e h2 h3 P HP.out _)))))
    refine wpQuiet_nil ?_
    rintro w' ⟨y,rfl⟩
    have HY:=Lib.hid (HB.out.trans (y.ok_.mono HB.out.size))
    clear G0 G1 G2 G3 G4 G5 G6 G7
    go_wp2_with fail
    go_ret
    refine ⟨nd_retB ?_,HY.out⟩
    rw [← HR.out];symm;rw [decide_eq_false_iff_not];unfold okEnt;intro hx
    have h':=hx.2.2.1;omega
  ·have d1:decide (e.st≤e.en)=false:=by simpa using h1
   go_enter Tryz.func108,Tryz.ntmps108
   go_upto_region 1 with fail
   rw [EW.out]
   refine region_below W.heap.size W (Below.refl _ _) (by kernel_rfl) (by kernel_rfl) ?_
   repeat (go_big_quiet_step ((first | (go_at_call 110;exact calls_sub (Nat.le_refl _) (rightKey_r _ _ _ HRK.out _)) | (go_at_call 112;exact calls_sub (Nat.le_refl _) (isAddr_r _ _ HIA.out _)) | (go_at_call 146;exact calls_sub (Nat.le_refl _) (pages_r e h2 h3 P HP.out _)))))
   refine wpQuiet_nil ?_
   rintro w' ⟨y,rfl⟩
   have HY:=Lib.hid (HB.out.trans (y.ok_.mono HB.out.size))
   clear G0 G1 G2 G3 G4 G5 G6 G7
   go_wp2_with fail
   go_ret
   refine ⟨nd_retB ?_,HY.out⟩
   rw [← HR.out];symm;rw [decide_eq_false_iff_not];unfold okEnt;intro hx
   have h':=hx.2.1;omega
 ·have d0:rk=false:=by simpa using h0
  subst d0
  clear h0
  go_enter Tryz.func108,Tryz.ntmps108
  go_upto_region 1 with fail
  rw [EW.out]
  refine region_below W.heap.size W (Below.refl _ _) (by kernel_rfl) (by kernel_rfl) ?_
  repeat (go_big_quiet_step ((first | (go_at_call 110;exact calls_sub (Nat.le_refl _) (rightKey_r _ _ _ HRK.out _)) | (go_at_call 112;exact calls_sub (Nat.le_refl _) (isAddr_r _ _ HIA.out _)) | (go_at_call 146;exact calls_sub (Nat.le_refl _) (pages_r e h2 h3 P HP.out _)))))
  refine wpQuiet_nil ?_
  rintro w' ⟨y,rfl⟩
  have HY:=Lib.hid (HB.out.trans (y.ok_.mono HB.out.size))
  clear G0 G1 G2 G3 G4 G5 G6 G7
  go_wp2_with fail
  go_ret
  refine ⟨nd_retB ?_,HY.out⟩
  rw [← HR.out];symm;rw [decide_eq_false_iff_not];unfold okEnt;intro hx
  have e0:=HRK.out;rw [decide_eq_true hx.1] at e0;cases e0
end Go.Proofs.YtgkddhncfaeidaaGreat
