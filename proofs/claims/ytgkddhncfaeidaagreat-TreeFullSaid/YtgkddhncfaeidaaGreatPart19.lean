/- Squeezed: the texts as they are written lie in wip/tpl. -/
import Derived.Test.YtgkddhncfaeidaaGreatPart18
import Derived.Test.YtgkddhncfaeidaaGreatPart16
import Derived.Test.YtgkddhncfaeidaaGreatPart00
set_option maxRecDepth 100000
set_option maxHeartbeats 8000000
set_option linter.unusedSimpArgs false
set_option linter.unusedVariables false
namespace Go.Proofs.YtgkddhncfaeidaaGreat
open Go.RowKit CrcM PageM
def pageV (p:Pg) (A:Option Addr) (c:Nat):Value:=.agg #[.int .u8 (p.kind.toNat:Int),.int .i64 p.addr,.int .u64 (p.gen:Int),.slice A p.body.length c]
def bodyC (p:Pg):Prop:=p.gen<18446744073709551616∧p.body.length≤9223372036854775807∧-9223372036854775808≤p.addr∧p.addr≤9223372036854775807
theorem put_err (p:Pg) (hp:¬ okP p) (hc:bodyC p) (A:Option Addr) (c:Nat) (w:World) :
 Calls Tryz.prog 118 #[.agg tab,pageV p A c] w fun e w'=>e=.returned (.tuple #[.slice none 0 0,.int .i64 1])∧Below w.heap.size w w':=by
 have hb:Below w.heap.size w ((w.alloc (.cells tab 71)).alloc (.cells #[.int .u8 (p.kind.toNat:Int),.int .i64 p.addr,.int .u64 (p.gen:Int),.slice A p.body.length c] 156)):=((Below.refl _ _).alloc (Nat.le_refl _) _).alloc (by simp) _
 obtain ⟨k,a,g,b⟩:=p
 unfold pageV
 unfold okP at hp
 unfold bodyC at hc
 dsimp only at hp hc hb ⊢
 obtain ⟨c1,c2,c3,c4⟩:=hc
 obtain ⟨n,hn⟩:∃ n,n=b.length:=⟨_,rfl⟩
 rw [← hn] at hp hb c2 ⊢
 clear hn
 by_cases h1:isK k=true
 ·by_cases h2:a<0
  ·have d2:decide (a<0)=true:=by simpa using h2
   go_enter Tryz.func118,Tryz.ntmps118
   go_wp2_with (go_at_call 149;refine (isKind_any _ _).mono ?_;rintro e w' ⟨rfl,rfl⟩)
   go_ret2
   exact ⟨rfl,hb⟩
  ·have d2:decide (a<0)=false:=by simpa using h2
   by_cases h3:512≤a
   ·have d3:decide (512≤a)=true:=by simpa using h3
    go_enter Tryz.func118,Tryz.ntmps118
    go_wp2_with (go_at_call 149;refine (isKind_any _ _).mono ?_;rintro e w' ⟨rfl,rfl⟩)
    go_ret2
    exact ⟨rfl,hb⟩
   ·have d3:decide (512≤a)=false:=by simpa using h3
    have h4:(238:Int)<(n:Int):=by
     rcases Nat.lt_or_ge 238 n with h | h
     ·omega
     ·exact absurd ⟨h1,by omega,by omega,h⟩ hp
    have d4:decide ((238:Int)<(n:Int))=true:=by simpa using h4
    go_enter Tryz.func118,Tryz.ntmps118
    go_wp2_with (go_at_call 149;refine (isKind_any _ _).mono ?_;rintro e w' ⟨rfl,rfl⟩)
    go_ret2
    exact ⟨rfl,hb⟩
 ·have h1:isK k=false:=by simpa using h1
  go_enter Tryz.func118,Tryz.ntmps118
  go_wp2_with (go_at_call 149;refine (isKind_any _ _).mono ?_;rintro e w' ⟨rfl,rfl⟩)
  go_ret2
  exact ⟨rfl,hb⟩
theorem made_zeros (n:Nat):madeCells #[Value.int .u8 0] n=((List.replicate n (0:UInt8)).map bv).toArray:=by
 have:=toList_madeCells_one (Value.int .u8 0) n
 rw [List.map_replicate,show bv 0=Value.int .u8 0 from rfl,← this]
theorem set_map (xs:List UInt8) (i:Nat) (c:UInt8):((xs.map bv).toArray).setIfInBounds i (.int .u8 (c.toNat:Int))=((xs.set i c).map bv).toArray:=by
 rw [List.setIfInBounds_toArray,List.map_set]
 rfl
structure PutInv (w:World) (A:Option Addr) (c:Nat) (k:UInt8) (m g:Nat) (b:List UInt8) (W:World) (xs:List UInt8):Prop where
 tab_:W.heap[w.heap.size]?=some (.cells tab 71 (0,0))
 box_:W.heap[w.heap.size+1]?=some (.cells #[.int .u8 (k.toNat:Int),.int .i64 (m:Int),.int .u64 (g:Int),.slice A b.length c] 156 (0,0))
 own_:OwnB W w.heap.size (w.heap.size+1+1) 256 5 xs
 body_:BytesAt W A b
 bel_:Below w.heap.size w W
 big_:w.heap.size+3≤W.heap.size
section
variable {w:World} {A:Option Addr} {c:Nat} {k:UInt8} {m g:Nat} {b:List UInt8} {W:World} {xs ys:List UInt8}
theorem PutInv.sub (h:PutInv w A c k m g b W xs) (y:SubW W.heap.size W):PutInv w A c k m g b y.at_ xs :=
 ⟨(y.ok_.block _ (by have:=h.big_;omega)).trans h.tab_,(y.ok_.block _ (by have:=h.big_;omega)).trans h.box_,h.own_.below y.ok_ h.own_.lt,h.body_.below y.ok_,h.bel_.trans (y.ok_.mono h.bel_.size),Nat.le_trans h.big_ y.ok_.size⟩
theorem PutInv.grown {W2:World} (h:PutInv w A c k m g b W xs) (hx:BytesAt w A b) (hg:W.grownBy W2 (some (w.heap.size+1+1))) (ho:OwnB W2 w.heap.size (w.heap.size+1+1) 256 5 ys):PutInv w A c k m g b W2 ys:=by
 have hb:Below w.heap.size w W2:=h.bel_.grown hg h.bel_.size (fun k hk=>by injection hk with hk;omega)
 exact ⟨(hg.block _ (by have:=h.big_;omega) (by simp;omega)).trans h.tab_,(hg.block _ (by have:=h.big_;omega) (by simp)).trans h.box_,ho,hx.below hb,hb,Nat.le_trans h.big_ hg.size⟩
theorem PutInv.c1 (h:PutInv w A c k m g b W xs):W.cell? ⟨w.heap.size+1,1,none⟩=some (.int .i64 (m:Int)):=cell_of_row _ _ _ _ _ _ h.box_
theorem PutInv.c2 (h:PutInv w A c k m g b W xs):W.cell? ⟨w.heap.size+1,2,none⟩=some (.int .u64 (g:Int)):=cell_of_row _ _ _ _ _ _ h.box_
theorem PutInv.c3 (h:PutInv w A c k m g b W xs):W.cell? ⟨w.heap.size+1,3,none⟩=some (.slice A b.length c):=cell_of_row _ _ _ _ _ _ h.box_
end
theorem zeros_first (n:Nat):(((List.replicate (n+1) (0:UInt8)).map bv).toArray)[0]?=some (.int .u8 0):=by
 simp [List.replicate_succ,bv]
theorem put_ok (k:UInt8) (m g:Nat) (b:List UInt8) (hk:isK k=true) (hm:m<512) (hg:g<18446744073709551616) (hb:b.length≤238) (A:Option Addr) (c:Nat) (w:World) (hx:BytesAt w A b) (hbc:b.length≤c) :
 Calls Tryz.prog 118 #[.agg tab,.agg #[.int .u8 (k.toNat:Int),.int .i64 (m:Int),.int .u64 (g:Int),.slice A b.length c]] w fun e w'=>e=.returned (.tuple #[.slice (some ⟨w.heap.size+1+1,0,none⟩) 256 256,.int .i64 0])∧OwnB w' w.heap.size (w.heap.size+1+1) 256 5 (putP ⟨k,m,g,b⟩)∧Below w.heap.size w w':=by
 have d2:decide ((m:Int)<0)=false:=by simp
 have d3:decide (512≤(m:Int))=false:=by simp;omega
 have d4:decide ((238:Int)<(b.length:Int))=false:=by simp;omega
 obtain ⟨Z,hZ⟩:∃ Z,Z=madeCells #[Value.int .u8 0] 256:=⟨_,rfl⟩
 have hmk:∀ W:World,(Instr.makeSlice 110 (.int .i64 256) (.int .i64 256)).run Tryz.prog W=.ok (.slice (some ⟨W.heap.size,0,none⟩) 256 256) (W.alloc (.cells Z 5)):=fun W=>by rw [hZ];exact run_make_row' (P:=Tryz.prog) 110 5 (.int .u8 0) 1 Tryz.underlying110 info5 rfl .i64 .i64 256 (by omega) (by omega) W
 have hZ2:=hZ.trans (made_zeros 256)
 have hz0:Z[0]?=some (.int .u8 0):=by rw [hZ2];exact zeros_first 255
 have HZ:=Lib.hid hZ2
 clear hZ hZ2
 go_enter Tryz.func118,Tryz.ntmps118
 go_wp2_with (go_at_call 149;refine (isKind_any _ _).mono ?_;rintro e w' ⟨rfl,rfl⟩)
 generalize eW:World.alloc (World.alloc (World.alloc w _) _) _=W
 have inv:PutInv w A c k m g b W (k :: List.replicate 255 0):=by
  have hbel:Below w.heap.size w W:=by
   rw [← eW]
   exact (((Below.refl _ _).alloc (Nat.le_refl _) _).alloc (by simp) _).alloc (by simp;omega) _
  refine ⟨?_,?_,?_,hx.below hbel,hbel,by rw [← eW];simp⟩
  ·rw [← eW]
   exact (Below.heap_alloc _ _ _ (by simp;omega)).trans (heap_alloc2_old w _ _)
  ·rw [← eW]
   exact (Below.heap_alloc _ _ _ (by simp)).trans (heap_alloc2_new w _ _)
  ·have e1:Z.setIfInBounds 0 (.int .u8 (k.toNat:Int))=((k :: List.replicate 255 0).map bv).toArray:=by
    rw [HZ.out,set_map]
    rfl
   have hnew:=OwnB.new ((w.alloc (.cells tab 71)).alloc (.cells #[.int .u8 (k.toNat:Int),.int .i64 (m:Int),.int .u64 (g:Int),.slice A b.length c] 156)) 5 (k :: List.replicate 255 0) w.heap.size (by simp;omega) (by simp [maxLen])
   rw [e1] at eW
   rw [eW] at hnew
   simpa using hnew
 clear eW hz0
 have INV:=Lib.hid inv
 clear inv hmk d2 d3 d4
 have f1:=fun y:SubW W.heap.size W=>(INV.out.sub y).c1
 refine region_below_tail 5 W.heap.size W (Below.refl _ _) (by kernel_rfl) (by kernel_rfl) ?_
 simp only [List.take_succ_cons,List.take_zero,List.drop_succ_cons,List.drop_zero]
 repeat (go_big_quiet_step (fail))
 refine wpQuiet_nil ?_
 rintro w' ⟨y,rfl⟩
 clear f1
 go_wp2_with (go_at_call 150;refine (putHigh_any (w.heap.size+1+1) 2 w.heap.size 256 [k,0] [0,0] (List.replicate 252 0) 254 m (by omega) _ rfl (INV.out.sub y).own_ (by simp) (by simp)).mono ?_;rintro e W1 ⟨rfl,ho1,hg1⟩)
 have INV1:=Lib.hid ((INV.out.sub y).grown hx hg1 ho1)
 clear ho1 hg1 INV y
 have f2:=fun y:SubW W1.heap.size W1=>(INV1.out.sub y).c2
 refine region_below_tail 4 W1.heap.size W1 (Below.refl _ _) (by kernel_rfl) (by kernel_rfl) ?_
 simp only [List.take_succ_cons,List.take_zero,List.drop_succ_cons,List.drop_zero]
 repeat (go_big_quiet_step (fail))
 refine wpQuiet_nil ?_
 rintro w' ⟨y,rfl⟩
 clear f2
 go_wp2_with (go_at_call 150;refine (putHigh_any (w.heap.size+1+1) 4 w.heap.size 256 ([k,0] ++ be m 2) (List.replicate 8 0) (List.replicate 244 0) 252 g hg _ (by simp [length_be]) (by have:=(INV1.out.sub y).own_;simpa using this) (by simp) (by simp [length_be])).mono ?_;rintro e W2 ⟨rfl,ho2,hg2⟩)
 have INV2:=Lib.hid ((INV1.out.sub y).grown hx hg2 ho2)
 clear ho2 hg2 INV1 y
 have f3:=fun y:SubW W2.heap.size W2=>(INV2.out.sub y).c3
 refine region_below_tail 6 W2.heap.size W2 (Below.refl _ _) (by kernel_rfl) (by kernel_rfl) ?_
 simp only [List.take_succ_cons,List.take_zero,List.drop_succ_cons,List.drop_zero]
 repeat (go_big_quiet_step (fail))
 refine wpQuiet_nil ?_
 rintro w' ⟨y,rfl⟩
 clear f3
 go_wp2_with (go_at_call 150;refine (putHigh_any (w.heap.size+1+1) 12 w.heap.size 256 ([k,0] ++ be m 2 ++ be g 8) (List.replicate 2 0) (List.replicate 242 0) 244 b.length (by omega) _ (by simp [length_be]) (by have:=(INV2.out.sub y).own_;simpa using this) (by simp) (by simp [length_be])).mono ?_;rintro e W3 ⟨rfl,ho3,hg3⟩)
 have INV3:=Lib.hid ((INV2.out.sub y).grown hx hg3 ho3)
 clear ho3 hg3 INV2 y
 have f4:=fun y:SubW W3.heap.size W3=>(INV3.out.sub y).c3
 refine region_below_tail 4 W3.heap.size W3 (Below.refl _ _) (by kernel_rfl) (by kernel_rfl) ?_
 simp only [List.take_succ_cons,List.take_zero,List.drop_succ_cons,List.drop_zero]
 repeat (go_big_quiet_step (fail))
 refine wpQuiet_nil ?_
 rintro w' ⟨y,rfl⟩
 clear f4
 go_wp2_with (with_reducible refine wpList_copy_bytes rfl (.tmp 51) (.tmp 53) 110 110 rfl 5 Tryz.underlying110 (by kernel_rfl) w.heap.size (w.heap.size+1+1) 256 14 242 242 A b.length c ([k,0] ++ be m 2 ++ be g 8 ++ be b.length 2) (List.replicate 242 0) b rfl rfl (by simp [length_be]) (by have:=(INV3.out.sub y).own_;simpa using this) (INV3.out.sub y).body_ rfl (by omega) (by simp;omega) ?_;intro W4 ho4 hg4)
 have INV4:=Lib.hid ((INV3.out.sub y).grown hx hg4 ho4)
 simp only [Act.put,List.setIfInBounds_toArray,List.set_cons_zero,List.set_cons_succ]
 clear ho4 hg4 INV3 y
 have hh:headP ⟨k,m,g,b⟩ ++ List.replicate 4 0=[k,0] ++ be m 2 ++ be g 8 ++ be b.length 2 ++ b ++ (List.replicate 242 0).drop b.length:=by
  have e1:(List.replicate 242 (0:UInt8)).drop b.length=List.replicate (238 - b.length) 0 ++ List.replicate 4 0:=by
   rw [List.drop_replicate,List.replicate_append_replicate]
   congr 1
   omega
  rw [e1]
  simp only [headP,Int.toNat_natCast,List.append_assoc]
 have hl:=length_headP ⟨k,m,g,b⟩ hb
 obtain ⟨H,hH⟩:∃ H,H=headP ⟨k,m,g,b⟩:=⟨_,rfl⟩
 rw [← hH] at hh hl
 rw [← hh] at INV4
 have HH:=Lib.hid hH
 have HL:=Lib.hid hl
 clear hH hh hl
 have TG:Hid (∀ y:SubW W4.heap.size W4,y.at_.heap[w.heap.size]?=some (.cells tab 71 (0,0))):=fun y=>(INV4.out.sub y).tab_
 have TB:Hid (∀ y:SubW W4.heap.size W4,BytesAt y.at_ (some ⟨w.heap.size+1+1,0,none⟩) H):=fun y=>by
  have:=(INV4.out.sub y).own_.bytes.take 252
  rwa [List.take_left' HL.out] at this
 refine region_below_tail 6 W4.heap.size W4 (Below.refl _ _) (by kernel_rfl) (by kernel_rfl) ?_
 simp only [List.take_succ_cons,List.take_zero,List.drop_succ_cons,List.drop_zero]
 repeat (first
  | (go_big_quiet_want;refine quiet_load_row 71 (.tmp 2) rfl w.heap.size rfl 71 tab (0,0) _ TG.out Tryz.underlying71 rfl (by rw [size_tab];exact info64) ?_;simp only [Act.put,List.setIfInBounds_toArray,List.set_cons_zero,List.set_cons_succ];go_big_quiet_on)
  | go_big_quiet_step ((go_at_call 152;exact calls_sub (Nat.le_refl _) (sum_len _ _ _ H _ HL.out (TB.out _) (by omega)))))
 refine wpQuiet_nil ?_
 rintro w' ⟨y,rfl⟩
 go_wp2_with (go_at_call 151;refine (putLow_any (w.heap.size+1+1) 252 w.heap.size 256 H (List.replicate 4 0) [] 4 (sumN H) (sumN_lt _) _ HL.out.symm (by have:=(INV4.out.sub y).own_;simpa using this) (by simp) (by rw [HL.out];omega)).mono ?_;rintro e W5 ⟨rfl,ho5,hg5⟩)
 have INV5:=(INV4.out.sub y).grown hx hg5 ho5
 go_ret2
 refine ⟨rfl,?_,INV5.bel_⟩
 have:=INV5.own_
 unfold putP
 rw [← HH.out]
 simpa using this
def sizeOfPage (xs:List UInt8):Nat:=val ((xs.drop 12).take 2)
def parse (xs:List UInt8):Pg:=⟨xs.getD 0 0,(val ((xs.drop 2).take 2):Nat),val ((xs.drop 4).take 8),(xs.drop 14).take (sizeOfPage xs)⟩
def good (xs:List UInt8):Prop:=xs.length=256∧sizeOfPage xs≤238∧okP (parse xs)∧putP (parse xs)=xs
def zeroPage:Value:=.agg #[.int .u8 0,.int .i64 0,.int .u64 0,.slice none 0 0]
theorem results_cell_tmp {P:Program} {fn:Func} {p u:Tmp} {ty:TypeId} (h:fn.results=#[.cell p ty,.tmp u]) (tmps:Array Value) (w:World) (g:Nat) (t:TypeId) (cs:Array Value) (fr:Nat × Nat) (d:TypeDesc)
 (hp:tmps.getD p undef=.pointer (some ⟨g,0,none⟩)) (hg:w.heap[g]?=some (.cells cs t fr))
 (hu:P.underlying ty=some d) (hd:(match d with | .struct _ | .array _ _=>true | _=>false)=true) (hi:(P.info? ty).map (·.size)=some cs.size) :
 (results fn tmps).run P w=.ok (.tuple #[.agg cs,tmps.getD u undef]) w:=by
 have hp':tmps[p]?.getD undef=.pointer (some ⟨g,0,none⟩):=by simpa using hp
 simp [results,h,hp',asAddr,run_loadVar_row w g t ty cs fr d hg hu hd hi]
theorem takeHigh_len (A:Option Addr) (cap n:Nat) (xs:List UInt8) (w:World) (hn:xs.length=n) (hx:BytesAt w A xs) (hl:n≤8) :
 Calls Tryz.prog 157 #[.slice A n cap] w fun e w'=>e=.returned (.int .u64 (val xs))∧w=w':=by
 subst hn
 exact takeHigh_any A cap xs w hx hl
theorem put_err_len (p:Pg) (hp:¬ okP p) (hc:bodyC p) (n:Nat) (hn:p.body.length=n) (A:Option Addr) (c:Nat) (w:World) :
 Calls Tryz.prog 118 #[.agg tab,.agg #[.int .u8 (p.kind.toNat:Int),.int .i64 p.addr,.int .u64 (p.gen:Int),.slice A n c]] w fun e w'=>e=.returned (.tuple #[.slice none 0 0,.int .i64 1])∧Below w.heap.size w w':=by
 subst hn
 exact put_err p hp hc A c w
theorem put_ok_len (k:UInt8) (m g:Nat) (b:List UInt8) (n:Nat) (hn:b.length=n) (hk:isK k=true) (hm:m<512) (hg:g<18446744073709551616) (hb:n≤238) (A:Option Addr) (c:Nat) (w:World) (hx:BytesAt w A b) (hbc:n≤c) :
 Calls Tryz.prog 118 #[.agg tab,.agg #[.int .u8 (k.toNat:Int),.int .i64 (m:Int),.int .u64 (g:Int),.slice A n c]] w fun e w'=>e=.returned (.tuple #[.slice (some ⟨w.heap.size+1+1,0,none⟩) 256 256,.int .i64 0])∧OwnB w' w.heap.size (w.heap.size+1+1) 256 5 (putP ⟨k,m,g,b⟩)∧Below w.heap.size w w':=by
 subst hn
 exact put_ok k m g b hk hm hg hb A c w hx hbc
theorem piece {w:World} {ab ao:Nat} {xs:List UInt8} (hx:BytesAt w (some ⟨ab,ao,none⟩) xs) (k n:Nat) (hk:0<k):BytesAt w (some ⟨ab,ao+k,none⟩) ((xs.drop k).take n) :=
 (hx.cut k _ (fun _=>by simp [Addr.add,Nat.pos_iff_ne_zero.1 hk])).take n
theorem piece_len {xs:List UInt8} (h:xs.length=256) (k n:Nat) (hk:k+n≤256):((xs.drop k).take n).length=n:=by simp;omega
theorem val2_lt (l:List UInt8) (h:l.length=2):val l<65536:=by
 have:=val_lt l
 rw [h] at this
 exact this
theorem val8_lt (l:List UInt8) (h:l.length=8):val l<18446744073709551616:=by
 have:=val_lt l
 rw [h] at this
 exact this
theorem get_size (A:Option Addr) (cap:Nat) (xs:List UInt8) (w:World) (hx:BytesAt w A xs) (hc:xs.length≤cap) (h:xs.length=256) (hs:238<sizeOfPage xs) :
 Calls Tryz.prog 122 #[.agg tab,.slice A 256 cap] w fun e w'=>e=.returned (.tuple #[zeroPage,.int .i64 3])∧Below w.heap.size w w':=by
 have hb:Below w.heap.size w ((w.alloc (.cells tab 71)).alloc (.cells #[.int .u8 0,.int .i64 0,.int .u64 0,.slice none 0 0] 156)):=((Below.refl _ _).alloc (Nat.le_refl _) _).alloc (by simp) _
 obtain ⟨ab,ao,rfl,_⟩:=hx (by intro h0;subst h0;simp at h)
 have hc14:(14:Int)≤(cap:Int):=by omega
 have cutB:=piece (hx.below hb) 12 2 (by omega)
 have hl2:=piece_len h 12 2 (by omega)
 have HL:=Lib.hid hl2
 have H:=Lib.hid h
 have HS:Hid (238<val ((xs.drop 12).take 2)):=hs
 clear hl2 h hs
 go_enter Tryz.func122,Tryz.ntmps122
 go_wp2_with (go_at_call 157;refine (takeHigh_len _ _ _ _ _ HL.out cutB (by omega)).mono ?_;rintro e w' ⟨rfl,rfl⟩;have hs:=HS.out;have hs2:(238:Int)<(val ((xs.drop 12).take 2):Int):=by omega)
 exact bodyPost_ret (v:=.tuple #[zeroPage,.int .i64 3]) (results_cell_tmp (p:=4) (u:=5) (ty:=156) rfl _ _ (w.heap.size+1) 156 #[.int .u8 0,.int .i64 0,.int .u64 0,.slice none 0 0] (0,0) _ rfl (heap_alloc2_new _ _ _) Tryz.underlying156 rfl size_page) rfl
  ⟨rfl,hb⟩
def GetRetF (xs:List UInt8) (w:World) (e:Ending) (w':World):Prop :=
 Below w.heap.size w w'∧((¬ good xs∧e=.returned (.tuple #[zeroPage,.int .i64 3])) ∨
  (good xs∧∃ A' c',e=.returned (.tuple #[pageV (parse xs) A' c',.int .i64 0])∧BytesAt w' A' (parse xs).body∧(parse xs).body.length≤c'∧c'≤maxLen∧∀ a,A'=some a→w.heap.size≤a.block))
theorem get_restF (A:Option Addr) (cap:Nat) (xs:List UInt8) (w:World) (hx:BytesAt w A xs) (hc:xs.length≤cap) (h:xs.length=256) (hs:sizeOfPage xs≤238) :
 Calls Tryz.prog 122 #[.agg tab,.slice A 256 cap] w (GetRetF xs w):=by
 have hb:Below w.heap.size w ((w.alloc (.cells tab 71)).alloc (.cells #[.int .u8 0,.int .i64 0,.int .u64 0,.slice none 0 0] 156)):=((Below.refl _ _).alloc (Nat.le_refl _) _).alloc (by simp) _
 obtain ⟨ab,ao,rfl,hcell⟩:=hx (by intro h0;subst h0;simp at h)
 have hc14:(14:Int)≤(cap:Int):=by omega
 have hc4:(4:Int)≤(cap:Int):=by omega
 have hc12:(12:Int)≤(cap:Int):=by omega
 have hn2:¬ cap=2:=by omega
 have hn4:¬ cap=4:=by omega
 have hn14:¬ cap=14:=by omega
 have cutB:=piece (hx.below hb) 12 2 (by omega)
 have hl2:=piece_len h 12 2 (by omega)
 obtain ⟨s,es⟩:∃ s:Nat,s=val ((xs.drop 12).take 2):=⟨_,rfl⟩
 have hs2:s≤238:=by rw [es];exact hs
 have hsw:IntKind.u64.wrap (14+(s:Int))=14+(s:Int):=by simp [IntKind.wrap_u64];omega
 have hsn:(14+(s:Int)).toNat - 14=s:=by omega
 have hs4:(14:Int)≤14+(s:Int):=by omega
 have hs5:14+(s:Int)≤(cap:Int):=by omega
 have hs3:decide ((238:Int)<(s:Int))=false:=by simp;omega
 have HL:=Lib.hid hl2
 have H:=Lib.hid h
 have ES:=Lib.hid es
 have HL2:=Lib.hid (piece_len h 2 2 (by omega))
 have HL8:=Lib.hid (piece_len h 4 8 (by omega))
 have HLS:Hid (((xs.drop 14).take s).length=s):=Lib.hid (by simp;omega)
 have cut2:=piece (hx.below hb) 2 2 (by omega)
 have cut4:=piece (hx.below hb) 4 8 (by omega)
 have cutS:=piece (hx.below hb) 14 s (by omega)
 obtain ⟨m,em⟩:∃ m:Nat,m=val ((xs.drop 2).take 2):=⟨_,rfl⟩
 obtain ⟨g,eg⟩:∃ g:Nat,g=val ((xs.drop 4).take 8):=⟨_,rfl⟩
 obtain ⟨k,ek⟩:∃ k:UInt8,k=xs.getD 0 0:=⟨_,rfl⟩
 have hm:m<65536:=by rw [em];exact val2_lt _ HL2.out
 have hg:g<18446744073709551616:=by rw [eg];exact val8_lt _ HL8.out
 have hW:((w.alloc (.cells tab 71)).alloc (.cells #[.int .u8 0,.int .i64 0,.int .u64 0,.slice none 0 0] 156)).heap.size≤w.heap.size+1+1:=by simp
 have hWB:w.heap.size+1+1≤((w.alloc (.cells tab 71)).alloc (.cells #[.int .u8 0,.int .i64 0,.int .u64 0,.slice none 0 0] 156)).heap.size:=by simp
 have hZ:Hid ((((w.alloc (.cells tab 71)).alloc (.cells #[.int .u8 0,.int .i64 0,.int .u64 0,.slice none 0 0] 156)).alloc (.cells #[.int .u8 0,.int .i64 0,.int .u64 0,.slice none 0 0] 156)).heap[w.heap.size+1+1]?=some (.cells #[.int .u8 0,.int .i64 0,.int .u64 0,.slice none 0 0] 156 (0,0))):=Lib.hid (by
  have:=heap_alloc_new ((w.alloc (.cells tab 71)).alloc (.cells #[.int .u8 0,.int .i64 0,.int .u64 0,.slice none 0 0] 156)) (.cells #[.int .u8 0,.int .i64 0,.int .u64 0,.slice none 0 0] 156)
  simpa using this)
 have hlt0:ab<w.heap.size:=by
  rcases Nat.lt_or_ge ab w.heap.size with h0 | h0
  ·exact h0
  ·have:=hcell 0 (by omega)
   simp [World.cell?,Array.getElem?_eq_none h0] at this
 have hc0:((w.alloc (.cells tab 71)).alloc (.cells #[.int .u8 0,.int .i64 0,.int .u64 0,.slice none 0 0] 156)).cell? ⟨ab,ao,none⟩=some (.int .u8 (k.toNat:Int)):=by
  rw [World.cell?_of_block (hb.block ab hlt0),show ao=ao+0 from rfl,hcell 0 (by omega),ek]
  congr 3
  simp [List.getElem?_eq_getElem (show 0<xs.length by omega)]
 have hab:(⟨ab,ao,none⟩:Addr).block<w.heap.size+1+1:=Nat.lt_succ_of_lt (Nat.lt_succ_of_lt hlt0)
 have HC2:Hid (∀ w',Below (w.heap.size+1+1) ((w.alloc (.cells tab 71)).alloc (.cells #[.int .u8 0,.int .i64 0,.int .u64 0,.slice none 0 0] 156)) w'→Calls Tryz.prog 157 #[.slice (some ⟨ab,ao+2,none⟩) 2 (cap - 2)] w' fun e w''=>e=.returned (.int .u64 (m:Int))∧w'=w''):=fun w' hw=>by
  rw [em]
  exact takeHigh_len _ _ _ _ _ HL2.out (cut2.below (Below.mono hw hW)) (by omega)
 have HC4:Hid (∀ w',Below (w.heap.size+1+1) ((w.alloc (.cells tab 71)).alloc (.cells #[.int .u8 0,.int .i64 0,.int .u64 0,.slice none 0 0] 156)) w'→Calls Tryz.prog 157 #[.slice (some ⟨ab,ao+4,none⟩) 8 (cap - 4)] w' fun e w''=>e=.returned (.int .u64 (g:Int))∧w'=w''):=fun w' hw=>by
  rw [eg]
  exact takeHigh_len _ _ _ _ _ HL8.out (cut4.below (Below.mono hw hW)) (by omega)
 have hpar:parse xs=⟨k,(m:Int),g,(xs.drop 14).take s⟩:=by rw [ek,em,eg,es];rfl
 have HG:Hid (okP ⟨k,(m:Int),g,(xs.drop 14).take s⟩∧putP ⟨k,(m:Int),g,(xs.drop 14).take s⟩=xs→good xs):=fun h0=>⟨h,by have:=es;unfold sizeOfPage;omega,by rw [hpar];exact h0.1,by rw [hpar];exact h0.2⟩
 have HB:Hid (¬ (okP ⟨k,(m:Int),g,(xs.drop 14).take s⟩∧putP ⟨k,(m:Int),g,(xs.drop 14).take s⟩=xs)→¬ good xs):=fun h0 hg0=>h0 (by rw [← hpar];exact hg0.2.2)
 have HPAR:=Lib.hid hpar
 clear hpar
 have HC:Hid (bodyC ⟨k,(m:Int),g,(xs.drop 14).take s⟩):=⟨hg,by have:=HLS.out;show ((xs.drop 14).take s).length≤_;omega,by show (-9223372036854775808:Int)≤(m:Int);omega,by show (m:Int)≤_;omega⟩
 have hmw:IntKind.i64.wrap (m:Int)=m:=by simp only [IntKind.wrap_i64];omega
 have EK:=Lib.hid ek
 have EM:=Lib.hid em
 have EG:=Lib.hid eg
 clear hl2 h hs es em eg ek
 go_enter Tryz.func122,Tryz.ntmps122
 go_upto_region 6 with (go_at_call 157;refine (takeHigh_len _ _ _ _ _ HL.out cutB (by omega)).mono ?_;rintro e w' ⟨rfl,rfl⟩;rw [← ES.out])
 go_cut [7] (fun s7 wx=>∃ p A' c',s7=.pointer (some ⟨p,0,none⟩)∧Below (w.heap.size+1+1) ((w.alloc (.cells tab 71)).alloc (.cells #[.int .u8 0,.int .i64 0,.int .u64 0,.slice none 0 0] 156)) wx ∧
  wx.heap[p]?=some (.cells #[.int .u8 (k.toNat:Int),.int .i64 (m:Int),.int .u64 (g:Int),.slice A' s c'] 156 (0,0))∧BytesAt wx A' ((xs.drop 14).take s)∧s≤c'∧c'≤maxLen∧∀ a,A'=some a→w.heap.size+1<a.block)
 case first =>
  go_region_held3 (fun w'=>Below (w.heap.size+1+1) ((w.alloc (.cells tab 71)).alloc (.cells #[.int .u8 0,.int .i64 0,.int .u64 0,.slice none 0 0] 156)) w'∧w'.cell? ⟨ab,ao,none⟩=some (.int .u8 (k.toNat:Int)))
   (first
    | assumption
    | (with_reducible refine kept_new hab hc0 (below_set4 ?_ (Nat.le_refl _) _ _ _ _);first | assumption | (apply And.left;assumption))
    | (with_reducible refine kept_new hab hc0 (below_alloc hWB ?_ _);first | assumption | (apply And.left;assumption))
    | (with_reducible refine kept_new hab hc0 (below_grown hWB ?_ (by assumption));first | assumption | (apply And.left;assumption))
    | (exact kept_new hab hc0 (below_drewN (Below.refl _ _) 1))
    | (exact kept_new hab hc0 (below_drewN (below_alloc hWB (Below.refl _ _) _) 1)))
   (first
    | (go_at_call 157;with_reducible refine Calls.mono (HC2.out _ ?_) ?_;(first | assumption | (apply And.left;assumption));rintro e w' ⟨rfl,rfl⟩)
    | (go_at_call 157;with_reducible refine Calls.mono (HC4.out _ ?_) ?_;(first | assumption | (apply And.left;assumption));rintro e w' ⟨rfl,rfl⟩)
    | (refine step_append_nilM rfl _ _ 110 rfl Tryz.underlying110 (by kernel_rfl) rfl _ _ _ _ rfl HLS.out (cutS.below (Below.mono ?_ hW)) (by omega) ?_;(first | assumption | (apply And.left;assumption));intro A' c' w2 hA2 hc2 hg2 hn2' hcm2;have HCM2:=Lib.hid hcm2;clear hcm2;have HN2:=Lib.hid hn2';clear hn2';have hb2:=below_grown (B:=w.heap.size+1+1) (w0:=((w.alloc (.cells tab 71)).alloc (.cells #[.int .u8 0,.int .i64 0,.int .u64 0,.slice none 0 0] 156))) hWB (by first | assumption | (apply And.left;assumption)) hg2;try (have hp2:=(hg2.block (w.heap.size+1+1) (by simp) (by simp)).trans hZ.out;obtain ⟨q0,q1,q2,q3,f0,f1,f2,f3⟩:=four_cells hp2;have HP2:=Lib.hid hp2;clear hp2)))
  all_goals (go_wp2_with fail;go_meet)
  ·exact ⟨_,A',c',rfl,below_alloc hWB hb2 _,heap_alloc_new _ _,hA2.below ((Below.refl _ _).alloc (Nat.le_refl _) _),hc2,HCM2.out,fun a ha=>by have:=HN2.out a ha;simp at this;omega⟩
  all_goals exact ⟨_,A',c',rfl,below_set4 hb2 (Nat.le_refl _) _ _ _ _,set_four HP2.out _ _ _ _,bytes_set4 hA2 (fun a ha=>by have:=HN2.out a ha;simp at this;omega) _ _ _ _,hc2,HCM2.out,fun a ha=>by have:=HN2.out a ha;simp at this;omega⟩
 case rest =>
  obtain ⟨p,A',c',rfl,hbx,hp,hA,hc',hcm',hA1⟩:=hcut
  have HCM:=Lib.hid hcm'
  clear hcm'
  have hT:wc.heap[w.heap.size]?=some (.cells tab 71 (0,0)):=(hbx.block _ (by omega)).trans (heap_alloc2_old _ _ _)
  have hR:wc.heap[w.heap.size+1]?=some (.cells #[.int .u8 0,.int .i64 0,.int .u64 0,.slice none 0 0] 156 (0,0)):=(hbx.block _ (by omega)).trans (heap_alloc2_new _ _ _)
  have hBw:Below w.heap.size w wc:=hb.trans (hbx.mono (by omega))
  have hsz:w.heap.size+1+1≤wc.heap.size:=by have:=hbx.size;simp at this;omega
  have hpl:p<wc.heap.size:=(Array.getElem?_eq_some_iff.1 hp).1
  have HX:BytesAt wc (some ⟨ab,ao,none⟩) xs:=(hx.below hBw)
  have HPl:=Lib.hid hpl
  have HT:=Lib.hid hT
  have HR:=Lib.hid hR
  have HP:=Lib.hid hp
  have HA1:=Lib.hid hA1
  clear hT hR hp hA1 hpl
  by_cases hok:isK k=true∧m<512
  ·have hok':okP ⟨k,(m:Int),g,(xs.drop 14).take s⟩:=⟨hok.1,by show (0:Int)≤(m:Int);omega,by show (m:Int)≤511;omega,by have:=HLS.out;show ((xs.drop 14).take s).length≤238;omega⟩
   have HLP:=Lib.hid (length_putP ⟨k,(m:Int),g,(xs.drop 14).take s⟩ hok'.2.2.2)
   have HK:=Lib.hid hok.1
   have hm5:=hok.2
   have HA:=Lib.hid hA
   by_cases heq:putP ⟨k,(m:Int),g,(xs.drop 14).take s⟩=xs
   ·have hd:decide (putP ⟨k,(m:Int),g,(xs.drop 14).take s⟩=xs)=true:=by simpa using heq
    have HGD:=Lib.hid (HG.out ⟨hok',heq⟩)
    clear heq hok hok' hA
    go_wp2_with (first
    | (go_at_call 118;refine (put_ok_len k m g ((xs.drop 14).take s) s HLS.out HK.out hm5 hg hs2 A' c' _ HA.out hc').mono ?_;rintro e w3 ⟨rfl,hown,hb3⟩)
    | (go_at_call 158;refine (equal_any _ _ _ _ _ _ _ _ _ HLP.out H.out hown.bytes (HX.below hb3)).mono ?_;rintro e w4 ⟨rfl,rfl⟩;rw [hd])
    | (refine wpList_load_row rfl 71 (.tmp 2) rfl w.heap.size rfl 71 tab (0,0) _ HT.out Tryz.underlying71 rfl (by rw [size_tab];exact info64) ?_)
    | (refine wpList_load_row rfl 156 (.tmp 7) rfl p rfl 156 #[.int .u8 (k.toNat:Int),.int .i64 (m:Int),.int .u64 (g:Int),.slice A' s c'] (0,0) _ HP.out Tryz.underlying156 rfl size_page ?_)
    | (refine wpList_load_row rfl 156 (.tmp 7) rfl p rfl 156 #[.int .u8 (k.toNat:Int),.int .i64 (m:Int),.int .u64 (g:Int),.slice A' s c'] (0,0) _ ((hb3.block _ HPl.out).trans HP.out) Tryz.underlying156 rfl size_page ?_)
    | (refine wpList_store_row rfl 156 (.tmp 4) (.tmp 51) rfl (w.heap.size+1) #[.int .u8 (k.toNat:Int),.int .i64 (m:Int),.int .u64 (g:Int),.slice A' s c'] rfl rfl 156 #[.int .u8 0,.int .i64 0,.int .u64 0,.slice none 0 0] ((hb3.block _ (by omega)).trans HR.out) size_page rfl (by simp [Value.oneCell']) ?_))
    refine bodyPost_ret (v:=.tuple #[.agg #[.int .u8 (k.toNat:Int),.int .i64 (m:Int),.int .u64 (g:Int),.slice A' s c'],.int .i64 0]) (results_cell_tmp (p:=4) (u:=5) (ty:=156) rfl _ _ (w.heap.size+1) 156 #[.int .u8 (k.toNat:Int),.int .i64 (m:Int),.int .u64 (g:Int),.slice A' s c'] (0,0) _ rfl (setRow_heap _ _ #[.int .u8 0,.int .i64 0,.int .u64 0,.slice none 0 0] _ _ _ ((hb3.block _ (by omega)).trans HR.out)) Tryz.underlying156 rfl size_page) rfl
     ⟨below_setRow (hBw.trans (hb3.mono (by omega))) (Nat.le_succ _) _,.inr ⟨HGD.out,A',c',?_,?_,?_,HCM.out,fun a ha=>by have:=HA1.out a ha;omega⟩⟩
    ·rw [HPAR.out];unfold pageV;rw [HLS.out]
    ·rw [HPAR.out];exact bytes_setRow (HA.out.below hb3) HA1.out _
    ·rw [HPAR.out];show ((xs.drop 14).take s).length≤c';rw [HLS.out];exact hc'
   ·have hd:decide (putP ⟨k,(m:Int),g,(xs.drop 14).take s⟩=xs)=false:=by simpa using heq
    have HNE:=Lib.hid heq
    clear heq hok hok' hA
    go_wp2_with (first
    | (go_at_call 118;refine (put_ok_len k m g ((xs.drop 14).take s) s HLS.out HK.out hm5 hg hs2 A' c' _ HA.out hc').mono ?_;rintro e w3 ⟨rfl,hown,hb3⟩)
    | (go_at_call 158;refine (equal_any _ _ _ _ _ _ _ _ _ HLP.out H.out hown.bytes (HX.below hb3)).mono ?_;rintro e w4 ⟨rfl,rfl⟩;rw [hd])
    | (refine wpList_load_row rfl 71 (.tmp 2) rfl w.heap.size rfl 71 tab (0,0) _ HT.out Tryz.underlying71 rfl (by rw [size_tab];exact info64) ?_)
    | (refine wpList_load_row rfl 156 (.tmp 7) rfl p rfl 156 #[.int .u8 (k.toNat:Int),.int .i64 (m:Int),.int .u64 (g:Int),.slice A' s c'] (0,0) _ HP.out Tryz.underlying156 rfl size_page ?_)
    | (refine wpList_load_row rfl 156 (.tmp 7) rfl p rfl 156 #[.int .u8 (k.toNat:Int),.int .i64 (m:Int),.int .u64 (g:Int),.slice A' s c'] (0,0) _ ((hb3.block _ HPl.out).trans HP.out) Tryz.underlying156 rfl size_page ?_)
    | (refine wpList_store_row rfl 156 (.tmp 4) (.tmp 50) rfl (w.heap.size+1) #[.int .u8 0,.int .i64 0,.int .u64 0,.slice none 0 0] rfl rfl 156 #[.int .u8 0,.int .i64 0,.int .u64 0,.slice none 0 0] ((hb3.block _ (by omega)).trans HR.out) size_page rfl (by simp [Value.oneCell']) ?_))
    exact bodyPost_ret (v:=.tuple #[zeroPage,.int .i64 3]) (results_cell_tmp (p:=4) (u:=5) (ty:=156) rfl _ _ (w.heap.size+1) 156 #[.int .u8 0,.int .i64 0,.int .u64 0,.slice none 0 0] (0,0) _ rfl (setRow_heap _ _ #[.int .u8 0,.int .i64 0,.int .u64 0,.slice none 0 0] _ _ _ ((hb3.block _ (by omega)).trans HR.out)) Tryz.underlying156 rfl size_page) rfl
     ⟨below_setRow (hBw.trans (hb3.mono (by omega))) (Nat.le_succ _) _,.inl ⟨HB.out (fun h=>HNE.out h.2),rfl⟩⟩
  ·have hnb:¬ okP ⟨k,m,g,(xs.drop 14).take s⟩:=fun h=>hok ⟨h.1,by have:=h.2.2.1;simp at this;omega⟩
   have hbad:=HB.out (fun h=>hnb h.1)
   clear hbad
   have HNB:=Lib.hid hnb
   clear hnb hok
   go_wp2_with (first
    | (go_at_call 118;refine (put_err_len ⟨k,m,g,(xs.drop 14).take s⟩ HNB.out HC.out s HLS.out A' c' _).mono ?_;rintro e w3 ⟨rfl,hb3⟩)
    | (refine wpList_load_row rfl 71 (.tmp 2) rfl w.heap.size rfl 71 tab (0,0) _ HT.out Tryz.underlying71 rfl (by rw [size_tab];exact info64) ?_)
    | (refine wpList_load_row rfl 156 (.tmp 7) rfl p rfl 156 #[.int .u8 (k.toNat:Int),.int .i64 (m:Int),.int .u64 (g:Int),.slice A' s c'] (0,0) _ HP.out Tryz.underlying156 rfl size_page ?_)
    | (refine wpList_store_row rfl 156 (.tmp 4) (.tmp 50) rfl (w.heap.size+1) #[.int .u8 0,.int .i64 0,.int .u64 0,.slice none 0 0] rfl rfl 156 #[.int .u8 0,.int .i64 0,.int .u64 0,.slice none 0 0] ((hb3.block _ (by omega)).trans HR.out) size_page rfl (by simp [Value.oneCell']) ?_))
   exact bodyPost_ret (v:=.tuple #[zeroPage,.int .i64 3]) (results_cell_tmp (p:=4) (u:=5) (ty:=156) rfl _ _ (w.heap.size+1) 156 #[.int .u8 0,.int .i64 0,.int .u64 0,.slice none 0 0] (0,0) _ rfl (setRow_heap _ _ #[.int .u8 0,.int .i64 0,.int .u64 0,.slice none 0 0] _ _ _ ((hb3.block _ (by omega)).trans HR.out)) Tryz.underlying156 rfl size_page) rfl
    ⟨below_setRow (hBw.trans (hb3.mono (by omega))) (Nat.le_succ _) _,.inl ⟨HB.out (fun h=>HNB.out h.1),rfl⟩⟩
end Go.Proofs.YtgkddhncfaeidaaGreat
