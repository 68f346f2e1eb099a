/- Squeezed: the texts as they are written lie in wip/tpl. -/
import Derived.Test.YtgkddhncfaeidaaGreatPart03
import Derived.Deep.MidRow
import Derived.Test.YtgkddhncfaeidaaGreatPart01
set_option maxRecDepth 100000
set_option maxHeartbeats 8000000
set_option linter.unusedSimpArgs false
set_option linter.unusedVariables false
namespace Go.Proofs.YtgkddhncfaeidaaGreat
open Go.ChangeShapes Go.WideShapes Go.ChangeAt Go.RowKit CrcM PageM
def wn (z:Int):Nat:=(IntKind.u64.wrap z).toNat
theorem wn_eq (z:Int):IntKind.u64.wrap z=(wn z:Int):=by
 unfold wn
 have:0≤IntKind.u64.wrap z:=by rw [IntKind.wrap_u64];omega
 omega
theorem wn_lt (z:Int):wn z<18446744073709551616:=by
 unfold wn
 have:IntKind.u64.wrap z<18446744073709551616:=by rw [IntKind.wrap_u64];omega
 have:0≤IntKind.u64.wrap z:=by rw [IntKind.wrap_u64];omega
 omega
def kyB (k:KeyD):List UInt8:=be (wn k.se) 4 ++ be (wn k.st) 8
def enB (e:EntD):List UInt8:=kyB e.key ++ be (wn e.en) 8 ++ be (wn e.ad) 2 ++ be (wn e.le) 2 ++ be (wn e.cn) 1 ++ be (wn e.co) 1 ++ be (wn e.cr) 4
theorem length_kyB (k:KeyD):(kyB k).length=12:=by simp [kyB,length_be]
theorem length_enB (e:EntD):(enB e).length=30:=by simp [enB,length_be,length_kyB]
def BoxKept (w w':World):Prop:=∀ (g:Nat) (cs:Array Value) (T:TypeId),T≠5→w.heap[g]?=some (.cells cs T (0,0))→w'.heap[g]?=some (.cells cs T (0,0))
theorem BoxKept.trans {a b c:World} (h:BoxKept a b) (h2:BoxKept b c):BoxKept a c:=fun g cs T hT h0=>h2 g cs T hT (h g cs T hT h0)
theorem BoxKept.of_below {w w':World} (h:Below w.heap.size w w'):BoxKept w w':=fun g cs T _ h0=>(h.block g (Array.getElem?_eq_some_iff.1 h0).1).trans h0
theorem BoxKept.of_grown {w w':World} {B:Nat} {v:Value} {xs:List UInt8} (ho:OwnS w B v 5 xs) (hg:w.grownBy w' v.ownBlock):BoxKept w w':=fun g cs T hT h0 =>
 (hg.block g (Array.getElem?_eq_some_iff.1 h0).1 (fun e=>by
  rcases ho.2 with ⟨hv,_⟩ | ⟨g',cap,cur,hv,_,hh,_⟩
  ·rw [hv] at e;cases e
  ·rw [hv] at e
   injection e with e
   subst e
   rw [hh] at h0
   injection h0 with h0
   injection h0 with _ h0
   exact hT h0.symm)).trans h0
theorem putHigh_b (B len:Nat) (A:Option Addr) (c:Nat) (xs:List UInt8) (w:World) (hlen:xs.length=len) (ho:OwnS w B (.slice A len c) 5 xs) (hB:B≤w.heap.size) (z:Int) (s:Nat) (hz:z=(s:Int)) (hs:s≤8) (n:Nat) (hn:n<18446744073709551616) (hl:len≤1000000) (L:Nat) (hL:L=len+s) :
 Calls Tryz.prog 116 #[.slice A len c,.int .i64 z,.int .u64 n] w fun e w'=>∃ A' c',e=.returned (.slice A' L c')∧OwnS w' B (.slice A' L c') 5 (xs ++ be n s)∧Below B w w'∧BoxKept w w':=by
 subst hL
 refine (putHigh_nd B len A c xs w hlen ho hB z s hz hs n hn hl).mono ?_
 rintro e w' ⟨A',c',rfl,h1,h2,_⟩
 exact ⟨A',c',rfl,h1,ho.belowGrown (Nat.le_refl _) hB (Below.refl _ _) h2,BoxKept.of_grown ho h2⟩
theorem putKey_b (B len:Nat) (A:Option Addr) (c:Nat) (xs:List UInt8) (w:World) (hlen:xs.length=len) (ho:OwnS w B (.slice A len c) 5 xs) (hB:B≤w.heap.size) (k:KeyD) (hl:len≤100000) (L:Nat) (hL:L=len+12) :
 Calls Tryz.prog 115 #[.slice A len c,.agg #[.int .i64 k.se,.int .i64 k.st]] w fun e w'=>∃ A' c',e=.returned (.slice A' L c')∧OwnS w' B (.slice A' L c') 5 (xs ++ kyB k)∧Below B w w'∧BoxKept w w':=by
 subst hL
 refine (putKey_nd B len A c xs w hlen ho hB k.se k.st (wn k.se) (wn k.st) (wn_eq _) (wn_eq _) (wn_lt _) (wn_lt _) hl).mono ?_
 rintro e w' ⟨A',c',rfl,h1,h2,_⟩
 rw [List.append_assoc] at h1
 exact ⟨A',c',rfl,h1,ho.belowGrown (Nat.le_refl _) hB (Below.refl _ _) h2,BoxKept.of_grown ho h2⟩
theorem putEntry_b (B len:Nat) (A:Option Addr) (c:Nat) (xs:List UInt8) (w:World) (hlen:xs.length=len) (ho:OwnS w B (.slice A len c) 5 xs) (hB:B≤w.heap.size) (e:EntD) (hl:len≤100000) (L:Nat) (hL:L=len+30) :
 Calls Tryz.prog 114 #[.slice A len c,.agg #[.int .i64 e.se,.int .i64 e.st,.int .i64 e.en,.int .i64 e.ad,.int .i64 e.le,.int .i64 e.cn,.int .i64 e.co,.int .u32 e.cr]] w fun e' w'=>∃ A' c',e'=.returned (.slice A' L c')∧OwnS w' B (.slice A' L c') 5 (xs ++ enB e)∧Below B w w'∧BoxKept w w':=by
 have HLEN:=Lib.hid hlen
 have HL:=Lib.hid hL
 obtain ⟨n_en,e_en⟩:∃ n,wn e.en=n:=⟨_,rfl⟩
 have W_en:Hid (IntKind.u64.wrap e.en=(n_en:Int)):=Lib.hid (by rw [← e_en];exact wn_eq _)
 have B_en:Hid (n_en<18446744073709551616):=Lib.hid (by rw [← e_en];exact wn_lt _)
 have E_en:=Lib.hid e_en
 obtain ⟨n_ad,e_ad⟩:∃ n,wn e.ad=n:=⟨_,rfl⟩
 have W_ad:Hid (IntKind.u64.wrap e.ad=(n_ad:Int)):=Lib.hid (by rw [← e_ad];exact wn_eq _)
 have B_ad:Hid (n_ad<18446744073709551616):=Lib.hid (by rw [← e_ad];exact wn_lt _)
 have E_ad:=Lib.hid e_ad
 obtain ⟨n_le,e_le⟩:∃ n,wn e.le=n:=⟨_,rfl⟩
 have W_le:Hid (IntKind.u64.wrap e.le=(n_le:Int)):=Lib.hid (by rw [← e_le];exact wn_eq _)
 have B_le:Hid (n_le<18446744073709551616):=Lib.hid (by rw [← e_le];exact wn_lt _)
 have E_le:=Lib.hid e_le
 obtain ⟨n_cn,e_cn⟩:∃ n,wn e.cn=n:=⟨_,rfl⟩
 have W_cn:Hid (IntKind.u64.wrap e.cn=(n_cn:Int)):=Lib.hid (by rw [← e_cn];exact wn_eq _)
 have B_cn:Hid (n_cn<18446744073709551616):=Lib.hid (by rw [← e_cn];exact wn_lt _)
 have E_cn:=Lib.hid e_cn
 obtain ⟨n_co,e_co⟩:∃ n,wn e.co=n:=⟨_,rfl⟩
 have W_co:Hid (IntKind.u64.wrap e.co=(n_co:Int)):=Lib.hid (by rw [← e_co];exact wn_eq _)
 have B_co:Hid (n_co<18446744073709551616):=Lib.hid (by rw [← e_co];exact wn_lt _)
 have E_co:=Lib.hid e_co
 obtain ⟨n_cr,e_cr⟩:∃ n,wn e.cr=n:=⟨_,rfl⟩
 have W_cr:Hid (IntKind.u64.wrap e.cr=(n_cr:Int)):=Lib.hid (by rw [← e_cr];exact wn_eq _)
 have B_cr:Hid (n_cr<18446744073709551616):=Lib.hid (by rw [← e_cr];exact wn_lt _)
 have E_cr:=Lib.hid e_cr
 obtain ⟨l1,hl1⟩:∃ l,l=len+12:=⟨_,rfl⟩
 have HL1:=Lib.hid hl1
 obtain ⟨l2,hl2⟩:∃ l,l=len+20:=⟨_,rfl⟩
 have HL2:=Lib.hid hl2
 obtain ⟨l3,hl3⟩:∃ l,l=len+22:=⟨_,rfl⟩
 have HL3:=Lib.hid hl3
 obtain ⟨l4,hl4⟩:∃ l,l=len+24:=⟨_,rfl⟩
 have HL4:=Lib.hid hl4
 obtain ⟨l5,hl5⟩:∃ l,l=len+25:=⟨_,rfl⟩
 have HL5:=Lib.hid hl5
 obtain ⟨l6,hl6⟩:∃ l,l=len+26:=⟨_,rfl⟩
 have HL6:=Lib.hid hl6
 obtain ⟨l7,hl7⟩:∃ l,l=len+30:=⟨_,rfl⟩
 have HL7:=Lib.hid hl7
 have hwal:Below B w (w.alloc (.cells #[.int .i64 e.se,.int .i64 e.st,.int .i64 e.en,.int .i64 e.ad,.int .i64 e.le,.int .i64 e.cn,.int .i64 e.co,.int .u32 e.cr] 40)):=(Below.refl _ _).alloc hB _
 have HWAL:=Lib.hid hwal
 have HBX:Hid (BoxKept w (w.alloc (.cells #[.int .i64 e.se,.int .i64 e.st,.int .i64 e.en,.int .i64 e.ad,.int .i64 e.le,.int .i64 e.cn,.int .i64 e.co,.int .u32 e.cr] 40))):=Lib.hid (BoxKept.of_below ((Below.refl _ _).alloc (Nat.le_refl _) _))
 have HO:=Lib.hid (ho.alloc (.cells #[.int .i64 e.se,.int .i64 e.st,.int .i64 e.en,.int .i64 e.ad,.int .i64 e.le,.int .i64 e.cn,.int .i64 e.co,.int .u32 e.cr] 40))
 clear hlen hL hwal ho e_en e_ad e_le e_cn e_co e_cr hl1 hl2 hl3 hl4 hl5 hl6 hl7
 go_enter Tryz.func114,Tryz.ntmps114
 go_upto_region 1 with fail
 obtain ⟨W,eW⟩:∃ W,W=w.alloc (.cells #[.int .i64 e.se,.int .i64 e.st,.int .i64 e.en,.int .i64 e.ad,.int .i64 e.le,.int .i64 e.cn,.int .i64 e.co,.int .u32 e.cr] 40):=⟨_,rfl⟩
 have hrow:W.heap[w.heap.size]?=some (.cells #[.int .i64 e.se,.int .i64 e.st,.int .i64 e.en,.int .i64 e.ad,.int .i64 e.le,.int .i64 e.cn,.int .i64 e.co,.int .u32 e.cr] 40 (0,0)):=by rw [eW];exact heap_alloc_new _ _
 rw [← eW] at HWAL HBX HO ⊢
 clear eW
 have a0:=nd_cell hrow 0 _ rfl
 have a1:=nd_cell hrow 1 _ rfl
 have HROW:=Lib.hid hrow
 clear hrow
 go_wp2_with (first
  | (go_at_call 115;refine (putKey_b B len A c xs _ HLEN.out HO.out (Nat.le_trans hB HWAL.out.size) e.key hl l1 HL1.out).mono ?_;rintro e' w1 ⟨A1,c1,rfl,ho1,hb1,hx1⟩;have HO1:=Lib.hid ho1;have HB1:=Lib.hid (HWAL.out.trans hb1);have HX1:=Lib.hid (HBX.out.trans hx1);have HR1:=Lib.hid (hx1 _ _ 40 (by decide) HROW.out);have a2:=nd_cell HR1.out 2 _ rfl;clear ho1 hb1 hx1)
  | (go_at_call 116;rw [W_en.out];refine (putHigh_b B l1 A1 c1 (xs ++ kyB e.key) _ (by simp [length_kyB,HLEN.out];have:=HL1.out;omega) HO1.out (Nat.le_trans hB HB1.out.size) 8 8 rfl (by omega) n_en B_en.out (by have:=HL1.out;omega) l2 (by have:=HL1.out;have:=HL2.out;omega)).mono ?_;rintro e' w2 ⟨A2,c2,rfl,ho2,hb2,hx2⟩;have HO2:=Lib.hid ho2;have HB2:=Lib.hid (HB1.out.trans hb2);have HX2:=Lib.hid (HX1.out.trans hx2);have HR2:=Lib.hid (hx2 _ _ 40 (by decide) HR1.out);have a3:=nd_cell HR2.out 3 _ rfl;clear ho2 hb2 hx2)
  | (go_at_call 116;rw [W_ad.out];refine (putHigh_b B l2 A2 c2 (xs ++ kyB e.key ++ be n_en 8) _ (by simp [length_be,length_kyB,HLEN.out];have:=HL2.out;omega) HO2.out (Nat.le_trans hB HB2.out.size) 2 2 rfl (by omega) n_ad B_ad.out (by have:=HL2.out;omega) l3 (by have:=HL2.out;have:=HL3.out;omega)).mono ?_;rintro e' w3 ⟨A3,c3,rfl,ho3,hb3,hx3⟩;have HO3:=Lib.hid ho3;have HB3:=Lib.hid (HB2.out.trans hb3);have HX3:=Lib.hid (HX2.out.trans hx3);have HR3:=Lib.hid (hx3 _ _ 40 (by decide) HR2.out);have a4:=nd_cell HR3.out 4 _ rfl;clear ho3 hb3 hx3)
  | (go_at_call 116;rw [W_le.out];refine (putHigh_b B l3 A3 c3 (xs ++ kyB e.key ++ be n_en 8 ++ be n_ad 2) _ (by simp [length_be,length_kyB,HLEN.out];have:=HL3.out;omega) HO3.out (Nat.le_trans hB HB3.out.size) 2 2 rfl (by omega) n_le B_le.out (by have:=HL3.out;omega) l4 (by have:=HL3.out;have:=HL4.out;omega)).mono ?_;rintro e' w4 ⟨A4,c4,rfl,ho4,hb4,hx4⟩;have HO4:=Lib.hid ho4;have HB4:=Lib.hid (HB3.out.trans hb4);have HX4:=Lib.hid (HX3.out.trans hx4);have HR4:=Lib.hid (hx4 _ _ 40 (by decide) HR3.out);have a5:=nd_cell HR4.out 5 _ rfl;clear ho4 hb4 hx4)
  | (go_at_call 116;rw [W_cn.out];refine (putHigh_b B l4 A4 c4 (xs ++ kyB e.key ++ be n_en 8 ++ be n_ad 2 ++ be n_le 2) _ (by simp [length_be,length_kyB,HLEN.out];have:=HL4.out;omega) HO4.out (Nat.le_trans hB HB4.out.size) 1 1 rfl (by omega) n_cn B_cn.out (by have:=HL4.out;omega) l5 (by have:=HL4.out;have:=HL5.out;omega)).mono ?_;rintro e' w5 ⟨A5,c5,rfl,ho5,hb5,hx5⟩;have HO5:=Lib.hid ho5;have HB5:=Lib.hid (HB4.out.trans hb5);have HX5:=Lib.hid (HX4.out.trans hx5);have HR5:=Lib.hid (hx5 _ _ 40 (by decide) HR4.out);have a6:=nd_cell HR5.out 6 _ rfl;clear ho5 hb5 hx5)
  | (go_at_call 116;rw [W_co.out];refine (putHigh_b B l5 A5 c5 (xs ++ kyB e.key ++ be n_en 8 ++ be n_ad 2 ++ be n_le 2 ++ be n_cn 1) _ (by simp [length_be,length_kyB,HLEN.out];have:=HL5.out;omega) HO5.out (Nat.le_trans hB HB5.out.size) 1 1 rfl (by omega) n_co B_co.out (by have:=HL5.out;omega) l6 (by have:=HL5.out;have:=HL6.out;omega)).mono ?_;rintro e' w6 ⟨A6,c6,rfl,ho6,hb6,hx6⟩;have HO6:=Lib.hid ho6;have HB6:=Lib.hid (HB5.out.trans hb6);have HX6:=Lib.hid (HX5.out.trans hx6);have HR6:=Lib.hid (hx6 _ _ 40 (by decide) HR5.out);have a7:=nd_cell HR6.out 7 _ rfl;clear ho6 hb6 hx6)
  | (go_at_call 116;rw [W_cr.out];refine (putHigh_b B l6 A6 c6 (xs ++ kyB e.key ++ be n_en 8 ++ be n_ad 2 ++ be n_le 2 ++ be n_cn 1 ++ be n_co 1) _ (by simp [length_be,length_kyB,HLEN.out];have:=HL6.out;omega) HO6.out (Nat.le_trans hB HB6.out.size) 4 4 rfl (by omega) n_cr B_cr.out (by have:=HL6.out;omega) l7 (by have:=HL6.out;have:=HL7.out;omega)).mono ?_;rintro e' w7 ⟨A7,c7,rfl,ho7,hb7,hx7⟩;have HO7:=Lib.hid ho7;have HB7:=Lib.hid (HB6.out.trans hb7);have HX7:=Lib.hid (HX6.out.trans hx7);have HR7:=Lib.hid (hx7 _ _ 40 (by decide) HR6.out);clear ho7 hb7 hx7))
 go_ret
 have hlL:l7=L:=by have h1:=HL.out;have h2:=HL7.out;omega
 subst hlL
 refine ⟨A7,c7,rfl,?_,HB7.out,HX7.out⟩
 have h7:=HO7.out
 rw [← E_en.out,← E_ad.out,← E_le.out,← E_cn.out,← E_co.out,← E_cr.out] at h7
 simpa [enB,List.append_assoc] using h7
theorem IsB.mkT {P:Prop} (h:P):IsB true P:=by unfold IsB;simp [h]
def NodeD.size (n:NodeD):Nat:=if n.leaf=true then n.es.length else n.ds.length
def kidB (p:KeyD × Int):List UInt8:=kyB p.1 ++ be (wn p.2) 2
def nodeB (n:NodeD):List UInt8:=UInt8.ofNat n.size :: (n.es.flatMap enB ++ (n.ks.zip n.ds).flatMap kidB)
theorem size_any (n:NodeD) (l:NdL) (w:World) :
 Calls Tryz.prog 52 #[.agg #[.bool n.leaf,.slice l.EA n.es.length l.ec,.slice l.KA n.ks.length l.kc,.slice l.DA n.ds.length l.dc]] w fun e w'=>e=.returned (.int .i64 (n.size:Int))∧Below w.heap.size w w':=by
 obtain ⟨lf,es,ks,ds⟩:=n
 obtain ⟨EA,ec,KA,kc,DA,dc⟩:=l
 dsimp only
 cases lf with
 | true =>
   go_enter Tryz.func52,Tryz.ntmps52
   go_wp2_with fail
   go_ret
   exact ⟨rfl,(Below.refl _ _).alloc (Nat.le_refl _) _⟩
 | false =>
   go_enter Tryz.func52,Tryz.ntmps52
   go_wp2_with fail
   go_ret
   exact ⟨rfl,(Below.refl _ _).alloc (Nat.le_refl _) _⟩
theorem okNode_sizes {n:NodeD} (h:okNode n):n.es.length≤7∧n.ks.length=n.ds.length∧n.ds.length≤16∧n.size≤16∧1≤n.size:=by
 unfold okNode at h
 unfold NodeD.size
 split at h
 ·obtain ⟨h1,h2,h3,h4,_⟩:=h
  rw [h1,h2,if_pos (by assumption)]
  simp
  omega
 ·obtain ⟨h1,h2,⟨h3,h4,_⟩,_⟩:=h
  rw [h1,if_neg (by assumption)]
  simp
  omega
theorem flat_take {α:Type} {f:α→List UInt8} {l:List α} {k:Nat} {x:α} (h:l[k]?=some x):(l.take (k+1)).flatMap f=(l.take k).flatMap f ++ f x:=by
 rw [List.take_add_one,h]
 simp
theorem flat_len {α:Type} {f:α→List UInt8} {m:Nat} (hf:∀ x,(f x).length=m) (l:List α):(l.flatMap f).length=m*l.length:=by
 induction l with
 | nil=>simp
 | cons a t ih=>simp [ih,hf,Nat.mul_succ,Nat.add_comm]
theorem length_kidB (p:KeyD × Int):(kidB p).length=14:=by simp [kidB,length_kyB,length_be]
theorem put_yes (n:NodeD) (l:NdL) (hn:okNode n) (w:World) (h:NodeAt w n l) (L:Nat) (hL:L=(nodeB n).length) :
 Calls Tryz.prog 74 #[.agg #[.bool n.leaf,.slice l.EA n.es.length l.ec,.slice l.KA n.ks.length l.kc,.slice l.DA n.ds.length l.dc]] w fun e w'=>∃ A c,e=.returned (.tuple #[.slice A L c,.int .i64 0])∧OwnS w' w.heap.size (.slice A L c) 5 (nodeB n)∧Below w.heap.size w w':=by
 obtain ⟨hs1,hs2,hs3,hs4,hs5⟩:=okNode_sizes hn
 have hr0:Hid (∀ w',NodeAt w' n l→Calls Tryz.prog 49 #[.agg #[.bool n.leaf,.slice l.EA n.es.length l.ec,.slice l.KA n.ks.length l.kc,.slice l.DA n.ds.length l.dc]] w' fun e w1=>e=.returned (.bool true)∧Below w'.heap.size w' w1):=Lib.hid (fun w' h'=>right_any n l true (IsB.mkT hn) w' h')
 have hz0:Hid (∀ w',Calls Tryz.prog 52 #[.agg #[.bool n.leaf,.slice l.EA n.es.length l.ec,.slice l.KA n.ks.length l.kc,.slice l.DA n.ds.length l.dc]] w' fun e w1=>e=.returned (.int .i64 (n.size:Int))∧Below w'.heap.size w' w1):=Lib.hid (fun w'=>size_any n l w')
 obtain ⟨sz,hsz⟩:∃ s,n.size=s:=⟨_,rfl⟩
 rw [hsz] at hz0 hs4 hs5
 obtain ⟨b0,hb0⟩:∃ b,UInt8.ofNat sz=b:=⟨_,rfl⟩
 have hb0n:b0.toNat=sz:=by rw [← hb0,UInt8.toNat_ofNat'];omega
 have hnb:nodeB n=b0 :: (n.es.flatMap enB ++ (n.ks.zip n.ds).flatMap kidB):=by unfold nodeB;rw [hsz,hb0]
 rw [hnb] at hL ⊢
 obtain ⟨lf,es,ks,ds⟩:=n
 obtain ⟨EA,ec,KA,kc,DA,dc⟩:=l
 dsimp only at *
 obtain ⟨ne,hne⟩:∃ x,es.length=x:=⟨_,rfl⟩
 obtain ⟨nk,hnk⟩:∃ x,ks.length=x:=⟨_,rfl⟩
 obtain ⟨nd,hnd⟩:∃ x,ds.length=x:=⟨_,rfl⟩
 rw [hne] at hs1
 rw [hnk,hnd] at hs2
 rw [hnd] at hs3
 have H:=Lib.hid h
 rw [hne,hnk,hnd] at hr0 hz0 ⊢
 have HNE:=Lib.hid hne
 have HNK:=Lib.hid hnk
 have HND:=Lib.hid hnd
 have HL:=Lib.hid hL
 have HS2:=Lib.hid hs2
 have HB0N:=Lib.hid hb0n
 obtain ⟨W,eW⟩:∃ W,W=w.alloc (.cells #[.bool lf,.slice EA ne ec,.slice KA nk kc,.slice DA nd dc] 86):=⟨_,rfl⟩
 have hrow:W.heap[w.heap.size]?=some (.cells #[.bool lf,.slice EA ne ec,.slice KA nk kc,.slice DA nd dc] 86 (0,0)):=by rw [eW];exact heap_alloc_new _ _
 have hbel:Below w.heap.size w W:=by rw [eW];exact (Below.refl _ _).alloc (Nat.le_refl _) _
 have EW:=Lib.hid eW.symm
 have HB:=Lib.hid hbel
 have HROW:=Lib.hid hrow
 have hwu:IntKind.u8.wrap (sz:Int)=(b0.toNat:Int):=by rw [hb0n,IntKind.wrap_u8];omega
 clear h hne hnk hnd eW hrow hbel hL hsz hb0 hb0n hnb hs2 hn
 go_enter Tryz.func74,Tryz.ntmps74
 go_upto_region 1 with fail
 rw [EW.out]
 go_upto_region 3 with (first
  | (refine wpList_load_row rfl 86 (.tmp 1) rfl w.heap.size rfl 86 _ (0,0) _ HROW.out Tryz.underlying86 rfl (by kernel_rfl) ?_)
  | (go_at_call 49;refine (hr0.out _ (H.out.below HB.out)).mono ?_;rintro e w1 ⟨rfl,hb1⟩;have HB1:=Lib.hid hb1;have HR1:=Lib.hid ((hb1.block w.heap.size (Array.getElem?_eq_some_iff.1 HROW.out).1).trans HROW.out);clear hb1))
 go_upto_region 4 with (first
  | (refine wpList_load_row rfl 86 (.tmp 1) rfl w.heap.size rfl 86 _ (0,0) _ HR1.out Tryz.underlying86 rfl (by kernel_rfl) ?_)
  | (go_at_call 52;refine (hz0.out _).mono ?_;rintro e w2 ⟨rfl,hb2⟩;have HB2:=Lib.hid hb2;have HR2:=Lib.hid ((hb2.block w.heap.size (Array.getElem?_eq_some_iff.1 HR1.out).1).trans HR1.out);clear hb2))
 have hbw:Below w.heap.size w w2:=HB.out.trans ((HB1.out.trans (HB2.out.mono HB1.out.size)).mono HB.out.size)
 have HBW:=Lib.hid hbw
 obtain ⟨B,hBe⟩:∃ B,B=w2.heap.size:=⟨_,rfl⟩
 obtain ⟨W3,eW3⟩:∃ W3,W3=w2.alloc (.cells #[.int .u8 (b0.toNat:Int)] 5):=⟨_,rfl⟩
 have hown:OwnS W3 B (.slice (some ⟨B,0,none⟩) 1 1) 5 [b0]:=by rw [eW3,hBe];exact OwnS.new w2 5 [b0] w2.heap.size (Nat.le_refl _) (by simp [maxLen])
 have hb3:Below B w2 W3:=by rw [eW3];exact (Below.refl _ _).alloc (by omega) _
 rw [← eW3,← hBe]
 have HOWN:=Lib.hid hown
 have HB3:=Lib.hid hb3
 have HBE:=Lib.hid hBe
 have hwB:w.heap.size<B:=by rw [hBe];exact (Array.getElem?_eq_some_iff.1 HR2.out).1
 have HWB:=Lib.hid hwB
 clear hown hb3 hBe eW3 hwB hbw
 have HX:Hid (∀ W',Below B w2 W'→W'.heap[w.heap.size]?=some (.cells #[.bool lf,.slice EA ne ec,.slice KA nk kc,.slice DA nd dc] 86 (0,0))):=Lib.hid (fun W' hb=>(hb.block _ HWB.out).trans HR2.out)
 have k1:=nd_cell (HX.out _ HB3.out) 1 _ rfl
 go_upto_region 5 with fail
 clear k1
 go_loopw [4,19] (fun b i wr=>∃ (k:Nat) (A:Option Addr) (c:Nat),k≤ne∧i=.int .i64 k∧b=.slice A (1+30*k) c∧Hid (OwnS wr B (.slice A (1+30*k) c) 5 (b0 :: (es.take k).flatMap enB))∧Hid (Below B w2 wr)) (fun _ i _=>ne - (intOf i).toNat)
 case atStart=>exact ⟨0,_,1,by omega,rfl,rfl,by simpa using HOWN,HB3⟩
 case round =>
  obtain ⟨k,A,c,hk,rfl,rfl,HO,HBR⟩:=hrel
  by_cases hlt:k<ne
  ·obtain ⟨e,he⟩:∃ e,es[k]?=some e:=⟨_,List.getElem?_eq_getElem (by rw [HNE.out];exact hlt)⟩
   have hwr:Below w.heap.size w wr:=HBW.out.trans (HBR.out.mono (by have:=HWB.out;omega))
   obtain ⟨b,off,rfl,hcell⟩:=(H.out.below hwr).e (by intro e;have:=HNE.out;dsimp only at e;rw [e] at this;simp at this;omega)
   obtain ⟨c0,c1,c2,c3,c4,c5,c6,c7⟩:=hcell k e he
   have HE:=Lib.hid he
   have hBs:B≤wr.heap.size:=by rw [HBE.out];exact HBR.out.size
   have HBS:=Lib.hid hBs
   clear hcell he hwr hBs
   obtain ⟨ll,hll⟩:∃ ll,ll=1+30*k:=⟨_,rfl⟩
   rw [← hll] at HO ⊢
   have HLL:=Lib.hid hll
   clear hll
   go_upto_region 7 with fail
   go_wp2_with (go_at_call 114;refine (putEntry_b B ll A c _ _ (by rw [HLL.out];simp [flat_len length_enB];have:=HNE.out;omega) (HO.out.alloc _) (by simp;have:=HBS.out;omega) e (by have:=HLL.out;omega) (1+30*(k+1)) (by have:=HLL.out;omega)).mono ?_;rintro e' w5 ⟨A5,c5,rfl,ho5,hb5,-⟩;have HO5:=Lib.hid ho5;have HB5:=Lib.hid hb5;clear ho5 hb5)
   go_roundw
   case rel=>exact ⟨k+1,A5,c5,by omega,by go_num,rfl,Lib.hid (by rw [flat_take HE.out];simpa using HO5.out),Lib.hid ((HBR.out.alloc (by have:=HBS.out;omega) _).trans HB5.out)⟩
   case measure=>first | (simp [intOf];done) | (simp [intOf];omega)
  ·obtain rfl:k=ne:=by omega
   have hL0:∃ L0,L0=1+30*k:=⟨_,rfl⟩
   obtain ⟨L0,hL0⟩:=hL0
   rw [← hL0] at HO ⊢
   have htk:es.take k=es:=List.take_of_length_le (by have:=HNE.out;omega)
   rw [htk] at HO
   have HL0:=Lib.hid hL0
   obtain ⟨pre,hpre⟩:∃ p,p=b0 :: es.flatMap enB:=⟨_,rfl⟩
   rw [← hpre] at HO
   have HPRE:=Lib.hid hpre
   have hplen:pre.length=L0:=by rw [hpre,hL0];simp [flat_len length_enB];have:=HNE.out;omega
   have HPL:=Lib.hid hplen
   obtain ⟨W0,rfl⟩:∃ W0,W0=wr:=⟨_,rfl⟩
   have k3:=nd_cell (HX.out _ HBR.out) 3 _ rfl
   clear hL0 htk hpre hplen
   have hd1:decide ((k:Int)<(k:Int))=false:=by simp
   go_upto_region 10 with fail
   clear k3
   go_loopw [4,30] (fun b i wr=>∃ (j:Nat) (A:Option Addr) (c:Nat),j≤nd∧i=.int .i64 j∧b=.slice A (L0+14*j) c∧Hid (OwnS wr B (.slice A (L0+14*j) c) 5 (pre ++ ((ks.zip ds).take j).flatMap kidB))∧Hid (Below B w2 wr)) (fun _ i _=>nd - (intOf i).toNat)
   case atStart=>exact ⟨0,_,c,by omega,rfl,rfl,by simpa using HO,HBR⟩
   case round =>
    clear HO HBR
    obtain ⟨j,A,c,hj,rfl,rfl,HO,HBR⟩:=hrel
    by_cases hlt2:j<nd
    ·obtain ⟨e,he⟩:∃ e,ks[j]?=some e:=⟨_,List.getElem?_eq_getElem (by have:=HNK.out;have:=HS2.out;omega)⟩
     obtain ⟨z,hz⟩:∃ z,ds[j]?=some z:=⟨_,List.getElem?_eq_getElem (by have:=HND.out;omega)⟩
     have hzip:(ks.zip ds)[j]?=some (e,z):=by rw [List.getElem?_zip_eq_some];exact ⟨he,hz⟩
     have hjk:j<nk:=by have:=HS2.out;omega
     have hwr:Below w.heap.size w wr:=HBW.out.trans (HBR.out.mono (by have:=HWB.out;omega))
     obtain ⟨bk,ok,rfl,hck⟩:=(H.out.below hwr).k (by intro e';have h1:=HNK.out;dsimp only at e';rw [e'] at h1;simp at h1;omega)
     obtain ⟨bd,od,rfl,hcd⟩:=(H.out.below hwr).d (by intro e';have h1:=HND.out;dsimp only at e';rw [e'] at h1;simp at h1;omega)
     obtain ⟨c0,c1⟩:=hck j e he
     have c2:=hcd j z hz
     have k2:=nd_cell (HX.out _ HBR.out) 2 _ rfl
     have hBs:B≤wr.heap.size:=by rw [HBE.out];exact HBR.out.size
     have HBS:=Lib.hid hBs
     have HZIP:=Lib.hid hzip
     obtain ⟨ll,hll⟩:∃ ll,ll=L0+14*j:=⟨_,rfl⟩
     rw [← hll] at HO ⊢
     obtain ⟨lm,hlm⟩:∃ lm,lm=ll+12:=⟨_,rfl⟩
     have HLL:=Lib.hid hll
     have HLM:=Lib.hid hlm
     have HW1:Hid (IntKind.u64.wrap z=(wn z:Int)):=Lib.hid (wn_eq z)
     clear hck hcd he hz hzip hwr hBs hll hlm
     go_wp2_with (first
      | (go_at_call 115;refine (putKey_b B ll A c _ _ (by rw [HLL.out,List.length_append,HPL.out,flat_len length_kidB];simp;have:=HND.out;have:=HNK.out;have:=HS2.out;omega) HO.out HBS.out e (by have:=HLL.out;have:=HL0.out;omega) lm HLM.out).mono ?_;rintro e' w5 ⟨A5,c5,rfl,ho5,hb5,-⟩;have HO5:=Lib.hid ho5;have HB5:=Lib.hid hb5;clear ho5 hb5)
      | (go_at_call 116;rw [HW1.out];refine (putHigh_b B lm A5 c5 _ _ (by rw [HLM.out,HLL.out,List.length_append,List.length_append,HPL.out,flat_len length_kidB,length_kyB];simp;have:=HND.out;have:=HNK.out;have:=HS2.out;omega) HO5.out (Nat.le_trans HBS.out HB5.out.size) 2 2 rfl (by omega) (wn z) (wn_lt z) (by have:=HLM.out;have:=HLL.out;have:=HL0.out;omega) (L0+14*(j+1)) (by have:=HLM.out;have:=HLL.out;omega)).mono ?_;rintro e' w6 ⟨A6,c6,rfl,ho6,hb6,-⟩;have HO6:=Lib.hid ho6;have HB6:=Lib.hid hb6;clear ho6 hb6))
     go_roundw
     case rel=>exact ⟨j+1,A6,c6,by omega,by go_num,rfl,Lib.hid (by rw [flat_take HZIP.out];simpa [kidB] using HO6.out),Lib.hid ((HBR.out.trans HB5.out).trans HB6.out)⟩
     case measure=>first | (simp [intOf];done) | (simp [intOf];omega)
    ·obtain rfl:j=nd:=by omega
     have hlen:L0+14*j=L:=by rw [HL.out,List.length_cons,List.length_append,flat_len length_enB,flat_len length_kidB,HL0.out];simp;have:=HND.out;have:=HNK.out;have:=HS2.out;have:=HNE.out;omega
     have htk:(ks.zip ds).take j=ks.zip ds:=List.take_of_length_le (by simp;have:=HND.out;omega)
     rw [htk,HPRE.out] at HO
     rw [hlen] at HO ⊢
     have HO2:Hid (OwnS wr w.heap.size (.slice A L c) 5 (b0 :: (es.flatMap enB ++ (ks.zip ds).flatMap kidB))):=Lib.hid (by simpa using HO.out.mono (by have:=HWB.out;omega))
     clear HO hlen htk
     go_wp2_with fail
     go_ret2
     exact ⟨A,c,rfl,HO2.out,HBW.out.trans (HBR.out.mono (by have:=HWB.out;omega))⟩
end Go.Proofs.YtgkddhncfaeidaaGreat
namespace Go.Proofs.YtgkddhncfaeidaaGreat
open Go.RowKit
def softB4 (o:Oper):Bool:=match o.op with
 | .move _ | .assign _ | .pick _ _ _ | .load _ _ | .binOp _ _ _ _ _ | .unOp _ _ _ | .convert _ _ _ | .slice _ _ _ _ _ | .fieldAddr _ _ _ | .field _ _ _ | .indexAddr _ _ _ | .index _ _ _ | .extract _ _ | .build _ _ | .nilCheck _=>true
 | .call c=>match c.callee with
   | .builtin .len | .builtin .cap | .builtin .min | .builtin .max=>true
   | _=>false
 | _=>false
theorem soft_value4 {P:Program} {o:Oper} (hs:softB4 o=true) {ρ:Operand→Value} {w w':World} {n:Next} (h:(execOp ρ o).run P w=.ok n w'):∃ u,n=.value u:=by
 obtain ⟨dst,op,type,pos,after,guard⟩:=o
 cases op <;> simp only [softB4,Bool.false_eq_true] at hs <;> simp only [execOp,Sem.run_bind,Sem.run_pure] at h
 case move=>exact ⟨_,by injection h with h1;exact h1.symm⟩
 case assign=>exact ⟨_,by injection h with h1;exact h1.symm⟩
 case call c =>
  obtain ⟨callee,args,argTypes⟩:=c
  cases callee with
  | builtin b =>
    cases b <;> simp only [Bool.false_eq_true] at hs <;> simp only [resolve,invoke,builtin,Sem.run_bind,Sem.run_pure,Result.andThen_ok] at h <;> exact andThen_value h
  | _=>simp only [Bool.false_eq_true] at hs
 case pick c a b =>
  generalize (asBool _).run P w=m at h
  cases m with
  | ok v w2=>simp [Result.andThen] at h;exact ⟨_,h.1.symm⟩
  | halt x w2=>simp [Result.andThen] at h
 case nilCheck x =>
  split at h
  ·simp [runtimePanic] at h
  ·simp [runtimePanic] at h
  ·simp [runtimePanic] at h
  ·split at h
   ·simp [runtimePanic] at h
   ·simp only [Sem.run_bind] at h
    generalize Sem.run P program w=m1 at h
    cases m1 with
    | halt x w1=>simp [Result.andThen] at h
    | ok a1 w1 =>
      simp only [Result.andThen_ok] at h
      generalize Sem.run P (nilAhead _ _ _ _) w1=m2 at h
      cases m2 with
      | halt x w2=>simp [Result.andThen] at h
      | ok a2 w2 =>
        simp only [Result.andThen_ok] at h
        split at h
        ·simp [unsupported] at h
        ·exact ⟨_,by injection h with h1;exact h1.symm⟩
   ·exact ⟨_,by injection h with h1;exact h1.symm⟩
  ·exact ⟨_,by injection h with h1;exact h1.symm⟩
 all_goals exact andThen_value h
section
variable {P:Program} {ops:Array Oper} {md:Region.Mode} {S:World→Prop}
def softs4 (md:Region.Mode) (ops:Array Oper):List Nat→Array Bool→Option (Array Bool)
 | [],listed=>some listed
 | i :: r,listed=>if (decide (i<ops.size) && softB4 (opAt ops i) && Region.free md ops listed i && (Region.ready md ops listed).contains i)=true then softs4 md ops r (listed.setIfInBounds i true) else none
theorem softs_take4 {Q:Exit→Act→World→Prop} {K:Act→Prop} (hsel:Region.noSelect ops=true) {fuel:Nat} {l':Array Bool} {w:World} (hS:S w) (hK:∀ a,K a→wpAnyH P md ops (NoPanic Q) S fuel l' a w) :
 ∀ (qs:List Nat) (listed:Array Bool) (a:Act),softs4 md ops qs listed=some l'→wpQuiet P ops S K (qs.map (opAt ops)) a→wpAnyH P md ops (NoPanic Q) S (qs.length+fuel) listed a w
 | [],listed,a,h,hq=>by
   simp only [softs4,Option.some.injEq] at h
   subst h
   rw [List.length_nil,Nat.zero_add]
   exact hK a hq
 | i :: r,listed,a,h,hq=>by
   simp only [softs4] at h
   split at h
   ·rename_i hc
    simp only [Bool.and_eq_true,decide_eq_true_eq] at hc
    obtain ⟨⟨⟨h1,h2⟩,h3⟩,h4⟩:=hc
    have ho:=opAt_some h1
    rw [List.length_cons,show r.length+1+fuel=(r.length+fuel)+1 by omega]
    simp only [List.map_cons,wpQuiet] at hq
    split at hq
    ·rename_i hw
     obtain ⟨v,hv,hn⟩:=hq
     refine wpAnyH_take ho hsel h3 h4 (fun _ _ _ h=>h) (v:=v) (.inl ⟨hw,fun w2 hw2=>?_⟩) hS (softs_take4 hsel hS hK r _ _ h hn)
     have hv2:=hv w2 hw2
     unfold Oper.quietAt at hv2
     generalize hr:(execOp a.eval (opAt ops i)).run P w2=x at hv2
     cases x with
     | ok n w3 =>
       obtain ⟨u,rfl⟩:=soft_value4 h2 hr
       obtain ⟨rfl,rfl⟩:=hv2
       rfl
     | halt x w3=>exact hv2.elim
    ·rename_i hw
     exact wpAnyH_take ho hsel h3 h4 (fun _ _ _ h=>h) (v:=undef) (.inr ⟨by simpa using hw,rfl⟩) hS (softs_take4 hsel hS hK r _ _ h hq)
   ·cases h
inductive Ways4 where
 | done (last:List Nat)
 | one (qs:List Nat) (h:Nat) (t:Ways4)
 | two (qs:List Nat) (h1:Nat) (t1:Ways4) (h2:Nat) (t2:Ways4)
 | three (qs:List Nat) (h1:Nat) (t1:Ways4) (h2:Nat) (t2:Ways4) (h3:Nat) (t3:Ways4)
section
variable {P:Program} {ops:Array Oper} {md:Region.Mode} {S:World→Prop}
def waysB4 (md:Region.Mode) (ops:Array Oper):Ways4→Array Bool→Bool
 | .done last,listed=>match softs4 md ops last listed with
   | some l'=>(Region.ready md ops l').isEmpty
   | none=>false
 | .one qs h t,listed=>match softs4 md ops qs listed with
   | some l'=>decide (Region.ready md ops l'=[h]) && waysB4 md ops t (l'.setIfInBounds h true)
   | none=>false
 | .two qs h1 t1 h2 t2,listed=>match softs4 md ops qs listed with
   | some l'=>decide (Region.ready md ops l'=[h1,h2]) && waysB4 md ops t1 (l'.setIfInBounds h1 true) && waysB4 md ops t2 (l'.setIfInBounds h2 true)
   | none=>false
 | .three qs h1 t1 h2 t2 h3 t3,listed=>match softs4 md ops qs listed with
   | some l'=>decide (Region.ready md ops l'=[h1,h2,h3]) && waysB4 md ops t1 (l'.setIfInBounds h1 true) && waysB4 md ops t2 (l'.setIfInBounds h2 true) && waysB4 md ops t3 (l'.setIfInBounds h3 true)
   | none=>false
def waysN4:Ways4→Nat→Bool
 | .done last,n=>decide (last.length=n)
 | .one qs _ t,n=>decide (qs.length+1≤n) && waysN4 t (n - qs.length - 1)
 | .two qs _ t1 _ t2,n=>decide (qs.length+1≤n) && waysN4 t1 (n - qs.length - 1) && waysN4 t2 (n - qs.length - 1)
 | .three qs _ t1 _ t2 _ t3,n=>decide (qs.length+1≤n) && waysN4 t1 (n - qs.length - 1) && waysN4 t2 (n - qs.length - 1) && waysN4 t3 (n - qs.length - 1)
def wpWays4 (P:Program) (ops:Array Oper) (Q:Exit→Act→World→Prop) (S:World→Prop):Ways4→Act→World→Prop
 | .done last,a,w=>wpQuiet P ops S (fun a'=>Q .normal a' w) (last.map (opAt ops)) a
 | .one qs h t,a,w=>wpQuiet P ops S (fun a'=>wpList P ops (Exit.then (fun a2 w2=>S w2∧wpWays4 P ops Q S t a2 w2) (NoPanic Q)) [opAt ops h] a' w) (qs.map (opAt ops)) a
 | .two qs h1 t1 h2 t2,a,w=>wpQuiet P ops S (fun a'=>wpList P ops (Exit.then (fun a2 w2=>S w2∧wpWays4 P ops Q S t1 a2 w2) (NoPanic Q)) [opAt ops h1] a' w ∧
  wpList P ops (Exit.then (fun a2 w2=>S w2∧wpWays4 P ops Q S t2 a2 w2) (NoPanic Q)) [opAt ops h2] a' w) (qs.map (opAt ops)) a
 | .three qs h1 t1 h2 t2 h3 t3,a,w=>wpQuiet P ops S (fun a'=>wpList P ops (Exit.then (fun a2 w2=>S w2∧wpWays4 P ops Q S t1 a2 w2) (NoPanic Q)) [opAt ops h1] a' w ∧
  wpList P ops (Exit.then (fun a2 w2=>S w2∧wpWays4 P ops Q S t2 a2 w2) (NoPanic Q)) [opAt ops h2] a' w ∧
  wpList P ops (Exit.then (fun a2 w2=>S w2∧wpWays4 P ops Q S t3 a2 w2) (NoPanic Q)) [opAt ops h3] a' w) (qs.map (opAt ops)) a
theorem wpWays_done4 {Q:Exit→Act→World→Prop} {last:List Nat} {a:Act} {w:World}:wpWays4 P ops Q S (.done last) a w=wpQuiet P ops S (fun a'=>Q .normal a' w) (last.map (opAt ops)) a:=rfl
theorem wpWays_one4 {Q:Exit→Act→World→Prop} {qs:List Nat} {h:Nat} {t:Ways4} {a:Act} {w:World} :
 wpWays4 P ops Q S (.one qs h t) a w=wpQuiet P ops S (fun a'=>wpList P ops (Exit.then (fun a2 w2=>S w2∧wpWays4 P ops Q S t a2 w2) (NoPanic Q)) [opAt ops h] a' w) (qs.map (opAt ops)) a:=rfl
theorem wpWays_two4 {Q:Exit→Act→World→Prop} {qs:List Nat} {h1 h2:Nat} {t1 t2:Ways4} {a:Act} {w:World} :
 wpWays4 P ops Q S (.two qs h1 t1 h2 t2) a w=wpQuiet P ops S (fun a'=>wpList P ops (Exit.then (fun a2 w2=>S w2∧wpWays4 P ops Q S t1 a2 w2) (NoPanic Q)) [opAt ops h1] a' w ∧
  wpList P ops (Exit.then (fun a2 w2=>S w2∧wpWays4 P ops Q S t2 a2 w2) (NoPanic Q)) [opAt ops h2] a' w) (qs.map (opAt ops)) a:=rfl
theorem wpAnyH_of_ways4 {Q:Exit→Act→World→Prop} (hsel:Region.noSelect ops=true) :
 ∀ (t:Ways4) (n:Nat) (listed:Array Bool) (a:Act) (w:World),S w→waysN4 t n=true→waysB4 md ops t listed=true→wpWays4 P ops Q S t a w→wpAnyH P md ops (NoPanic Q) S n listed a w
 | .done last,n,listed,a,w,hS,hN,hB,h=>by
   simp only [waysB4] at hB
   simp only [waysN4,decide_eq_true_eq] at hN
   subst hN
   split at hB
   ·rename_i l' hl
    have hr:Region.ready md ops l'=[]:=by simpa using hB
    have:=softs_take4 (P:=P) (Q:=Q) (K:=fun a'=>Q .normal a' w) (fuel:=0) hsel hS (fun a' ha=>wpAnyH_done hr (NoPanic.normal ha) 0) last listed a hl h
    simpa using this
   ·cases hB
 | .one qs i t,n,listed,a,w,hS,hN,hB,h=>by
   simp only [waysB4] at hB
   simp only [waysN4,Bool.and_eq_true,decide_eq_true_eq] at hN
   split at hB
   ·rename_i l' hl
    simp only [Bool.and_eq_true,decide_eq_true_eq] at hB
    obtain ⟨hr,hB2⟩:=hB
    have e:n=qs.length+((n - qs.length - 1)+1):=by omega
    rw [e]
    refine softs_take4 (fuel:=(n - qs.length - 1)+1) hsel hS (fun a' ha=>?_) qs listed a hl h
    refine wpAnyH_all hr (by simp) fun j hj=>?_
    obtain rfl:j=i:=by simpa using hj
    exact wpOp_of_one (ready_lt (md:=md) (l:=l') (by rw [hr];simp)) (fun a2 w2 h2=>⟨h2.1,wpAnyH_of_ways4 hsel t _ _ a2 w2 h2.1 hN.2 hB2 h2.2⟩) ha
   ·cases hB
 | .two qs i t1 k t2,n,listed,a,w,hS,hN,hB,h=>by
   simp only [waysB4] at hB
   simp only [waysN4,Bool.and_eq_true,decide_eq_true_eq] at hN
   split at hB
   ·rename_i l' hl
    simp only [Bool.and_eq_true,decide_eq_true_eq] at hB
    obtain ⟨⟨hr,hB1⟩,hB2⟩:=hB
    have e:n=qs.length+((n - qs.length - 1)+1):=by omega
    rw [e]
    refine softs_take4 (fuel:=(n - qs.length - 1)+1) hsel hS (fun a' ha=>?_) qs listed a hl h
    refine wpAnyH_all hr (by simp) fun j hj=>?_
    have hj2:j=i∨j=k:=by simpa using hj
    have hlt:j<ops.size:=ready_lt (md:=md) (l:=l') (by rw [hr];exact hj)
    rcases hj2 with rfl | rfl
    ·exact wpOp_of_one hlt (fun a2 w2 h2=>⟨h2.1,wpAnyH_of_ways4 hsel t1 _ _ a2 w2 h2.1 hN.1.2 hB1 h2.2⟩) ha.1
    ·exact wpOp_of_one hlt (fun a2 w2 h2=>⟨h2.1,wpAnyH_of_ways4 hsel t2 _ _ a2 w2 h2.1 hN.2 hB2 h2.2⟩) ha.2
   ·cases hB
 | .three qs i t1 k t2 m t3,n,listed,a,w,hS,hN,hB,h=>by
   simp only [waysB4] at hB
   simp only [waysN4,Bool.and_eq_true,decide_eq_true_eq] at hN
   split at hB
   ·rename_i l' hl
    simp only [Bool.and_eq_true,decide_eq_true_eq] at hB
    obtain ⟨⟨⟨hr,hB1⟩,hB2⟩,hB3⟩:=hB
    have e:n=qs.length+((n - qs.length - 1)+1):=by omega
    rw [e]
    refine softs_take4 (fuel:=(n - qs.length - 1)+1) hsel hS (fun a' ha=>?_) qs listed a hl h
    refine wpAnyH_all hr (by simp) fun j hj=>?_
    have hj2:j=i∨j=k∨j=m:=by simpa using hj
    have hlt:j<ops.size:=ready_lt (md:=md) (l:=l') (by rw [hr];exact hj)
    rcases hj2 with rfl | rfl | rfl
    ·exact wpOp_of_one hlt (fun a2 w2 h2=>⟨h2.1,wpAnyH_of_ways4 hsel t1 _ _ a2 w2 h2.1 hN.1.1.2 hB1 h2.2⟩) ha.1
    ·exact wpOp_of_one hlt (fun a2 w2 h2=>⟨h2.1,wpAnyH_of_ways4 hsel t2 _ _ a2 w2 h2.1 hN.1.2 hB2 h2.2⟩) ha.2.1
    ·exact wpOp_of_one hlt (fun a2 w2 h2=>⟨h2.1,wpAnyH_of_ways4 hsel t3 _ _ a2 w2 h2.1 hN.2 hB3 h2.2⟩) ha.2.2
   ·cases hB
def waysOK4 (ops:Array Oper) (t:Ways4):Bool:=Region.noSelect ops && waysN4 t ops.size && waysB4 .any ops t (Array.replicate ops.size false)
theorem region_ways4 {id:Nat} {Q:Exit→Act→World→Prop} {a:Act} {w:World} (B:Nat) (hBw:B≤w.heap.size) (t:Ways4) (hm:P.follows .mixedOrders=true) (hB:waysOK4 ops t=true)
 (h:∀ w',Below w.heap.size w w'→wpWays4 P ops Q (fun w'=>∃ x:SubW B w,w'=x.at_) t a w'):(Code.region id ops true).wp P Q a w:=by
 simp only [waysOK4,Bool.and_eq_true] at hB
 obtain ⟨⟨h1,h2⟩,h3⟩:=hB
 have hb:=below_drewN (Below.refl w.heap.size w) 1
 refine wp_region_noPanic (wp_region_held (S:=fun w'=>∃ x:SubW B w,w'=x.at_) hm ?_)
 exact wpAnyH_of_ways4 h1 t _ _ a _ ⟨⟨_,hb.mono hBw⟩,rfl⟩ h2 h3 (h _ hb)
end
end
end Go.Proofs.YtgkddhncfaeidaaGreat
