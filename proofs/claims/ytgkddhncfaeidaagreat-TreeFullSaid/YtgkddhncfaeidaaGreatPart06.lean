/- Squeezed: the texts as they are written lie in wip/tpl. -/
import Derived.Test.YtgkddhncfaeidaaGreatPart05
import Derived.Test.YtgkddhncfaeidaaGreatPart04
import Derived.Deep.DeepCutAuto
set_option maxRecDepth 100000
set_option maxHeartbeats 4000000
set_option linter.unusedSimpArgs false
set_option linter.unusedVariables false
namespace Go.Proofs.YtgkddhncfaeidaaGreat
open Go.ChangeShapes Go.WideShapes Go.ChangeAt Go.RowKit CrcM PageM
def u32n (n:Nat):Int:=IntKind.u32.wrap (n:Int)
def entP (b:List UInt8):EntD:=⟨(keyP b).se,(keyP b).st,s64 (val ((b.drop 12).take 8)),s64 (val ((b.drop 20).take 2)),s64 (val ((b.drop 22).take 2)),s64 (val ((b.drop 24).take 1)),s64 (val ((b.drop 25).take 1)),u32n (val ((b.drop 26).take 4))⟩
theorem high_at (xs:List UInt8) (r o s:Nat) (n:Nat) (hn:val ((xs.drop o).take s)=n) (h1:1≤s) (h8:s≤8) (hl:o+s≤xs.length) (z:Int) (hz:z=(s:Int)) (o2:Nat) (ho:o2=o+s) (W:World) (hW:CurAt W r (xs.drop o)) :
 Calls Tryz.prog 125 #[.pointer (some ⟨r,0,none⟩),.int .i64 z] W fun e w'=>e=.returned (.int .u64 n)∧CurAt w' r (xs.drop o2)∧W.grownBy w' (some r):=by
 subst ho
 refine (high_cur W r (xs.drop o) hW z s hz h1 (by rw [List.length_drop];omega) h8).mono (fun e w' ⟨a,b,c,_⟩=>⟨hn ▸ a,?_,c⟩)
 rw [List.drop_drop] at b
 exact b
theorem entry_cur (w:World) (r:Nat) (xs:List UInt8) (h:CurAt w r xs) (hl:30≤xs.length) :
 Calls Tryz.prog 123 #[.pointer (some ⟨r,0,none⟩)] w fun e' w'=>e'=.returned (.agg #[.int .i64 (entP xs).se,.int .i64 (entP xs).st,.int .i64 (entP xs).en,.int .i64 (entP xs).ad,.int .i64 (entP xs).le,.int .i64 (entP xs).cn,.int .i64 (entP xs).co,.int .u32 (entP xs).cr])∧CurAt w' r (xs.drop 30)∧w.grownBy w' (some r):=by
 have hlt:=h.lt
 obtain ⟨W,eW⟩:∃ W,W=w.alloc (.cells #[.int .i64 0,.int .i64 0,.int .i64 0,.int .i64 0,.int .i64 0,.int .i64 0,.int .i64 0,.int .u32 0] 40):=⟨_,rfl⟩
 have hra:CurAt W r xs:=by rw [eW];exact h.below ((Below.refl w.heap.size w).alloc (Nat.le_refl _) _)
 have hkr:W.heap[w.heap.size]?=some (.cells #[.int .i64 0,.int .i64 0,.int .i64 0,.int .i64 0,.int .i64 0,.int .i64 0,.int .i64 0,.int .u32 0] 40 (0,0)):=by rw [eW];exact heap_alloc_new w _
 have hgr:w.grownBy W (some r):=by rw [eW];exact grown_alloc w _ _
 have EW:=Lib.hid eW.symm
 have HRA:=Lib.hid hra
 have HKR:=Lib.hid hkr
 have HG:=Lib.hid hgr
 obtain ⟨kk,hkk⟩:∃ k,keyP xs=k:=⟨_,rfl⟩
 obtain ⟨n_en,h_en⟩:∃ n,val ((xs.drop 12).take 8)=n:=⟨_,rfl⟩
 obtain ⟨z_en,y_en⟩:∃ z,wrap64 (n_en:Int)=z:=⟨_,rfl⟩
 obtain ⟨n_ad,h_ad⟩:∃ n,val ((xs.drop 20).take 2)=n:=⟨_,rfl⟩
 obtain ⟨z_ad,y_ad⟩:∃ z,wrap64 (n_ad:Int)=z:=⟨_,rfl⟩
 obtain ⟨n_le,h_le⟩:∃ n,val ((xs.drop 22).take 2)=n:=⟨_,rfl⟩
 obtain ⟨z_le,y_le⟩:∃ z,wrap64 (n_le:Int)=z:=⟨_,rfl⟩
 obtain ⟨n_cn,h_cn⟩:∃ n,val ((xs.drop 24).take 1)=n:=⟨_,rfl⟩
 obtain ⟨z_cn,y_cn⟩:∃ z,wrap64 (n_cn:Int)=z:=⟨_,rfl⟩
 obtain ⟨n_co,h_co⟩:∃ n,val ((xs.drop 25).take 1)=n:=⟨_,rfl⟩
 obtain ⟨z_co,y_co⟩:∃ z,wrap64 (n_co:Int)=z:=⟨_,rfl⟩
 obtain ⟨n_cr,h_cr⟩:∃ n,val ((xs.drop 26).take 4)=n:=⟨_,rfl⟩
 obtain ⟨z_cr,y_cr⟩:∃ z,IntKind.u32.wrap (n_cr:Int)=z:=⟨_,rfl⟩
 have hk:entP xs=⟨kk.se,kk.st,z_en,z_ad,z_le,z_cn,z_co,z_cr⟩:=by unfold entP s64 u32n;rw [hkk,h_en,h_ad,h_le,h_cn,h_co,h_cr,y_en,y_ad,y_le,y_cn,y_co,y_cr]
 rw [hk]
 dsimp only
 have HK0:Hid (∀ W,CurAt W r xs→Calls Tryz.prog 124 #[.pointer (some ⟨r,0,none⟩)] W fun e w'=>e=.returned (.agg #[.int .i64 kk.se,.int .i64 kk.st])∧CurAt w' r (xs.drop 12)∧W.grownBy w' (some r)):=Lib.hid (fun W hW=>hkk ▸ key_cur W r xs hW (by omega))
 have H_en:Hid (∀ W,CurAt W r (xs.drop 12)→Calls Tryz.prog 125 #[.pointer (some ⟨r,0,none⟩),.int .i64 8] W fun e w'=>e=.returned (.int .u64 n_en)∧CurAt w' r (xs.drop 20)∧W.grownBy w' (some r)):=Lib.hid (fun W hW=>high_at xs r 12 8 n_en h_en (by decide) (by decide) (by omega) 8 (by decide) 20 rfl W hW)
 have H_ad:Hid (∀ W,CurAt W r (xs.drop 20)→Calls Tryz.prog 125 #[.pointer (some ⟨r,0,none⟩),.int .i64 2] W fun e w'=>e=.returned (.int .u64 n_ad)∧CurAt w' r (xs.drop 22)∧W.grownBy w' (some r)):=Lib.hid (fun W hW=>high_at xs r 20 2 n_ad h_ad (by decide) (by decide) (by omega) 2 (by decide) 22 rfl W hW)
 have H_le:Hid (∀ W,CurAt W r (xs.drop 22)→Calls Tryz.prog 125 #[.pointer (some ⟨r,0,none⟩),.int .i64 2] W fun e w'=>e=.returned (.int .u64 n_le)∧CurAt w' r (xs.drop 24)∧W.grownBy w' (some r)):=Lib.hid (fun W hW=>high_at xs r 22 2 n_le h_le (by decide) (by decide) (by omega) 2 (by decide) 24 rfl W hW)
 have H_cn:Hid (∀ W,CurAt W r (xs.drop 24)→Calls Tryz.prog 125 #[.pointer (some ⟨r,0,none⟩),.int .i64 1] W fun e w'=>e=.returned (.int .u64 n_cn)∧CurAt w' r (xs.drop 25)∧W.grownBy w' (some r)):=Lib.hid (fun W hW=>high_at xs r 24 1 n_cn h_cn (by decide) (by decide) (by omega) 1 (by decide) 25 rfl W hW)
 have H_co:Hid (∀ W,CurAt W r (xs.drop 25)→Calls Tryz.prog 125 #[.pointer (some ⟨r,0,none⟩),.int .i64 1] W fun e w'=>e=.returned (.int .u64 n_co)∧CurAt w' r (xs.drop 26)∧W.grownBy w' (some r)):=Lib.hid (fun W hW=>high_at xs r 25 1 n_co h_co (by decide) (by decide) (by omega) 1 (by decide) 26 rfl W hW)
 have H_cr:Hid (∀ W,CurAt W r (xs.drop 26)→Calls Tryz.prog 125 #[.pointer (some ⟨r,0,none⟩),.int .i64 4] W fun e w'=>e=.returned (.int .u64 n_cr)∧CurAt w' r (xs.drop 30)∧W.grownBy w' (some r)):=Lib.hid (fun W hW=>high_at xs r 26 4 n_cr h_cr (by decide) (by decide) (by omega) 4 (by decide) 30 rfl W hW)
 clear h hra hkr hgr eW hkk hk hl h_en h_ad h_le h_cn h_co h_cr
 have y_cr2:(n_cr:Int) % 4294967296=z_cr:=by rw [← y_cr,IntKind.wrap_u32]
 go_enter Tryz.func123,Tryz.ntmps123
 go_upto_region 1 with fail
 rw [EW.out]
 go_wp2_with (first
  | (go_at_call 124;(with_reducible refine (HK0.out _ HRA.out).mono ?_);rintro e w1 ⟨rfl,hc1,hg1⟩;have HC1:=Lib.hid hc1;have HG1:=Lib.hid (HG.out.trans' hg1);have HR1:=Lib.hid ((hg1.block w.heap.size (Array.getElem?_eq_some_iff.1 HKR.out).1 (by intro e;injection e;omega)).trans HKR.out);clear hc1 hg1)
  | (go_at_call 125;(with_reducible refine (H_en.out _ HC1.out).mono ?_);rintro e w2 ⟨rfl,hc2,hg2⟩;have HC2:=Lib.hid hc2;have HG2:=Lib.hid (HG1.out.trans' hg2);have HR2:=Lib.hid ((hg2.block w.heap.size (Array.getElem?_eq_some_iff.1 HR1.out).1 (by intro e;injection e;omega)).trans HR1.out);clear hc2 hg2)
  | (go_at_call 125;(with_reducible refine (H_ad.out _ HC2.out).mono ?_);rintro e w3 ⟨rfl,hc3,hg3⟩;have HC3:=Lib.hid hc3;have HG3:=Lib.hid (HG2.out.trans' hg3);have HR3:=Lib.hid ((hg3.block w.heap.size (Array.getElem?_eq_some_iff.1 HR2.out).1 (by intro e;injection e;omega)).trans HR2.out);clear hc3 hg3)
  | (go_at_call 125;(with_reducible refine (H_le.out _ HC3.out).mono ?_);rintro e w4 ⟨rfl,hc4,hg4⟩;have HC4:=Lib.hid hc4;have HG4:=Lib.hid (HG3.out.trans' hg4);have HR4:=Lib.hid ((hg4.block w.heap.size (Array.getElem?_eq_some_iff.1 HR3.out).1 (by intro e;injection e;omega)).trans HR3.out);clear hc4 hg4)
  | (go_at_call 125;(with_reducible refine (H_cn.out _ HC4.out).mono ?_);rintro e w5 ⟨rfl,hc5,hg5⟩;have HC5:=Lib.hid hc5;have HG5:=Lib.hid (HG4.out.trans' hg5);have HR5:=Lib.hid ((hg5.block w.heap.size (Array.getElem?_eq_some_iff.1 HR4.out).1 (by intro e;injection e;omega)).trans HR4.out);clear hc5 hg5)
  | (go_at_call 125;(with_reducible refine (H_co.out _ HC5.out).mono ?_);rintro e w6 ⟨rfl,hc6,hg6⟩;have HC6:=Lib.hid hc6;have HG6:=Lib.hid (HG5.out.trans' hg6);have HR6:=Lib.hid ((hg6.block w.heap.size (Array.getElem?_eq_some_iff.1 HR5.out).1 (by intro e;injection e;omega)).trans HR5.out);clear hc6 hg6)
  | (go_at_call 125;(with_reducible refine (H_cr.out _ HC6.out).mono ?_);rintro e w7 ⟨rfl,hc7,hg7⟩;have HC7:=Lib.hid hc7;have HG7:=Lib.hid (HG6.out.trans' hg7);have HR7:=Lib.hid ((hg7.block w.heap.size (Array.getElem?_eq_some_iff.1 HR6.out).1 (by intro e;injection e;omega)).trans HR6.out);clear hc7 hg7)
  | (refine wpList_store_row rfl 40 (.tmp 2) (.tmp 23) rfl w.heap.size _ rfl rfl 40 _ HR7.out (by kernel_rfl) (by kernel_rfl) (by kernel_rfl) ?_))
 refine bodyPost_ret (v:=.agg #[.int .i64 kk.se,.int .i64 kk.st,.int .i64 z_en,.int .i64 z_ad,.int .i64 z_le,.int .i64 z_cn,.int .i64 z_co,.int .u32 z_cr]) (results_cell_row (p:=2) (ty:=40) rfl _ _ w.heap.size 40 #[.int .i64 kk.se,.int .i64 kk.st,.int .i64 z_en,.int .i64 z_ad,.int .i64 z_le,.int .i64 z_cn,.int .i64 z_co,.int .u32 z_cr] (0,0) _ rfl (setRow_heap _ _ _ _ _ _ HR7.out) Tryz.underlying40 rfl (by kernel_rfl)) rfl ⟨rfl,?_,?_⟩
 ·exact HC7.out.setRow HR7.out (by omega) (fun i z=>by match i with | 0=>simp | 1=>simp | 2=>simp | 3=>simp | 4=>simp | 5=>simp | 6=>simp | 7=>simp | i+8=>simp)
 ·have hg:=HG7.out
  exact ⟨hg.os,hg.tape,hg.output,by simpa using hg.size,fun k hk hne=>(setRow_other _ _ _ _ (by omega)).trans (hg.block k hk hne)⟩
def entsP (n:Nat) (b:List UInt8):List EntD:=(List.range n).map (fun i=>entP (b.drop (30*i)))
def keysP (n:Nat) (b:List UInt8):List KeyD:=(List.range n).map (fun i=>keyP (b.drop (14*i)))
def kidP (b:List UInt8):Int:=s64 (val ((b.drop 12).take 2))
def kidsP (n:Nat) (b:List UInt8):List Int:=(List.range n).map (fun i=>kidP (b.drop (14*i)))
theorem entsP_succ (n:Nat) (b:List UInt8):entsP (n+1) b=entsP n b ++ [entP (b.drop (30*n))]:=by simp [entsP,List.range_succ]
theorem keysP_succ (n:Nat) (b:List UInt8):keysP (n+1) b=keysP n b ++ [keyP (b.drop (14*n))]:=by simp [keysP,List.range_succ]
theorem kidsP_succ (n:Nat) (b:List UInt8):kidsP (n+1) b=kidsP n b ++ [kidP (b.drop (14*n))]:=by simp [kidsP,List.range_succ]
def sizeP (leaf:Bool):Nat:=if leaf=true then 30 else 14
structure GeS (w W wr:World) (lf:Bool) (vE vK vD:Value) (es:List EntD) (ks:List KeyD) (ds:List Int) (ys:List UInt8):Prop where
 bel:Below (w.heap.size+1) W wr
 out:wr.heap[w.heap.size+1]?=some (.cells #[.bool lf,vE,vK,vD] 86 (0,0))
 cur:CurAt wr (w.heap.size+2) ys
 rowE:wr.ownsRow (w.heap.size+3) 40 8 vE es.length (es.flatMap enC)
 rowK:wr.ownsRow (w.heap.size+3) 38 2 vK ks.length (ks.flatMap kyC)
 rowD:wr.ownsRow (w.heap.size+3) 3 1 vD ds.length (ds.map kdC)
section
variable {w W wr w1:World} {lf:Bool} {vE vK vD v':Value} {es:List EntD} {ks:List KeyD} {ds:List Int} {ys ys':List UInt8}
theorem GeS.lt (h:GeS w W wr lf vE vK vD es ks ds ys):w.heap.size+2<wr.heap.size:=h.cur.lt
theorem GeS.below (h:GeS w W wr lf vE vK vD es ks ds ys) (hb:Below wr.heap.size wr w1):GeS w W w1 lf vE vK vD es ks ds ys :=
 { h with bel:=h.bel.trans (hb.mono (by have:=h.lt;omega)),out:=(hb.block _ (by have:=h.lt;omega)).trans h.out,cur:=h.cur.below hb,rowE:=row_below h.rowE hb,rowK:=row_below h.rowK hb,rowD:=row_below h.rowD hb }
theorem cur_typed {w:World} {r:Nat} {ys:List UInt8} (h:CurAt w r ys) {k:Nat} {cs:Array Value} {T:TypeId} (hc:w.heap[k]?=some (.cells cs T (0,0))) (hT:T≠205):k≠r:=fun e=>by
 obtain ⟨A,cap,h1,_⟩:=h
 rw [e,h1] at hc
 injection hc with hc
 injection hc with _ hc
 exact hT hc.symm
theorem GeS.took (h:GeS w W wr lf vE vK vD es ks ds ys) (hg:wr.grownBy w1 (some (w.heap.size+2))) (hc:CurAt w1 (w.heap.size+2) ys'):GeS w W w1 lf vE vK vD es ks ds ys':=by
 have hk:∀ (k:Nat) (cs:Array Value) (T:TypeId),wr.heap[k]?=some (.cells cs T (0,0))→T≠205→w1.heap[k]?=wr.heap[k]?:=fun k cs T h0 hT =>
  hg.block k (Array.getElem?_eq_some_iff.1 h0).1 (fun e=>cur_typed h.cur h0 hT (by injection e))
 exact {
  bel:=h.bel.grown hg (by have:=h.lt;omega) (fun k hk=>by injection hk;omega)
  out:=(hk _ _ _ h.out (by decide)).trans h.out
  cur:=hc
  rowE:=row_keep h.rowE (fun k cur _ h0=>hk k cur _ h0 (by decide))
  rowK:=row_keep h.rowK (fun k cur _ h0=>hk k cur _ h0 (by decide))
  rowD:=row_keep h.rowD (fun k cur _ h0=>hk k cur _ h0 (by decide)) }
theorem cur_set {w:World} {r g i:Nat} {ys:List UInt8} {cs:Array Value} {T:TypeId} {u:Value} (h:CurAt w r ys) (hg:w.heap[g]?=some (.cells cs T (0,0))) (hne:g≠r) (hcs:∀ (i:Nat) (z:Int),cs[i]?≠some (.int .u8 z)):CurAt (w.setCell ⟨g,i,none⟩ u) r ys:=by
 rw [setCell_eq_setRow w g i cs T (0,0) u hg]
 exact h.setRow hg hne hcs
theorem cur_grown {w w1:World} {r:Nat} {ys:List UInt8} {base sz n:Nat} {v:Value} {E:TypeId} {us:List Value} (h:CurAt w r ys) (hr:w.ownsRow base E sz v n us) (hg:w.grownBy w1 v.ownBlock) (hE:E≠205) (hb:r≤base):CurAt w1 r ys:=by
 obtain ⟨A,cap,h1,h2,h3,h4,h5⟩:=h
 refine ⟨A,cap,(typed_kept hr hg (Ne.symm hE) h1).trans h1,h2,h3,fun hx=>?_,h5⟩
 obtain ⟨b,off,hA,hc⟩:=h4 hx
 have hb':b<r:=h5 hx _ hA
 exact ⟨b,off,hA,fun k hk=>(World.cell?_of_block (a:=⟨b,off+k,none⟩) (hg.block b (World.block_lt_of_cell? _ _ (hc k hk)) (fun e=>by have:=(hr.lt b e.symm).1;omega))).trans (hc k hk)⟩
theorem node_u8 (lf:Bool) {vE vK vD:Value} (hE:∃ A n c,vE=.slice A n c) (hK:∃ A n c,vK=.slice A n c) (hD:∃ A n c,vD=.slice A n c):∀ (i:Nat) (z:Int),(#[.bool lf,vE,vK,vD]:Array Value)[i]?≠some (.int .u8 z):=by
 obtain ⟨_,_,_,rfl⟩:=hE
 obtain ⟨_,_,_,rfl⟩:=hK
 obtain ⟨_,_,_,rfl⟩:=hD
 intro i z
 match i with
 | 0=>simp
 | 1=>simp
 | 2=>simp
 | 3=>simp
 | i+4=>simp
theorem GeS.forms (h:GeS w W wr lf vE vK vD es ks ds ys):(∃ A n c,vE=.slice A n c)∧(∃ A n c,vK=.slice A n c)∧(∃ A n c,vD=.slice A n c):=by
 obtain ⟨A,c,e1⟩:=row_form h.rowE
 obtain ⟨A2,c2,e2⟩:=row_form h.rowK
 obtain ⟨A3,c3,e3⟩:=row_form h.rowD
 exact ⟨⟨_,_,_,e1⟩,⟨_,_,_,e2⟩,⟨_,_,_,e3⟩⟩
theorem bel_set {B:Nat} {W w1:World} {g i:Nat} {u:Value} (h:Below B W w1) (hg:B≤g):Below B W (w1.setCell ⟨g,i,none⟩ u) :=
 ⟨h.os,h.tape,h.output,by have:=h.size;simpa using this,fun k hk=>(Below.heap_setCell w1 ⟨g,i,none⟩ u k (by show k≠g;omega)).trans (h.block k hk)⟩
theorem GeS.grown (h:GeS w W wr lf vE vK vD es ks ds ys) {E:TypeId} {v:Value} {sz m:Nat} {us:List Value} (hr:wr.ownsRow (w.heap.size+3) E sz v m us) (hg:wr.grownBy w1 v.ownBlock) (h1:E≠86) (h2:E≠205) :
 Below (w.heap.size+1) W w1∧w1.heap[w.heap.size+1]?=some (.cells #[.bool lf,vE,vK,vD] 86 (0,0))∧CurAt w1 (w.heap.size+2) ys :=
 ⟨h.bel.grown hg (by have:=h.lt;omega) (fun k hk=>by have:=(hr.lt k hk).1;omega),(typed_kept hr hg (Ne.symm h1) h.out).trans h.out,cur_grown h.cur hr hg h2 (by omega)⟩
theorem GeS.setE (h:GeS w W wr lf vE vK vD es ks ds ys) {e:EntD} (hg:wr.grownBy w1 vE.ownBlock) (ho:w1.ownsRow (w.heap.size+3) 40 8 v' (es.length+1) (es.flatMap enC ++ enC e)):GeS w W (w1.setCell ⟨w.heap.size+1,1,none⟩ v') lf v' vK vD (es ++ [e]) ks ds ys:=by
 obtain ⟨b1,o1,c1⟩:=h.grown h.rowE hg (by decide) (by decide)
 obtain ⟨fE,fK,fD⟩:=h.forms
 exact {
  bel:=bel_set b1 (by omega)
  out:=(heap_setCell_same w1 (w.heap.size+1) 1 _ _ v' o1).trans rfl
  cur:=cur_set c1 o1 (by omega) (node_u8 lf fE fK fD)
  rowE:=by rw [List.length_append,List.flatMap_append];exact row_set (by simpa using ho) o1 (by decide)
  rowK:=row_set (row_keep h.rowK (fun k cur _ hc=>typed_kept h.rowE hg (by decide) hc)) o1 (by decide)
  rowD:=row_set (row_keep h.rowD (fun k cur _ hc=>typed_kept h.rowE hg (by decide) hc)) o1 (by decide) }
theorem GeS.setK (h:GeS w W wr lf vE vK vD es ks ds ys) {e:KeyD} (hg:wr.grownBy w1 vK.ownBlock) (ho:w1.ownsRow (w.heap.size+3) 38 2 v' (ks.length+1) (ks.flatMap kyC ++ kyC e)):GeS w W (w1.setCell ⟨w.heap.size+1,2,none⟩ v') lf vE v' vD es (ks ++ [e]) ds ys:=by
 obtain ⟨b1,o1,c1⟩:=h.grown h.rowK hg (by decide) (by decide)
 obtain ⟨fE,fK,fD⟩:=h.forms
 exact {
  bel:=bel_set b1 (by omega)
  out:=(heap_setCell_same w1 (w.heap.size+1) 2 _ _ v' o1).trans rfl
  cur:=cur_set c1 o1 (by omega) (node_u8 lf fE fK fD)
  rowK:=by rw [List.length_append,List.flatMap_append];exact row_set (by simpa using ho) o1 (by decide)
  rowE:=row_set (row_keep h.rowE (fun k cur _ hc=>typed_kept h.rowK hg (by decide) hc)) o1 (by decide)
  rowD:=row_set (row_keep h.rowD (fun k cur _ hc=>typed_kept h.rowK hg (by decide) hc)) o1 (by decide) }
theorem GeS.setD (h:GeS w W wr lf vE vK vD es ks ds ys) {z:Int} (hg:wr.grownBy w1 vD.ownBlock) (ho:w1.ownsRow (w.heap.size+3) 3 1 v' (ds.length+1) (ds.map kdC ++ [kdC z])):GeS w W (w1.setCell ⟨w.heap.size+1,3,none⟩ v') lf vE vK v' es ks (ds ++ [z]) ys:=by
 obtain ⟨b1,o1,c1⟩:=h.grown h.rowD hg (by decide) (by decide)
 obtain ⟨fE,fK,fD⟩:=h.forms
 exact {
  bel:=bel_set b1 (by omega)
  out:=(heap_setCell_same w1 (w.heap.size+1) 3 _ _ v' o1).trans rfl
  cur:=cur_set c1 o1 (by omega) (node_u8 lf fE fK fD)
  rowD:=by rw [List.length_append,List.map_append];exact row_set (by simpa using ho) o1 (by decide)
  rowE:=row_set (row_keep h.rowE (fun k cur _ hc=>typed_kept h.rowD hg (by decide) hc)) o1 (by decide)
  rowK:=row_set (row_keep h.rowK (fun k cur _ hc=>typed_kept h.rowD hg (by decide) hc)) o1 (by decide) }
end
structure NdNew (w:World) (B:Nat) (n:NodeD) (l:NdL):Prop where
 e:∀ a,l.EA=some a→B≤a.block
 k:∀ a,l.KA=some a→B≤a.block
 d:∀ a,l.DA=some a→B≤a.block
 re:w.ownsRow B 40 8 (.slice l.EA n.es.length l.ec) n.es.length (n.es.flatMap enC)
 rk:w.ownsRow B 38 2 (.slice l.KA n.ks.length l.kc) n.ks.length (n.ks.flatMap kyC)
 rd:w.ownsRow B 3 1 (.slice l.DA n.ds.length l.dc) n.ds.length (n.ds.map kdC)
theorem row_less {w:World} {base base' sz n:Nat} {E:TypeId} {v:Value} {us:List Value} (h:w.ownsRow base E sz v n us) (hb:base'≤base):w.ownsRow base' E sz v n us :=
 ⟨h.1,h.2.imp id fun ⟨g,cap,cur,h1,h2,h3⟩=>⟨g,cap,cur,h1,Nat.le_trans hb h2,h3⟩⟩
theorem NdNew.mono {w:World} {B B':Nat} {n:NodeD} {l:NdL} (h:NdNew w B n l) (hb:B'≤B):NdNew w B' n l :=
 ⟨fun a e=>Nat.le_trans hb (h.e a e),fun a e=>Nat.le_trans hb (h.k a e),fun a e=>Nat.le_trans hb (h.d a e),row_less h.re hb,row_less h.rk hb,row_less h.rd hb⟩
theorem NdNew.below {w w':World} {B:Nat} {n:NodeD} {l:NdL} (h:NdNew w B n l) (hb:Below w.heap.size w w'):NdNew w' B n l :=
 ⟨h.e,h.k,h.d,row_below h.re hb,row_below h.rk hb,row_below h.rd hb⟩
theorem row_new {w:World} {B base sz n c m:Nat} {E:TypeId} {A:Option Addr} {us:List Value} (h:w.ownsRow base E sz (.slice A n c) m us) (hB:B≤base):∀ a,A=some a→B≤a.block:=fun a e=>by
 subst e
 exact Nat.le_trans hB (World.ownsRow.lt h a.block rfl).1
end Go.Proofs.YtgkddhncfaeidaaGreat
namespace Go.Proofs.YtgkddhncfaeidaaGreat
open Go.RowKit CrcM PageM
theorem results_cell_tmp' {P:Program} {fn:Func} {p u:Tmp} {ty:TypeId} (h:fn.results=#[.cell p ty,.tmp u]) (tmps:Array Value) (w:World) (g:Nat) (t:TypeId) (cs:Array Value) (fr:Nat × Nat) (d:TypeDesc)
 (hp:tmps.getD p undef=.pointer (some ⟨g,0,none⟩)) (hg:w.heap[g]?=some (.cells cs t fr))
 (hu:P.underlying ty=some d) (hd:(match d with | .struct _ | .array _ _=>true | _=>false)=true) (hi:(P.info? ty).map (·.size)=some cs.size) :
 (results fn tmps).run P w=.ok (.tuple #[.agg cs,tmps.getD u undef]) w:=by
 have hp':tmps[p]?.getD undef=.pointer (some ⟨g,0,none⟩):=by simpa using hp
 simp [results,h,hp',asAddr,run_loadVar_row w g t ty cs fr d hg hu hd hi]
end Go.Proofs.YtgkddhncfaeidaaGreat
namespace Go.Proofs.YtgkddhncfaeidaaGreat
open Go.ChangeShapes Go.WideShapes Go.ChangeAt Go.RowKit CrcM PageM
def zeroNd:Array Value:=#[.bool false,.slice none 0 0,.slice none 0 0,.slice none 0 0]
theorem get_leaf (g o cap:Nat) (c:UInt8) (b:List UInt8) (w:World) (hx:BytesAt w (some ⟨g,o,none⟩) (c :: b)) (hl:b.length=c.toNat*30) (hc:b.length+1≤cap) (hcm:cap≤maxLen) (len:Nat) (hlen:len=b.length+1) (hpos0:0<c.toNat) (N:NodeD) (hN:N=⟨true,entsP c.toNat b,[],[]⟩) :
 Calls Tryz.prog 84 #[.bool true,.slice (some ⟨g,o,none⟩) len cap] w fun e w'=>(okNode N→∃ l':NdL,e=.returned (.tuple #[.agg #[.bool N.leaf,.slice l'.EA N.es.length l'.ec,.slice l'.KA N.ks.length l'.kc,.slice l'.DA N.ds.length l'.dc],.int .i64 0])∧NodeAt w' N l'∧NdNew w' w.heap.size N l')∧(¬ okNode N→e=.returned (.tuple #[.agg zeroNd,.int .i64 3]))∧Below w.heap.size w w':=by
 obtain ⟨n,hn⟩:∃ n,n=c.toNat:=⟨_,rfl⟩
 have hn8:n<256:=by rw [hn];exact c.toNat_lt
 rw [← hn] at hl hN hpos0
 obtain ⟨b1,o1,hA,hcell⟩:=hx (by simp)
 injection hA with hA
 injection hA with h1 h2
 subst h1 h2
 have c0:w.cell? ⟨g,o,none⟩=some (.int .u8 (n:Int)):=by have:=hcell 0 (by simp);rw [hn];simpa using this
 have hgl:g<w.heap.size:=World.block_lt_of_cell? _ _ c0
 have hbb:BytesAt w (some ⟨g,o+1,none⟩) b:=fun _=>⟨g,o+1,rfl,fun k hk=>by have:=hcell (k+1) (by simp;omega);simp only [List.getElem_cons_succ] at this;rw [show o+1+k=o+(k+1) by omega];exact this⟩
 have hl1:len=n*30+1:=by omega
 have d1:((len:Int) == 0)=false:=by rw [beq_eq_false_iff_ne];omega
 have d2:((len:Int) != 1+(n:Int)*30)=false:=by simp;omega
 have hw1:wrap64 ((n:Int)*30)=(n:Int)*30:=IntWalk.wrap64_in _ ⟨by omega,by omega⟩
 have hw2:wrap64 (1+(n:Int)*30)=1+(n:Int)*30:=IntWalk.wrap64_in _ ⟨by omega,by omega⟩
 have hlc:len≤cap:=by omega
 have h1l:1≤len:=by omega
 have hpos:0<len:=by omega
 have hcap1:cap≠1:=by omega
 have hcap1':¬ cap=1:=hcap1
 unfold maxLen at hcm
 have HBB:=Lib.hid hbb
 have HN:=Lib.hid hN
 have HNC:=Lib.hid hn
 have HL:=Lib.hid hl
 have HL1:=Lib.hid hl1
 have HLEN:=Lib.hid hlen
 clear hx hcell hbb hN hn hl hl1 hlen
 go_enter Tryz.func84,Tryz.ntmps84
 go_upto_region 8 with fail
 obtain ⟨W,eW⟩:∃ W,W=(((w.alloc (.cells #[.bool false,.slice none 0 0,.slice none 0 0,.slice none 0 0] 86)).alloc (.cells #[.bool true,.slice none 0 0,.slice none 0 0,.slice none 0 0] 86)).alloc (.cells #[.slice (some ⟨g,o+1,none⟩) (len - 1) (cap - 1)] 205)):=⟨_,rfl⟩
 have hbW:Below w.heap.size w W:=by rw [eW];exact (((Below.refl _ _).alloc (Nat.le_refl _) _).alloc (by simp) _).alloc (by simp;omega) _
 have hws:W.heap.size=w.heap.size+3:=by rw [eW];simp
 have hr0:W.heap[w.heap.size]?=some (.cells #[.bool false,.slice none 0 0,.slice none 0 0,.slice none 0 0] 86 (0,0)):=by
  rw [eW,Below.heap_alloc _ _ _ (by simp;omega)]
  exact heap_alloc2_old _ _ _
 have hr1:W.heap[w.heap.size+1]?=some (.cells #[.bool true,.slice none 0 0,.slice none 0 0,.slice none 0 0] 86 (0,0)):=by
  rw [eW,Below.heap_alloc _ _ _ (by simp)]
  exact heap_alloc2_new _ _ _
 have hr2:W.heap[w.heap.size+2]?=some (.cells #[.slice (some ⟨g,o+1,none⟩) (len - 1) (cap - 1)] 205 (0,0)):=by
  rw [eW]
  exact (congrArg (fun k=>(World.alloc _ _).heap[k]?) (by simp)).trans (heap_alloc_new _ _)
 rw [← eW]
 have hge:GeS w W W true (.slice none 0 0) (.slice none 0 0) (.slice none 0 0) [] [] [] b:={
  bel:=Below.refl _ _
  out:=hr1
  cur:=⟨some ⟨g,o+1,none⟩,cap - 1,by rw [hr2,show len - 1=b.length by have:=HLEN.out;omega],by omega,by unfold maxLen;omega,HBB.out.below hbW,fun _ a ha=>by injection ha with ha;rw [← ha];show g<_;omega⟩
  rowE:=World.ownsRow_nil _ _ _ _
  rowK:=World.ownsRow_nil _ _ _ _
  rowD:=World.ownsRow_nil _ _ _ _ }
 have c1:=(hbW.cell hgl).trans c0
 have HGE:=Lib.hid hge
 have HBW:=Lib.hid hbW
 have HWS:=Lib.hid hws
 have HR0:=Lib.hid hr0
 clear eW hbW hws hr0 hr1 hr2 hge c0
 go_upto_region 9 with fail
 clear c1
 obtain ⟨ie,hie,hiez,hies,hieb⟩:=info_parts infoEnt_to_any
 go_loopw [33] (fun i wr=>∃ (k:Nat) (vE:Value),k≤n∧i=.int .u8 k∧Hid (GeS w W wr true vE (.slice none 0 0) (.slice none 0 0) (entsP k b) [] [] (b.drop (30*k)))) (fun i _=>n - (intOf i).toNat)
 case atStart=>exact ⟨0,_,by omega,rfl,by simpa [entsP] using HGE⟩
 case round =>
  clear HGE
  obtain ⟨k,vE,hk,rfl,HS⟩:=hrel
  obtain ⟨W0,rfl⟩:∃ W0,W0=wr:=⟨_,rfl⟩
  by_cases hlt:k<n
  ·have hmod:((k:Int)+1) % 256=(k:Int)+1:=by omega
   have hel:(entsP k b).length=k:=by simp [entsP]
   obtain ⟨e,hee⟩:∃ e,entP (b.drop (30*k))=e:=⟨_,rfl⟩
   have hsz:w.heap.size+1≤W0.heap.size:=by have:=HS.out.lt;omega
   have HSZ:=Lib.hid hsz
   have HEL:=Lib.hid hel
   have HEE:=Lib.hid hee
   have HLB:Hid (30≤(b.drop (30*k)).length):=Lib.hid (by rw [List.length_drop,HL.out];omega)
   have HDD:Hid ((b.drop (30*k)).drop 30=b.drop (30*(k+1))):=Lib.hid (by rw [List.drop_drop];congr 1)
   clear hsz hel hee
   have HCALL:Hid (∀ W',CurAt W' (w.heap.size+2) (b.drop (30*k))→Calls Tryz.prog 123 #[.pointer (some ⟨w.heap.size+2,0,none⟩)] W' fun e' w'=>e'=.returned (.agg #[.int .i64 e.se,.int .i64 e.st,.int .i64 e.en,.int .i64 e.ad,.int .i64 e.le,.int .i64 e.cn,.int .i64 e.co,.int .u32 e.cr])∧CurAt w' (w.heap.size+2) (b.drop (30*(k+1)))∧W'.grownBy w' (some (w.heap.size+2))):=Lib.hid (fun W' hW=>(entry_cur W' _ _ hW HLB.out).mono (fun e' w' ⟨a,c,d⟩=>⟨by rw [a,HEE.out],by rw [HDD.out] at c;exact c,d⟩))
   go_upto_region 11 with fail
   have hfill:Hid (Instr.fill (fun i=>some (i*ie.size,ie.size)) ((Array.range (1*ie.size)).map ((Value.agg #[.int .i64 0,.int .i64 0,.int .i64 0,.int .i64 0,.int .i64 0,.int .i64 0,.int .i64 0,.int .u32 0]).cells[· % (Value.agg #[.int .i64 0,.int .i64 0,.int .i64 0,.int .i64 0,.int .i64 0,.int .i64 0,.int .i64 0,.int .u32 0]).cells.size]!)) [(0,.agg #[.int .i64 e.se,.int .i64 e.st,.int .i64 e.en,.int .i64 e.ad,.int .i64 e.le,.int .i64 e.cn,.int .i64 e.co,.int .u32 e.cr])]=some #[.int .i64 e.se,.int .i64 e.st,.int .i64 e.en,.int .i64 e.ad,.int .i64 e.le,.int .i64 e.cn,.int .i64 e.co,.int .u32 e.cr]):=Lib.hid (by rw [hies];exact fill_eight _ _ rfl (by simp))
   refine region_ways4 (w.heap.size+1) HSZ.out (.two [0] 1 (.one [] 2 (.one [] 3 (.one [] 4 (.one [5] 6 (.done []))))) 2 (.two [] 1 (.one [] 3 (.one [] 4 (.one [5] 6 (.done [])))) 3 (.one [] 1 (.one [] 4 (.one [5] 6 (.done [])))))) (by kernel_rfl) (by kernel_rfl) ?_
   rintro wd hbd
   have BD:Hid (Below (w.heap.size+1) W0 wd):=Lib.hid (hbd.mono HSZ.out)
   have SD:=Lib.hid (HS.out.below hbd)
   have z0:=nd_cell SD.out.out 1 _ rfl
   clear hbd
   rw [wpWays_two4]
   try simp only [List.map_cons,List.map_nil,opAt,List.getElem?_toArray,List.getElem?_cons_zero,List.getElem?_cons_succ,Option.getD_some]
   repeat (go_big_quiet_step (fail))
   refine wpQuiet_nil ⟨?_,?_⟩
   ·go_wp2_with fail
    refine ⟨⟨⟨_,BD.out⟩,rfl⟩,?_⟩
    try simp only [Act.put,List.setIfInBounds_toArray,List.set_cons_zero,List.set_cons_succ]
    rw [wpWays_one4]
    try simp only [List.map_nil,opAt,List.getElem?_toArray,List.getElem?_cons_zero,List.getElem?_cons_succ,Option.getD_some]
    refine wpQuiet_nil ?_
    go_wp2_with (go_at_call 123;(with_reducible refine (HCALL.out _ SD.out.cur).mono ?_);rintro e' x1 ⟨rfl,hcc1,hb1⟩;have B1:=Lib.hid (BD.out.grown hb1 (Nat.le_trans HSZ.out BD.out.size) (fun k hk=>by injection hk;omega));have S1:=Lib.hid (SD.out.took hb1 hcc1);clear hb1 hcc1)
    refine ⟨⟨⟨_,B1.out⟩,rfl⟩,?_⟩
    try simp only [Act.put,List.setIfInBounds_toArray,List.set_cons_zero,List.set_cons_succ]
    rw [wpWays_one4]
    try simp only [List.map_nil,opAt,List.getElem?_toArray,List.getElem?_cons_zero,List.getElem?_cons_succ,Option.getD_some]
    refine wpQuiet_nil ?_
    go_wp2_with (refine wpList_buildSlice rfl 29 40 1 _ rfl #[.int .i64 e.se,.int .i64 e.st,.int .i64 e.en,.int .i64 e.ad,.int .i64 e.le,.int .i64 e.cn,.int .i64 e.co,.int .u32 e.cr] ie _ Tryz.underlying29 hie hiez (by rw [hies];decide) (by rw [hies];decide) (by rw [Array.toList_map];exact hfill.out) ?_)
    have B2:=Lib.hid (B1.out.alloc (Nat.le_trans HSZ.out B1.out.size) (.cells #[.int .i64 e.se,.int .i64 e.st,.int .i64 e.en,.int .i64 e.ad,.int .i64 e.le,.int .i64 e.cn,.int .i64 e.co,.int .u32 e.cr] 40))
    have S2:=Lib.hid (S1.out.below ((Below.refl _ _).alloc (Nat.le_refl _) (.cells #[.int .i64 e.se,.int .i64 e.st,.int .i64 e.en,.int .i64 e.ad,.int .i64 e.le,.int .i64 e.cn,.int .i64 e.co,.int .u32 e.cr] 40)))
    have hnews2:Hid (∀ (j:Nat) (u:Value),(enC e)[j]?=some u→(x1.alloc (.cells #[.int .i64 e.se,.int .i64 e.st,.int .i64 e.en,.int .i64 e.ad,.int .i64 e.le,.int .i64 e.cn,.int .i64 e.co,.int .u32 e.cr] 40)).cell? ((⟨x1.heap.size,0,none⟩:Addr).add j)=some u):=Lib.hid (fun j u hj=>by rw [Addr.add_mid,World.cell?_alloc_new];simpa [enC] using hj)
    refine ⟨⟨⟨_,B2.out⟩,rfl⟩,?_⟩
    try simp only [Act.put,List.setIfInBounds_toArray,List.set_cons_zero,List.set_cons_succ]
    rw [wpWays_one4]
    try simp only [List.map_nil,opAt,List.getElem?_toArray,List.getElem?_cons_zero,List.getElem?_cons_succ,Option.getD_some]
    refine wpQuiet_nil ?_
    go_wp2_with (at_builtin;refine wpList_append_own_at _ rfl (.tmp 37) (.tmp 39) 29 rfl (w.heap.size+3) 40 ie _ 8 64 Tryz.underlying29 hie hiez hies hieb rfl (by omega) _ (entsP k b).length ((entsP k b).flatMap enC) rfl S2.out.rowE ⟨x1.heap.size,0,none⟩ 1 1 (enC e) rfl rfl hnews2.out (enC_one e) (by rw [HEL.out];unfold maxLen;omega) (by rw [HEL.out];omega) (by have:=S2.out.lt;omega) ?_;intro v3 x3 ho3 hg3 _ _)
    obtain ⟨A3,c3,rfl⟩:=row_form ho3
    obtain ⟨-,o3,-⟩:=S2.out.grown S2.out.rowE hg3 (by decide) (by decide)
    have zc3:=nd_cell o3 1 _ rfl
    have zf3:x3.frozen? ⟨w.heap.size+1,1,none⟩=false:=by simp [World.frozen?,o3]
    have SS3:=Lib.hid (S2.out.setE hg3 ho3)
    have B3:=Lib.hid (B2.out.grown hg3 (Nat.le_trans HSZ.out B2.out.size) (fun k hk=>by have:=(S2.out.rowE.lt k hk).1;omega))
    clear ho3 hg3 o3
    refine ⟨⟨⟨_,B3.out⟩,rfl⟩,?_⟩
    try simp only [Act.put,List.setIfInBounds_toArray,List.set_cons_zero,List.set_cons_succ]
    rw [wpWays_one4]
    try simp only [List.map_cons,List.map_nil,opAt,List.getElem?_toArray,List.getElem?_cons_zero,List.getElem?_cons_succ,Option.getD_some]
    repeat (go_big_quiet_step (fail))
    refine wpQuiet_nil ?_
    go_wp2_with fail
    have BX3:Hid (Below (w.heap.size+1) W0 (x3.setCell ⟨w.heap.size+1,1,none⟩ (.slice A3 ((entsP k b).length+1) c3))):=Lib.hid (bel_set B3.out (by omega))
    refine ⟨⟨⟨_,BX3.out⟩,rfl⟩,?_⟩
    try simp only [Act.put,List.setIfInBounds_toArray,List.set_cons_zero,List.set_cons_succ]
    rw [wpWays_done4]
    try simp only [List.map_nil]
    refine wpQuiet_nil ?_
    clear z0
    go_wp2_with fail
    go_roundw
    case rel=>exact ⟨k+1,_,by omega,by go_num,Lib.hid (by rw [entsP_succ,HEE.out];exact SS3.out)⟩
    case measure=>first | (simp [intOf];done) | (simp [intOf];omega)
   ·skip
    go_wp2_with (go_at_call 123;(with_reducible refine (HCALL.out _ SD.out.cur).mono ?_);rintro e' x4 ⟨rfl,hcc4,hb4⟩;have B4:=Lib.hid (BD.out.grown hb4 (Nat.le_trans HSZ.out BD.out.size) (fun k hk=>by injection hk;omega));have S4:=Lib.hid (SD.out.took hb4 hcc4);clear hb4 hcc4)
    have z4:=nd_cell S4.out.out 1 _ rfl
    refine ⟨⟨⟨_,B4.out⟩,rfl⟩,?_⟩
    try simp only [Act.put,List.setIfInBounds_toArray,List.set_cons_zero,List.set_cons_succ]
    rw [wpWays_two4]
    try simp only [List.map_nil,opAt,List.getElem?_toArray,List.getElem?_cons_zero,List.getElem?_cons_succ,Option.getD_some]
    refine wpQuiet_nil ⟨?_,?_⟩
    ·go_wp2_with fail
     refine ⟨⟨⟨_,B4.out⟩,rfl⟩,?_⟩
     try simp only [Act.put,List.setIfInBounds_toArray,List.set_cons_zero,List.set_cons_succ]
     rw [wpWays_one4]
     try simp only [List.map_nil,opAt,List.getElem?_toArray,List.getElem?_cons_zero,List.getElem?_cons_succ,Option.getD_some]
     refine wpQuiet_nil ?_
     go_wp2_with (refine wpList_buildSlice rfl 29 40 1 _ rfl #[.int .i64 e.se,.int .i64 e.st,.int .i64 e.en,.int .i64 e.ad,.int .i64 e.le,.int .i64 e.cn,.int .i64 e.co,.int .u32 e.cr] ie _ Tryz.underlying29 hie hiez (by rw [hies];decide) (by rw [hies];decide) (by rw [Array.toList_map];exact hfill.out) ?_)
     have B5:=Lib.hid (B4.out.alloc (Nat.le_trans HSZ.out B4.out.size) (.cells #[.int .i64 e.se,.int .i64 e.st,.int .i64 e.en,.int .i64 e.ad,.int .i64 e.le,.int .i64 e.cn,.int .i64 e.co,.int .u32 e.cr] 40))
     have S5:=Lib.hid (S4.out.below ((Below.refl _ _).alloc (Nat.le_refl _) (.cells #[.int .i64 e.se,.int .i64 e.st,.int .i64 e.en,.int .i64 e.ad,.int .i64 e.le,.int .i64 e.cn,.int .i64 e.co,.int .u32 e.cr] 40)))
     have hnews5:Hid (∀ (j:Nat) (u:Value),(enC e)[j]?=some u→(x4.alloc (.cells #[.int .i64 e.se,.int .i64 e.st,.int .i64 e.en,.int .i64 e.ad,.int .i64 e.le,.int .i64 e.cn,.int .i64 e.co,.int .u32 e.cr] 40)).cell? ((⟨x4.heap.size,0,none⟩:Addr).add j)=some u):=Lib.hid (fun j u hj=>by rw [Addr.add_mid,World.cell?_alloc_new];simpa [enC] using hj)
     refine ⟨⟨⟨_,B5.out⟩,rfl⟩,?_⟩
     try simp only [Act.put,List.setIfInBounds_toArray,List.set_cons_zero,List.set_cons_succ]
     rw [wpWays_one4]
     try simp only [List.map_nil,opAt,List.getElem?_toArray,List.getElem?_cons_zero,List.getElem?_cons_succ,Option.getD_some]
     refine wpQuiet_nil ?_
     go_wp2_with (at_builtin;refine wpList_append_own_at _ rfl (.tmp 37) (.tmp 39) 29 rfl (w.heap.size+3) 40 ie _ 8 64 Tryz.underlying29 hie hiez hies hieb rfl (by omega) _ (entsP k b).length ((entsP k b).flatMap enC) rfl S5.out.rowE ⟨x4.heap.size,0,none⟩ 1 1 (enC e) rfl rfl hnews5.out (enC_one e) (by rw [HEL.out];unfold maxLen;omega) (by rw [HEL.out];omega) (by have:=S5.out.lt;omega) ?_;intro v6 x6 ho6 hg6 _ _)
     obtain ⟨A6,c6,rfl⟩:=row_form ho6
     obtain ⟨-,o6,-⟩:=S5.out.grown S5.out.rowE hg6 (by decide) (by decide)
     have zc6:=nd_cell o6 1 _ rfl
     have zf6:x6.frozen? ⟨w.heap.size+1,1,none⟩=false:=by simp [World.frozen?,o6]
     have SS6:=Lib.hid (S5.out.setE hg6 ho6)
     have B6:=Lib.hid (B5.out.grown hg6 (Nat.le_trans HSZ.out B5.out.size) (fun k hk=>by have:=(S5.out.rowE.lt k hk).1;omega))
     clear ho6 hg6 o6
     refine ⟨⟨⟨_,B6.out⟩,rfl⟩,?_⟩
     try simp only [Act.put,List.setIfInBounds_toArray,List.set_cons_zero,List.set_cons_succ]
     rw [wpWays_one4]
     try simp only [List.map_cons,List.map_nil,opAt,List.getElem?_toArray,List.getElem?_cons_zero,List.getElem?_cons_succ,Option.getD_some]
     repeat (go_big_quiet_step (fail))
     refine wpQuiet_nil ?_
     go_wp2_with fail
     have BX6:Hid (Below (w.heap.size+1) W0 (x6.setCell ⟨w.heap.size+1,1,none⟩ (.slice A6 ((entsP k b).length+1) c6))):=Lib.hid (bel_set B6.out (by omega))
     refine ⟨⟨⟨_,BX6.out⟩,rfl⟩,?_⟩
     try simp only [Act.put,List.setIfInBounds_toArray,List.set_cons_zero,List.set_cons_succ]
     rw [wpWays_done4]
     try simp only [List.map_nil]
     refine wpQuiet_nil ?_
     clear z0
     go_wp2_with fail
     go_roundw
     case rel=>exact ⟨k+1,_,by omega,by go_num,Lib.hid (by rw [entsP_succ,HEE.out];exact SS6.out)⟩
     case measure=>first | (simp [intOf];done) | (simp [intOf];omega)
    ·skip
     go_wp2_with (refine wpList_buildSlice rfl 29 40 1 _ rfl #[.int .i64 e.se,.int .i64 e.st,.int .i64 e.en,.int .i64 e.ad,.int .i64 e.le,.int .i64 e.cn,.int .i64 e.co,.int .u32 e.cr] ie _ Tryz.underlying29 hie hiez (by rw [hies];decide) (by rw [hies];decide) (by rw [Array.toList_map];exact hfill.out) ?_)
     have B7:=Lib.hid (B4.out.alloc (Nat.le_trans HSZ.out B4.out.size) (.cells #[.int .i64 e.se,.int .i64 e.st,.int .i64 e.en,.int .i64 e.ad,.int .i64 e.le,.int .i64 e.cn,.int .i64 e.co,.int .u32 e.cr] 40))
     have S7:=Lib.hid (S4.out.below ((Below.refl _ _).alloc (Nat.le_refl _) (.cells #[.int .i64 e.se,.int .i64 e.st,.int .i64 e.en,.int .i64 e.ad,.int .i64 e.le,.int .i64 e.cn,.int .i64 e.co,.int .u32 e.cr] 40)))
     have hnews7:Hid (∀ (j:Nat) (u:Value),(enC e)[j]?=some u→(x4.alloc (.cells #[.int .i64 e.se,.int .i64 e.st,.int .i64 e.en,.int .i64 e.ad,.int .i64 e.le,.int .i64 e.cn,.int .i64 e.co,.int .u32 e.cr] 40)).cell? ((⟨x4.heap.size,0,none⟩:Addr).add j)=some u):=Lib.hid (fun j u hj=>by rw [Addr.add_mid,World.cell?_alloc_new];simpa [enC] using hj)
     have z7:=nd_cell S7.out.out 1 _ rfl
     refine ⟨⟨⟨_,B7.out⟩,rfl⟩,?_⟩
     try simp only [Act.put,List.setIfInBounds_toArray,List.set_cons_zero,List.set_cons_succ]
     rw [wpWays_one4]
     try simp only [List.map_nil,opAt,List.getElem?_toArray,List.getElem?_cons_zero,List.getElem?_cons_succ,Option.getD_some]
     refine wpQuiet_nil ?_
     go_wp2_with fail
     refine ⟨⟨⟨_,B7.out⟩,rfl⟩,?_⟩
     try simp only [Act.put,List.setIfInBounds_toArray,List.set_cons_zero,List.set_cons_succ]
     rw [wpWays_one4]
     try simp only [List.map_nil,opAt,List.getElem?_toArray,List.getElem?_cons_zero,List.getElem?_cons_succ,Option.getD_some]
     refine wpQuiet_nil ?_
     go_wp2_with (at_builtin;refine wpList_append_own_at _ rfl (.tmp 37) (.tmp 39) 29 rfl (w.heap.size+3) 40 ie _ 8 64 Tryz.underlying29 hie hiez hies hieb rfl (by omega) _ (entsP k b).length ((entsP k b).flatMap enC) rfl S7.out.rowE ⟨x4.heap.size,0,none⟩ 1 1 (enC e) rfl rfl hnews7.out (enC_one e) (by rw [HEL.out];unfold maxLen;omega) (by rw [HEL.out];omega) (by have:=S7.out.lt;omega) ?_;intro v8 x8 ho8 hg8 _ _)
     obtain ⟨A8,c8,rfl⟩:=row_form ho8
     obtain ⟨-,o8,-⟩:=S7.out.grown S7.out.rowE hg8 (by decide) (by decide)
     have zc8:=nd_cell o8 1 _ rfl
     have zf8:x8.frozen? ⟨w.heap.size+1,1,none⟩=false:=by simp [World.frozen?,o8]
     have SS8:=Lib.hid (S7.out.setE hg8 ho8)
     have B8:=Lib.hid (B7.out.grown hg8 (Nat.le_trans HSZ.out B7.out.size) (fun k hk=>by have:=(S7.out.rowE.lt k hk).1;omega))
     clear ho8 hg8 o8
     refine ⟨⟨⟨_,B8.out⟩,rfl⟩,?_⟩
     try simp only [Act.put,List.setIfInBounds_toArray,List.set_cons_zero,List.set_cons_succ]
     rw [wpWays_one4]
     try simp only [List.map_cons,List.map_nil,opAt,List.getElem?_toArray,List.getElem?_cons_zero,List.getElem?_cons_succ,Option.getD_some]
     repeat (go_big_quiet_step (fail))
     refine wpQuiet_nil ?_
     go_wp2_with fail
     have BX8:Hid (Below (w.heap.size+1) W0 (x8.setCell ⟨w.heap.size+1,1,none⟩ (.slice A8 ((entsP k b).length+1) c8))):=Lib.hid (bel_set B8.out (by omega))
     refine ⟨⟨⟨_,BX8.out⟩,rfl⟩,?_⟩
     try simp only [Act.put,List.setIfInBounds_toArray,List.set_cons_zero,List.set_cons_succ]
     rw [wpWays_done4]
     try simp only [List.map_nil]
     refine wpQuiet_nil ?_
     clear z0
     go_wp2_with fail
     go_roundw
     case rel=>exact ⟨k+1,_,by omega,by go_num,Lib.hid (by rw [entsP_succ,HEE.out];exact SS8.out)⟩
     case measure=>first | (simp [intOf];done) | (simp [intOf];omega)
  ·obtain rfl:k=n:=by omega
   obtain ⟨A,cE,rfl⟩:=row_form HS.out.rowE
   have hcap:=row_cap HS.out.rowE
   obtain ⟨l',hl'⟩:∃ l':NdL,l'=⟨A,cE,none,0,none,0⟩:=⟨_,rfl⟩
   have hat:∀ W',Below W0.heap.size W0 W'→NodeAt W' N l':=fun W' hb=>by
    have h':=HS.out.below hb
    rw [HN.out,hl']
    exact { e:=EnAt.of_row h'.rowE,k:=fun h=>absurd rfl h,d:=fun h=>absurd rfl h,ec:=hcap.1,kc:=Nat.le_refl _,dc:=Nat.le_refl _,em:=hcap.2,km:=by unfold maxLen;simp,dm:=by unfold maxLen;simp }
   have hargs:(#[.bool N.leaf,.slice l'.EA N.es.length l'.ec,.slice l'.KA N.ks.length l'.kc,.slice l'.DA N.ds.length l'.dc]:Array Value)=#[.bool true,.slice A (entsP k b).length cE,.slice none 0 0,.slice none 0 0]:=by rw [HN.out,hl'];rfl
   obtain ⟨r,hr⟩:=IsB.ex (okNode N)
   have HRC:Hid (Calls Tryz.prog 49 #[.agg #[.bool true,.slice A (entsP k b).length cE,.slice none 0 0,.slice none 0 0]] W0 fun e w'=>e=.returned (.bool r)∧Below W0.heap.size W0 w'):=Lib.hid (by rw [← hargs];exact right_any N l' r hr W0 (hat W0 (Below.refl _ _)))
   have HAT:=Lib.hid hat
   have HARG:=Lib.hid hargs
   have HRR:=Lib.hid hr
   have hd:decide ((k:Int)<(k:Int))=false:=by simp
   have HLP:=Lib.hid hl'
   clear hat hargs hr hl' hcap
   have ho:=HS.out.out
   have hz:=(HS.out.bel.block w.heap.size (by omega)).trans HR0.out
   have HZ:=Lib.hid hz
   have HOUT:=Lib.hid ho
   clear hz ho
   cases r with
   | true =>
     obtain ⟨nE,hnE⟩:∃ x,(entsP k b).length=x:=⟨_,rfl⟩
     rw [hnE] at HRC HOUT HARG
     have HNE:=Lib.hid hnE
     clear hnE
     go_wp2_with (first | (go_at_call 49;refine (HRC.out).mono ?_;rintro e' x9 ⟨rfl,hb9⟩;have HB9:=Lib.hid hb9;have z9:=(hb9.block w.heap.size (Array.getElem?_eq_some_iff.1 HZ.out).1).trans HZ.out;have HZ9:=Lib.hid z9;obtain ⟨p0,p1,p2,p3,f0,f1,f2,f3⟩:=four_cells z9;have o9:=(hb9.block _ (Array.getElem?_eq_some_iff.1 HOUT.out).1).trans HOUT.out;have HO9:=Lib.hid o9;clear hb9 z9 o9) | (refine wpList_load_row rfl 86 (.tmp 7) rfl (w.heap.size+1) rfl 86 _ (0,0) _ HOUT.out Tryz.underlying86 rfl (by kernel_rfl) ?_) | (refine wpList_load_row rfl 86 (.tmp 7) rfl (w.heap.size+1) rfl 86 _ (0,0) _ HO9.out Tryz.underlying86 rfl (by kernel_rfl) ?_))
     refine bodyPost_ret (v:=.tuple #[.agg #[.bool true,.slice A nE cE,.slice none 0 0,.slice none 0 0],.int .i64 0]) (results_cell_tmp' (p:=4) (u:=5) (ty:=86) rfl _ _ w.heap.size 86 #[.bool true,.slice A nE cE,.slice none 0 0,.slice none 0 0] (0,0) _ rfl (set_four HZ9.out _ _ _ _) Tryz.underlying86 rfl (by kernel_rfl)) rfl ?_
     have hbf:=below_set4 (g:=w.heap.size) (HBW.out.trans ((HS.out.bel.mono (Nat.le_succ _)).trans (HB9.out.mono (by have:=HS.out.lt;omega)))) (Nat.le_refl _) (.bool true) (.slice A nE cE) (.slice none 0 0) (.slice none 0 0)
     refine ⟨fun _=>⟨l',by rw [HARG.out],?_,?_⟩,fun h=>absurd HRR.out.yes h,hbf⟩
     rotate_left
     ·have h':=HS.out.below HB9.out
      have q1:=row_set4 (a:=.bool true) (b:=.slice A nE cE) (c:=.slice none 0 0) (d:=.slice none 0 0) h'.rowE HZ9.out (by decide)
      rw [HN.out,HLP.out]
      exact ⟨row_new HS.out.rowE (by omega),fun a h=>(by cases h),fun a h=>(by cases h),row_less q1 (by omega),World.ownsRow_nil _ _ _ _,World.ownsRow_nil _ _ _ _⟩
     have h':=HS.out.below HB9.out
     have q1:=row_set4 (a:=.bool true) (b:=.slice A nE cE) (c:=.slice none 0 0) (d:=.slice none 0 0) h'.rowE HZ9.out (by decide)
     have m1:=row_cap q1
     rw [HN.out,HLP.out]
     exact { e:=EnAt.of_row q1,k:=fun h=>absurd rfl h,d:=fun h=>absurd rfl h,ec:=m1.1,kc:=Nat.le_refl _,dc:=Nat.le_refl _,em:=m1.2,km:=by unfold maxLen;simp,dm:=by unfold maxLen;simp }
   | false =>
     obtain ⟨nE,hnE⟩:∃ x,(entsP k b).length=x:=⟨_,rfl⟩
     rw [hnE] at HRC HOUT HARG
     have HNE:=Lib.hid hnE
     clear hnE
     go_wp2_with (first | (go_at_call 49;refine (HRC.out).mono ?_;rintro e' x9 ⟨rfl,hb9⟩;have HB9:=Lib.hid hb9;have z9:=(hb9.block w.heap.size (Array.getElem?_eq_some_iff.1 HZ.out).1).trans HZ.out;have HZ9:=Lib.hid z9;obtain ⟨p0,p1,p2,p3,f0,f1,f2,f3⟩:=four_cells z9;have o9:=(hb9.block _ (Array.getElem?_eq_some_iff.1 HOUT.out).1).trans HOUT.out;have HO9:=Lib.hid o9;clear hb9 z9 o9) | (refine wpList_load_row rfl 86 (.tmp 7) rfl (w.heap.size+1) rfl 86 _ (0,0) _ HOUT.out Tryz.underlying86 rfl (by kernel_rfl) ?_) | (refine wpList_load_row rfl 86 (.tmp 7) rfl (w.heap.size+1) rfl 86 _ (0,0) _ HO9.out Tryz.underlying86 rfl (by kernel_rfl) ?_))
     refine bodyPost_ret (v:=.tuple #[.agg #[.bool false,.slice none 0 0,.slice none 0 0,.slice none 0 0],.int .i64 3]) (results_cell_tmp' (p:=4) (u:=5) (ty:=86) rfl _ _ w.heap.size 86 #[.bool false,.slice none 0 0,.slice none 0 0,.slice none 0 0] (0,0) _ rfl (set_four HZ9.out _ _ _ _) Tryz.underlying86 rfl (by kernel_rfl)) rfl ?_
     have hbf:=below_set4 (g:=w.heap.size) (HBW.out.trans ((HS.out.bel.mono (Nat.le_succ _)).trans (HB9.out.mono (by have:=HS.out.lt;omega)))) (Nat.le_refl _) (.bool false) (.slice none 0 0) (.slice none 0 0) (.slice none 0 0)
     exact ⟨fun h=>absurd h HRR.out.no,fun _=>rfl,hbf⟩
end Go.Proofs.YtgkddhncfaeidaaGreat
