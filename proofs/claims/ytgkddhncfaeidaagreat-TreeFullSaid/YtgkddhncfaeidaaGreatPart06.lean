/- Squeezed: the texts as they are written lie in wip/tpl. -/
import Derived.Test.YtgkddhncfaeidaaGreatPart01
import Derived.Test.YtgkddhncfaeidaaGreatPart05
import Derived.Deep.DeepCutAuto
set_option maxRecDepth 100000
set_option maxHeartbeats 4000000
set_option linter.unusedSimpArgs false
set_option linter.unusedVariables false
namespace Go.Proofs.YtgkddhncfaeidaaGreat
open Go.RowKit CrcM PageM
theorem or_u64n (a:Nat) (c:UInt8) (ha:a<72057594037927936):bits BinOp.or IntKind.u64 ((a:Int)*256) (c.toNat:Int)=((a*256+c.toNat:Nat):Int):=by
 have hc:=c.toNat_lt
 have e:bits BinOp.or IntKind.u64 ((a*256:Nat):Int) ((c.toNat:Nat):Int)=((a*256 ||| c.toNat:Nat):Int):=u64_or_nat _ _ (by omega) (by omega)
 rw [nat_join 8 (a*256) c.toNat (by omega) (by omega)] at e
 exact e
theorem high_nd (r g o len cap:Nat) (xs:List UInt8) (w:World) (hr:w.heap[r]?=some (.cells #[.slice (some ⟨g,o,none⟩) len cap] 205 (0,0))) (hx:BytesAt w (some ⟨g,o,none⟩) xs) (hlen:xs.length=len) (hc:len≤cap) (hcm:cap≤maxLen) (z:Int) (s:Nat) (hz:z=(s:Int)) (hs:s≤len) (hs8:s≤8) :
 Calls Tryz.prog 125 #[.pointer (some ⟨r,0,none⟩),.int .i64 z] w fun e w'=>e=.returned (.int .u64 (val (xs.take s)))∧∃ A',w'=w.setCell ⟨r,0,none⟩ (.slice A' (len - s) (cap - s))∧(s<len→A'=some ⟨g,o+s,none⟩):=by
 subst hz hlen
 unfold maxLen at hcm
 have h0:=nd_cell hr 0 _ rfl
 have hfz:w.frozen? ⟨r,0,none⟩=false:=by simp [World.frozen?,hr]
 go_enter Tryz.func125,Tryz.ntmps125
 go_wp2_with fail
 go_loop [5,14] (fun v i=>∃ k:Nat,k≤s∧i=.int .i64 k∧v=.int .u64 (val (xs.take k))) (fun _ i=>s - (intOf i).toNat)
 case atStart=>exact ⟨0,by omega,rfl,by simp [val]⟩
 case round =>
  obtain ⟨k,hk,rfl,rfl⟩:=hrel
  by_cases hlt:k<s
  ·obtain ⟨b,off,hbo,hcl⟩:=hx (by intro h;subst h;simp at hs;omega)
   injection hbo with hbo
   injection hbo with e1 e2 e3
   subst e1 e2
   have hck:=hcl k (by omega)
   clear hcl
   have hv:val (xs.take k)<72057594037927936:=by
    have:=val_lt (xs.take k)
    have h2:256 ^ (xs.take k).length≤256 ^ 7:=Nat.pow_le_pow_right (by omega) (by simp;omega)
    omega
   go_wp2_with fail
   go_round
   case rel =>
    refine ⟨k+1,by omega,by go_num,?_⟩
    have hlt2:k<xs.length:=by omega
    have hw:IntKind.u64.wrap (xs[k].toNat:Int)=(xs[k].toNat:Int):=by have:=xs[k].toNat_lt;rw [IntKind.wrap_u64];omega
    rw [hw,or_u64n _ _ hv,List.take_succ_eq_append_getElem hlt2,val_snoc]
   case measure=>simp [intOf];omega
  ·obtain rfl:k=s:=by omega
   by_cases hcs:cap=k
   ·subst hcs
    go_wp2_with fail
    go_ret
    exact ⟨rfl,_,rfl,fun h=>by omega⟩
   ·go_wp2_with fail
    go_ret
    exact ⟨rfl,_,rfl,fun _=>rfl⟩
theorem _root_.Go.World.grownBy.setCell_own {w w':World} {g:Nat} (h:w.grownBy w' (some g)) (i:Nat) (v:Value):w.grownBy (w'.setCell ⟨g,i,none⟩ v) (some g) :=
 ⟨h.os,h.tape,h.output,by simpa using h.size,fun k hk hne=>(Below.heap_setCell w' ⟨g,i,none⟩ v k (fun e=>hne (by rw [e]))).trans (h.block k hk hne)⟩
theorem bytes_grown {w w':World} {g o r:Nat} {xs:List UInt8} (h:BytesAt w (some ⟨g,o,none⟩) xs) (hg:w.grownBy w' (some r)) (hne:g≠r):BytesAt w' (some ⟨g,o,none⟩) xs:=fun hx=>by
 obtain ⟨b,off,hbo,hc⟩:=h hx
 injection hbo with hbo
 injection hbo with e1 e2 e3
 subst e1 e2
 exact ⟨g,o,rfl,fun k hk=>(World.cell?_of_block (a:=⟨g,o+k,none⟩) (hg.block g (World.block_lt_of_cell? _ _ (hc k hk)) (fun e=>hne (by injection e)))).trans (hc k hk)⟩
end Go.Proofs.YtgkddhncfaeidaaGreat
namespace Go.Proofs.YtgkddhncfaeidaaGreat
open Go.ChangeShapes Go.WideShapes Go.ChangeAt Go.RowKit CrcM PageM
def CurAt (w:World) (r:Nat) (xs:List UInt8):Prop:=∃ A cap,w.heap[r]?=some (.cells #[.slice A xs.length cap] 205 (0,0))∧xs.length≤cap∧cap≤maxLen∧BytesAt w A xs∧(xs≠[]→∀ a,A=some a→a.block<r)
theorem CurAt.below {w w':World} {r:Nat} {xs:List UInt8} (h:CurAt w r xs) (hb:Below w.heap.size w w'):CurAt w' r xs:=by
 obtain ⟨A,cap,h1,h2,h3,h4,h5⟩:=h
 exact ⟨A,cap,(hb.block r (Array.getElem?_eq_some_iff.1 h1).1).trans h1,h2,h3,h4.below hb,h5⟩
theorem CurAt.lt {w:World} {r:Nat} {xs:List UInt8} (h:CurAt w r xs):r<w.heap.size:=by
 obtain ⟨A,cap,h1,_⟩:=h
 exact (Array.getElem?_eq_some_iff.1 h1).1
theorem high_cur (w:World) (r:Nat) (xs:List UInt8) (h:CurAt w r xs) (z:Int) (s:Nat) (hz:z=(s:Int)) (h1:1≤s) (hs:s≤xs.length) (hs8:s≤8) :
 Calls Tryz.prog 125 #[.pointer (some ⟨r,0,none⟩),.int .i64 z] w fun e w'=>e=.returned (.int .u64 (val (xs.take s)))∧CurAt w' r (xs.drop s)∧w.grownBy w' (some r)∧w'.heap.size=w.heap.size:=by
 obtain ⟨A,cap,k1,k2,k3,k4,k5⟩:=h
 obtain ⟨g,o,rfl,hc⟩:=k4 (by intro e;rw [e] at hs;simp at hs;omega)
 refine (high_nd r g o xs.length cap xs w k1 (fun _=>⟨g,o,rfl,hc⟩) rfl k2 k3 z s hz hs hs8).mono ?_
 rintro e w' ⟨rfl,A',rfl,hA⟩
 have hg:w.grownBy (w.setCell ⟨r,0,none⟩ (.slice A' (xs.length - s) (cap - s))) (some r):=World.grownBy.setCell_own (World.grownBy.refl w _) 0 _
 have hlt0:g<r:=k5 (by intro e;rw [e] at hs;simp at hs;omega) _ rfl
 have hne:g≠r:=by omega
 refine ⟨rfl,⟨A',cap - s,?_,by rw [List.length_drop];omega,by omega,?_,?_⟩,hg,by simp⟩
 ·rw [heap_setCell_same w r 0 _ _ _ k1,List.length_drop]
  rfl
 ·intro hne'
  have hlt:s<xs.length:=by
   rcases Nat.lt_or_ge s xs.length with h | h
   ·exact h
   ·exact absurd (List.drop_eq_nil_of_le h) hne'
  obtain rfl:=hA hlt
  have hb:=bytes_grown (fun _=>⟨g,o,rfl,hc⟩:BytesAt w (some ⟨g,o,none⟩) xs) hg hne
  exact hb.cut s (some ⟨g,o+s,none⟩) (fun _=>by rw [Option.map_some];congr 1;unfold Addr.add;split <;> simp_all) hne'
 ·intro hne' a ha
  have hlt:s<xs.length:=by
   rcases Nat.lt_or_ge s xs.length with h | h
   ·exact h
   ·exact absurd (List.drop_eq_nil_of_le h) hne'
  obtain rfl:=hA hlt
  injection ha with ha
  rw [← ha]
  exact hlt0
theorem CurAt.setRow {w:World} {r g:Nat} {xs:List UInt8} {cs cs':Array Value} {T:TypeId} (h:CurAt w r xs) (hg:w.heap[g]?=some (.cells cs T (0,0))) (hne:g≠r) (hcs:∀ (i:Nat) (z:Int),cs[i]?≠some (.int .u8 z)):CurAt (w.setRow g cs') r xs:=by
 obtain ⟨A,cap,h1,h2,h3,h4,h5⟩:=h
 refine ⟨A,cap,(setRow_other w g r cs' (Ne.symm hne)).trans h1,h2,h3,fun hx=>?_,h5⟩
 obtain ⟨b,off,hA,hc⟩:=h4 hx
 refine ⟨b,off,hA,fun k hk=>?_⟩
 have hb:b≠g:=fun e=>by
  subst e
  have h6:=hc k hk
  rw [cell_of_row w b (off+k) _ _ _ hg] at h6
  exact hcs _ _ h6
 exact (World.cell?_of_block (a:=⟨b,off+k,none⟩) (setRow_other w g b cs' hb)).trans (hc k hk)
def s64 (n:Nat):Int:=wrap64 (n:Int)
def keyP (b:List UInt8):KeyD:=⟨s64 (val (b.take 4)),s64 (val ((b.drop 4).take 8))⟩
theorem key_cur (w:World) (r:Nat) (xs:List UInt8) (h:CurAt w r xs) (hl:12≤xs.length) :
 Calls Tryz.prog 124 #[.pointer (some ⟨r,0,none⟩)] w fun e w'=>e=.returned (.agg #[.int .i64 (keyP xs).se,.int .i64 (keyP xs).st])∧CurAt w' r (xs.drop 12)∧w.grownBy w' (some r):=by
 have hlt:=h.lt
 have hra:=h.below ((Below.refl w.heap.size w).alloc (Nat.le_refl _) (.cells #[.int .i64 0,.int .i64 0] 38))
 have hkr:(w.alloc (.cells #[.int .i64 0,.int .i64 0] 38)).heap[w.heap.size]?=_:=heap_alloc_new w _
 have HRA:=Lib.hid hra
 have HKR:=Lib.hid hkr
 obtain ⟨n4,h4⟩:∃ n,val (xs.take 4)=n:=⟨_,rfl⟩
 obtain ⟨n8,h8⟩:∃ n,val ((xs.drop 4).take 8)=n:=⟨_,rfl⟩
 obtain ⟨z4,hz4⟩:∃ z,wrap64 (n4:Int)=z:=⟨_,rfl⟩
 obtain ⟨z8,hz8⟩:∃ z,wrap64 (n8:Int)=z:=⟨_,rfl⟩
 have hk:keyP xs=⟨z4,z8⟩:=by unfold keyP s64;rw [h4,h8,hz4,hz8]
 rw [hk]
 dsimp only
 have H4:=Lib.hid h4
 have H8:=Lib.hid h8
 have H84:Hid ((xs.drop 4).drop 8=xs.drop 12):=Lib.hid (by rw [List.drop_drop])
 have q1:4≤xs.length:=by omega
 have q2:8≤(xs.drop 4).length:=by rw [List.length_drop];omega
 have Q1:=Lib.hid q1
 have Q2:=Lib.hid q2
 have HHI4:Hid (∀ W,CurAt W r xs→Calls Tryz.prog 125 #[.pointer (some ⟨r,0,none⟩),.int .i64 4] W fun e w'=>e=.returned (.int .u64 n4)∧CurAt w' r (xs.drop 4)∧W.grownBy w' (some r)):=Lib.hid (fun W hW=>(high_cur W r xs hW 4 4 (by decide) (by decide) q1 (by decide)).mono (fun e w' ⟨a,b,c,_⟩=>⟨h4 ▸ a,b,c⟩))
 have HHI8:Hid (∀ W,CurAt W r (xs.drop 4)→Calls Tryz.prog 125 #[.pointer (some ⟨r,0,none⟩),.int .i64 8] W fun e w'=>e=.returned (.int .u64 n8)∧CurAt w' r (xs.drop 12)∧W.grownBy w' (some r)):=Lib.hid (fun W hW=>(high_cur W r (xs.drop 4) hW 8 8 (by decide) (by decide) q2 (by decide)).mono (fun e w' ⟨a,b,c,_⟩=>⟨h8 ▸ a,by rw [List.drop_drop] at b;exact b,c⟩))
 clear h hra hkr h4 h8 hk q1 q2 H4 H8 H84
 go_enter Tryz.func124,Tryz.ntmps124
 go_wp2_with (first
  | (go_at_call 125;(with_reducible refine (HHI4.out _ HRA.out).mono ?_);rintro e w1 ⟨rfl,hc1,hg1⟩;have HC1:=Lib.hid hc1;clear hc1)
  | (go_at_call 125;(with_reducible refine (HHI8.out _ HC1.out).mono ?_);rintro e w2 ⟨rfl,hc2,hg2⟩;have HC2:=Lib.hid hc2;clear hc2;have hk2:=(hg2.block w.heap.size (by have:=hg1.size;simp at this;omega) (by intro e;injection e;omega)).trans ((hg1.block w.heap.size (by simp) (by intro e;injection e;omega)).trans HKR.out))
  | (refine wpList_store_row rfl 38 (.tmp 2) (.tmp 9) rfl w.heap.size _ rfl rfl 38 _ hk2 (by kernel_rfl) (by kernel_rfl) (by kernel_rfl) ?_))
 have hlt1:w.heap.size<w1.heap.size:=by have:=hg1.size;simp at this;omega
 have hlt2:w.heap.size<w2.heap.size:=Nat.lt_of_lt_of_le hlt1 hg2.size
 have hg:w.grownBy w2 (some r):=(grown_alloc w _ _).trans' (hg1.trans' hg2)
 refine bodyPost_ret (v:=.agg #[.int .i64 z4,.int .i64 z8]) (results_cell_row (p:=2) (ty:=38) rfl _ _ w.heap.size 38 #[.int .i64 z4,.int .i64 z8] (0,0) _ rfl (setRow_heap _ _ _ _ _ _ hk2) Tryz.underlying38 rfl (by kernel_rfl)) rfl ⟨rfl,?_,?_⟩
 ·exact HC2.out.setRow hk2 (by omega) (fun i z=>by match i with | 0=>simp | 1=>simp | i+2=>simp)
 ·exact ⟨hg.os,hg.tape,hg.output,by simpa using hg.size,fun k hk hne=>(setRow_other _ _ _ _ (by omega)).trans (hg.block k hk hne)⟩
def u32n (n:Nat):Int:=IntKind.u32.wrap (n:Int)
def entP (b:List UInt8):EntD:=⟨(keyP b).se,(keyP b).st,s64 (val ((b.drop 12).take 8)),s64 (val ((b.drop 20).take 2)),s64 (val ((b.drop 22).take 2)),s64 (val ((b.drop 24).take 1)),s64 (val ((b.drop 25).take 1)),u32n (val ((b.drop 26).take 4))⟩
theorem high_at (xs:List UInt8) (r o s:Nat) (n:Nat) (hn:val ((xs.drop o).take s)=n) (h1:1≤s) (h8:s≤8) (hl:o+s≤xs.length) (z:Int) (hz:z=(s:Int)) (o2:Nat) (ho:o2=o+s) (W:World) (hW:CurAt W r (xs.drop o)) :
 Calls Tryz.prog 125 #[.pointer (some ⟨r,0,none⟩),.int .i64 z] W fun e w'=>e=.returned (.int .u64 n)∧CurAt w' r (xs.drop o2)∧W.grownBy w' (some r):=by
 subst ho
 refine (high_cur W r (xs.drop o) hW z s hz h1 (by rw [List.length_drop];omega) h8).mono (fun e w' ⟨a,b,c,_⟩=>⟨hn ▸ a,?_,c⟩)
 rw [List.drop_drop] at b
 exact b
theorem entry_cur (w:World) (r:Nat) (xs:List UInt8) (h:CurAt w r xs) (hl:30≤xs.length) :
 Calls Tryz.prog 123 #[.pointer (some ⟨r,0,none⟩)] w fun e' w'=>e'=.returned (.agg #[.int .i64 (entP xs).se,.int .i64 (entP xs).st,.int .i64 (entP xs).en,.int .i64 (entP xs).ad,.int .i64 (entP xs).le,.int .i64 (entP xs).cn,.int .i64 (entP xs).co,.int .u32 (entP xs).cr])∧CurAt w' r (xs.drop 30)∧w.grownBy w' (some r):=by
 have hlt:=h.lt
 obtain ⟨W,eW⟩:∃ W,W=w.alloc (.cells #[.int .i64 0,.int .i64 0,.int .i64 0,.int .i64 0,.int .i64 0,.int .i64 0,.int .i64 0,.int .u32 0] 40):=⟨_,rfl⟩
 have hra:CurAt W r xs:=by rw [eW];exact h.below ((Below.refl w.heap.size w).alloc (Nat.le_refl _) _)
 have hkr:W.heap[w.heap.size]?=some (.cells #[.int .i64 0,.int .i64 0,.int .i64 0,.int .i64 0,.int .i64 0,.int .i64 0,.int .i64 0,.int .u32 0] 40 (0,0)):=by rw [eW];exact heap_alloc_new w _
 have hgr:w.grownBy W (some r):=by rw [eW];exact grown_alloc w _ _
 have EW:=Lib.hid eW.symm
 have HRA:=Lib.hid hra
 have HKR:=Lib.hid hkr
 have HG:=Lib.hid hgr
 obtain ⟨kk,hkk⟩:∃ k,keyP xs=k:=⟨_,rfl⟩
 obtain ⟨n_en,h_en⟩:∃ n,val ((xs.drop 12).take 8)=n:=⟨_,rfl⟩
 obtain ⟨z_en,y_en⟩:∃ z,wrap64 (n_en:Int)=z:=⟨_,rfl⟩
 obtain ⟨n_ad,h_ad⟩:∃ n,val ((xs.drop 20).take 2)=n:=⟨_,rfl⟩
 obtain ⟨z_ad,y_ad⟩:∃ z,wrap64 (n_ad:Int)=z:=⟨_,rfl⟩
 obtain ⟨n_le,h_le⟩:∃ n,val ((xs.drop 22).take 2)=n:=⟨_,rfl⟩
 obtain ⟨z_le,y_le⟩:∃ z,wrap64 (n_le:Int)=z:=⟨_,rfl⟩
 obtain ⟨n_cn,h_cn⟩:∃ n,val ((xs.drop 24).take 1)=n:=⟨_,rfl⟩
 obtain ⟨z_cn,y_cn⟩:∃ z,wrap64 (n_cn:Int)=z:=⟨_,rfl⟩
 obtain ⟨n_co,h_co⟩:∃ n,val ((xs.drop 25).take 1)=n:=⟨_,rfl⟩
 obtain ⟨z_co,y_co⟩:∃ z,wrap64 (n_co:Int)=z:=⟨_,rfl⟩
 obtain ⟨n_cr,h_cr⟩:∃ n,val ((xs.drop 26).take 4)=n:=⟨_,rfl⟩
 obtain ⟨z_cr,y_cr⟩:∃ z,IntKind.u32.wrap (n_cr:Int)=z:=⟨_,rfl⟩
 have hk:entP xs=⟨kk.se,kk.st,z_en,z_ad,z_le,z_cn,z_co,z_cr⟩:=by unfold entP s64 u32n;rw [hkk,h_en,h_ad,h_le,h_cn,h_co,h_cr,y_en,y_ad,y_le,y_cn,y_co,y_cr]
 rw [hk]
 dsimp only
 have HK0:Hid (∀ W,CurAt W r xs→Calls Tryz.prog 124 #[.pointer (some ⟨r,0,none⟩)] W fun e w'=>e=.returned (.agg #[.int .i64 kk.se,.int .i64 kk.st])∧CurAt w' r (xs.drop 12)∧W.grownBy w' (some r)):=Lib.hid (fun W hW=>hkk ▸ key_cur W r xs hW (by omega))
 have H_en:Hid (∀ W,CurAt W r (xs.drop 12)→Calls Tryz.prog 125 #[.pointer (some ⟨r,0,none⟩),.int .i64 8] W fun e w'=>e=.returned (.int .u64 n_en)∧CurAt w' r (xs.drop 20)∧W.grownBy w' (some r)):=Lib.hid (fun W hW=>high_at xs r 12 8 n_en h_en (by decide) (by decide) (by omega) 8 (by decide) 20 rfl W hW)
 have H_ad:Hid (∀ W,CurAt W r (xs.drop 20)→Calls Tryz.prog 125 #[.pointer (some ⟨r,0,none⟩),.int .i64 2] W fun e w'=>e=.returned (.int .u64 n_ad)∧CurAt w' r (xs.drop 22)∧W.grownBy w' (some r)):=Lib.hid (fun W hW=>high_at xs r 20 2 n_ad h_ad (by decide) (by decide) (by omega) 2 (by decide) 22 rfl W hW)
 have H_le:Hid (∀ W,CurAt W r (xs.drop 22)→Calls Tryz.prog 125 #[.pointer (some ⟨r,0,none⟩),.int .i64 2] W fun e w'=>e=.returned (.int .u64 n_le)∧CurAt w' r (xs.drop 24)∧W.grownBy w' (some r)):=Lib.hid (fun W hW=>high_at xs r 22 2 n_le h_le (by decide) (by decide) (by omega) 2 (by decide) 24 rfl W hW)
 have H_cn:Hid (∀ W,CurAt W r (xs.drop 24)→Calls Tryz.prog 125 #[.pointer (some ⟨r,0,none⟩),.int .i64 1] W fun e w'=>e=.returned (.int .u64 n_cn)∧CurAt w' r (xs.drop 25)∧W.grownBy w' (some r)):=Lib.hid (fun W hW=>high_at xs r 24 1 n_cn h_cn (by decide) (by decide) (by omega) 1 (by decide) 25 rfl W hW)
 have H_co:Hid (∀ W,CurAt W r (xs.drop 25)→Calls Tryz.prog 125 #[.pointer (some ⟨r,0,none⟩),.int .i64 1] W fun e w'=>e=.returned (.int .u64 n_co)∧CurAt w' r (xs.drop 26)∧W.grownBy w' (some r)):=Lib.hid (fun W hW=>high_at xs r 25 1 n_co h_co (by decide) (by decide) (by omega) 1 (by decide) 26 rfl W hW)
 have H_cr:Hid (∀ W,CurAt W r (xs.drop 26)→Calls Tryz.prog 125 #[.pointer (some ⟨r,0,none⟩),.int .i64 4] W fun e w'=>e=.returned (.int .u64 n_cr)∧CurAt w' r (xs.drop 30)∧W.grownBy w' (some r)):=Lib.hid (fun W hW=>high_at xs r 26 4 n_cr h_cr (by decide) (by decide) (by omega) 4 (by decide) 30 rfl W hW)
 clear h hra hkr hgr eW hkk hk hl h_en h_ad h_le h_cn h_co h_cr
 have y_cr2:(n_cr:Int) % 4294967296=z_cr:=by rw [← y_cr,IntKind.wrap_u32]
 go_enter Tryz.func123,Tryz.ntmps123
 go_upto_region 1 with fail
 rw [EW.out]
 go_wp2_with (first
  | (go_at_call 124;(with_reducible refine (HK0.out _ HRA.out).mono ?_);rintro e w1 ⟨rfl,hc1,hg1⟩;have HC1:=Lib.hid hc1;have HG1:=Lib.hid (HG.out.trans' hg1);have HR1:=Lib.hid ((hg1.block w.heap.size (Array.getElem?_eq_some_iff.1 HKR.out).1 (by intro e;injection e;omega)).trans HKR.out);clear hc1 hg1)
  | (go_at_call 125;(with_reducible refine (H_en.out _ HC1.out).mono ?_);rintro e w2 ⟨rfl,hc2,hg2⟩;have HC2:=Lib.hid hc2;have HG2:=Lib.hid (HG1.out.trans' hg2);have HR2:=Lib.hid ((hg2.block w.heap.size (Array.getElem?_eq_some_iff.1 HR1.out).1 (by intro e;injection e;omega)).trans HR1.out);clear hc2 hg2)
  | (go_at_call 125;(with_reducible refine (H_ad.out _ HC2.out).mono ?_);rintro e w3 ⟨rfl,hc3,hg3⟩;have HC3:=Lib.hid hc3;have HG3:=Lib.hid (HG2.out.trans' hg3);have HR3:=Lib.hid ((hg3.block w.heap.size (Array.getElem?_eq_some_iff.1 HR2.out).1 (by intro e;injection e;omega)).trans HR2.out);clear hc3 hg3)
  | (go_at_call 125;(with_reducible refine (H_le.out _ HC3.out).mono ?_);rintro e w4 ⟨rfl,hc4,hg4⟩;have HC4:=Lib.hid hc4;have HG4:=Lib.hid (HG3.out.trans' hg4);have HR4:=Lib.hid ((hg4.block w.heap.size (Array.getElem?_eq_some_iff.1 HR3.out).1 (by intro e;injection e;omega)).trans HR3.out);clear hc4 hg4)
  | (go_at_call 125;(with_reducible refine (H_cn.out _ HC4.out).mono ?_);rintro e w5 ⟨rfl,hc5,hg5⟩;have HC5:=Lib.hid hc5;have HG5:=Lib.hid (HG4.out.trans' hg5);have HR5:=Lib.hid ((hg5.block w.heap.size (Array.getElem?_eq_some_iff.1 HR4.out).1 (by intro e;injection e;omega)).trans HR4.out);clear hc5 hg5)
  | (go_at_call 125;(with_reducible refine (H_co.out _ HC5.out).mono ?_);rintro e w6 ⟨rfl,hc6,hg6⟩;have HC6:=Lib.hid hc6;have HG6:=Lib.hid (HG5.out.trans' hg6);have HR6:=Lib.hid ((hg6.block w.heap.size (Array.getElem?_eq_some_iff.1 HR5.out).1 (by intro e;injection e;omega)).trans HR5.out);clear hc6 hg6)
  | (go_at_call 125;(with_reducible refine (H_cr.out _ HC6.out).mono ?_);rintro e w7 ⟨rfl,hc7,hg7⟩;have HC7:=Lib.hid hc7;have HG7:=Lib.hid (HG6.out.trans' hg7);have HR7:=Lib.hid ((hg7.block w.heap.size (Array.getElem?_eq_some_iff.1 HR6.out).1 (by intro e;injection e;omega)).trans HR6.out);clear hc7 hg7)
  | (refine wpList_store_row rfl 40 (.tmp 2) (.tmp 23) rfl w.heap.size _ rfl rfl 40 _ HR7.out (by kernel_rfl) (by kernel_rfl) (by kernel_rfl) ?_))
 refine bodyPost_ret (v:=.agg #[.int .i64 kk.se,.int .i64 kk.st,.int .i64 z_en,.int .i64 z_ad,.int .i64 z_le,.int .i64 z_cn,.int .i64 z_co,.int .u32 z_cr]) (results_cell_row (p:=2) (ty:=40) rfl _ _ w.heap.size 40 #[.int .i64 kk.se,.int .i64 kk.st,.int .i64 z_en,.int .i64 z_ad,.int .i64 z_le,.int .i64 z_cn,.int .i64 z_co,.int .u32 z_cr] (0,0) _ rfl (setRow_heap _ _ _ _ _ _ HR7.out) Tryz.underlying40 rfl (by kernel_rfl)) rfl ⟨rfl,?_,?_⟩
 ·exact HC7.out.setRow HR7.out (by omega) (fun i z=>by match i with | 0=>simp | 1=>simp | 2=>simp | 3=>simp | 4=>simp | 5=>simp | 6=>simp | 7=>simp | i+8=>simp)
 ·have hg:=HG7.out
  exact ⟨hg.os,hg.tape,hg.output,by simpa using hg.size,fun k hk hne=>(setRow_other _ _ _ _ (by omega)).trans (hg.block k hk hne)⟩
def entsP (n:Nat) (b:List UInt8):List EntD:=(List.range n).map (fun i=>entP (b.drop (30*i)))
def keysP (n:Nat) (b:List UInt8):List KeyD:=(List.range n).map (fun i=>keyP (b.drop (14*i)))
def kidP (b:List UInt8):Int:=s64 (val ((b.drop 12).take 2))
def kidsP (n:Nat) (b:List UInt8):List Int:=(List.range n).map (fun i=>kidP (b.drop (14*i)))
theorem entsP_succ (n:Nat) (b:List UInt8):entsP (n+1) b=entsP n b ++ [entP (b.drop (30*n))]:=by simp [entsP,List.range_succ]
theorem keysP_succ (n:Nat) (b:List UInt8):keysP (n+1) b=keysP n b ++ [keyP (b.drop (14*n))]:=by simp [keysP,List.range_succ]
theorem kidsP_succ (n:Nat) (b:List UInt8):kidsP (n+1) b=kidsP n b ++ [kidP (b.drop (14*n))]:=by simp [kidsP,List.range_succ]
def sizeP (leaf:Bool):Nat:=if leaf=true then 30 else 14
structure GeS (w W wr:World) (lf:Bool) (vE vK vD:Value) (es:List EntD) (ks:List KeyD) (ds:List Int) (ys:List UInt8):Prop where
 bel:Below (w.heap.size+1) W wr
 out:wr.heap[w.heap.size+1]?=some (.cells #[.bool lf,vE,vK,vD] 86 (0,0))
 cur:CurAt wr (w.heap.size+2) ys
 rowE:wr.ownsRow (w.heap.size+3) 40 8 vE es.length (es.flatMap enC)
 rowK:wr.ownsRow (w.heap.size+3) 38 2 vK ks.length (ks.flatMap kyC)
 rowD:wr.ownsRow (w.heap.size+3) 3 1 vD ds.length (ds.map kdC)
section
variable {w W wr w1:World} {lf:Bool} {vE vK vD v':Value} {es:List EntD} {ks:List KeyD} {ds:List Int} {ys ys':List UInt8}
theorem GeS.lt (h:GeS w W wr lf vE vK vD es ks ds ys):w.heap.size+2<wr.heap.size:=h.cur.lt
theorem GeS.below (h:GeS w W wr lf vE vK vD es ks ds ys) (hb:Below wr.heap.size wr w1):GeS w W w1 lf vE vK vD es ks ds ys :=
 { h with bel:=h.bel.trans (hb.mono (by have:=h.lt;omega)),out:=(hb.block _ (by have:=h.lt;omega)).trans h.out,cur:=h.cur.below hb,rowE:=row_below h.rowE hb,rowK:=row_below h.rowK hb,rowD:=row_below h.rowD hb }
theorem cur_typed {w:World} {r:Nat} {ys:List UInt8} (h:CurAt w r ys) {k:Nat} {cs:Array Value} {T:TypeId} (hc:w.heap[k]?=some (.cells cs T (0,0))) (hT:T≠205):k≠r:=fun e=>by
 obtain ⟨A,cap,h1,_⟩:=h
 rw [e,h1] at hc
 injection hc with hc
 injection hc with _ hc
 exact hT hc.symm
theorem GeS.took (h:GeS w W wr lf vE vK vD es ks ds ys) (hg:wr.grownBy w1 (some (w.heap.size+2))) (hc:CurAt w1 (w.heap.size+2) ys'):GeS w W w1 lf vE vK vD es ks ds ys':=by
 have hk:∀ (k:Nat) (cs:Array Value) (T:TypeId),wr.heap[k]?=some (.cells cs T (0,0))→T≠205→w1.heap[k]?=wr.heap[k]?:=fun k cs T h0 hT =>
  hg.block k (Array.getElem?_eq_some_iff.1 h0).1 (fun e=>cur_typed h.cur h0 hT (by injection e))
 exact {
  bel:=h.bel.grown hg (by have:=h.lt;omega) (fun k hk=>by injection hk;omega)
  out:=(hk _ _ _ h.out (by decide)).trans h.out
  cur:=hc
  rowE:=row_keep h.rowE (fun k cur _ h0=>hk k cur _ h0 (by decide))
  rowK:=row_keep h.rowK (fun k cur _ h0=>hk k cur _ h0 (by decide))
  rowD:=row_keep h.rowD (fun k cur _ h0=>hk k cur _ h0 (by decide)) }
theorem cur_set {w:World} {r g i:Nat} {ys:List UInt8} {cs:Array Value} {T:TypeId} {u:Value} (h:CurAt w r ys) (hg:w.heap[g]?=some (.cells cs T (0,0))) (hne:g≠r) (hcs:∀ (i:Nat) (z:Int),cs[i]?≠some (.int .u8 z)):CurAt (w.setCell ⟨g,i,none⟩ u) r ys:=by
 rw [setCell_eq_setRow w g i cs T (0,0) u hg]
 exact h.setRow hg hne hcs
theorem cur_grown {w w1:World} {r:Nat} {ys:List UInt8} {base sz n:Nat} {v:Value} {E:TypeId} {us:List Value} (h:CurAt w r ys) (hr:w.ownsRow base E sz v n us) (hg:w.grownBy w1 v.ownBlock) (hE:E≠205) (hb:r≤base):CurAt w1 r ys:=by
 obtain ⟨A,cap,h1,h2,h3,h4,h5⟩:=h
 refine ⟨A,cap,(typed_kept hr hg (Ne.symm hE) h1).trans h1,h2,h3,fun hx=>?_,h5⟩
 obtain ⟨b,off,hA,hc⟩:=h4 hx
 have hb':b<r:=h5 hx _ hA
 exact ⟨b,off,hA,fun k hk=>(World.cell?_of_block (a:=⟨b,off+k,none⟩) (hg.block b (World.block_lt_of_cell? _ _ (hc k hk)) (fun e=>by have:=(hr.lt b e.symm).1;omega))).trans (hc k hk)⟩
theorem node_u8 (lf:Bool) {vE vK vD:Value} (hE:∃ A n c,vE=.slice A n c) (hK:∃ A n c,vK=.slice A n c) (hD:∃ A n c,vD=.slice A n c):∀ (i:Nat) (z:Int),(#[.bool lf,vE,vK,vD]:Array Value)[i]?≠some (.int .u8 z):=by
 obtain ⟨_,_,_,rfl⟩:=hE
 obtain ⟨_,_,_,rfl⟩:=hK
 obtain ⟨_,_,_,rfl⟩:=hD
 intro i z
 match i with
 | 0=>simp
 | 1=>simp
 | 2=>simp
 | 3=>simp
 | i+4=>simp
theorem GeS.forms (h:GeS w W wr lf vE vK vD es ks ds ys):(∃ A n c,vE=.slice A n c)∧(∃ A n c,vK=.slice A n c)∧(∃ A n c,vD=.slice A n c):=by
 obtain ⟨A,c,e1⟩:=row_form h.rowE
 obtain ⟨A2,c2,e2⟩:=row_form h.rowK
 obtain ⟨A3,c3,e3⟩:=row_form h.rowD
 exact ⟨⟨_,_,_,e1⟩,⟨_,_,_,e2⟩,⟨_,_,_,e3⟩⟩
theorem bel_set {B:Nat} {W w1:World} {g i:Nat} {u:Value} (h:Below B W w1) (hg:B≤g):Below B W (w1.setCell ⟨g,i,none⟩ u) :=
 ⟨h.os,h.tape,h.output,by have:=h.size;simpa using this,fun k hk=>(Below.heap_setCell w1 ⟨g,i,none⟩ u k (by show k≠g;omega)).trans (h.block k hk)⟩
theorem GeS.grown (h:GeS w W wr lf vE vK vD es ks ds ys) {E:TypeId} {v:Value} {sz m:Nat} {us:List Value} (hr:wr.ownsRow (w.heap.size+3) E sz v m us) (hg:wr.grownBy w1 v.ownBlock) (h1:E≠86) (h2:E≠205) :
 Below (w.heap.size+1) W w1∧w1.heap[w.heap.size+1]?=some (.cells #[.bool lf,vE,vK,vD] 86 (0,0))∧CurAt w1 (w.heap.size+2) ys :=
 ⟨h.bel.grown hg (by have:=h.lt;omega) (fun k hk=>by have:=(hr.lt k hk).1;omega),(typed_kept hr hg (Ne.symm h1) h.out).trans h.out,cur_grown h.cur hr hg h2 (by omega)⟩
theorem GeS.setE (h:GeS w W wr lf vE vK vD es ks ds ys) {e:EntD} (hg:wr.grownBy w1 vE.ownBlock) (ho:w1.ownsRow (w.heap.size+3) 40 8 v' (es.length+1) (es.flatMap enC ++ enC e)):GeS w W (w1.setCell ⟨w.heap.size+1,1,none⟩ v') lf v' vK vD (es ++ [e]) ks ds ys:=by
 obtain ⟨b1,o1,c1⟩:=h.grown h.rowE hg (by decide) (by decide)
 obtain ⟨fE,fK,fD⟩:=h.forms
 exact {
  bel:=bel_set b1 (by omega)
  out:=(heap_setCell_same w1 (w.heap.size+1) 1 _ _ v' o1).trans rfl
  cur:=cur_set c1 o1 (by omega) (node_u8 lf fE fK fD)
  rowE:=by rw [List.length_append,List.flatMap_append];exact row_set (by simpa using ho) o1 (by decide)
  rowK:=row_set (row_keep h.rowK (fun k cur _ hc=>typed_kept h.rowE hg (by decide) hc)) o1 (by decide)
  rowD:=row_set (row_keep h.rowD (fun k cur _ hc=>typed_kept h.rowE hg (by decide) hc)) o1 (by decide) }
theorem GeS.setK (h:GeS w W wr lf vE vK vD es ks ds ys) {e:KeyD} (hg:wr.grownBy w1 vK.ownBlock) (ho:w1.ownsRow (w.heap.size+3) 38 2 v' (ks.length+1) (ks.flatMap kyC ++ kyC e)):GeS w W (w1.setCell ⟨w.heap.size+1,2,none⟩ v') lf vE v' vD es (ks ++ [e]) ds ys:=by
 obtain ⟨b1,o1,c1⟩:=h.grown h.rowK hg (by decide) (by decide)
 obtain ⟨fE,fK,fD⟩:=h.forms
 exact {
  bel:=bel_set b1 (by omega)
  out:=(heap_setCell_same w1 (w.heap.size+1) 2 _ _ v' o1).trans rfl
  cur:=cur_set c1 o1 (by omega) (node_u8 lf fE fK fD)
  rowK:=by rw [List.length_append,List.flatMap_append];exact row_set (by simpa using ho) o1 (by decide)
  rowE:=row_set (row_keep h.rowE (fun k cur _ hc=>typed_kept h.rowK hg (by decide) hc)) o1 (by decide)
  rowD:=row_set (row_keep h.rowD (fun k cur _ hc=>typed_kept h.rowK hg (by decide) hc)) o1 (by decide) }
theorem GeS.setD (h:GeS w W wr lf vE vK vD es ks ds ys) {z:Int} (hg:wr.grownBy w1 vD.ownBlock) (ho:w1.ownsRow (w.heap.size+3) 3 1 v' (ds.length+1) (ds.map kdC ++ [kdC z])):GeS w W (w1.setCell ⟨w.heap.size+1,3,none⟩ v') lf vE vK v' es ks (ds ++ [z]) ys:=by
 obtain ⟨b1,o1,c1⟩:=h.grown h.rowD hg (by decide) (by decide)
 obtain ⟨fE,fK,fD⟩:=h.forms
 exact {
  bel:=bel_set b1 (by omega)
  out:=(heap_setCell_same w1 (w.heap.size+1) 3 _ _ v' o1).trans rfl
  cur:=cur_set c1 o1 (by omega) (node_u8 lf fE fK fD)
  rowD:=by rw [List.length_append,List.map_append];exact row_set (by simpa using ho) o1 (by decide)
  rowE:=row_set (row_keep h.rowE (fun k cur _ hc=>typed_kept h.rowD hg (by decide) hc)) o1 (by decide)
  rowK:=row_set (row_keep h.rowK (fun k cur _ hc=>typed_kept h.rowD hg (by decide) hc)) o1 (by decide) }
end
structure NdNew (w:World) (B:Nat) (n:NodeD) (l:NdL):Prop where
 e:∀ a,l.EA=some a→B≤a.block
 k:∀ a,l.KA=some a→B≤a.block
 d:∀ a,l.DA=some a→B≤a.block
 re:w.ownsRow B 40 8 (.slice l.EA n.es.length l.ec) n.es.length (n.es.flatMap enC)
 rk:w.ownsRow B 38 2 (.slice l.KA n.ks.length l.kc) n.ks.length (n.ks.flatMap kyC)
 rd:w.ownsRow B 3 1 (.slice l.DA n.ds.length l.dc) n.ds.length (n.ds.map kdC)
theorem row_less {w:World} {base base' sz n:Nat} {E:TypeId} {v:Value} {us:List Value} (h:w.ownsRow base E sz v n us) (hb:base'≤base):w.ownsRow base' E sz v n us :=
 ⟨h.1,h.2.imp id fun ⟨g,cap,cur,h1,h2,h3⟩=>⟨g,cap,cur,h1,Nat.le_trans hb h2,h3⟩⟩
theorem NdNew.mono {w:World} {B B':Nat} {n:NodeD} {l:NdL} (h:NdNew w B n l) (hb:B'≤B):NdNew w B' n l :=
 ⟨fun a e=>Nat.le_trans hb (h.e a e),fun a e=>Nat.le_trans hb (h.k a e),fun a e=>Nat.le_trans hb (h.d a e),row_less h.re hb,row_less h.rk hb,row_less h.rd hb⟩
theorem NdNew.below {w w':World} {B:Nat} {n:NodeD} {l:NdL} (h:NdNew w B n l) (hb:Below w.heap.size w w'):NdNew w' B n l :=
 ⟨h.e,h.k,h.d,row_below h.re hb,row_below h.rk hb,row_below h.rd hb⟩
theorem row_new {w:World} {B base sz n c m:Nat} {E:TypeId} {A:Option Addr} {us:List Value} (h:w.ownsRow base E sz (.slice A n c) m us) (hB:B≤base):∀ a,A=some a→B≤a.block:=fun a e=>by
 subst e
 exact Nat.le_trans hB (World.ownsRow.lt h a.block rfl).1
end Go.Proofs.YtgkddhncfaeidaaGreat
namespace Go.Proofs.YtgkddhncfaeidaaGreat
open Go.RowKit CrcM PageM
theorem results_cell_tmp' {P:Program} {fn:Func} {p u:Tmp} {ty:TypeId} (h:fn.results=#[.cell p ty,.tmp u]) (tmps:Array Value) (w:World) (g:Nat) (t:TypeId) (cs:Array Value) (fr:Nat × Nat) (d:TypeDesc)
 (hp:tmps.getD p undef=.pointer (some ⟨g,0,none⟩)) (hg:w.heap[g]?=some (.cells cs t fr))
 (hu:P.underlying ty=some d) (hd:(match d with | .struct _ | .array _ _=>true | _=>false)=true) (hi:(P.info? ty).map (·.size)=some cs.size) :
 (results fn tmps).run P w=.ok (.tuple #[.agg cs,tmps.getD u undef]) w:=by
 have hp':tmps[p]?.getD undef=.pointer (some ⟨g,0,none⟩):=by simpa using hp
 simp [results,h,hp',asAddr,run_loadVar_row w g t ty cs fr d hg hu hd hi]
end Go.Proofs.YtgkddhncfaeidaaGreat
