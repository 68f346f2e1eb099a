/- Squeezed: the texts as they are written lie in wip/tpl. -/
import Derived.Test.YtgkddhncfaeidaaGreatPart43
import Derived.Test.YtgkddhncfaeidaaGreatPart15
import Derived.Test.YtgkddhncfaeidaaGreatPart26
import Derived.Test.YtgkddhncfaeidaaGreatPart36
import Derived.Test.YtgkddhncfaeidaaGreatTiWy
import Derived.Test.YtgkddhncfaeidaaGreatPart28
import Derived.Test.YtgkddhncfaeidaaGreatPart22
import Derived.Shelf.Sort.Plain
import Derived.Shelf.Slices.CompactI
import Derived.Ground.Names2Prog
import Derived.Test.YtgkddhncfaeidaaGreatProg
import Derived.Test.YtgkddhncfaeidaaGreatRows
import Derived.Test.YtgkddhncfaeidaaGreatPart32
import Derived.Sort.OwnSortedInts
import Derived.Shelf.Slices.In.SortNone
import Derived.Laws.StructEq
import Derived.ChangeKeysEq
import Derived.Test.YtgkddhncfaeidaaGreatPart17
set_option maxRecDepth 100000
set_option maxHeartbeats 16000000
set_option linter.unusedSimpArgs false
set_option linter.unusedVariables false
namespace Go.Proofs.YtgkddhncfaeidaaGreat
set_option linter.unnecessarySimpa false
open Go.RowKit Go.ChangeShapes Go.WideShapes Go.ChangeAt CrcM PageM
def gx:EntD:=⟨1,5,6,2,9,2,0,0⟩
theorem gx_ok:okEnt gx:=by unfold okEnt okKey okAddr gx;decide
theorem gx_in:inNode ⟨true,[gx],[],[]⟩:=⟨fun e h=>by rw [List.mem_singleton.1 h];unfold inEnt inJ gx;decide,fun k h=>by cases h⟩
theorem gx_at:atK [gx] gx.key=some gx:=rfl
theorem gx_tree {nw nw':List UInt8} {Lx:List (Nat × (NodeD × NdL))} {Ls:Nat} (hL:768≤Ls) (h:PgsOf 1 nw nw' Lx) (hl:Lx.map strip=[(2,⟨true,[gx],[],[]⟩)]):TreeQ nw' Ls 2 1 [gx]:=by
 refine .inr ⟨0,⟨true,[gx],[],[]⟩,rfl,by decide,⟨rfl,rfl,rfl,rfl⟩,⟨okNode_one gx_ok,gx_in,by omega,1,by decide,?_⟩,by decide⟩
 have hm:(2,(⟨true,[gx],[],[]⟩:NodeD)) ∈ Lx.map strip:=by rw [hl];exact List.mem_singleton.2 rfl
 obtain ⟨y,hy,he⟩:=List.mem_map.1 hm
 have h1:=h.1 y hy
 have e1:y.1=2:=congrArg Prod.fst he
 have e2:y.2.1=⟨true,[gx],[],[]⟩:=congrArg Prod.snd he
 rw [putPg,e1,e2] at h1
 exact h1
theorem gx_free:freeN (marks map0 [2]) 20=17:=by decide
theorem grows_any (w:World) :
 Calls Tryz.prog 7 #[] w fun e w'=>e=.returned (.bool true)∧Below w.heap.size w w':=by
 have N0:=Lib.hid (Below.refl w.heap.size w)
 go_enter Tryz.func7,Tryz.ntmps7
 go_upto_region 4 with (go_at_call 6;refine (begin_any 20 (by decide) (by decide) _).mono ?_;rintro e w1 ⟨gv,g,B,N,gs,gn,cs,cn,rfl,hv,hd,hgv,hB,hb⟩;have V1:=Lib.hid hv;have D1:=Lib.hid hd;have GV:=Lib.hid hgv;have GB:=Lib.hid hB;have B1:=Lib.hid hb;clear hv hd hgv hB hb)
 go_upto_region 5 with fail
 obtain ⟨w2,hw2⟩:∃ w2,w2=w1.alloc (.cells #[.int .i64 1,.int .i64 5,.int .i64 6,.int .i64 2,.int .i64 9,.int .i64 2,.int .i64 0,.int .u32 0] 40):=⟨_,rfl⟩
 obtain ⟨g4,hg4⟩:∃ g4,g4=w1.heap.size:=⟨_,rfl⟩
 have G2:Hid (w2.heap[g4]?=some (.cells #[.int .i64 1,.int .i64 5,.int .i64 6,.int .i64 2,.int .i64 9,.int .i64 2,.int .i64 0,.int .u32 0] 40 (0,0))):=Lib.hid (by rw [hw2,hg4];exact heap_alloc_new _ _)
 have A2:=Lib.hid (alloc_bel hw2)
 have B2:=Lib.hid (B1.out.trans (A2.out.mono B1.out.size))
 have V2:=Lib.hid (V1.out.below A2.out)
 have D2:=Lib.hid (D1.out.below A2.out)
 have P2:Hid (Picks 20 (orK map0 map0 512) map0 [2]):=Lib.hid (by rw [orK_self length_map0];exact picks_new 20 1 (by decide) (by decide))
 have HIN:=Lib.hid (insert_first gv g 1 20 map0 map0 length_map0 length_map0 (okM_zero 20 (by decide) (by decide)) (okM_zero 20 (by decide) (by decide)) (by decide) gx gx_ok 0 2 P2.out (by decide) (by decide) w2 V2.out D2.out)
 have hX:¬ (DkX g gn (.slice none 0 0) g4∨g4=gv):=fun hx=>by
  rcases hx with hx | hx
  ·exact D2.out.notX G2.out (by decide) (.inl (by decide)) (by decide) hx
  ·have h1:=V2.out
   have h2:=G2.out
   unfold ViewAt at h1
   rw [hx,h1] at h2
   cases h2
 have HX:=Lib.hid hX
 clear hX P2
 dsimp only [gx] at HIN
 rw [← hw2,← hg4]
 clear hw2 hg4
 go_upto_region 6 with (first
  | (refine wpList_load_row rfl 40 (.tmp 4) rfl g4 rfl 40 _ (0,0) _ G2.out Tryz.underlying40 rfl (by kernel_rfl) ?_)
  | (go_at_call 17;refine HIN.out.mono ?_;rintro e w3 ⟨rfl,Lx,hlx,hw⟩;have W3:=Lib.hid hw;have L3:=Lib.hid hlx;have G3:=Lib.hid (hw.out.heap G2.out HX.out);clear hw hlx))
 obtain ⟨w4,hw4⟩:∃ w4,w4=w3.alloc (.cells #[.int .i64 2,.int .i64 1] 43):=⟨_,rfl⟩
 obtain ⟨g5,hg5⟩:∃ g5,g5=w3.heap.size:=⟨_,rfl⟩
 have G5:Hid (w4.heap[g5]?=some (.cells #[.int .i64 2,.int .i64 1] 43 (0,0))):=Lib.hid (by rw [hw4,hg5];exact heap_alloc_new _ _)
 have A4:=Lib.hid (alloc_bel hw4)
 have G4:=Lib.hid (row_stays G3.out A4.out)
 obtain ⟨rw',ws',nw',d1,-,d3,-⟩:=W3.out.disk
 have T3:Hid (TreeQ nw' (20*256) 2 1 [gx]):=Lib.hid (gx_tree (by decide) d3 L3.out)
 have V4:=Lib.hid (W3.out.view.below A4.out)
 have D4:=Lib.hid (d1.below A4.out)
 have HUP:Hid (Up [gx]):=Lib.hid (List.pairwise_singleton _ _)
 have B4:Hid (Below w.heap.size w w4):=Lib.hid (by
  have h1:=W3.out.out
  have h2:=A4.out
  have hgB:=D1.out.gB
  have hnB:=(OwnB.parts D1.out.now).1
  have hW:Below w.heap.size w2 w3:=⟨h1.os,h1.tape,h1.output,h1.size,fun q hq=>h1.block q (Nat.lt_of_lt_of_le hq B2.out.size) (fun hx=>by
   have:=GB.out
   have:=GV.out
   rcases hx with (hx | hx | hx) | hx
   ·omega
   ·omega
   ·cases hx
   ·omega)⟩
  exact (B2.out.trans hW).trans (h2.mono (Nat.le_trans B2.out.size h1.size)))
 have HFD:=Lib.hid (fun W (hW:Below w4.heap.size w4 W)=>find_any gv g 1 20 2 1 (marks map0 [2]) map0 [gx] gx.key T3.out HUP.out W (V4.out.below hW) (D4.out.below hW))
 have HIK:=Lib.hid (fun W (hW:Below w4.heap.size w4 W)=>insert_known gv g 1 20 2 1 (marks map0 [2]) map0 [gx] gx gx gx_ok T3.out HUP.out gx_at W (V4.out.below hW) (D4.out.below hW))
 rw [gx_at] at HFD
 dsimp only [gx,EntD.key,enV] at HFD HIK
 have HMP:=Lib.hid (fun W (hW:Below w4.heap.size w4 W)=>map_any gv g 1 20 (marks map0 [2]) map0 (by rw [length_marks];exact length_map0) W (V4.out.below hW))
 obtain ⟨C,hC⟩:∃ C,C=mapC ((20:Nat):Int) (marks map0 [2]):=⟨_,rfl⟩
 have HFR:=Lib.hid (fun W=>free_bm 20 (marks map0 [2]) (by rw [length_marks];exact length_map0) (by decide) W C hC 17 gx_free.symm)
 rw [← hC] at HMP
 clear hC d1 d3 T3 HIN W3 L3
 rw [← hw4,← hg5]
 clear hw4 hg5
 have z0:=nd_cell G4.out 0 (.int .i64 1) rfl
 have z1:=nd_cell G4.out 1 (.int .i64 5) rfl
 go_upto_region 7 with (first
  | (refine wpList_load_row rfl 43 (.tmp 5) rfl g5 rfl 43 _ (0,0) _ G5.out Tryz.underlying43 rfl (by kernel_rfl) ?_)
  | (go_at_call 14;refine (HFD.out _ (Below.refl _ _)).mono ?_;rintro e w5 ⟨rfl,hb5⟩;have B5:=Lib.hid hb5;clear hb5))
 clear z0 z1
 obtain ⟨w6,hw6⟩:∃ w6,w6=w5.alloc (.cells #[.int .i64 1,.int .i64 5,.int .i64 6,.int .i64 2,.int .i64 9,.int .i64 2,.int .i64 0,.int .u32 0] 40):=⟨_,rfl⟩
 obtain ⟨g7,hg7⟩:∃ g7,g7=w5.heap.size:=⟨_,rfl⟩
 have G7:Hid (w6.heap[g7]?=some (.cells #[.int .i64 1,.int .i64 5,.int .i64 6,.int .i64 2,.int .i64 9,.int .i64 2,.int .i64 0,.int .u32 0] 40 (0,0))):=Lib.hid (by rw [hw6,hg7];exact heap_alloc_new _ _)
 have A6:=Lib.hid (alloc_bel hw6)
 have B6:Hid (Below w4.heap.size w4 w6):=Lib.hid (B5.out.trans (A6.out.mono B5.out.size))
 rw [← hw6,← hg7]
 clear hw6 hg7
 have H4:=Lib.hid (row_stays G4.out B6.out)
 have H5:=Lib.hid (row_stays G5.out B6.out)
 go_upto_region 8 with (first
  | (refine wpList_load_row rfl 43 (.tmp 5) rfl g5 rfl 43 _ (0,0) _ H5.out Tryz.underlying43 rfl (by kernel_rfl) ?_)
  | (refine wpList_load_row rfl 40 (.tmp 4) rfl g4 rfl 40 _ (0,0) _ H4.out Tryz.underlying40 rfl (by kernel_rfl) ?_)
  | (go_at_call 17;refine (HIK.out _ B6.out).mono ?_;rintro e w7 ⟨rfl,hb7⟩;have B7:=Lib.hid hb7;clear hb7))
 obtain ⟨w8,hw8⟩:∃ w8,w8=w7.alloc (.cells #[.int .i64 0,.int .i64 0] 43):=⟨_,rfl⟩
 have A8:=Lib.hid (alloc_bel hw8)
 have B8:Hid (Below w4.heap.size w4 w8):=Lib.hid (B6.out.trans ((B7.out.trans (A8.out.mono B7.out.size)).mono B6.out.size))
 have J4:=Lib.hid (row_stays G4.out B8.out)
 have J5:=Lib.hid (row_stays G5.out B8.out)
 have J7:=Lib.hid (row_stays G7.out (B7.out.trans (A8.out.mono B7.out.size)))
 rw [← hw8]
 clear hw8
 have z5:=nd_cell J5.out 1 (.int .i64 1) rfl
 have y40:=nd_cell J4.out 0 (.int .i64 1) rfl
 have y70:=nd_cell J7.out 0 (.int .i64 1) rfl
 have y41:=nd_cell J4.out 1 (.int .i64 5) rfl
 have y71:=nd_cell J7.out 1 (.int .i64 5) rfl
 have y42:=nd_cell J4.out 2 (.int .i64 6) rfl
 have y72:=nd_cell J7.out 2 (.int .i64 6) rfl
 have y43:=nd_cell J4.out 3 (.int .i64 2) rfl
 have y73:=nd_cell J7.out 3 (.int .i64 2) rfl
 have y44:=nd_cell J4.out 4 (.int .i64 9) rfl
 have y74:=nd_cell J7.out 4 (.int .i64 9) rfl
 have y45:=nd_cell J4.out 5 (.int .i64 2) rfl
 have y75:=nd_cell J7.out 5 (.int .i64 2) rfl
 have y46:=nd_cell J4.out 6 (.int .i64 0) rfl
 have y76:=nd_cell J7.out 6 (.int .i64 0) rfl
 have y47:=nd_cell J4.out 7 (.int .u32 0) rfl
 have y77:=nd_cell J7.out 7 (.int .u32 0) rfl
 go_wp2_with (first
  | (go_at_call 20;refine (HMP.out _ B8.out).mono ?_;rintro e w9 ⟨rfl,hb9⟩;have B9:=Lib.hid hb9;clear hb9)
  | (go_at_call 25;refine (HFR.out _).mono ?_;rintro e w10 ⟨rfl,hb10⟩;have B10:=Lib.hid hb10;clear hb10))
 go_ret
 exact ⟨rfl,B4.out.trans ((B8.out.trans ((B9.out.trans (B10.out.mono B9.out.size)).mono B8.out.size)).mono B4.out.size)⟩
theorem modM (a:Int) (m:Nat) (h0:0<m) (hm:m≤1000000):∃ k:Nat,k<m∧wrap64 ((IntKind.u64.wrap a).tmod (m:Int))=(k:Int):=by
 obtain ⟨u,hu⟩:∃ u:Nat,IntKind.u64.wrap a=(u:Int):=⟨(IntKind.u64.wrap a).toNat,by
  have h1:0≤IntKind.u64.wrap a:=by rw [IntKind.wrap_u64];omega
  omega⟩
 rw [hu]
 refine ⟨u % m,Nat.mod_lt _ h0,?_⟩
 have h2:=Nat.mod_lt u h0
 have h3:(u:Int).tmod (m:Int)=((u % m:Nat):Int):=rfl
 rw [h3]
 unfold wrap64
 omega
theorem Dk.dkx_ge {w:World} {B N g gs gn L cs cn:Nat} {rw:Value} {st nw:List UInt8} {ws:List (Nat × List UInt8)} {on:Bool} {left:Int} (h:Dk w B N g gs gn rw L cs cn st nw ws on left) {k:Nat} (hk:DkX g gn rw k):B≤k∧k<N:=by
 have h1:=h.gB
 have h2:=h.now.parts.1
 have h3:=h.blk
 have h5:=h.gN
 have h6:=h.nN
 have h7:=h.wN
 rcases hk with e | e | e
 ·omega
 ·omega
 ·have:=h3 _ e;have:=h7 _ e;omega
theorem ViewAt.off {w:World} {gv g gen q:Nat} {p:Int} {U V:List Bool} {cs:Array Value} {T:TypeId} {fr:Nat × Nat} (h:ViewAt w gv g gen p U V) (hq:w.heap[q]?=some (.cells cs T fr)) (hT:T≠105):q≠gv:=fun e=>by
 unfold ViewAt at h
 rw [e,h] at hq
 exact hT (Obj.cells.inj (Option.some.inj hq)).2.1.symm
theorem meas_next {k j:Nat} {x:Int} (h:j<k) (hx:x=(j:Int)+1):k - (intOf (.int .i64 x)).toNat<k - (intOf (.int .i64 (j:Int))).toNat:=by
 rw [hx]
 simp only [intOf]
 omega
theorem InsF.keepK {w w':World} {gv g B N gs gn cs cn p:Nat} {rw:Value} {st nw:List UInt8} {ws:List (Nat × List UInt8)} {U:List Bool} {a hh k:Nat} {pg:List Nat} (h:InsF w gv g B N gs gn cs cn p rw st nw ws U a hh k pg) (hs:w.heap.size≤w'.heap.size) (hk:∀ (b:Nat) (cs:Array Value) (T:TypeId) (fr:Nat × Nat),w.heap[b]?=some (Obj.cells cs T fr)→T≠43→w'.heap[b]?=w.heap[b]?):InsF w' gv g B N gs gn cs cn p rw st nw ws U a hh k pg :=
 { h with
   view:=h.view.keep (hk _ _ _ _ h.view (by decide))
   disk:=h.disk.keepTy hs fun b cs T fr hb hT=>hk b cs T fr hb (by rcases hT with rfl | rfl | rfl <;> decide) }
theorem InsF.below {w w':World} {gv g B N gs gn cs cn p:Nat} {rw:Value} {st nw:List UInt8} {ws:List (Nat × List UInt8)} {U:List Bool} {a hh k:Nat} {pg:List Nat} (h:InsF w gv g B N gs gn cs cn p rw st nw ws U a hh k pg) (hb:Below w.heap.size w w'):InsF w' gv g B N gs gn cs cn p rw st nw ws U a hh k pg :=
 h.keepK hb.size fun b cs T fr h1 _=>hb.block b (Array.getElem?_eq_some_iff.1 h1).1
theorem InsO.keepK {w w':World} {gv g B gs gn cs cn p a hh er j:Nat} {st:List UInt8} (h:InsO w gv g B gs gn cs cn p st a hh er j) (hs:w.heap.size≤w'.heap.size) (hk:∀ (b:Nat) (cs:Array Value) (T:TypeId) (fr:Nat × Nat),w.heap[b]?=some (Obj.cells cs T fr)→T≠43→w'.heap[b]?=w.heap[b]?):InsO w' gv g B gs gn cs cn p st a hh er j:=by
 rcases h with ⟨rfl,N,rw,nw,ws,U,pg,h⟩ | h
 ·exact .inl ⟨rfl,N,rw,nw,ws,U,pg,h.keepK hs hk⟩
 ·exact .inr h
theorem InsO.below {w w':World} {gv g B gs gn cs cn p a hh er j:Nat} {st:List UInt8} (h:InsO w gv g B gs gn cs cn p st a hh er j) (hb:Below w.heap.size w w'):InsO w' gv g B gs gn cs cn p st a hh er j :=
 h.keepK hb.size fun b cs T fr h1 _=>hb.block b (Array.getElem?_eq_some_iff.1 h1).1
structure LpF (w wr:World) (gv g B gs gn cs cn p g7:Nat) (st:List UInt8) (j a hh N:Nat) (rw:Value) (nw:List UInt8) (ws:List (Nat × List UInt8)) (U:List Bool) (pg:List Nat):Prop where
 ins:InsF wr gv g B N gs gn cs cn p rw st nw ws U a hh j pg
 box:wr.heap[g7]?=some (.cells #[.int .i64 (a:Int),.int .i64 (hh:Int)] 43 (0,0))
 bel:Below w.heap.size w wr
theorem LpF.bel' {w W0 wc:World} {gv g B gs gn cs cn p g7:Nat} {st:List UInt8} {j a hh N:Nat} {rw:Value} {nw:List UInt8} {ws:List (Nat × List UInt8)} {U:List Bool} {pg:List Nat} (h:LpF w W0 gv g B gs gn cs cn p g7 st j a hh N rw nw ws U pg) (hB:w.heap.size≤B) (hv:w.heap.size≤gv) (ho:OuterX (fun q=>DkX g gn rw q∨q=gv) W0 wc):Below w.heap.size w wc:=by
 refine ⟨ho.os.trans h.bel.os,ho.tape.trans h.bel.tape,ho.output.trans h.bel.output,?_,fun q hq=>(ho.block q (Nat.lt_of_lt_of_le hq h.bel.size) (fun hx=>?_)).trans (h.bel.block q hq)⟩
 ·have:=h.bel.size
  have:=ho.size
  omega
 ·rcases hx with hx | hx
  ·have:=(h.ins.disk.dkx_ge hx).1
   omega
  ·omega
theorem LpF.step {w W0 wc:World} {gv g B gs gn cs cn p g7:Nat} {st:List UInt8} {j a hh N:Nat} {rw:Value} {nw:List UInt8} {ws:List (Nat × List UInt8)} {U:List Bool} {pg:List Nat} (h:LpF w W0 gv g B gs gn cs cn p g7 st j a hh N rw nw ws U pg) (hB:w.heap.size≤B) (hv:w.heap.size≤gv) (h10:w.heap.size≤g7) (ho:OuterX (fun q=>DkX g gn rw q∨q=gv) W0 wc)
 {a' hh' N':Nat} {rw':Value} {nw':List UInt8} {ws':List (Nat × List UInt8)} {U':List Bool} {pg':List Nat} (hi:InsF wc gv g B N' gs gn cs cn p rw' st nw' ws' U' a' hh' (j+1) pg'):wc.heap[g7]?=some (.cells #[.int .i64 (a:Int),.int .i64 (hh:Int)] 43 (0,0))∧LpF w (World.setRow wc g7 #[.int .i64 (a':Int),.int .i64 (hh':Int)]) gv g B gs gn cs cn p g7 st (j+1) a' hh' N' rw' nw' ws' U' pg':=by
 have nX:∀ {q:Nat} {cs':Array Value},W0.heap[q]?=some (.cells cs' 43 (0,0))→¬ (DkX g gn rw q∨q=gv):=fun {q cs'} hq hx=>by
  rcases hx with hx | hx
  ·exact h.ins.disk.notX hq (by decide) (.inl (by decide)) (by decide) hx
  ·exact h.ins.view.off hq (by decide) hx
 have e10:=(ho.block g7 (Array.getElem?_eq_some_iff.1 h.box).1 (nX h.box)).trans h.box
 refine ⟨e10,⟨hi.keepK (by simp) (fun b cs T fr hb hT=>setRow_other _ g7 b _ (fun e=>by rw [e,e10] at hb;cases hb;exact hT rfl)),setRow_heap _ _ _ _ _ _ e10,?_⟩⟩
 have hb:=h.bel' hB hv ho
 exact ⟨hb.os,hb.tape,hb.output,by simpa using hb.size,fun q hq=>(setRow_other _ g7 q _ (by omega)).trans (hb.block q hq)⟩
theorem treeFull_walk (n:Int) (hn:(Lit.int .i64 n).wf=true) {w:World} :
 Calls Tryz.prog 4 #[.int .i64 n] w fun e w'=>e=.returned (.bool true)∧Below w.heap.size w w':=by
 obtain ⟨k,hk,hke⟩:=modM n 10 (by decide) (by decide)
 have hke':wrap64 ((IntKind.u64.wrap n).tmod 10)=(k:Int):=hke
 obtain ⟨p,hp⟩:∃ p,p=8+k:=⟨_,rfl⟩
 have hpe:wrap64 (8+(k:Int))=(p:Int):=by unfold wrap64;omega
 have HP8:Hid (8≤p∧p≤17):=Lib.hid (by omega)
 have HKE:=Lib.hid hke'
 have HPE:=Lib.hid hpe
 clear hk hke hke' hp hpe hn
 go_enter Tryz.func4,Tryz.ntmps4
 go_upto_region 2 with fail
 rw [HKE.out,HPE.out]
 clear HKE HPE
 go_upto_region 3 with (go_at_call 6;refine (begin_any p HP8.out.1 (by have:=HP8.out;omega) _).mono ?_;rintro e w1 ⟨gv,g,B,N,gs,gn,cs,cn,rfl,hv,hd,hgv,hB,hb⟩;have V1:=Lib.hid hv;obtain ⟨Z,hZ⟩:∃ Z,Z=List.replicate (p*256) (0:UInt8):=⟨_,rfl⟩;have D1:Hid (Dk w1 B N g gs gn (.slice none 0 0) (p*256) cs cn Z Z [] true (-1)):=Lib.hid (by rw [hZ];exact hd);clear hZ;have GV:=Lib.hid hgv;have GB:=Lib.hid hB;have B1:=Lib.hid hb;clear hv hd hgv hB hb)
 go_upto_region 5 with (go_at_call 7;refine (grows_any _).mono ?_;rintro e w2 ⟨rfl,hb⟩;have B12:=Lib.hid hb;clear hb)
 have B2:Hid (Below w.heap.size w w2):=Lib.hid (B1.out.trans (B12.out.mono B1.out.size))
 have V2:=Lib.hid (V1.out.below B12.out)
 have D2:=Lib.hid (D1.out.below B12.out)
 obtain ⟨g7,hg7⟩:∃ g7,g7=w2.heap.size:=⟨_,rfl⟩
 obtain ⟨w3,hw3⟩:∃ w3,w3=w2.alloc (.cells #[.int .i64 0,.int .i64 0] 43):=⟨_,rfl⟩
 have HG7:Hid (w.heap.size≤g7):=Lib.hid (by rw [hg7];exact B2.out.size)
 have I0:Hid (LpF w w3 gv g B gs gn cs cn p g7 Z 0 0 0 N (.slice none 0 0) Z [] map0 []):=Lib.hid (by
  have hb:=alloc_bel hw3
  exact { ins:={ view:=V2.out.below hb,disk:=D2.out.below hb,len:=length_map0,ok:=okM_zero p HP8.out.1 (by have:=HP8.out;omega),shp:=.inl ⟨rfl,rfl,rfl⟩,use:=⟨List.nodup_nil,(fun b hb=>by cases hb),(fun b=>by simp),(fun b hb=>by cases hb)⟩,wait:=Nat.le_refl _ },box:=by rw [hw3,hg7];exact heap_alloc_new _ _,bel:=B2.out.trans (hb.mono B2.out.size) })
 go_upto_region 6 with fail
 rw [← hw3,← hg7]
 clear hw3 hg7 V2 D2 B2 V1 D1 B1 B12
 go_wp2_with fail
 go_loopw [8] (fun iv wr=>∃ (j a hh N:Nat) (rw:Value) (nw:List UInt8) (ws:List (Nat × List UInt8)) (U:List Bool) (pg:List Nat),iv=.int .i64 (j:Int)∧Hid (LpF w wr gv g B gs gn cs cn p g7 Z j a hh N rw nw ws U pg)) (fun iv _=>200 - (intOf iv).toNat)
 case atStart=>exact ⟨0,0,0,N,_,_,[],map0,[],rfl,I0⟩
 case round =>
  clear I0
  obtain ⟨j,a,hh,N2,rw,nw,ws,U,pg,rfl,HI⟩:=hrel
  obtain ⟨W0,rfl⟩:∃ W0,W0=wr:=⟨_,rfl⟩
  have hj59:j≤59:=HI.out.ins.small HP8.out.1 HP8.out.2
  have HJ:=Lib.hid hj59
  have qj:decide ((j:Int)<200)=true:=decide_eq_true (by omega)
  obtain ⟨VE,hVE⟩:∃ VE,VE=Value.agg (enC (entM j)).toArray:=⟨_,rfl⟩
  have HA:Hid (∀ W,Calls Tryz.prog 8 #[.agg #[.int .i64 0,.int .i64 (wrap64 ((wrap64 (7*(j:Int))).tdiv 1000)),.int .i64 ((wrap64 (7*(j:Int))).tmod 1000),.int .i64 0,.int .i64 1]] W fun e' w'=>e'=.returned VE∧Below W.heap.size W w'):=Lib.hid (fun W=>by
   have h1:=act_entryM j (by omega) W
   rw [← hVE] at h1
   have e0:wrap64 (7*(j:Int))=((7*j:Nat):Int):=by unfold wrap64;omega
   have e1:(((7*j:Nat):Int)).tdiv 1000=0:=by
    have:(((7*j:Nat):Int)).tdiv ((1000:Nat):Int)=(((7*j) / 1000:Nat):Int):=rfl
    rw [show ((1000:Int))=((1000:Nat):Int) from rfl,this,Nat.div_eq_of_lt (by omega)]
    rfl
   have e2:(((7*j:Nat):Int)).tmod 1000=((7*j:Nat):Int):=by
    have:(((7*j:Nat):Int)).tmod ((1000:Nat):Int)=(((7*j) % 1000:Nat):Int):=rfl
    rw [show ((1000:Int))=((1000:Nat):Int) from rfl,this,Nat.mod_eq_of_lt (by omega)]
   rw [e0,e1,e2,show wrap64 0=0 by unfold wrap64;omega]
   exact h1)
  have HEn:Hid (∀ W,Calls Tryz.prog 9 #[VE] W fun e' w'=>e'=.returned VE∧Below W.heap.size W w'):=Lib.hid (fun W=>by rw [hVE];exact entry_any (entM j) W)
  have HIN:Hid (∀ W,Below W0.heap.size W0 W→Calls Tryz.prog 17 #[.pointer (some ⟨gv,0,none⟩),.agg #[.int .i64 (a:Int),.int .i64 (hh:Int)],VE] W fun e' w'=>∃ (a' hh' er:Nat),e'=.returned (.tuple #[.agg #[.int .i64 (a':Int),.int .i64 (hh':Int)],.int .i64 (er:Int)])∧InsO w' gv g B gs gn cs cn p Z a' hh' er j∧OuterX (fun j=>DkX g gn rw j∨j=gv) W w'):=Lib.hid (fun W hW=>by rw [hVE];exact ins_full HP8.out.1 HP8.out.2 W (HI.out.ins.below hW))
  clear hVE hj59
  have HBX:=Lib.hid HI.out.box
  have HGL:Hid (∀ q,DkX g gn rw q∨q=gv→q<W0.heap.size):=Lib.hid (fun q hq=>by
   rcases hq with hq | hq
   ·have h1:=(HI.out.ins.disk.dkx_ge hq).2
    have h2:=HI.out.ins.disk.NN
    omega
   ·have h1:=HI.out.ins.view
    unfold ViewAt at h1
    rw [hq]
    exact (Array.getElem?_eq_some_iff.1 h1).1)
  have gX:∀ y:SubX (fun q=>DkX g gn rw q∨q=gv) W0,y.at_.heap[g7]?=some (.cells #[.int .i64 (a:Int),.int .i64 (hh:Int)] 43 (0,0)):=fun y=>y.ok_.heap HBX.out (fun hx=>by
   rcases hx with hx | hx
   ·exact HI.out.ins.disk.notX HBX.out (by decide) (.inl (by decide)) (by decide) hx
   ·exact HI.out.ins.view.off HBX.out (by decide) hx)
  go_upto_region 9 with fail
  try rw [qj]
  clear qj
  go_cut [9,10] from 33 to 47 (fun s12 s13 wx=>∃ (qa a' hh' er:Nat),s12=.pointer (some ⟨qa,0,none⟩)∧s13=.int .i64 (er:Int)∧Hid (InsO wx gv g B gs gn cs cn p Z a' hh' er j)∧Hid (wx.heap[qa]?=some (.cells #[.int .i64 (a':Int),.int .i64 (hh':Int)] 43 (0,0)))∧Hid (W0.heap.size≤qa)∧Hid (OuterX (fun q=>DkX g gn rw q∨q=gv) W0 wx))
  case first =>
   refine region_waysX 17 (fun q=>DkX g gn rw q∨q=gv) (.two [0,1,2,3,4,5,6,7,8] 9 (.two [] 10 (.two [] 11 (.one [12,13,14] 15 (.one [] 16 (.done []))) 15 (.one [] 11 (.one [12,13,14] 16 (.done [])))) 15 (.one [] 10 (.one [] 11 (.one [12,13,14] 16 (.done []))))) 15 (.one [] 9 (.one [] 10 (.one [] 11 (.one [12,13,14] 16 (.done [])))))) (by kernel_rfl) (by kernel_rfl) ?_
   rintro wd hbd
   have BD:=Lib.hid hbd
   clear hbd
   rw [wpWaysT_two]
   try simp only [List.map_cons,List.map_nil,opAt,List.getElem?_toArray,List.getElem?_cons_zero,List.getElem?_cons_succ,Option.getD_some]
   repeat (first
    | (go_big_quiet_want;refine quietX_load_row 43 (.tmp 7) rfl g7 rfl 43 _ (0,0) _ gX Tryz.underlying43 rfl (by kernel_rfl) ?_;simp only [Act.put,List.setIfInBounds_toArray,List.set_cons_zero,List.set_cons_succ];go_big_quiet_on)
    | go_big_quiet_step (fail))
   clear gX
   refine wpQuiet_nil ⟨?_,?_⟩
   ·go_wp2_with (go_at_call 8;refine (HA.out _).mono ?_;rintro e' x1 ⟨rfl,hb4⟩;have B5:=Lib.hid (BD.out.trans (hb4.mono BD.out.size));have HB4:=Lib.hid hb4;clear hb4)
    refine ⟨⟨⟨_,outerX_of_below B5.out⟩,rfl⟩,?_⟩
    try simp only [Act.put,List.setIfInBounds_toArray,List.set_cons_zero,List.set_cons_succ]
    rw [wpWaysT_two]
    try simp only [List.map_cons,List.map_nil,opAt,List.getElem?_toArray,List.getElem?_cons_zero,List.getElem?_cons_succ,Option.getD_some]
    refine wpQuiet_nil ⟨?_,?_⟩
    ·go_wp2_with (go_at_call 9;refine (HEn.out _).mono ?_;rintro e' x2 ⟨rfl,hb4⟩;have B6:=Lib.hid (B5.out.trans (hb4.mono B5.out.size));have HB4:=Lib.hid hb4;clear hb4)
     refine ⟨⟨⟨_,outerX_of_below B6.out⟩,rfl⟩,?_⟩
     try simp only [Act.put,List.setIfInBounds_toArray,List.set_cons_zero,List.set_cons_succ]
     rw [wpWaysT_two]
     try simp only [List.map_cons,List.map_nil,opAt,List.getElem?_toArray,List.getElem?_cons_zero,List.getElem?_cons_succ,Option.getD_some]
     refine wpQuiet_nil ⟨?_,?_⟩
     ·go_wp2_with (go_at_call 17;refine (HIN.out _ B6.out).mono ?_;rintro e' x3 ⟨a',hh',er,rfl,hi3,ho3⟩;have I3:=Lib.hid hi3;have O3:=Lib.hid (outX_trans (outerX_of_below B6.out) ho3);have OI:=Lib.hid ho3;clear hi3 ho3)
      refine ⟨⟨⟨_,O3.out⟩,rfl⟩,?_⟩
      try simp only [Act.put,List.setIfInBounds_toArray,List.set_cons_zero,List.set_cons_succ]
      rw [wpWaysT_one]
      try simp only [List.map_cons,List.map_nil,opAt,List.getElem?_toArray,List.getElem?_cons_zero,List.getElem?_cons_succ,Option.getD_some]
      repeat (first
       | go_big_quiet_step (fail))
      refine wpQuiet_nil ?_
      go_wp2_with fail
      obtain ⟨qa,hqa⟩:∃ qa,qa=x3.heap.size:=⟨_,rfl⟩
      obtain ⟨xa,hxa⟩:∃ xa,xa=World.alloc x3 (.cells #[.int .i64 0,.int .i64 0] 43):=⟨_,rfl⟩
      have GA:Hid (xa.heap[qa]?=some (.cells #[.int .i64 0,.int .i64 0] 43 (0,0))):=Lib.hid (by rw [hxa,hqa];exact heap_alloc_new _ _)
      have AB:=Lib.hid (alloc_bel hxa)
      have O4:=Lib.hid (outX_trans O3.out (outerX_of_below AB.out))
      have I4:=Lib.hid (I3.out.below AB.out)
      have QL:Hid (W0.heap.size≤qa):=Lib.hid (by rw [hqa];exact O3.out.size)
      rw [← hqa,← hxa]
      clear hqa hxa
      refine ⟨⟨⟨_,O4.out⟩,rfl⟩,?_⟩
      try simp only [Act.put,List.setIfInBounds_toArray,List.set_cons_zero,List.set_cons_succ]
      rw [wpWaysT_one]
      simp only [List.map_cons,List.map_nil,List.drop_succ_cons,List.drop_zero,opAt,List.getElem?_toArray,List.getElem?_cons_zero,List.getElem?_cons_succ,Option.getD_some]
      refine wpQuiet_nil ?_
      go_wp2_with (refine wpList_store_row rfl 43 (.tmp 9) (.tmp 46) rfl qa #[.int .i64 (a':Int),.int .i64 (hh':Int)] rfl rfl 43 _ GA.out (by kernel_rfl) rfl (by simp [Value.oneCell']) ?_)
      have I5:=Lib.hid (I4.out.keepK (w':=World.setRow xa qa #[.int .i64 (a':Int),.int .i64 (hh':Int)]) (by simp) (fun b cs T fr hb hT=>setRow_other _ qa b _ (fun e=>by rw [e,GA.out] at hb;cases hb;exact hT rfl)))
      have G5:=Lib.hid (setRow_heap xa qa _ #[.int .i64 (a':Int),.int .i64 (hh':Int)] _ _ GA.out)
      have O5:=Lib.hid (outX_of_row O4.out QL.out #[.int .i64 (a':Int),.int .i64 (hh':Int)])
      refine ⟨⟨⟨_,O5.out⟩,rfl⟩,?_⟩
      try simp only [Act.put,List.setIfInBounds_toArray,List.set_cons_zero,List.set_cons_succ]
      rw [wpWaysT_done]
      simp only [List.map_cons,List.map_nil,List.drop_succ_cons,List.drop_zero,opAt,List.getElem?_toArray,List.getElem?_cons_zero,List.getElem?_cons_succ,Option.getD_some]
      refine wpQuiet_nil ?_
      go_wp2_with fail
      go_meet
      exact ⟨qa,a',hh',er,rfl,rfl,I5,G5,QL,O5⟩
     ·go_wp2_with fail
      obtain ⟨qa,hqa⟩:∃ qa,qa=x2.heap.size:=⟨_,rfl⟩
      obtain ⟨xa,hxa⟩:∃ xa,xa=World.alloc x2 (.cells #[.int .i64 0,.int .i64 0] 43):=⟨_,rfl⟩
      have GA:Hid (xa.heap[qa]?=some (.cells #[.int .i64 0,.int .i64 0] 43 (0,0))):=Lib.hid (by rw [hxa,hqa];exact heap_alloc_new _ _)
      have AB:=Lib.hid (alloc_bel hxa)
      have B7:=Lib.hid (B6.out.trans (AB.out.mono B6.out.size))
      have QL:Hid (W0.heap.size≤qa):=Lib.hid (by rw [hqa];exact B6.out.size)
      rw [← hqa,← hxa]
      clear hqa hxa
      refine ⟨⟨⟨_,outerX_of_below B7.out⟩,rfl⟩,?_⟩
      try simp only [Act.put,List.setIfInBounds_toArray,List.set_cons_zero,List.set_cons_succ]
      rw [wpWaysT_one]
      try simp only [List.map_cons,List.map_nil,opAt,List.getElem?_toArray,List.getElem?_cons_zero,List.getElem?_cons_succ,Option.getD_some]
      refine wpQuiet_nil ?_
      go_wp2_with (go_at_call 17;refine (HIN.out _ B7.out).mono ?_;rintro e' x3 ⟨a',hh',er,rfl,hi3,ho3⟩;have I3:=Lib.hid hi3;have O3:=Lib.hid (outX_trans (outerX_of_below B7.out) ho3);have OI:=Lib.hid ho3;clear hi3 ho3)
      refine ⟨⟨⟨_,O3.out⟩,rfl⟩,?_⟩
      try simp only [Act.put,List.setIfInBounds_toArray,List.set_cons_zero,List.set_cons_succ]
      have GA1:=Lib.hid ((OI.out.block qa (Array.getElem?_eq_some_iff.1 GA.out).1 (fun hx=>by have:=HGL.out qa hx;have:=QL.out;omega)).trans GA.out)
      clear GA
      have GA:=GA1
      rw [wpWaysT_one]
      simp only [List.map_cons,List.map_nil,List.drop_succ_cons,List.drop_zero,opAt,List.getElem?_toArray,List.getElem?_cons_zero,List.getElem?_cons_succ,Option.getD_some]
      repeat (first
       | go_big_quiet_step (fail))
      refine wpQuiet_nil ?_
      go_wp2_with (refine wpList_store_row rfl 43 (.tmp 9) (.tmp 46) rfl qa #[.int .i64 (a':Int),.int .i64 (hh':Int)] rfl rfl 43 _ GA.out (by kernel_rfl) rfl (by simp [Value.oneCell']) ?_)
      have I5:=Lib.hid (I3.out.keepK (w':=World.setRow x3 qa #[.int .i64 (a':Int),.int .i64 (hh':Int)]) (by simp) (fun b cs T fr hb hT=>setRow_other _ qa b _ (fun e=>by rw [e,GA.out] at hb;cases hb;exact hT rfl)))
      have G5:=Lib.hid (setRow_heap x3 qa _ #[.int .i64 (a':Int),.int .i64 (hh':Int)] _ _ GA.out)
      have O5:=Lib.hid (outX_of_row O3.out QL.out #[.int .i64 (a':Int),.int .i64 (hh':Int)])
      refine ⟨⟨⟨_,O5.out⟩,rfl⟩,?_⟩
      try simp only [Act.put,List.setIfInBounds_toArray,List.set_cons_zero,List.set_cons_succ]
      rw [wpWaysT_done]
      simp only [List.map_cons,List.map_nil,List.drop_succ_cons,List.drop_zero,opAt,List.getElem?_toArray,List.getElem?_cons_zero,List.getElem?_cons_succ,Option.getD_some]
      refine wpQuiet_nil ?_
      go_wp2_with fail
      go_meet
      exact ⟨qa,a',hh',er,rfl,rfl,I5,G5,QL,O5⟩
    ·go_wp2_with fail
     obtain ⟨qa,hqa⟩:∃ qa,qa=x1.heap.size:=⟨_,rfl⟩
     obtain ⟨xa,hxa⟩:∃ xa,xa=World.alloc x1 (.cells #[.int .i64 0,.int .i64 0] 43):=⟨_,rfl⟩
     have GA:Hid (xa.heap[qa]?=some (.cells #[.int .i64 0,.int .i64 0] 43 (0,0))):=Lib.hid (by rw [hxa,hqa];exact heap_alloc_new _ _)
     have AB:=Lib.hid (alloc_bel hxa)
     have B6:=Lib.hid (B5.out.trans (AB.out.mono B5.out.size))
     have QL:Hid (W0.heap.size≤qa):=Lib.hid (by rw [hqa];exact B5.out.size)
     rw [← hqa,← hxa]
     clear hqa hxa
     refine ⟨⟨⟨_,outerX_of_below B6.out⟩,rfl⟩,?_⟩
     try simp only [Act.put,List.setIfInBounds_toArray,List.set_cons_zero,List.set_cons_succ]
     rw [wpWaysT_one]
     try simp only [List.map_cons,List.map_nil,opAt,List.getElem?_toArray,List.getElem?_cons_zero,List.getElem?_cons_succ,Option.getD_some]
     refine wpQuiet_nil ?_
     go_wp2_with (go_at_call 9;refine (HEn.out _).mono ?_;rintro e' x2 ⟨rfl,hb4⟩;have B7:=Lib.hid (B6.out.trans (hb4.mono B6.out.size));have HB4:=Lib.hid hb4;clear hb4)
     refine ⟨⟨⟨_,outerX_of_below B7.out⟩,rfl⟩,?_⟩
     try simp only [Act.put,List.setIfInBounds_toArray,List.set_cons_zero,List.set_cons_succ]
     have GA1:=Lib.hid (row_stays GA.out HB4.out)
     clear GA
     have GA:=GA1
     rw [wpWaysT_one]
     try simp only [List.map_cons,List.map_nil,opAt,List.getElem?_toArray,List.getElem?_cons_zero,List.getElem?_cons_succ,Option.getD_some]
     refine wpQuiet_nil ?_
     go_wp2_with (go_at_call 17;refine (HIN.out _ B7.out).mono ?_;rintro e' x3 ⟨a',hh',er,rfl,hi3,ho3⟩;have I3:=Lib.hid hi3;have O3:=Lib.hid (outX_trans (outerX_of_below B7.out) ho3);have OI:=Lib.hid ho3;clear hi3 ho3)
     refine ⟨⟨⟨_,O3.out⟩,rfl⟩,?_⟩
     try simp only [Act.put,List.setIfInBounds_toArray,List.set_cons_zero,List.set_cons_succ]
     have GA1:=Lib.hid ((OI.out.block qa (Array.getElem?_eq_some_iff.1 GA.out).1 (fun hx=>by have:=HGL.out qa hx;have:=QL.out;omega)).trans GA.out)
     clear GA
     have GA:=GA1
     rw [wpWaysT_one]
     simp only [List.map_cons,List.map_nil,List.drop_succ_cons,List.drop_zero,opAt,List.getElem?_toArray,List.getElem?_cons_zero,List.getElem?_cons_succ,Option.getD_some]
     repeat (first
      | go_big_quiet_step (fail))
     refine wpQuiet_nil ?_
     go_wp2_with (refine wpList_store_row rfl 43 (.tmp 9) (.tmp 46) rfl qa #[.int .i64 (a':Int),.int .i64 (hh':Int)] rfl rfl 43 _ GA.out (by kernel_rfl) rfl (by simp [Value.oneCell']) ?_)
     have I5:=Lib.hid (I3.out.keepK (w':=World.setRow x3 qa #[.int .i64 (a':Int),.int .i64 (hh':Int)]) (by simp) (fun b cs T fr hb hT=>setRow_other _ qa b _ (fun e=>by rw [e,GA.out] at hb;cases hb;exact hT rfl)))
     have G5:=Lib.hid (setRow_heap x3 qa _ #[.int .i64 (a':Int),.int .i64 (hh':Int)] _ _ GA.out)
     have O5:=Lib.hid (outX_of_row O3.out QL.out #[.int .i64 (a':Int),.int .i64 (hh':Int)])
     refine ⟨⟨⟨_,O5.out⟩,rfl⟩,?_⟩
     try simp only [Act.put,List.setIfInBounds_toArray,List.set_cons_zero,List.set_cons_succ]
     rw [wpWaysT_done]
     simp only [List.map_cons,List.map_nil,List.drop_succ_cons,List.drop_zero,opAt,List.getElem?_toArray,List.getElem?_cons_zero,List.getElem?_cons_succ,Option.getD_some]
     refine wpQuiet_nil ?_
     go_wp2_with fail
     go_meet
     exact ⟨qa,a',hh',er,rfl,rfl,I5,G5,QL,O5⟩
   ·go_wp2_with fail
    obtain ⟨qa,hqa⟩:∃ qa,qa=wd.heap.size:=⟨_,rfl⟩
    obtain ⟨xa,hxa⟩:∃ xa,xa=World.alloc wd (.cells #[.int .i64 0,.int .i64 0] 43):=⟨_,rfl⟩
    have GA:Hid (xa.heap[qa]?=some (.cells #[.int .i64 0,.int .i64 0] 43 (0,0))):=Lib.hid (by rw [hxa,hqa];exact heap_alloc_new _ _)
    have AB:=Lib.hid (alloc_bel hxa)
    have B5:=Lib.hid (BD.out.trans (AB.out.mono BD.out.size))
    have QL:Hid (W0.heap.size≤qa):=Lib.hid (by rw [hqa];exact BD.out.size)
    rw [← hqa,← hxa]
    clear hqa hxa
    refine ⟨⟨⟨_,outerX_of_below B5.out⟩,rfl⟩,?_⟩
    try simp only [Act.put,List.setIfInBounds_toArray,List.set_cons_zero,List.set_cons_succ]
    rw [wpWaysT_one]
    try simp only [List.map_cons,List.map_nil,opAt,List.getElem?_toArray,List.getElem?_cons_zero,List.getElem?_cons_succ,Option.getD_some]
    refine wpQuiet_nil ?_
    go_wp2_with (go_at_call 8;refine (HA.out _).mono ?_;rintro e' x1 ⟨rfl,hb4⟩;have B6:=Lib.hid (B5.out.trans (hb4.mono B5.out.size));have HB4:=Lib.hid hb4;clear hb4)
    refine ⟨⟨⟨_,outerX_of_below B6.out⟩,rfl⟩,?_⟩
    try simp only [Act.put,List.setIfInBounds_toArray,List.set_cons_zero,List.set_cons_succ]
    have GA1:=Lib.hid (row_stays GA.out HB4.out)
    clear GA
    have GA:=GA1
    rw [wpWaysT_one]
    try simp only [List.map_cons,List.map_nil,opAt,List.getElem?_toArray,List.getElem?_cons_zero,List.getElem?_cons_succ,Option.getD_some]
    refine wpQuiet_nil ?_
    go_wp2_with (go_at_call 9;refine (HEn.out _).mono ?_;rintro e' x2 ⟨rfl,hb4⟩;have B7:=Lib.hid (B6.out.trans (hb4.mono B6.out.size));have HB4:=Lib.hid hb4;clear hb4)
    refine ⟨⟨⟨_,outerX_of_below B7.out⟩,rfl⟩,?_⟩
    try simp only [Act.put,List.setIfInBounds_toArray,List.set_cons_zero,List.set_cons_succ]
    have GA1:=Lib.hid (row_stays GA.out HB4.out)
    clear GA
    have GA:=GA1
    rw [wpWaysT_one]
    try simp only [List.map_cons,List.map_nil,opAt,List.getElem?_toArray,List.getElem?_cons_zero,List.getElem?_cons_succ,Option.getD_some]
    refine wpQuiet_nil ?_
    go_wp2_with (go_at_call 17;refine (HIN.out _ B7.out).mono ?_;rintro e' x3 ⟨a',hh',er,rfl,hi3,ho3⟩;have I3:=Lib.hid hi3;have O3:=Lib.hid (outX_trans (outerX_of_below B7.out) ho3);have OI:=Lib.hid ho3;clear hi3 ho3)
    refine ⟨⟨⟨_,O3.out⟩,rfl⟩,?_⟩
    try simp only [Act.put,List.setIfInBounds_toArray,List.set_cons_zero,List.set_cons_succ]
    have GA1:=Lib.hid ((OI.out.block qa (Array.getElem?_eq_some_iff.1 GA.out).1 (fun hx=>by have:=HGL.out qa hx;have:=QL.out;omega)).trans GA.out)
    clear GA
    have GA:=GA1
    rw [wpWaysT_one]
    simp only [List.map_cons,List.map_nil,List.drop_succ_cons,List.drop_zero,opAt,List.getElem?_toArray,List.getElem?_cons_zero,List.getElem?_cons_succ,Option.getD_some]
    repeat (first
     | go_big_quiet_step (fail))
    refine wpQuiet_nil ?_
    go_wp2_with (refine wpList_store_row rfl 43 (.tmp 9) (.tmp 46) rfl qa #[.int .i64 (a':Int),.int .i64 (hh':Int)] rfl rfl 43 _ GA.out (by kernel_rfl) rfl (by simp [Value.oneCell']) ?_)
    have I5:=Lib.hid (I3.out.keepK (w':=World.setRow x3 qa #[.int .i64 (a':Int),.int .i64 (hh':Int)]) (by simp) (fun b cs T fr hb hT=>setRow_other _ qa b _ (fun e=>by rw [e,GA.out] at hb;cases hb;exact hT rfl)))
    have G5:=Lib.hid (setRow_heap x3 qa _ #[.int .i64 (a':Int),.int .i64 (hh':Int)] _ _ GA.out)
    have O5:=Lib.hid (outX_of_row O3.out QL.out #[.int .i64 (a':Int),.int .i64 (hh':Int)])
    refine ⟨⟨⟨_,O5.out⟩,rfl⟩,?_⟩
    try simp only [Act.put,List.setIfInBounds_toArray,List.set_cons_zero,List.set_cons_succ]
    rw [wpWaysT_done]
    simp only [List.map_cons,List.map_nil,List.drop_succ_cons,List.drop_zero,opAt,List.getElem?_toArray,List.getElem?_cons_zero,List.getElem?_cons_succ,Option.getD_some]
    refine wpQuiet_nil ?_
    go_wp2_with fail
    go_meet
    exact ⟨qa,a',hh',er,rfl,rfl,I5,G5,QL,O5⟩
  case rest =>
   as_aux_lemma =>
   obtain ⟨qa,a',hh',er,rfl,rfl,I5,G5,QL,O5⟩:=hcut
   clear gX
   have hjw:wrap64 ((j:Int)+1)=(j:Int)+1:=wrap_smallT (by omega) (by have:=HJ.out;omega)
   rcases I5.out with ⟨rfl,N',rw',nw',ws',U',pg',hi5⟩ | ⟨rfl,hj8⟩
   ·obtain ⟨e10,hln⟩:=HI.out.step GB.out GV.out HG7.out O5.out hi5
    have LN:=Lib.hid hln
    have E10:=Lib.hid e10
    clear e10 hln hi5 I5
    go_wp2_with (first
     | (refine wpList_load_row rfl 43 (.tmp 9) rfl qa rfl 43 _ (0,0) _ G5.out Tryz.underlying43 rfl (by kernel_rfl) ?_)
     | (refine wpList_store_row rfl 43 (.tmp 7) (.tmp 54) rfl g7 #[.int .i64 (a':Int),.int .i64 (hh':Int)] rfl rfl 43 _ E10.out (by kernel_rfl) rfl (by simp [Value.oneCell']) ?_))
    go_roundw
    case rel=>exact ⟨j+1,a',hh',N',rw',nw',ws',U',pg',by go_num,LN⟩
    case measure=>exact meas_next (k:=200) (by have:=HJ.out;omega) hjw
   ·have hg:decide ((j:Int) > 7)=true:=decide_eq_true (by omega)
    have HB:=Lib.hid (HI.out.bel' GB.out GV.out O5.out)
    clear I5 HI hj8
    go_wp2_with fail
    go_ret
    exact ⟨rfl,HB.out⟩
end Go.Proofs.YtgkddhncfaeidaaGreat
