/- Squeezed: the texts as they are written lie in wip/tpl. -/
import Derived.Test.YtgkddhncfaeidaaGreatPart41
import Derived.Test.YtgkddhncfaeidaaGreatPart42
import Derived.Test.YtgkddhncfaeidaaGreatPart43
import Derived.Test.YtgkddhncfaeidaaGreatPart16
set_option maxRecDepth 100000
set_option maxHeartbeats 16000000
set_option linter.unnecessarySimpa false
set_option linter.unusedSimpArgs false
set_option linter.unusedVariables false
namespace Go.Proofs.YtgkddhncfaeidaaGreat
open Go.RowKit Go.ChangeShapes Go.WideShapes Go.ChangeAt CrcM PageM
theorem modM (a:Int) (m:Nat) (h0:0<m) (hm:m≤1000000):∃ k:Nat,k<m∧wrap64 ((IntKind.u64.wrap a).tmod (m:Int))=(k:Int):=by
 obtain ⟨u,hu⟩:∃ u:Nat,IntKind.u64.wrap a=(u:Int):=⟨(IntKind.u64.wrap a).toNat,by
  have h1:0≤IntKind.u64.wrap a:=by rw [IntKind.wrap_u64];omega
  omega⟩
 rw [hu]
 refine ⟨u % m,Nat.mod_lt _ h0,?_⟩
 have h2:=Nat.mod_lt u h0
 have h3:(u:Int).tmod (m:Int)=((u % m:Nat):Int):=rfl
 rw [h3]
 unfold wrap64
 omega
structure LpM (wo wr:World) (g8:Nat) (M:List Bool) (S:List Nat) (i:Nat):Prop where
 bel:Below wo.heap.size wo wr
 box:wr.heap[g8]?=some (.cells (mapC ((100:Nat):Int) M) 62 (0,0))
 map:MapU M S
 cnt:S.length≤i
theorem Dk.dkx_ge {w:World} {B N g gs gn L cs cn:Nat} {rw:Value} {st nw:List UInt8} {ws:List (Nat × List UInt8)} {on:Bool} {left:Int} (h:Dk w B N g gs gn rw L cs cn st nw ws on left) {k:Nat} (hk:DkX g gn rw k):B≤k∧k<N:=by
 have h1:=h.gB
 have h2:=h.now.parts.1
 have h3:=h.blk
 have h5:=h.gN
 have h6:=h.nN
 have h7:=h.wN
 rcases hk with e | e | e
 ·omega
 ·omega
 ·have:=h3 _ e;have:=h7 _ e;omega
theorem InsM.keepK {w w':World} {gv g B N gs gn cs cn:Nat} {rw:Value} {st nw:List UInt8} {ws:List (Nat × List UInt8)} {M U:List Bool} {S:List Nat} {a hh k:Nat} {pg:List Nat} (h:InsM w gv g B N gs gn cs cn rw st nw ws M U S a hh k pg) (hs:w.heap.size≤w'.heap.size) (hk:∀ (b:Nat) (cs:Array Value) (T:TypeId) (fr:Nat × Nat),w.heap[b]?=some (Obj.cells cs T fr)→T≠43→w'.heap[b]?=w.heap[b]?):InsM w' gv g B N gs gn cs cn rw st nw ws M U S a hh k pg :=
 { h with
   view:=h.view.keep (hk _ _ _ _ h.view (by decide))
   disk:=h.disk.keepTy hs fun b cs T fr hb hT=>hk b cs T fr hb (by rcases hT with rfl | rfl | rfl <;> decide) }
theorem InsM.below {w w':World} {gv g B N gs gn cs cn:Nat} {rw:Value} {st nw:List UInt8} {ws:List (Nat × List UInt8)} {M U:List Bool} {S:List Nat} {a hh k:Nat} {pg:List Nat} (h:InsM w gv g B N gs gn cs cn rw st nw ws M U S a hh k pg) (hb:Below w.heap.size w w'):InsM w' gv g B N gs gn cs cn rw st nw ws M U S a hh k pg :=
 h.keepK hb.size fun b cs T fr h1 _=>hb.block b (Array.getElem?_eq_some_iff.1 h1).1
theorem ViewAt.off {w:World} {gv g gen q:Nat} {p:Int} {U V:List Bool} {cs:Array Value} {T:TypeId} {fr:Nat × Nat} (h:ViewAt w gv g gen p U V) (hq:w.heap[q]?=some (.cells cs T fr)) (hT:T≠105):q≠gv:=fun e=>by
 unfold ViewAt at h
 rw [e,h] at hq
 exact hT (Obj.cells.inj (Option.some.inj hq)).2.1.symm
theorem meas_next {k j:Nat} {x:Int} (h:j<k) (hx:x=(j:Int)+1):k - (intOf (.int .i64 x)).toNat<k - (intOf (.int .i64 (j:Int))).toNat:=by
 rw [hx]
 simp only [intOf]
 omega
structure LpI (w wr:World) (gv g B gs gn cs cn g8 g10:Nat) (st:List UInt8) (E:Array Value) (M:List Bool) (S:List Nat) (j a hh N:Nat) (rw:Value) (nw:List UInt8) (ws:List (Nat × List UInt8)) (U:List Bool) (pg:List Nat):Prop where
 ins:InsM wr gv g B N gs gn cs cn rw st nw ws M U S a hh j pg
 box:wr.heap[g10]?=some (.cells #[.int .i64 (a:Int),.int .i64 (hh:Int)] 43 (0,0))
 bx:wr.heap[g8]?=some (.cells E 62 (0,0))
 bel:Below w.heap.size w wr
theorem Shp.pages {rq:Nat→NodeD→Prop} {a hh:Nat} {es:List EntD} {pg:List Nat} (hs:Shp rq a hh es pg):hh=0∨∃ h n es',hh=h+1∧h≤2∧Tre (fun b n=>rq b n∧b ∈ pg) h n es'∧(rq a n∧a ∈ pg):=by
 rcases hs with ⟨h1,_⟩ | ⟨h1,h2,h3,h4,h5⟩ | ⟨h1,ps,b,l,h2,h3,h4,h5,h6,h7,h8,h9⟩
 ·exact .inl h1
 ·exact .inr ⟨0,lfD es,es,h1,by omega,⟨rfl,rfl,rfl,rfl⟩,h2,by rw [h5];simp⟩
 ·refine .inr ⟨1,_,es,h1,by omega,⟨rfl,rfl,(ps ++ [(b,l)]).map (fun x=>(x.1,(lfD x.2,x.2))),by rw [List.map_map];rfl,by rw [List.map_map];rfl,fun x hx=>?_,?_,by simp⟩,h2,by rw [h9];simp⟩
  ·obtain ⟨y,hy,rfl⟩:=List.mem_map.1 hx
   rcases List.mem_append.1 hy with hy | hy
   ·have h10:=h3 y hy
    exact ⟨⟨h10.1,by rw [h9];simp only [List.mem_cons,List.mem_map];exact .inr (.inr ⟨y,hy,rfl⟩)⟩,⟨rfl,rfl,rfl,rfl⟩,by show 1≤y.2.length;omega⟩
   ·rw [List.mem_singleton.1 hy]
    exact ⟨⟨h4,by rw [h9];simp⟩,⟨rfl,rfl,rfl,rfl⟩,by show 1≤l.length;omega⟩
  ·rw [h8,List.map_append,List.flatMap_append]
   simp [List.flatMap_map]
theorem LpI.step {w W0 wc:World} {gv g B gs gn cs cn g8 g10:Nat} {st:List UInt8} {E:Array Value} {M:List Bool} {S:List Nat} {j a hh N:Nat} {rw:Value} {nw:List UInt8} {ws:List (Nat × List UInt8)} {U:List Bool} {pg:List Nat} (h:LpI w W0 gv g B gs gn cs cn g8 g10 st E M S j a hh N rw nw ws U pg) (hB:w.heap.size≤B) (hv:w.heap.size≤gv) (h10:w.heap.size≤g10) (ho:OuterX (fun q=>DkX g gn rw q∨q=gv) W0 wc)
 {a' hh' N':Nat} {rw':Value} {nw':List UInt8} {ws':List (Nat × List UInt8)} {U':List Bool} {pg':List Nat} (hi:InsM wc gv g B N' gs gn cs cn rw' st nw' ws' M U' S a' hh' (j+1) pg'):wc.heap[g10]?=some (.cells #[.int .i64 (a:Int),.int .i64 (hh:Int)] 43 (0,0))∧LpI w (World.setRow wc g10 #[.int .i64 (a':Int),.int .i64 (hh':Int)]) gv g B gs gn cs cn g8 g10 st E M S (j+1) a' hh' N' rw' nw' ws' U' pg':=by
 have nX:∀ {q:Nat} {cs':Array Value} {T:TypeId},W0.heap[q]?=some (.cells cs' T (0,0))→(T=43∨T=62)→¬ (DkX g gn rw q∨q=gv):=fun {q cs' T} hq hT hx=>by
  rcases hx with hx | hx
  ·rcases hT with rfl | rfl
   ·exact h.ins.disk.notX hq (by decide) (.inl (by decide)) (by decide) hx
   ·exact h.ins.disk.notX hq (by decide) (.inl (by decide)) (by decide) hx
  ·exact h.ins.view.off hq (by rcases hT with rfl | rfl <;> decide) hx
 have e10:=(ho.block g10 (Array.getElem?_eq_some_iff.1 h.box).1 (nX h.box (.inl rfl))).trans h.box
 have e8:=(ho.block g8 (Array.getElem?_eq_some_iff.1 h.bx).1 (nX h.bx (.inr rfl))).trans h.bx
 have hne:g8≠g10:=fun e=>by
  rw [e,e10] at e8
  cases e8
 refine ⟨e10,⟨hi.keepK (by simp) (fun b cs T fr hb hT=>setRow_other _ g10 b _ (fun e=>by rw [e,e10] at hb;cases hb;exact hT rfl)),setRow_heap _ _ _ _ _ _ e10,(setRow_other _ g10 g8 _ hne).trans e8,⟨?_,?_,?_,?_,fun q hq=>(setRow_other _ g10 q _ (by omega)).trans ((ho.block q (Nat.lt_of_lt_of_le hq h.bel.size) (fun hx=>?_)).trans (h.bel.block q hq))⟩⟩⟩
 ·exact ho.os.trans h.bel.os
 ·exact ho.tape.trans h.bel.tape
 ·exact ho.output.trans h.bel.output
 ·have:=h.bel.size
  have:=ho.size
  simp
  omega
 ·rcases hx with hx | hx
  ·have:=(h.ins.disk.dkx_ge hx).1
   omega
  ·omega
theorem treeMaps_walk (n:Int) (hn:(Lit.int .i64 n).wf=true) (A:Option Addr) (cap:Nat) (zs:List Int) {w:World} (hz:NumRow .i64 w A zs) (lc:zs.length≤cap) (cm:cap≤maxLen) :
 Calls Tryz.prog 5 #[.int .i64 n,.slice A zs.length cap] w fun e w'=>e=.returned (.bool true)∧Below w.heap.size w w':=by
 obtain ⟨k,hk,hke⟩:=modM n 60 (by decide) (by decide)
 have hke':wrap64 ((IntKind.u64.wrap n).tmod 60)=(k:Int):=hke
 have HK:=Lib.hid hk
 have HKE:=Lib.hid hke'
 have HZ:=Lib.hid hz
 have HLC:=Lib.hid lc
 unfold maxLen at cm
 obtain ⟨C,hC⟩:∃ C,C=mapC ((100:Nat):Int) map0:=⟨_,rfl⟩
 have HC:=Lib.hid hC
 have HC1:Hid (C.size=513):=Lib.hid (by rw [hC];exact size_mapC length_map0)
 have HNB:Hid (∀ W,Calls Tryz.prog 18 #[.int .i64 100] W fun e w'=>e=.returned (.agg C)∧Below W.heap.size W w'):=Lib.hid (fun W=>by rw [hC];exact new_bm 100 100 (by decide) W)
 clear hk hke hke' hz lc hC hn
 go_enter Tryz.func5,Tryz.ntmps5
 go_upto_region 2 with (go_at_call 6;refine (begin_any 100 (by decide) (by decide) _).mono ?_;rintro e w1 ⟨gv,g,B,N,gs,gn,cs,cn,rfl,hv,hd,hgv,hB,hb⟩;have V1:=Lib.hid hv;obtain ⟨Z,hZ⟩:∃ Z,Z=List.replicate (100*256) (0:UInt8):=⟨_,rfl⟩;have D1:Hid (Dk w1 B N g gs gn (.slice none 0 0) 25600 cs cn Z Z [] true (-1)):=Lib.hid (by rw [hZ];exact hd);clear hZ;have GV:=Lib.hid hgv;have GB:=Lib.hid hB;have B1:=Lib.hid hb;clear hv hd hgv hB hb)
 go_upto_region 4 with (go_at_call 7;refine (grows_any _).mono ?_;rintro e w2 ⟨rfl,hb⟩;have B12:=Lib.hid hb;clear hb)
 go_upto_region 5 with (first
  | (go_at_call 18;refine (HNB.out _).mono ?_;rintro e wo ⟨rfl,hb⟩;have B2o:=Lib.hid hb;clear hb)
  | (refine wpList_store_row rfl 62 (.tmp 8) (.tmp 32) rfl wo.heap.size C rfl rfl 62 Tryz.zeroCells62 (heap_alloc_new _ _) (by rw [HC1.out];exact infoMap) (size_zeroMap.trans HC1.out.symm) (by rw [HC.out];exact one_mapC _ _) ?_;rw [World.setRow_alloc_new]))
 have B1o:Hid (Below w1.heap.size w1 wo):=Lib.hid (B12.out.trans (B2o.out.mono B12.out.size))
 have BO:Hid (Below w.heap.size w wo):=Lib.hid (B1.out.trans (B1o.out.mono B1.out.size))
 have V2:=Lib.hid (V1.out.below B1o.out)
 have D2:=Lib.hid (D1.out.below B1o.out)
 have GVW:Hid (gv<wo.heap.size):=Lib.hid (by
  have h1:=V2.out
  exact (Array.getElem?_eq_some_iff.1 h1).1)
 obtain ⟨g8,hg8⟩:∃ g8,g8=wo.heap.size:=⟨_,rfl⟩
 obtain ⟨w4,hw4⟩:∃ w4,w4=wo.alloc (.cells C 62):=⟨_,rfl⟩
 have HG8:=Lib.hid hg8
 have L0:Hid (LpM wo w4 g8 map0 [] 0):=Lib.hid ⟨alloc_bel hw4,by rw [hw4,hg8,HC.out];exact heap_alloc_new _ _,MapU.zero,Nat.le_refl _⟩
 rw [← hw4,← hg8]
 clear hw4 hg8 V1 D1 B1 B12 B2o
 go_wp2_with fail
 go_loopw [9] (fun iv wr=>∃ (i:Nat) (M:List Bool) (S:List Nat),i≤30∧i≤zs.length∧iv=.int .i64 (i:Int)∧Hid (LpM wo wr g8 M S i)) (fun iv _=>30 - (intOf iv).toNat)
 case atStart=>exact ⟨0,map0,[],by omega,by omega,rfl,L0⟩
 case round =>
  obtain ⟨i,M,S,hi,hiz,rfl,HL⟩:=hrel
  obtain ⟨W0,rfl⟩:∃ W0,W0=wr:=⟨_,rfl⟩
  clear L0
  obtain ⟨bb,hbb⟩:∃ bb,bb=decide (i<zs.length∧i<30):=⟨_,rfl⟩
  have HBB:=Lib.hid hbb
  clear hbb
  go_upto_region 6 with fail
  go_cut [40] from 33 to 40 (fun s40 wx=>s40=.bool bb∧Hid (wx=W0))
  case first =>
   by_cases h1:i<zs.length
   ·have q1:decide ((i:Int)<(zs.length:Int))=true:=decide_eq_true (by omega)
    by_cases h2:i<30
    ·have q2:decide ((i:Int)<30)=true:=decide_eq_true (by omega)
     go_wp2_with fail
     go_meet
     exact ⟨by rw [HBB.out];simp [h1,h2],Lib.hid rfl⟩
    ·have q2:decide ((i:Int)<30)=false:=decide_eq_false (by omega)
     go_wp2_with fail
     go_meet
     exact ⟨by rw [HBB.out];simp [h1,h2],Lib.hid rfl⟩
   ·have q1:decide ((i:Int)<(zs.length:Int))=false:=decide_eq_false (by omega)
    go_wp2_with fail
    go_meet
    exact ⟨by rw [HBB.out];simp [h1],Lib.hid rfl⟩
  case rest =>
   obtain ⟨rfl,hwc⟩:=hcut
   obtain rfl:wc=W0:=hwc.out
   cases bb with
   | true =>
     as_aux_lemma =>
     have hlt:i<zs.length∧i<30:=of_decide_eq_true HBB.out.symm
     have hlt1:=hlt.1
     have HI30:=Lib.hid hlt.2
     obtain ⟨bz,off,rfl,hcell⟩:=HZ.out.2 (by intro e;rw [e] at hlt1;simp at hlt1)
     have hck:=hcell i hlt1
     have hckw:=((BO.out.trans (HL.out.bel.mono BO.out.size)).cell (p:=⟨bz,off+i,none⟩) (World.block_lt_of_cell? _ _ hck)).trans hck
     obtain ⟨x,hx⟩:∃ x,x=zs[i]:=⟨_,rfl⟩
     rw [← hx] at hckw
     obtain ⟨kk,hkk,hkx⟩:=modM x 98 (by decide) (by decide)
     have hkx':wrap64 ((IntKind.u64.wrap x).tmod 98)=(kk:Int):=hkx
     have hk2:wrap64 (2+(kk:Int))=((2+kk:Nat):Int):=by unfold wrap64;omega
     have hk3:((2+kk:Nat):Int)<512:=by omega
     have hk4:(0:Int)≤((2+kk:Nat):Int):=by omega
     have HKK:=Lib.hid hkk
     have c8:wc.cell? ⟨g8,1+(2+kk),none⟩=some (.bool (M.getD (2+kk) false)):=nd_cell HL.out.box _ _ (mapC_s _ M (2+kk) (by rw [HL.out.map.len];omega))
     have f8:wc.frozen? ⟨g8,1+(2+kk),none⟩=false:=by simp [World.frozen?,HL.out.box]
     have hi1:(i:Int)<(zs.length:Int):=by omega
     obtain ⟨q,hq⟩:∃ q,q=2+kk:=⟨_,rfl⟩
     rw [← hq] at c8 f8 hk2 hk3 hk4
     have HQ:=Lib.hid hq
     clear hx hkx hck hcell hlt hlt1 hq hkk hwc
     go_upto_region 7 with fail
     obtain ⟨wn,hwn⟩:∃ wn,wn=wc.setCell ⟨g8,1+q,none⟩ (.bool true):=⟨_,rfl⟩
     have HLN:Hid (LpM wo wn g8 (M.set q true) (q :: S) (i+1)):=Lib.hid (by
      have hq2:=HQ.out
      have hkk2:=HKK.out
      have hg8:=HG8.out
      have hb:=HL.out.bel
      have ho:∀ j,j≠g8→wn.heap[j]?=wc.heap[j]?:=fun j hj=>by rw [hwn];exact Below.heap_setCell wc ⟨g8,1+q,none⟩ _ j hj
      refine ⟨⟨by rw [hwn];exact hb.os,by rw [hwn];exact hb.tape,by rw [hwn];exact hb.output,by rw [hwn];simpa using hb.size,fun j hj=>(ho j (by omega)).trans (hb.block j hj)⟩,?_,HL.out.map.put (by omega) (by omega),by have:=HL.out.cnt;simp;omega⟩
      rw [hwn]
      have h1:=heap_setCell_same wc g8 (1+q) _ _ (.bool true) HL.out.box
      rw [mapC_set] at h1
      exact h1)
     rw [← hwn]
     clear hwn c8 f8 hk2 hk3 hk4 hkx' hckw hi1
     have hiw:wrap64 ((i:Int)+1)=(i:Int)+1:=wrap_smallT (by omega) (by have:=HI30.out;omega)
     go_wp2_with fail
     go_roundw
     case rel=>exact ⟨i+1,M.set q true,q :: S,by have:=HI30.out;omega,by have:=of_decide_eq_true HBB.out.symm;omega,by go_num,HLN⟩
     case measure=>have:=HI30.out;first | (simp [intOf];done) | (simp [intOf];omega)
   | false =>
     clear hwc
     have HI30:=Lib.hid hi
     have HL0:=HL
     clear HL
     have HL:=HL0
     clear HL0
     obtain ⟨E,hE⟩:∃ E,E=mapC ((100:Nat):Int) M:=⟨_,rfl⟩
     have HEM:=Lib.hid hE
     have HE1:Hid (E.size=513):=Lib.hid (by rw [hE];exact size_mapC HL.out.map.len)
     have BX:Hid (wc.heap[g8]?=some (.cells E 62 (0,0))):=Lib.hid (by rw [hE];exact HL.out.box)
     have V3:=Lib.hid (V2.out.below HL.out.bel)
     have D3:=Lib.hid (D2.out.below HL.out.bel)
     have HSM:Hid (Calls Tryz.prog 19 #[.pointer (some ⟨gv,0,none⟩),.agg E] wc fun e w'=>e=.returned (.tuple #[])∧ViewAt w' gv g 1 ((100:Nat):Int) M map0∧OuterX (fun j=>j=gv) wc w'):=Lib.hid (by rw [hE];exact setMap_yes gv g 1 100 map0 map0 M length_map0 length_map0 HL.out.map.len HL.out.map.ok (by decide) wc V3.out D3.out)
     clear hE hi hiz
     go_upto_region 10 with (first
      | (refine wpList_load_row rfl 62 (.tmp 8) rfl g8 rfl 62 E (0,0) _ BX.out Tryz.underlying62 rfl (by rw [HE1.out];exact infoMap) ?_)
      | (go_at_call 19;refine HSM.out.mono ?_;rintro e w5 ⟨rfl,hv5,ho5⟩;have V5:=Lib.hid hv5;have O5:=Lib.hid ho5;clear hv5 ho5))
     have NG8:Hid (gv≠g8):=Lib.hid (by have:=GVW.out;have:=HG8.out;omega)
     have BX5:Hid (w5.heap[g8]?=some (.cells E 62 (0,0))):=Lib.hid ((O5.out.block g8 (Array.getElem?_eq_some_iff.1 BX.out).1 (fun e=>NG8.out e.symm)).trans BX.out)
     clear HSM
     have D5:Hid (Dk w5 B N g gs gn (.slice none 0 0) 25600 cs cn Z Z [] true (-1)):=Lib.hid (D3.out.keepTy O5.out.size (fun b cs T fr hb hT=>O5.out.block b (Array.getElem?_eq_some_iff.1 hb).1 (fun e=>V3.out.off hb (by rcases hT with rfl | rfl | rfl <;> decide) e)))
     have BW5:Hid (Below gv wo w5∧w5.heap.size ≥ wo.heap.size):=Lib.hid (by
      have h1:=HL.out.bel
      have h2:=GVW.out
      exact ⟨⟨O5.out.os.trans h1.os,O5.out.tape.trans h1.tape,O5.out.output.trans h1.output,by have:=O5.out.size;have:=h1.size;omega,fun j hj=>(O5.out.block j (by have:=h1.size;omega) (by omega)).trans (h1.block j (by omega))⟩,Nat.le_trans h1.size O5.out.size⟩)
     have HMP:Hid (∀ W,ViewAt W gv g 1 ((100:Nat):Int) M map0→Calls Tryz.prog 20 #[.pointer (some ⟨gv,0,none⟩)] W fun e w'=>e=.returned (.agg E)∧Below W.heap.size W w'):=Lib.hid (fun W hW=>by rw [HEM.out];exact map_any gv g 1 100 M map0 HL.out.map.len W hW)
     have HNE:Hid (∀ W,(binOp .neq 62 (.agg E) (.agg E)).run Tryz.prog W=.ok (.bool false) W):=Lib.hid (fun W=>neq_mapB ((100:Nat):Int) M HL.out.map.len E HEM.out W)
     have g1:∀ y:SubW w5.heap.size w5,y.at_.heap[g8]?=some (.cells E 62 (0,0)):=fun y=>row_stays BX5.out y.ok_
     refine region_below w5.heap.size w5 (Below.refl _ _) (by kernel_rfl) (by kernel_rfl) ?_
     repeat (first
      | (go_big_quiet_want;refine quiet_load_row 62 (.tmp 8) rfl g8 rfl 62 E (0,0) _ g1 Tryz.underlying62 rfl (by rw [HE1.out];exact infoMap) ?_;simp only [Act.put,List.setIfInBounds_toArray,List.set_cons_zero,List.set_cons_succ];go_big_quiet_on)
      | (go_big_quiet_want;refine quiet_binOpN .neq 62 (.tmp 57) (.tmp 58) 62 rfl _ _ (.bool false) rfl rfl (fun W=>guard_mapB .neq _ _ _ _ W) (fun W=>HNE.out W) ?_;simp only [Act.put,List.setIfInBounds_toArray,List.set_cons_zero,List.set_cons_succ];go_big_quiet_on)
      | go_big_quiet_step (first | (go_at_call 20;exact calls_sub (Nat.le_refl _) (HMP.out _ (V5.out.below (SubW.ok_ _))))))
     refine wpQuiet_nil ?_
     rintro w' ⟨y,rfl⟩
     have BY6:=Lib.hid y.ok_
     obtain ⟨w6,hw6⟩:∃ w6,w6=y.at_:=⟨_,rfl⟩
     rw [← hw6] at BY6 ⊢
     clear hw6 y g1
     have V6:=Lib.hid (V5.out.below BY6.out)
     have D6:=Lib.hid (D5.out.below BY6.out)
     have HN5:Hid (∀ W,Calls Tryz.prog 18 #[.int .i64 50] W fun e w'=>e=.returned (.agg (mapC ((50:Nat):Int) map0))∧Below W.heap.size W w'):=Lib.hid (fun W=>new_bm 50 50 (by decide) W)
     obtain ⟨F,hF⟩:∃ F,F=mapC ((50:Nat):Int) map0:=⟨_,rfl⟩
     have HF:=Lib.hid hF
     rw [← hF] at HN5
     have HS5:Hid (∀ W,ViewAt W gv g 1 ((100:Nat):Int) M map0→Dk W B N g gs gn (.slice none 0 0) 25600 cs cn Z Z [] true (-1)→Calls Tryz.prog 19 #[.pointer (some ⟨gv,0,none⟩),.agg F] W fun e w'=>e=.returned (.tuple #[])∧Below W.heap.size W w'):=Lib.hid (fun W h1 h2=>by rw [hF];exact setMap_no gv g 1 100 50 M map0 map0 length_map0 (by rintro ⟨_,h⟩;revert h;decide) (by decide) W h1 h2)
     have HS0:Hid (∀ W,ViewAt W gv g 1 ((100:Nat):Int) M map0→Dk W B N g gs gn (.slice none 0 0) 25600 cs cn Z Z [] true (-1)→Calls Tryz.prog 19 #[.pointer (some ⟨gv,0,none⟩),.agg Tryz.zeroCells62] W fun e w'=>e=.returned (.tuple #[])∧Below W.heap.size W w'):=Lib.hid (fun W h1 h2=>by rw [zeroMap];exact setMap_no gv g 1 100 0 M map0 (List.replicate 512 false) List.length_replicate (by rintro ⟨_,h⟩;revert h;decide) (by decide) W h1 h2)
     clear hF
     go_upto_region 13 with (first
      | (go_at_call 18;refine (HN5.out _).mono ?_;rintro e w7 ⟨rfl,hb7⟩;have B7:=Lib.hid (BY6.out.trans (hb7.mono BY6.out.size));have V7:=Lib.hid (V6.out.below hb7);have D7:=Lib.hid (D6.out.below hb7);clear hb7)
      | (go_at_call 19;refine (HS5.out _ V7.out D7.out).mono ?_;rintro e w8 ⟨rfl,hb8⟩;have B8:=Lib.hid (B7.out.trans (hb8.mono B7.out.size));have V8:=Lib.hid (V7.out.below hb8);have D8:=Lib.hid (D7.out.below hb8);clear hb8))
     have HBZ:Hid (Tryz.prog.built 62 []=some Tryz.zeroCells62):=Lib.hid (by kernel_rfl)
     go_upto_region 14 with (first
      | (refine wpList_buildTo rfl 62 _ rfl (some 64) rfl Tryz.zeroCells62 (by simp only [List.map_toArray,List.map_cons,List.map_nil];exact HBZ.out) ?_)
      | (go_at_call 19;refine (HS0.out _ V8.out D8.out).mono ?_;rintro e w9 ⟨rfl,hb9⟩;have B9:=Lib.hid (B8.out.trans (hb9.mono B8.out.size));have V9:=Lib.hid (V8.out.below hb9);have D9:=Lib.hid (D8.out.below hb9);clear hb9))
     have BX9:=Lib.hid (row_stays BX5.out B9.out)
     clear HN5 HS5 HS0 HBZ V6 D6 V7 D7 V8 D8 B7 B8 BY6 HF
     have g1:∀ y:SubW w9.heap.size w9,y.at_.heap[g8]?=some (.cells E 62 (0,0)):=fun y=>row_stays BX9.out y.ok_
     refine region_below w9.heap.size w9 (Below.refl _ _) (by kernel_rfl) (by kernel_rfl) ?_
     repeat (first
      | (go_big_quiet_want;refine quiet_load_row 62 (.tmp 8) rfl g8 rfl 62 E (0,0) _ g1 Tryz.underlying62 rfl (by rw [HE1.out];exact infoMap) ?_;simp only [Act.put,List.setIfInBounds_toArray,List.set_cons_zero,List.set_cons_succ];go_big_quiet_on)
      | (go_big_quiet_want;refine quiet_binOpN .neq 62 (.tmp 67) (.tmp 68) 62 rfl _ _ (.bool false) rfl rfl (fun W=>guard_mapB .neq _ _ _ _ W) (fun W=>HNE.out W) ?_;simp only [Act.put,List.setIfInBounds_toArray,List.set_cons_zero,List.set_cons_succ];go_big_quiet_on)
      | go_big_quiet_step (first | (go_at_call 20;exact calls_sub (Nat.le_refl _) (HMP.out _ (V9.out.below (SubW.ok_ _))))))
     refine wpQuiet_nil ?_
     rintro w' ⟨y,rfl⟩
     have BY10:=Lib.hid y.ok_
     obtain ⟨w10,hw10⟩:∃ w10,w10=y.at_:=⟨_,rfl⟩
     rw [← hw10] at BY10 ⊢
     clear hw10 y g1
     have B10:Hid (Below w5.heap.size w5 w10):=Lib.hid (B9.out.trans (BY10.out.mono B9.out.size))
     have V10:=Lib.hid (V9.out.below BY10.out)
     have D10:=Lib.hid (D9.out.below BY10.out)
     have BX10:=Lib.hid (row_stays BX9.out BY10.out)
     clear V9 D9 B9 BY10 BX9
     obtain ⟨g10,hg10⟩:∃ g10,g10=w10.heap.size:=⟨_,rfl⟩
     obtain ⟨w11,hw11⟩:∃ w11,w11=w10.alloc (.cells #[.int .i64 0,.int .i64 0] 43):=⟨_,rfl⟩
     have HG10:=Lib.hid hg10
     have B100:Hid (w.heap.size≤w10.heap.size):=Lib.hid (by have:=BO.out.size;have:=BW5.out.2;have:=B10.out.size;omega)
     have I0:Hid (LpI w w11 gv g B gs gn cs cn g8 g10 Z E M S 0 0 0 N (.slice none 0 0) Z [] M []):=Lib.hid (by
      have hb:=alloc_bel hw11
      have hbw:Below w.heap.size w w11:=by
       have h1:=BW5.out
       have h2:Below w5.heap.size w5 w11:=B10.out.trans (hb.mono B10.out.size)
       have h3:=GV.out
       have h4:=BO.out
       have h5:=h4.size
       exact ⟨h2.os.trans (h1.1.os.trans h4.os),h2.tape.trans (h1.1.tape.trans h4.tape),h2.output.trans (h1.1.output.trans h4.output),by have:=h2.size;omega,fun q hq=>(h2.block q (by omega)).trans ((h1.1.block q (by omega)).trans (h4.block q hq))⟩
      exact { ins:={ view:=V10.out.below hb,disk:=D10.out.below hb,map:=HL.out.map,cnt:=by have:=HL.out.cnt;have:=HI30.out;omega,len:=HL.out.map.len,ok:=HL.out.map.ok,shp:=.inl ⟨rfl,rfl,rfl⟩,use:=⟨List.nodup_nil,(fun b hb=>by cases hb),(fun b=>by simp),(fun b hb=>by cases hb)⟩,wait:=Nat.le_refl _ },box:=by rw [hw11,hg10];exact heap_alloc_new _ _,bx:=row_stays BX10.out hb,bel:=hbw })
     go_upto_region 17 with fail
     rw [← hw11,← hg10]
     clear hw11 hg10 V10 D10 BX10 B10 V5 D5 BX5 O5 V3 D3
     go_wp2_with fail
     go_loopw [11] (fun iv wr=>∃ (j a hh N:Nat) (rw:Value) (nw:List UInt8) (ws:List (Nat × List UInt8)) (U:List Bool) (pg:List Nat),j≤k∧iv=.int .i64 (j:Int)∧Hid (LpI w wr gv g B gs gn cs cn g8 g10 Z E M S j a hh N rw nw ws U pg)) (fun iv _=>k - (intOf iv).toNat)
     case atStart=>exact ⟨0,0,0,N,_,_,[],M,[],Nat.zero_le _,rfl,I0⟩
     case round =>
      clear I0
      obtain ⟨j,a,hh,N2,rw,nw,ws,U,pg,hj,rfl,HI⟩:=hrel
      obtain ⟨W0,rfl⟩:∃ W0,W0=wr:=⟨_,rfl⟩
      have hke:=HKE.out
      by_cases hlt:j<k
      ·have hj60:j<60:=by have:=HK.out;omega
       have qj:decide ((j:Int)<(k:Int))=true:=decide_eq_true (by omega)
       have HJ60:=Lib.hid hj60
       have HLT:=Lib.hid hlt
       have HJK:=Lib.hid hj
       obtain ⟨VE,hVE⟩:∃ VE,VE=Value.agg (enC (entM j)).toArray:=⟨_,rfl⟩
       have HA:Hid (∀ W,Calls Tryz.prog 8 #[.agg #[.int .i64 0,.int .i64 0,.int .i64 (wrap64 (7*(j:Int))),.int .i64 0,.int .i64 1]] W fun e' w'=>e'=.returned VE∧Below W.heap.size W w'):=Lib.hid (fun W=>by
        have h1:=act_entryM j (by omega) W
        rw [← hVE] at h1
        rw [show wrap64 (7*(j:Int))=((7*j:Nat):Int) by unfold wrap64;omega]
        exact h1)
       have HEn:Hid (∀ W,Calls Tryz.prog 9 #[VE] W fun e' w'=>e'=.returned VE∧Below W.heap.size W w'):=Lib.hid (fun W=>by rw [hVE];exact entry_any (entM j) W)
       have HIN:Hid (∀ W,Below W0.heap.size W0 W→Calls Tryz.prog 17 #[.pointer (some ⟨gv,0,none⟩),.agg #[.int .i64 (a:Int),.int .i64 (hh:Int)],VE] W fun e' w'=>∃ (a' hh':Nat) (U':List Bool) (pg':List Nat) (rw':Value) (nw':List UInt8) (ws':List (Nat × List UInt8)),e'=.returned (.tuple #[.agg #[.int .i64 (a':Int),.int .i64 (hh':Int)],.int .i64 0])∧InsM w' gv g B w'.heap.size gs gn cs cn rw' Z nw' ws' M U' S a' hh' (j+1) pg'∧OuterX (fun j=>DkX g gn rw j∨j=gv) W w'):=Lib.hid (fun W hW=>by rw [hVE];exact ins_edge W (HI.out.ins.below hW) (by omega))
       have qn:decide (j<k)=true:=decide_eq_true hlt
       clear hVE hj60 hj hlt
       have HBX:=Lib.hid HI.out.box
       have HGL:Hid (∀ q,DkX g gn rw q∨q=gv→q<W0.heap.size):=Lib.hid (fun q hq=>by
        rcases hq with hq | hq
        ·have h1:=(HI.out.ins.disk.dkx_ge hq).2
         have h2:=HI.out.ins.disk.NN
         omega
        ·have h1:=HI.out.ins.view
         unfold ViewAt at h1
         rw [hq]
         exact (Array.getElem?_eq_some_iff.1 h1).1)
       have gX:∀ y:SubX (fun q=>DkX g gn rw q∨q=gv) W0,y.at_.heap[g10]?=some (.cells #[.int .i64 (a:Int),.int .i64 (hh:Int)] 43 (0,0)):=fun y=>y.ok_.heap HBX.out (fun hx=>by
        rcases hx with hx | hx
        ·exact HI.out.ins.disk.notX HBX.out (by decide) (.inl (by decide)) (by decide) hx
        ·exact HI.out.ins.view.off HBX.out (by decide) hx)
       go_upto_region 20 with fail
       try rw [hke]
       try rw [qn]
       clear hke qj qn
       go_cut [12,13] from 79 to 89 (fun s12 s13 wx=>∃ (qa a' hh' N':Nat) (rw':Value) (nw':List UInt8) (ws':List (Nat × List UInt8)) (U':List Bool) (pg':List Nat),s12=.pointer (some ⟨qa,0,none⟩)∧s13=.int .i64 0∧Hid (InsM wx gv g B N' gs gn cs cn rw' Z nw' ws' M U' S a' hh' (j+1) pg')∧Hid (wx.heap[qa]?=some (.cells #[.int .i64 (a':Int),.int .i64 (hh':Int)] 43 (0,0)))∧Hid (W0.heap.size≤qa)∧Hid (OuterX (fun q=>DkX g gn rw q∨q=gv) W0 wx))
       case first =>
        refine region_waysX 13 (fun q=>DkX g gn rw q∨q=gv) (.two [0,1,2,3,4] 5 (.two [] 6 (.two [] 7 (.one [8,9,10] 11 (.one [] 12 (.done []))) 11 (.one [] 7 (.one [8,9,10] 12 (.done [])))) 11 (.one [] 6 (.one [] 7 (.one [8,9,10] 12 (.done []))))) 11 (.one [] 5 (.one [] 6 (.one [] 7 (.one [8,9,10] 12 (.done [])))))) (by kernel_rfl) (by kernel_rfl) ?_
        rintro wd hbd
        have BD:=Lib.hid hbd
        clear hbd
        rw [wpWaysT_two]
        try simp only [List.map_cons,List.map_nil,opAt,List.getElem?_toArray,List.getElem?_cons_zero,List.getElem?_cons_succ,Option.getD_some]
        repeat (first
         | (go_big_quiet_want;refine quietX_load_row 43 (.tmp 10) rfl g10 rfl 43 _ (0,0) _ gX Tryz.underlying43 rfl (by kernel_rfl) ?_;simp only [Act.put,List.setIfInBounds_toArray,List.set_cons_zero,List.set_cons_succ];go_big_quiet_on)
         | go_big_quiet_step (fail))
        clear gX
        refine wpQuiet_nil ⟨?_,?_⟩
        ·go_wp2_with (go_at_call 8;refine (HA.out _).mono ?_;rintro e' x1 ⟨rfl,hb4⟩;have B5:=Lib.hid (BD.out.trans (hb4.mono BD.out.size));have HB4:=Lib.hid hb4;clear hb4)
         refine ⟨⟨⟨_,outerX_of_below B5.out⟩,rfl⟩,?_⟩
         try simp only [Act.put,List.setIfInBounds_toArray,List.set_cons_zero,List.set_cons_succ]
         rw [wpWaysT_two]
         try simp only [List.map_cons,List.map_nil,opAt,List.getElem?_toArray,List.getElem?_cons_zero,List.getElem?_cons_succ,Option.getD_some]
         refine wpQuiet_nil ⟨?_,?_⟩
         ·go_wp2_with (go_at_call 9;refine (HEn.out _).mono ?_;rintro e' x2 ⟨rfl,hb4⟩;have B6:=Lib.hid (B5.out.trans (hb4.mono B5.out.size));have HB4:=Lib.hid hb4;clear hb4)
          refine ⟨⟨⟨_,outerX_of_below B6.out⟩,rfl⟩,?_⟩
          try simp only [Act.put,List.setIfInBounds_toArray,List.set_cons_zero,List.set_cons_succ]
          rw [wpWaysT_two]
          try simp only [List.map_cons,List.map_nil,opAt,List.getElem?_toArray,List.getElem?_cons_zero,List.getElem?_cons_succ,Option.getD_some]
          refine wpQuiet_nil ⟨?_,?_⟩
          ·go_wp2_with (go_at_call 17;refine (HIN.out _ B6.out).mono ?_;rintro e' x3 ⟨a',hh',U',pg',rw',nw',ws',rfl,hi3,ho3⟩;have I3:=Lib.hid hi3;have O3:=Lib.hid (outX_trans (outerX_of_below B6.out) ho3);have OI:=Lib.hid ho3;clear hi3 ho3)
           refine ⟨⟨⟨_,O3.out⟩,rfl⟩,?_⟩
           try simp only [Act.put,List.setIfInBounds_toArray,List.set_cons_zero,List.set_cons_succ]
           rw [wpWaysT_one]
           try simp only [List.map_cons,List.map_nil,opAt,List.getElem?_toArray,List.getElem?_cons_zero,List.getElem?_cons_succ,Option.getD_some]
           repeat (first
            | go_big_quiet_step (fail))
           refine wpQuiet_nil ?_
           go_wp2_with fail
           obtain ⟨qa,hqa⟩:∃ qa,qa=x3.heap.size:=⟨_,rfl⟩
           obtain ⟨xa,hxa⟩:∃ xa,xa=World.alloc x3 (.cells #[.int .i64 0,.int .i64 0] 43):=⟨_,rfl⟩
           have GA:Hid (xa.heap[qa]?=some (.cells #[.int .i64 0,.int .i64 0] 43 (0,0))):=Lib.hid (by rw [hxa,hqa];exact heap_alloc_new _ _)
           have AB:=Lib.hid (alloc_bel hxa)
           have O4:=Lib.hid (outX_trans O3.out (outerX_of_below AB.out))
           have I4:=Lib.hid (I3.out.below AB.out)
           have QL:Hid (W0.heap.size≤qa):=Lib.hid (by rw [hqa];exact O3.out.size)
           rw [← hqa,← hxa]
           clear hqa hxa
           refine ⟨⟨⟨_,O4.out⟩,rfl⟩,?_⟩
           try simp only [Act.put,List.setIfInBounds_toArray,List.set_cons_zero,List.set_cons_succ]
           rw [wpWaysT_one]
           simp only [List.map_cons,List.map_nil,List.drop_succ_cons,List.drop_zero,opAt,List.getElem?_toArray,List.getElem?_cons_zero,List.getElem?_cons_succ,Option.getD_some]
           refine wpQuiet_nil ?_
           go_wp2_with (refine wpList_store_row rfl 43 (.tmp 12) (.tmp 88) rfl qa #[.int .i64 (a':Int),.int .i64 (hh':Int)] rfl rfl 43 _ GA.out (by kernel_rfl) rfl (by simp [Value.oneCell']) ?_)
           have I5:=Lib.hid (I4.out.keepK (w':=World.setRow xa qa #[.int .i64 (a':Int),.int .i64 (hh':Int)]) (by simp) (fun b cs T fr hb hT=>setRow_other _ qa b _ (fun e=>by rw [e,GA.out] at hb;cases hb;exact hT rfl)))
           have G5:=Lib.hid (setRow_heap xa qa _ #[.int .i64 (a':Int),.int .i64 (hh':Int)] _ _ GA.out)
           have O5:=Lib.hid (outX_of_row O4.out QL.out #[.int .i64 (a':Int),.int .i64 (hh':Int)])
           refine ⟨⟨⟨_,O5.out⟩,rfl⟩,?_⟩
           try simp only [Act.put,List.setIfInBounds_toArray,List.set_cons_zero,List.set_cons_succ]
           rw [wpWaysT_done]
           simp only [List.map_cons,List.map_nil,List.drop_succ_cons,List.drop_zero,opAt,List.getElem?_toArray,List.getElem?_cons_zero,List.getElem?_cons_succ,Option.getD_some]
           refine wpQuiet_nil ?_
           go_wp2_with fail
           go_meet
           exact ⟨qa,a',hh',_,rw',nw',ws',U',pg',rfl,rfl,I5,G5,QL,O5⟩
          ·go_wp2_with fail
           obtain ⟨qa,hqa⟩:∃ qa,qa=x2.heap.size:=⟨_,rfl⟩
           obtain ⟨xa,hxa⟩:∃ xa,xa=World.alloc x2 (.cells #[.int .i64 0,.int .i64 0] 43):=⟨_,rfl⟩
           have GA:Hid (xa.heap[qa]?=some (.cells #[.int .i64 0,.int .i64 0] 43 (0,0))):=Lib.hid (by rw [hxa,hqa];exact heap_alloc_new _ _)
           have AB:=Lib.hid (alloc_bel hxa)
           have B7:=Lib.hid (B6.out.trans (AB.out.mono B6.out.size))
           have QL:Hid (W0.heap.size≤qa):=Lib.hid (by rw [hqa];exact B6.out.size)
           rw [← hqa,← hxa]
           clear hqa hxa
           refine ⟨⟨⟨_,outerX_of_below B7.out⟩,rfl⟩,?_⟩
           try simp only [Act.put,List.setIfInBounds_toArray,List.set_cons_zero,List.set_cons_succ]
           rw [wpWaysT_one]
           try simp only [List.map_cons,List.map_nil,opAt,List.getElem?_toArray,List.getElem?_cons_zero,List.getElem?_cons_succ,Option.getD_some]
           refine wpQuiet_nil ?_
           go_wp2_with (go_at_call 17;refine (HIN.out _ B7.out).mono ?_;rintro e' x3 ⟨a',hh',U',pg',rw',nw',ws',rfl,hi3,ho3⟩;have I3:=Lib.hid hi3;have O3:=Lib.hid (outX_trans (outerX_of_below B7.out) ho3);have OI:=Lib.hid ho3;clear hi3 ho3)
           refine ⟨⟨⟨_,O3.out⟩,rfl⟩,?_⟩
           try simp only [Act.put,List.setIfInBounds_toArray,List.set_cons_zero,List.set_cons_succ]
           have GA1:=Lib.hid ((OI.out.block qa (Array.getElem?_eq_some_iff.1 GA.out).1 (fun hx=>by have:=HGL.out qa hx;have:=QL.out;omega)).trans GA.out)
           clear GA
           have GA:=GA1
           rw [wpWaysT_one]
           simp only [List.map_cons,List.map_nil,List.drop_succ_cons,List.drop_zero,opAt,List.getElem?_toArray,List.getElem?_cons_zero,List.getElem?_cons_succ,Option.getD_some]
           repeat (first
            | go_big_quiet_step (fail))
           refine wpQuiet_nil ?_
           go_wp2_with (refine wpList_store_row rfl 43 (.tmp 12) (.tmp 88) rfl qa #[.int .i64 (a':Int),.int .i64 (hh':Int)] rfl rfl 43 _ GA.out (by kernel_rfl) rfl (by simp [Value.oneCell']) ?_)
           have I5:=Lib.hid (I3.out.keepK (w':=World.setRow x3 qa #[.int .i64 (a':Int),.int .i64 (hh':Int)]) (by simp) (fun b cs T fr hb hT=>setRow_other _ qa b _ (fun e=>by rw [e,GA.out] at hb;cases hb;exact hT rfl)))
           have G5:=Lib.hid (setRow_heap x3 qa _ #[.int .i64 (a':Int),.int .i64 (hh':Int)] _ _ GA.out)
           have O5:=Lib.hid (outX_of_row O3.out QL.out #[.int .i64 (a':Int),.int .i64 (hh':Int)])
           refine ⟨⟨⟨_,O5.out⟩,rfl⟩,?_⟩
           try simp only [Act.put,List.setIfInBounds_toArray,List.set_cons_zero,List.set_cons_succ]
           rw [wpWaysT_done]
           simp only [List.map_cons,List.map_nil,List.drop_succ_cons,List.drop_zero,opAt,List.getElem?_toArray,List.getElem?_cons_zero,List.getElem?_cons_succ,Option.getD_some]
           refine wpQuiet_nil ?_
           go_wp2_with fail
           go_meet
           exact ⟨qa,a',hh',_,rw',nw',ws',U',pg',rfl,rfl,I5,G5,QL,O5⟩
         ·go_wp2_with fail
          obtain ⟨qa,hqa⟩:∃ qa,qa=x1.heap.size:=⟨_,rfl⟩
          obtain ⟨xa,hxa⟩:∃ xa,xa=World.alloc x1 (.cells #[.int .i64 0,.int .i64 0] 43):=⟨_,rfl⟩
          have GA:Hid (xa.heap[qa]?=some (.cells #[.int .i64 0,.int .i64 0] 43 (0,0))):=Lib.hid (by rw [hxa,hqa];exact heap_alloc_new _ _)
          have AB:=Lib.hid (alloc_bel hxa)
          have B6:=Lib.hid (B5.out.trans (AB.out.mono B5.out.size))
          have QL:Hid (W0.heap.size≤qa):=Lib.hid (by rw [hqa];exact B5.out.size)
          rw [← hqa,← hxa]
          clear hqa hxa
          refine ⟨⟨⟨_,outerX_of_below B6.out⟩,rfl⟩,?_⟩
          try simp only [Act.put,List.setIfInBounds_toArray,List.set_cons_zero,List.set_cons_succ]
          rw [wpWaysT_one]
          try simp only [List.map_cons,List.map_nil,opAt,List.getElem?_toArray,List.getElem?_cons_zero,List.getElem?_cons_succ,Option.getD_some]
          refine wpQuiet_nil ?_
          go_wp2_with (go_at_call 9;refine (HEn.out _).mono ?_;rintro e' x2 ⟨rfl,hb4⟩;have B7:=Lib.hid (B6.out.trans (hb4.mono B6.out.size));have HB4:=Lib.hid hb4;clear hb4)
          refine ⟨⟨⟨_,outerX_of_below B7.out⟩,rfl⟩,?_⟩
          try simp only [Act.put,List.setIfInBounds_toArray,List.set_cons_zero,List.set_cons_succ]
          have GA1:=Lib.hid (row_stays GA.out HB4.out)
          clear GA
          have GA:=GA1
          rw [wpWaysT_one]
          try simp only [List.map_cons,List.map_nil,opAt,List.getElem?_toArray,List.getElem?_cons_zero,List.getElem?_cons_succ,Option.getD_some]
          refine wpQuiet_nil ?_
          go_wp2_with (go_at_call 17;refine (HIN.out _ B7.out).mono ?_;rintro e' x3 ⟨a',hh',U',pg',rw',nw',ws',rfl,hi3,ho3⟩;have I3:=Lib.hid hi3;have O3:=Lib.hid (outX_trans (outerX_of_below B7.out) ho3);have OI:=Lib.hid ho3;clear hi3 ho3)
          refine ⟨⟨⟨_,O3.out⟩,rfl⟩,?_⟩
          try simp only [Act.put,List.setIfInBounds_toArray,List.set_cons_zero,List.set_cons_succ]
          have GA1:=Lib.hid ((OI.out.block qa (Array.getElem?_eq_some_iff.1 GA.out).1 (fun hx=>by have:=HGL.out qa hx;have:=QL.out;omega)).trans GA.out)
          clear GA
          have GA:=GA1
          rw [wpWaysT_one]
          simp only [List.map_cons,List.map_nil,List.drop_succ_cons,List.drop_zero,opAt,List.getElem?_toArray,List.getElem?_cons_zero,List.getElem?_cons_succ,Option.getD_some]
          repeat (first
           | go_big_quiet_step (fail))
          refine wpQuiet_nil ?_
          go_wp2_with (refine wpList_store_row rfl 43 (.tmp 12) (.tmp 88) rfl qa #[.int .i64 (a':Int),.int .i64 (hh':Int)] rfl rfl 43 _ GA.out (by kernel_rfl) rfl (by simp [Value.oneCell']) ?_)
          have I5:=Lib.hid (I3.out.keepK (w':=World.setRow x3 qa #[.int .i64 (a':Int),.int .i64 (hh':Int)]) (by simp) (fun b cs T fr hb hT=>setRow_other _ qa b _ (fun e=>by rw [e,GA.out] at hb;cases hb;exact hT rfl)))
          have G5:=Lib.hid (setRow_heap x3 qa _ #[.int .i64 (a':Int),.int .i64 (hh':Int)] _ _ GA.out)
          have O5:=Lib.hid (outX_of_row O3.out QL.out #[.int .i64 (a':Int),.int .i64 (hh':Int)])
          refine ⟨⟨⟨_,O5.out⟩,rfl⟩,?_⟩
          try simp only [Act.put,List.setIfInBounds_toArray,List.set_cons_zero,List.set_cons_succ]
          rw [wpWaysT_done]
          simp only [List.map_cons,List.map_nil,List.drop_succ_cons,List.drop_zero,opAt,List.getElem?_toArray,List.getElem?_cons_zero,List.getElem?_cons_succ,Option.getD_some]
          refine wpQuiet_nil ?_
          go_wp2_with fail
          go_meet
          exact ⟨qa,a',hh',_,rw',nw',ws',U',pg',rfl,rfl,I5,G5,QL,O5⟩
        ·go_wp2_with fail
         obtain ⟨qa,hqa⟩:∃ qa,qa=wd.heap.size:=⟨_,rfl⟩
         obtain ⟨xa,hxa⟩:∃ xa,xa=World.alloc wd (.cells #[.int .i64 0,.int .i64 0] 43):=⟨_,rfl⟩
         have GA:Hid (xa.heap[qa]?=some (.cells #[.int .i64 0,.int .i64 0] 43 (0,0))):=Lib.hid (by rw [hxa,hqa];exact heap_alloc_new _ _)
         have AB:=Lib.hid (alloc_bel hxa)
         have B5:=Lib.hid (BD.out.trans (AB.out.mono BD.out.size))
         have QL:Hid (W0.heap.size≤qa):=Lib.hid (by rw [hqa];exact BD.out.size)
         rw [← hqa,← hxa]
         clear hqa hxa
         refine ⟨⟨⟨_,outerX_of_below B5.out⟩,rfl⟩,?_⟩
         try simp only [Act.put,List.setIfInBounds_toArray,List.set_cons_zero,List.set_cons_succ]
         rw [wpWaysT_one]
         try simp only [List.map_cons,List.map_nil,opAt,List.getElem?_toArray,List.getElem?_cons_zero,List.getElem?_cons_succ,Option.getD_some]
         refine wpQuiet_nil ?_
         go_wp2_with (go_at_call 8;refine (HA.out _).mono ?_;rintro e' x1 ⟨rfl,hb4⟩;have B6:=Lib.hid (B5.out.trans (hb4.mono B5.out.size));have HB4:=Lib.hid hb4;clear hb4)
         refine ⟨⟨⟨_,outerX_of_below B6.out⟩,rfl⟩,?_⟩
         try simp only [Act.put,List.setIfInBounds_toArray,List.set_cons_zero,List.set_cons_succ]
         have GA1:=Lib.hid (row_stays GA.out HB4.out)
         clear GA
         have GA:=GA1
         rw [wpWaysT_one]
         try simp only [List.map_cons,List.map_nil,opAt,List.getElem?_toArray,List.getElem?_cons_zero,List.getElem?_cons_succ,Option.getD_some]
         refine wpQuiet_nil ?_
         go_wp2_with (go_at_call 9;refine (HEn.out _).mono ?_;rintro e' x2 ⟨rfl,hb4⟩;have B7:=Lib.hid (B6.out.trans (hb4.mono B6.out.size));have HB4:=Lib.hid hb4;clear hb4)
         refine ⟨⟨⟨_,outerX_of_below B7.out⟩,rfl⟩,?_⟩
         try simp only [Act.put,List.setIfInBounds_toArray,List.set_cons_zero,List.set_cons_succ]
         have GA1:=Lib.hid (row_stays GA.out HB4.out)
         clear GA
         have GA:=GA1
         rw [wpWaysT_one]
         try simp only [List.map_cons,List.map_nil,opAt,List.getElem?_toArray,List.getElem?_cons_zero,List.getElem?_cons_succ,Option.getD_some]
         refine wpQuiet_nil ?_
         go_wp2_with (go_at_call 17;refine (HIN.out _ B7.out).mono ?_;rintro e' x3 ⟨a',hh',U',pg',rw',nw',ws',rfl,hi3,ho3⟩;have I3:=Lib.hid hi3;have O3:=Lib.hid (outX_trans (outerX_of_below B7.out) ho3);have OI:=Lib.hid ho3;clear hi3 ho3)
         refine ⟨⟨⟨_,O3.out⟩,rfl⟩,?_⟩
         try simp only [Act.put,List.setIfInBounds_toArray,List.set_cons_zero,List.set_cons_succ]
         have GA1:=Lib.hid ((OI.out.block qa (Array.getElem?_eq_some_iff.1 GA.out).1 (fun hx=>by have:=HGL.out qa hx;have:=QL.out;omega)).trans GA.out)
         clear GA
         have GA:=GA1
         rw [wpWaysT_one]
         simp only [List.map_cons,List.map_nil,List.drop_succ_cons,List.drop_zero,opAt,List.getElem?_toArray,List.getElem?_cons_zero,List.getElem?_cons_succ,Option.getD_some]
         repeat (first
          | go_big_quiet_step (fail))
         refine wpQuiet_nil ?_
         go_wp2_with (refine wpList_store_row rfl 43 (.tmp 12) (.tmp 88) rfl qa #[.int .i64 (a':Int),.int .i64 (hh':Int)] rfl rfl 43 _ GA.out (by kernel_rfl) rfl (by simp [Value.oneCell']) ?_)
         have I5:=Lib.hid (I3.out.keepK (w':=World.setRow x3 qa #[.int .i64 (a':Int),.int .i64 (hh':Int)]) (by simp) (fun b cs T fr hb hT=>setRow_other _ qa b _ (fun e=>by rw [e,GA.out] at hb;cases hb;exact hT rfl)))
         have G5:=Lib.hid (setRow_heap x3 qa _ #[.int .i64 (a':Int),.int .i64 (hh':Int)] _ _ GA.out)
         have O5:=Lib.hid (outX_of_row O3.out QL.out #[.int .i64 (a':Int),.int .i64 (hh':Int)])
         refine ⟨⟨⟨_,O5.out⟩,rfl⟩,?_⟩
         try simp only [Act.put,List.setIfInBounds_toArray,List.set_cons_zero,List.set_cons_succ]
         rw [wpWaysT_done]
         simp only [List.map_cons,List.map_nil,List.drop_succ_cons,List.drop_zero,opAt,List.getElem?_toArray,List.getElem?_cons_zero,List.getElem?_cons_succ,Option.getD_some]
         refine wpQuiet_nil ?_
         go_wp2_with fail
         go_meet
         exact ⟨qa,a',hh',_,rw',nw',ws',U',pg',rfl,rfl,I5,G5,QL,O5⟩
       case rest =>
        as_aux_lemma =>
        obtain ⟨qa,a',hh',N',rw',nw',ws',U',pg',rfl,rfl,I5,G5,QL,O5⟩:=hcut
        clear gX
        obtain ⟨e10,hln⟩:=HI.out.step GB.out GV.out (by have:=HG10.out;have:=B100.out;omega) O5.out I5.out
        have LN:=Lib.hid hln
        have E10:=Lib.hid e10
        clear e10 hln
        have hjw:wrap64 ((j:Int)+1)=(j:Int)+1:=wrap_smallT (by omega) (by have:=HJ60.out;omega)
        go_wp2_with (first
         | (refine wpList_load_row rfl 43 (.tmp 12) rfl qa rfl 43 _ (0,0) _ G5.out Tryz.underlying43 rfl (by kernel_rfl) ?_)
         | (refine wpList_store_row rfl 43 (.tmp 10) (.tmp 92) rfl g10 #[.int .i64 (a':Int),.int .i64 (hh':Int)] rfl rfl 43 _ E10.out (by kernel_rfl) rfl (by simp [Value.oneCell']) ?_))
        go_roundw
        case rel=>exact ⟨j+1,a',hh',N',rw',nw',ws',U',pg',by have:=HLT.out;omega,by go_num,LN⟩
        case measure=>exact meas_next HLT.out hjw
      ·as_aux_lemma =>
       obtain rfl:j=k:=by omega
       have qj:decide ((j:Int)<(j:Int))=false:=decide_eq_false (by omega)
       have HPG:=Lib.hid (tpages_any (rd:=fun b n=>rdQ nw 25600 b n∧b ∈ pg) gv g 1 100 a hh U map0 (fun d=>∃ b ∈ pg,d=(b:Int)) (fun b n h=>⟨h.1,b,h.2,rfl⟩) HI.out.ins.shp.pages W0 HI.out.ins.view HI.out.ins.disk)
       have HBX:=Lib.hid HI.out.box
       go_upto_region 25 with (first
        | (refine wpList_load_row rfl 43 (.tmp 10) rfl g10 rfl 43 _ (0,0) _ HBX.out Tryz.underlying43 rfl (by kernel_rfl) ?_)
        | (go_at_call 21;refine HPG.out.mono ?_;rintro e w20 ⟨A2,m,c2,ds,rfl,hm1,hm2,hdp,hrw,hb20⟩;have HM1:=Lib.hid hm1;have HM2:=Lib.hid hm2;have HDP:=Lib.hid hdp;have RW:=Lib.hid hrw;have B20:=Lib.hid hb20;clear hm1 hm2 hdp hrw hb20))
       have HUS:Hid (∀ b ∈ pg,2≤b∧b<100∧M.getD b false=false):=Lib.hid (fun b hb=>⟨(HI.out.ins.use.rng b hb).1,(HI.out.ins.use.rng b hb).2,HI.out.ins.use.off b hb⟩)
       have BX20:=Lib.hid (row_stays HI.out.bx B20.out)
       have D20:=Lib.hid (HI.out.ins.disk.below B20.out)
       have HMO:=Lib.hid HI.out.ins.map
       have BE:=Lib.hid (HI.out.bel.trans (B20.out.mono HI.out.bel.size))
       clear HPG HBX HI B20 hj hke hlt qj
       go_wp2_with fail
       go_loopw [16] (fun iv wr=>∃ i3:Nat,i3≤m∧iv=.int .i64 (i3:Int)∧Hid (wr=w20)) (fun iv _=>m - (intOf iv).toNat)
       case atStart=>exact ⟨0,Nat.zero_le _,rfl,Lib.hid rfl⟩
       case round =>
        obtain ⟨i3,hi3,rfl,hwr⟩:=hrel
        obtain rfl:wr=w20:=hwr.out
        clear hwr
        have HI3:=Lib.hid hi3
        have H5K:=Lib.hid (show m≤5000 from HM2.out)
        by_cases h3:i3<m
        ·as_aux_lemma =>
         have q3:decide ((i3:Int)<(m:Int))=true:=decide_eq_true (by omega)
         have hi1:(i3:Int)<(m:Int):=by omega
         have H3:=Lib.hid h3
         obtain ⟨d,hd⟩:∃ d,ds[i3]?=some d:=⟨ds[i3]'(by rw [HM1.out];exact h3),List.getElem?_eq_getElem _⟩
         obtain ⟨b,hb,hdb⟩:=HDP.out d (List.mem_of_getElem? hd)
         obtain ⟨hb2,hb3,hb4⟩:=HUS.out b hb
         obtain ⟨bz,rfl,_,hcell⟩:=row_cells RW.out (by intro e;have:=congrArg List.length e;simp only [List.length_map,List.length_nil] at this;rw [HM1.out] at this;omega)
         have cz:wr.cell? ⟨bz,0+i3,none⟩=some (.int .i64 (b:Int)):=by
          rw [Nat.zero_add]
          exact hcell i3 _ (by rw [List.getElem?_map,hd,hdb];rfl)
         have cz1:wr.cell? ⟨bz,i3,none⟩=some (.int .i64 (b:Int)):=hcell i3 _ (by rw [List.getElem?_map,hd,hdb];rfl)
         have c8:wr.cell? ⟨g8,1+b,none⟩=some (.bool false):=nd_cell BX20.out _ _ (by rw [HEM.out,mapC_s _ M b (by rw [HMO.out.len];omega),hb4])
         have k1:(b:Int)<512:=by omega
         have k2:(0:Int)≤(b:Int):=by omega
         clear hcell hdb hb hb2 hb3 hb4 hd hi3 h3
         go_upto_region 27 with fail
         clear cz cz1 c8 k1 k2 q3 hi1
         have hjw:wrap64 ((i3:Int)+1)=(i3:Int)+1:=wrap_smallT (by omega) (by have:=H3.out;have:=H5K.out;omega)
         go_wp2_with fail
         go_roundw
         case rel=>exact ⟨i3+1,by have:=H3.out;omega,by go_num,Lib.hid (by simp)⟩
         case measure=>exact meas_next H3.out hjw
        ·as_aux_lemma =>
         obtain rfl:i3=m:=by omega
         have q3:decide ((i3:Int)<(i3:Int))=false:=decide_eq_false (by omega)
         obtain ⟨T,hT⟩:∃ T,T=tab:=⟨_,rfl⟩
         have HNT:Hid (∀ W,Calls Tryz.prog 23 #[] W fun e w'=>e=.returned (.agg T)∧Below W.heap.size W w'):=Lib.hid (fun W=>by rw [hT];exact new_any W)
         obtain ⟨F,hF⟩:∃ F,F=mapC ((50:Nat):Int) map0:=⟨_,rfl⟩
         have HN5:Hid (∀ W,Calls Tryz.prog 18 #[.int .i64 50] W fun e w'=>e=.returned (.agg F)∧Below W.heap.size W w'):=Lib.hid (fun W=>by rw [hF];exact new_bm 50 50 (by decide) W)
         have HO1:Hid (∀ W,Below wr.heap.size wr W→Calls Tryz.prog 22 #[.agg T,.pointer (some ⟨g,0,none⟩),.int .u64 1,.agg F,.agg E] W fun e w'=>e=.returned (.tuple #[.pointer none,.int .i64 1])∧Below W.heap.size W w'):=Lib.hid (fun W hW=>by
          rw [hT]
          exact topen_no (some ⟨g,0,none⟩) 1 ((50:Nat):Int) ((100:Nat):Int) map0 M length_map0 HMO.out.len F E hF HEM.out W (fun gv W' hb hc=>takesC_no gv g 100 ((50:Nat):Int) map0 length_map0 (by rintro ⟨_,h⟩;revert h;decide) (by decide) F hF W' hc ((D20.out.below hW).below hb)))
         have HO2:Hid (∀ W,Calls Tryz.prog 22 #[.agg T,.pointer none,.int .u64 1,.agg E,.agg E] W fun e w'=>e=.returned (.tuple #[.pointer none,.int .i64 1])∧Below W.heap.size W w'):=Lib.hid (fun W=>by
          rw [hT]
          exact topen_no none 1 ((100:Nat):Int) ((100:Nat):Int) M M HMO.out.len HMO.out.len E E HEM.out HEM.out W (fun gv W' hb hc=>takesC_nil gv E HE1.out W' hc))
         clear hT hF hi3 h3
         go_upto_region 30 with fail
         have g1:∀ y:SubW wr.heap.size wr,y.at_.heap[g8]?=some (.cells E 62 (0,0)):=fun y=>row_stays BX20.out y.ok_
         refine region_below wr.heap.size wr (Below.refl _ _) (by kernel_rfl) (by kernel_rfl) ?_
         repeat (first
          | (go_big_quiet_want;refine quiet_load_row 62 (.tmp 8) rfl g8 rfl 62 E (0,0) _ g1 Tryz.underlying62 rfl (by rw [HE1.out];exact infoMap) ?_;simp only [Act.put,List.setIfInBounds_toArray,List.set_cons_zero,List.set_cons_succ];go_big_quiet_on)
          | go_big_quiet_step (first
           | (go_at_call 23;exact calls_sub (Nat.le_refl _) (HNT.out _))
           | (go_at_call 18;exact calls_sub (Nat.le_refl _) (HN5.out _))
           | (go_at_call 22;exact calls_sub (Nat.le_refl _) (HO1.out _ (SubW.ok_ _)))))
         refine wpQuiet_nil ?_
         rintro w' ⟨y,rfl⟩
         have BY6:=Lib.hid y.ok_
         obtain ⟨w6,hw6⟩:∃ w6,w6=y.at_:=⟨_,rfl⟩
         rw [← hw6] at BY6 ⊢
         clear hw6 y g1
         go_upto_region 31 with fail
         have g1:∀ y:SubW w6.heap.size w6,y.at_.heap[g8]?=some (.cells E 62 (0,0)):=fun y=>row_stays (row_stays BX20.out BY6.out) y.ok_
         refine region_below w6.heap.size w6 (Below.refl _ _) (by kernel_rfl) (by kernel_rfl) ?_
         repeat (first
          | (go_big_quiet_want;refine quiet_load_row 62 (.tmp 8) rfl g8 rfl 62 E (0,0) _ g1 Tryz.underlying62 rfl (by rw [HE1.out];exact infoMap) ?_;simp only [Act.put,List.setIfInBounds_toArray,List.set_cons_zero,List.set_cons_succ];go_big_quiet_on)
          | go_big_quiet_step (first
           | (go_at_call 23;exact calls_sub (Nat.le_refl _) (HNT.out _))
           | (go_at_call 18;exact calls_sub (Nat.le_refl _) (HN5.out _))
           | (go_at_call 22;exact calls_sub (Nat.le_refl _) (HO2.out _))))
         refine wpQuiet_nil ?_
         rintro w' ⟨y,rfl⟩
         have BY7:=Lib.hid (BE.out.trans ((BY6.out.trans (y.ok_.mono BY6.out.size)).mono BE.out.size))
         obtain ⟨w7,hw7⟩:∃ w7,w7=y.at_:=⟨_,rfl⟩
         rw [← hw7] at BY7 ⊢
         clear hw7 y g1
         go_wp2_with fail
         go_ret
         exact ⟨rfl,BY7.out⟩
end Go.Proofs.YtgkddhncfaeidaaGreat
