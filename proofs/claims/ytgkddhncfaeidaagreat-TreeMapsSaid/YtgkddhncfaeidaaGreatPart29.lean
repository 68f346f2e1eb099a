/- Squeezed: the texts as they are written lie in wip/tpl. -/
import Derived.Test.YtgkddhncfaeidaaGreatPart23
import Derived.Test.YtgkddhncfaeidaaGreatPart15
import Derived.Test.YtgkddhncfaeidaaGreatPart24
import Derived.Test.YtgkddhncfaeidaaGreatPart28
import Derived.Test.YtgkddhncfaeidaaGreatPart22
set_option maxRecDepth 100000
set_option maxHeartbeats 4000000
set_option linter.unnecessarySimpa false
set_option linter.unusedSimpArgs false
set_option linter.unusedVariables false
namespace Go.Proofs.YtgkddhncfaeidaaGreat
open Go.RowKit Go.ChangeShapes Go.WideShapes Go.ChangeAt CrcM PageM
theorem takes_yes (gv g gen p:Nat) (U V M:List Bool) {B N gs gn Ls cs cn:Nat} {rw:Value} {st nw:List UInt8} {ws:List (Nat × List UInt8)} (hM:M.length=512) (okU:okM (p:Int) M) (hp:Ls / 256=p) (C:Array Value) (hC:C=mapC (p:Int) M) (w:World) (hv:ViewAt w gv g gen (p:Int) U V) (hd:Dk w B N g gs gn rw Ls cs cn st nw ws true (-1)) :
 Calls Tryz.prog 43 #[.pointer (some ⟨gv,0,none⟩),.agg C] w fun e w'=>e=.returned (.bool true)∧Below w.heap.size w w':=by
 have HV:=Lib.hid hv
 have HD:=Lib.hid hd
 have HM:=Lib.hid hM
 have HOM:=Lib.hid okU
 have HP:=Lib.hid hp
 have HC:=Lib.hid hC
 have HC1:Hid (C.size=513):=Lib.hid (by rw [hC];exact size_mapC hM)
 clear hv hd hM okU hp hC
 obtain ⟨w1,hw1⟩:∃ w1,w1=w.alloc (.cells C 62):=⟨_,rfl⟩
 have G1:Hid (w1.heap[w.heap.size]?=some (.cells C 62 (0,0))):=Lib.hid (by rw [hw1];exact heap_alloc_new _ _)
 have B1:=Lib.hid (alloc_bel hw1)
 have HV1:=Lib.hid (HV.out.below B1.out)
 have HD1:=Lib.hid (HD.out.below B1.out)
 go_enter Tryz.func43,Tryz.ntmps43
 go_upto_region 1 with fail
 rw [← hw1]
 clear hw1
 have g1:∀ y:SubW w1.heap.size w1,y.at_.heap[w.heap.size]?=some (.cells C 62 (0,0)):=fun y=>row_stays G1.out y.ok_
 have g2:∀ y:SubW w1.heap.size w1,y.at_.cell? ⟨gv,256,none⟩=some (.pointer (some ⟨g,0,none⟩)):=fun y=>(HV1.out.below y.ok_).cd
 have g3:∀ y:SubW w1.heap.size w1,y.at_.cell? ⟨w.heap.size,0,none⟩=some (.int .i64 (p:Int)):=fun y=>nd_cell (g1 y) 0 _ (by rw [HC.out];exact mapC_0 _ _)
 refine region_below w1.heap.size w1 (Below.refl _ _) (by kernel_rfl) (by kernel_rfl) ?_
 repeat (first
  | (go_big_quiet_want;refine quiet_load_row 62 (.tmp 3) rfl w.heap.size rfl 62 C (0,0) _ g1 Tryz.underlying62 rfl (by rw [HC1.out];exact infoMap) ?_;simp only [Act.put,List.setIfInBounds_toArray,List.set_cons_zero,List.set_cons_succ];go_big_quiet_on)
  | go_big_quiet_step (first
   | (go_at_call 26;exact calls_sub (Nat.le_refl _) ((open_yes gv g gen p U V _ (HV1.out.below (SubW.ok_ _))).mono (fun e w' h=>⟨h.1,by rw [← h.2];exact Below.refl _ _⟩)))
   | (go_at_call 66;exact calls_sub (Nat.le_refl _) (right_bmC p M HM.out _ C HC.out true (decide_eq_true HOM.out).symm))
   | (go_at_call 67;exact calls_sub (Nat.le_refl _) ((pages_any (HD1.out.below (SubW.ok_ _))).mono (fun e w' h=>⟨h.1,by rw [← h.2];exact Below.refl _ _⟩)))))
 refine wpQuiet_nil ?_
 rintro w' ⟨y,rfl⟩
 have HY:=Lib.hid (B1.out.trans (y.ok_.mono B1.out.size))
 clear g1 g2 g3
 go_wp2_with fail
 go_ret
 refine ⟨nd_retB ?_,HY.out⟩
 have:=HP.out
 simp only [beq_iff_eq]
 omega
theorem built_view (parts:List (Nat × Value)):Tryz.prog.built 105 parts=Instr.fill (fun i=>([(0,256),(256,1),(257,1),(258,513),(771,513)].toArray:Array (Nat × Nat))[i]?) Tryz.zeroCells105 parts:=by kernel_rfl
theorem size_zeroView:(Tryz.zeroCells105).size=1284:=by kernel_rfl
theorem fold_mid (X V Y:List Value) (h:V.length≤Y.length):(V.zipIdx 0).foldl (fun cs (x:Value × Nat)=>cs.setIfInBounds (X.length+x.2) x.1) (X ++ Y).toArray=((X ++ V) ++ Y.drop V.length).toArray:=by
 obtain ⟨s1,q1⟩:=Great.foldl_set X.length V 0 (X ++ Y).toArray
 apply Array.ext_getElem?
 intro k
 have e1:(X ++ Y).toArray[k]?=(X ++ Y)[k]?:=by simp
 have e2:((X ++ V) ++ Y.drop V.length).toArray[k]?=((X ++ V) ++ Y.drop V.length)[k]?:=by simp
 have e3:(X ++ Y).toArray.size=X.length+Y.length:=by simp
 rw [q1 k,e1,e2,e3]
 by_cases h1:k<X.length
 ·rw [if_neg (by omega),List.append_assoc,List.getElem?_append_left h1,List.getElem?_append_left h1]
 ·by_cases h2:k<X.length+V.length
  ·rw [if_pos (by omega),List.append_assoc,List.getElem?_append_right (by omega),List.getElem?_append_left (by omega)]
   congr 1
  ·rw [if_neg (by omega),List.getElem?_append_right (by omega),List.getElem?_append_right (by rw [List.length_append];omega),List.getElem?_drop,List.length_append]
   congr 1
   omega
theorem fill_next {place:Nat→Option (Nat × Nat)} {X Y V:List Value} {i:Nat} {v:Value} {rest:List (Nat × Value)} (hv:v.cells=V.toArray) (hp:place i=some (X.length,V.length)) (hs:V.length≤Y.length) :
 Instr.fill place (X ++ Y).toArray ((i,v) :: rest)=Instr.fill place ((X ++ V) ++ Y.drop V.length).toArray rest:=by
 rw [fill_one hv hp (by simp;omega),fold_mid X V Y hs]
theorem view_built (g gen p:Nat) (U V:List Bool) (hU:U.length=512) (hV:V.length=512) :
 Tryz.prog.built 105 [(0,.agg tab),(1,.pointer (some ⟨g,0,none⟩)),(2,.int .u64 (gen:Int)),(3,.agg (mapL (p:Int) U).toArray),(4,.agg (mapL (p:Int) V).toArray)]=some (viewL g gen (p:Int) U V).toArray:=by
 rw [built_view]
 have lU:=mapL_len (p:Int) hU
 have lV:=mapL_len (p:Int) hV
 obtain ⟨Z,hZ⟩:∃ Z,Z=(Tryz.zeroCells105).toList:=⟨_,rfl⟩
 have lZ:Z.length=1284:=by rw [hZ,Array.length_toList];exact size_zeroView
 have e0:Tryz.zeroCells105=([] ++ Z).toArray:=by rw [hZ];simp
 rw [e0]
 rw [fill_next (V:=tab.toList) (by rw [Array.toArray_toList];rfl) (by rw [tab_len];rfl) (by rw [tab_len,lZ];simp)]
 rw [fill_next (V:=[.pointer (some ⟨g,0,none⟩)]) rfl (by rw [List.nil_append,tab_len];rfl) (by rw [List.length_drop,lZ,tab_len];simp)]
 rw [fill_next (V:=[.int .u64 (gen:Int)]) rfl (by rw [List.nil_append,List.length_append,tab_len];rfl) (by rw [List.length_drop,List.length_drop,lZ,tab_len];simp)]
 rw [fill_next (V:=mapL (p:Int) U) rfl (by rw [List.nil_append,List.length_append,List.length_append,tab_len,lU];rfl) (by rw [List.length_drop,List.length_drop,List.length_drop,lZ,tab_len,lU];simp)]
 rw [fill_next (V:=mapL (p:Int) V) rfl (by rw [List.nil_append,List.length_append,List.length_append,List.length_append,tab_len,lU,lV];rfl) (by rw [List.length_drop,List.length_drop,List.length_drop,List.length_drop,lZ,tab_len,lU,lV];simp)]
 rw [Instr.fill]
 congr 1
 rw [List.drop_drop,List.drop_drop,List.drop_drop,List.drop_drop,List.drop_eq_nil_of_le (by rw [lZ,tab_len,lU,lV];simp)]
 simp [viewL]
theorem topen_yes (g gen p:Nat) (U V:List Bool) {B N gs gn Ls cs cn:Nat} {rw:Value} {st nw:List UInt8} {ws:List (Nat × List UInt8)} (hU:U.length=512) (hV:V.length=512) (okU:okM (p:Int) U) (okV:okM (p:Int) V) (hp:Ls / 256=p) (CU CV:Array Value) (hCU:CU=mapC (p:Int) U) (hCV:CV=mapC (p:Int) V) (w:World) (hd:Dk w B N g gs gn rw Ls cs cn st nw ws true (-1)) :
 Calls Tryz.prog 22 #[.agg tab,.pointer (some ⟨g,0,none⟩),.int .u64 (gen:Int),.agg CU,.agg CV] w fun e w'=>∃ gv,e=.returned (.tuple #[.pointer (some ⟨gv,0,none⟩),.int .i64 0])∧w.heap.size≤gv∧ViewAt w' gv g gen (p:Int) U V∧Below w.heap.size w w':=by
 have HD:=Lib.hid hd
 have HU1:Hid (CU.size=513):=Lib.hid (by rw [hCU];exact size_mapC hU)
 have HV1:Hid (CV.size=513):=Lib.hid (by rw [hCV];exact size_mapC hV)
 have HBU:Hid (Tryz.prog.built 105 [(0,.agg tab),(1,.pointer (some ⟨g,0,none⟩)),(2,.int .u64 (gen:Int)),(3,.agg CU),(4,.agg CV)]=some (viewL g gen (p:Int) U V).toArray):=Lib.hid (by rw [hCU,hCV];exact view_built g gen p U V hU hV)
 have HTU:Hid (∀ gv W,ViewAt W gv g gen (p:Int) U V→Dk W B N g gs gn rw Ls cs cn st nw ws true (-1)→Calls Tryz.prog 43 #[.pointer (some ⟨gv,0,none⟩),.agg CU] W fun e w'=>e=.returned (.bool true)∧Below W.heap.size W w'):=Lib.hid (fun gv W h1 h2=>takes_yes gv g gen p U V U hU okU hp CU hCU W h1 h2)
 have HTV:Hid (∀ gv W,ViewAt W gv g gen (p:Int) U V→Dk W B N g gs gn rw Ls cs cn st nw ws true (-1)→Calls Tryz.prog 43 #[.pointer (some ⟨gv,0,none⟩),.agg CV] W fun e w'=>e=.returned (.bool true)∧Below W.heap.size W w'):=Lib.hid (fun gv W h1 h2=>takes_yes gv g gen p U V V hV okV hp CV hCV W h1 h2)
 obtain ⟨C,hC⟩:∃ C,C=(viewL g gen (p:Int) U V).toArray:=⟨_,rfl⟩
 rw [← hC] at HBU
 have HC:=Lib.hid hC
 obtain ⟨T,hT⟩:∃ T,T=tab:=⟨_,rfl⟩
 have HT1:Hid (T.size=256):=Lib.hid (by rw [hT];exact size_tab)
 rw [← hT] at HBU ⊢
 clear hd hU hV okU okV hp hCU hCV hC hT
 go_enter Tryz.func22,Tryz.ntmps22
 go_upto_region 1 with fail
 obtain ⟨w3,hw3⟩:∃ w3,w3=(((w.alloc (.cells T 71)).alloc (.cells CU 62)).alloc (.cells CV 62)):=⟨_,rfl⟩
 have B3:Hid (Below w.heap.size w w3):=Lib.hid (by rw [hw3];exact (((Below.refl _ _).alloc (Nat.le_refl _) _).alloc (by simp) _).alloc (by simp;omega) _)
 have G5:Hid (w3.heap[w.heap.size]?=some (.cells T 71 (0,0))):=Lib.hid (by
  rw [hw3]
  exact row_stays (row_stays (heap_alloc_new w _) (alloc_bel rfl)) (alloc_bel rfl))
 have G8:Hid (w3.heap[w.heap.size+1]?=some (.cells CU 62 (0,0))):=Lib.hid (by
  rw [hw3]
  have h1:=heap_alloc_new (w.alloc (.cells T 71)) (.cells CU 62)
  rw [World.size_alloc] at h1
  exact row_stays h1 (alloc_bel rfl))
 have G9:Hid (w3.heap[w.heap.size+1+1]?=some (.cells CV 62 (0,0))):=Lib.hid (by
  rw [hw3]
  have h1:=heap_alloc_new ((w.alloc (.cells T 71)).alloc (.cells CU 62)) (.cells CV 62)
  rw [World.size_alloc,World.size_alloc] at h1
  exact h1)
 rw [← hw3]
 clear hw3
 go_upto_region 2 with (first
  | (refine wpList_load_row rfl 71 (.tmp 5) rfl w.heap.size rfl 71 T (0,0) _ G5.out Tryz.underlying71 rfl (by rw [HT1.out];exact info64) ?_)
  | (refine wpList_load_row rfl 62 (.tmp 8) rfl (w.heap.size+1) rfl 62 CU (0,0) _ G8.out Tryz.underlying62 rfl (by rw [HU1.out];exact infoMap) ?_)
  | (refine wpList_load_row rfl 62 (.tmp 9) rfl (w.heap.size+1+1) rfl 62 CV (0,0) _ G9.out Tryz.underlying62 rfl (by rw [HV1.out];exact infoMap) ?_)
  | (refine wpList_buildTo rfl 105 _ rfl (some 18) rfl C (by simp only [List.map_toArray,List.map_cons,List.map_nil];exact HBU.out) ?_))
 obtain ⟨gv,hgv⟩:∃ gv,gv=w3.heap.size:=⟨_,rfl⟩
 obtain ⟨w4,hw4⟩:∃ w4,w4=w3.alloc (.cells C 105):=⟨_,rfl⟩
 have B4:=Lib.hid (B3.out.trans ((alloc_bel hw4).mono B3.out.size))
 have HV4:Hid (ViewAt w4 gv g gen (p:Int) U V):=Lib.hid (by rw [hw4,hgv,HC.out];exact heap_alloc_new _ _)
 have G84:=Lib.hid (row_stays G8.out (alloc_bel hw4))
 have G94:=Lib.hid (row_stays G9.out (alloc_bel hw4))
 have HD4:=Lib.hid (HD.out.below B4.out)
 have HGV:Hid (w.heap.size≤gv):=Lib.hid (by rw [hgv];exact B3.out.size)
 rw [← hw4,← hgv]
 clear hw4 hgv HBU HC G5 G8 G9 B3
 go_upto_region 4 with (first
  | (refine wpList_load_row rfl 62 (.tmp 8) rfl (w.heap.size+1) rfl 62 CU (0,0) _ G84.out Tryz.underlying62 rfl (by rw [HU1.out];exact infoMap) ?_)
  | (go_at_call 43;refine (HTU.out gv _ HV4.out HD4.out).mono ?_;clear HTU;rintro e w5 ⟨rfl,hb5⟩;have B5:=Lib.hid (B4.out.trans (hb5.mono B4.out.size));have HV5:=Lib.hid (HV4.out.below hb5);have G95:=Lib.hid (row_stays G94.out hb5);have HD5:=Lib.hid (HD4.out.below hb5);clear hb5))
 refine wp_load_row 62 (.tmp 9) rfl (w.heap.size+1+1) rfl 62 CV (0,0) _ G95.out Tryz.underlying62 rfl (by rw [HV1.out];exact infoMap) ?_
 rename_i K2 hK2
 refine hK2 _ _ ?_
 clear hK2
 simp only [Act.put,List.setIfInBounds_toArray,List.set_cons_zero,List.set_cons_succ]
 go_wp2_with (go_at_call 43;refine (HTV.out gv _ HV5.out HD5.out).mono ?_;rintro e w6 ⟨rfl,hb6⟩;have B6:=Lib.hid (B5.out.trans (hb6.mono B5.out.size));have HV6:=Lib.hid (HV5.out.below hb6);clear hb6)
 go_ret2
 exact ⟨gv,rfl,HGV.out,HV6.out,B6.out⟩
end Go.Proofs.YtgkddhncfaeidaaGreat
namespace Go.Proofs.YtgkddhncfaeidaaGreat
open Go.ChangeShapes Go.WideShapes Go.ChangeAt Go.RowKit CrcM PageM
theorem row_hasTy {w:World} {base sz n c:Nat} {E:TypeId} {A:Option Addr} {us:List Value} (h:w.ownsRow base E sz (.slice A n c) n us) (hn:n≠0):HasTy w A E:=HasTy.of_row h hn
theorem OwnN.t {w:World} {base:Nat} {n:NodeD} {l:NdL} (h:OwnN w base n l):NodeT w n l where
 at_:=h.at
 te:=fun hne=>row_hasTy h.1 (fun e=>hne (List.eq_nil_of_length_eq_zero e))
 tk:=fun hne=>row_hasTy h.2.1 (fun e=>hne (List.eq_nil_of_length_eq_zero e))
 td:=fun hne=>row_hasTy h.2.2 (fun e=>hne (List.eq_nil_of_length_eq_zero e))
theorem OwnN.keepT {w w':World} {base:Nat} {n:NodeD} {l:NdL} (h:OwnN w base n l) (hk:∀ (b:Nat) (cs:Array Value) (T:TypeId) (fr:Nat × Nat),w.heap[b]?=some (Obj.cells cs T fr)→(l.EA.map (·.block)=some b∨l.KA.map (·.block)=some b∨l.DA.map (·.block)=some b)→T=40∨T=38∨T=3→w'.heap[b]?=w.heap[b]?):OwnN w' base n l:=by
 have q:∀ {E:TypeId} {sz m c:Nat} {A:Option Addr} {us:List Value},w.ownsRow base E sz (.slice A m c) m us→(∀ b cs fr,A.map (·.block)=some b→w.heap[b]?=some (Obj.cells cs E fr)→w'.heap[b]?=w.heap[b]?)→w'.ownsRow base E sz (.slice A m c) m us:=by
  intro E sz m c A us hr hb
  rcases hr.2 with h0 | ⟨g,cap,cur,hv,h1,h2,h3⟩
  ·exact ⟨hr.1,.inl h0⟩
  ·refine ⟨hr.1,.inr ⟨g,cap,cur,hv,h1,(hb g cur _ ?_ h2).trans h2,h3⟩⟩
   injection hv with hA _ _
   rw [hA]
   rfl
 exact ⟨q h.1 (fun b cs fr hA hb=>hk b cs _ fr hb (.inl hA) (.inl rfl)),q h.2.1 (fun b cs fr hA hb=>hk b cs _ fr hb (.inr (.inl hA)) (.inr (.inl rfl))),q h.2.2 (fun b cs fr hA hb=>hk b cs _ fr hb (.inr (.inr hA)) (.inr (.inr rfl)))⟩
theorem OwnN.offgc {w w':World} {base gc gv:Nat} {p:Int} {U V:List Bool} {lv:Value} {n:NodeD} {l:NdL} (h:OwnN w base n l) (hc:ChgAt w gc gv p U V lv) (ho:OuterX (fun k=>k=gc) w w'):OwnN w' base n l :=
 h.keepT fun b cs T fr hb _ hT=>ho.block b (Array.getElem?_eq_some_iff.1 hb).1 (fun e=>row_ne_typed hc e hb (by rcases hT with rfl | rfl | rfl <;> decide))
theorem ViewAt.offgc {w w':World} {gc gv gv' g gen:Nat} {p p':Int} {U V U' V':List Bool} {lv:Value} (h:ViewAt w gv' g gen p' U' V') (hc:ChgAt w gc gv p U V lv) (ho:OuterX (fun k=>k=gc) w w'):ViewAt w' gv' g gen p' U' V' :=
 h.keep (ho.block gv' h.lt (fun e=>row_ne_typed hc e h (by decide)))
theorem Dk.keepTy {w w':World} {B N g gs gn L cs cn:Nat} {rw:Value} {st nw:List UInt8} {ws:List (Nat × List UInt8)} {on:Bool} {left:Int} (h:Dk w B N g gs gn rw L cs cn st nw ws on left) (hs:w.heap.size≤w'.heap.size) (hk:∀ (b:Nat) (cs:Array Value) (T:TypeId) (fr:Nat × Nat),w.heap[b]?=some (Obj.cells cs T fr)→T=145∨T=5∨T=251→w'.heap[b]?=w.heap[b]?):Dk w' B N g gs gn rw L cs cn st nw ws on left:=by
 obtain ⟨curN,hcN⟩:=h.tyN
 obtain ⟨_,_,_,curS,hcS,_⟩:=h.stay.parts
 exact h.keepX hs (hk _ _ _ _ h.head (.inl rfl)) (hk _ _ _ _ hcS (.inr (.inl rfl))) (hk _ _ _ _ hcN (.inr (.inl rfl))) (fun k e=>by
  rcases h.wait.2 with ⟨e0,_⟩ | ⟨q,cap,cur,hv,_,hq,_⟩
  ·rw [e0] at e
   simp [Value.ownBlock] at e
  ·rw [hv] at e
   obtain rfl:q=k:=by simpa [Value.ownBlock] using e
   exact hk _ _ _ _ hq (.inr (.inr rfl)))
theorem Dk.offgc {w w':World} {gc gv:Nat} {p:Int} {U V:List Bool} {lv:Value} {B N g gs gn L cs cn:Nat} {rw:Value} {st nw:List UInt8} {ws:List (Nat × List UInt8)} {on:Bool} {left:Int} (h:Dk w B N g gs gn rw L cs cn st nw ws on left) (hc:ChgAt w gc gv p U V lv) (ho:OuterX (fun k=>k=gc) w w'):Dk w' B N g gs gn rw L cs cn st nw ws on left :=
 h.keepTy ho.size fun b cs T fr hb hT=>ho.block b (Array.getElem?_eq_some_iff.1 hb).1 (fun e=>row_ne_typed hc e hb (by rcases hT with rfl | rfl | rfl <;> decide))
theorem row_off {w w':World} {gc gv:Nat} {p:Int} {U V:List Bool} {lv:Value} {b:Nat} {cs:Array Value} {T:TypeId} {fr:Nat × Nat} (h:w.heap[b]?=some (.cells cs T fr)) (hT:T≠114) (hc:ChgAt w gc gv p U V lv) (ho:OuterX (fun k=>k=gc) w w'):w'.heap[b]?=some (.cells cs T fr) :=
 (ho.block b (Array.getElem?_eq_some_iff.1 h).1 (fun e=>row_ne_typed hc e h hT)).trans h
theorem outX_trans {X:Nat→Prop} {w w1 w2:World} (h:OuterX X w w1) (h2:OuterX X w1 w2):OuterX X w w2 :=
 ⟨h2.os.trans h.os,h2.tape.trans h.tape,h2.output.trans h.output,Nat.le_trans h.size h2.size,fun k hk hX=>(h2.block k (Nat.lt_of_lt_of_le hk h.size) hX).trans (h.block k hk hX)⟩
theorem join_own (a b:NodeD) (la lb:NdL) (w:World) (hA:NodeAt w a la) (hB:NodeAt w b lb) (fE:a.es.length+b.es.length≤1000000000) (fK:a.ks.length+b.ks.length≤1000000000) (fD:a.ds.length+b.ds.length≤1000000000) :
 Calls Tryz.prog 127 #[.agg #[.bool a.leaf,.slice la.EA a.es.length la.ec,.slice la.KA a.ks.length la.kc,.slice la.DA a.ds.length la.dc],.agg #[.bool b.leaf,.slice lb.EA b.es.length lb.ec,.slice lb.KA b.ks.length lb.kc,.slice lb.DA b.ds.length lb.dc]] w fun e w'=>(∃ lj:NdL,e=.returned (.agg #[.bool (joinD a b).leaf,.slice lj.EA (joinD a b).es.length lj.ec,.slice lj.KA (joinD a b).ks.length lj.kc,.slice lj.DA (joinD a b).ds.length lj.dc])∧OwnN w' w.heap.size (joinD a b) lj)∧Below w.heap.size w w':=by
 obtain ⟨lfa,es,ks,ds⟩:=a
 obtain ⟨lfb,es2,ks2,ds2⟩:=b
 dsimp only at fE fK fD
 cases lfa
 ·refine (join_inner lfb la.EA la.KA la.DA lb.EA lb.KA lb.DA es.length la.ec ks.length la.kc ds.length la.dc es2.length lb.ec ks2.length lb.kc ds2.length lb.dc (ks ++ ks2).length (ds ++ ds2).length (by simp) (by simp) (ks.flatMap kyC) (ks2.flatMap kyC) (ds.map kdC) (ds2.map kdC) (flatV_len lenKyC _) (flatV_len lenKyC _) (by simp) (by simp) (flat_one kyC_one _) (flat_one kyC_one _) (kdC_one _) (kdC_one _) (by simp;omega) (by simp;omega) w hA.k.cells hB.k.cells hA.d.cells hB.d.cells).mono ?_
  rintro e w' ⟨⟨K,kc,D,dc,rfl,hk,hd⟩,hb⟩
  refine ⟨⟨⟨none,0,K,kc,D,dc⟩,rfl,?_⟩,hb⟩
  rw [← List.flatMap_append] at hk
  rw [← List.map_append] at hd
  exact ⟨World.ownsRow_nil _ _ _ _,hk,hd⟩
 ·refine (join_leaf lfb la.EA la.KA la.DA lb.EA lb.KA lb.DA es.length la.ec ks.length la.kc ds.length la.dc es2.length lb.ec ks2.length lb.kc ds2.length lb.dc (es ++ es2).length (by simp) (es.flatMap enC) (es2.flatMap enC) (flatV_len lenEnC _) (flatV_len lenEnC _) (flat_one enC_one _) (flat_one enC_one _) (by simp;omega) w hA.e.cells hB.e.cells).mono ?_
  rintro e w' ⟨⟨A,c,rfl,hk⟩,hb⟩
  refine ⟨⟨⟨A,c,none,0,none,0⟩,rfl,?_⟩,hb⟩
  rw [← List.flatMap_append] at hk
  exact ⟨hk,World.ownsRow_nil _ _ _ _,World.ownsRow_nil _ _ _ _⟩
end Go.Proofs.YtgkddhncfaeidaaGreat
