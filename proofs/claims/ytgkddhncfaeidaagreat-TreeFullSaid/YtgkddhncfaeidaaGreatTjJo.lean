/- Squeezed: the texts as they are written lie in wip/tpl. -/
import Derived.Test.YtgkddhncfaeidaaGreatTjFm
import Derived.Test.YtgkddhncfaeidaaGreatTiWy
set_option maxRecDepth 100000
set_option maxHeartbeats 8000000
set_option linter.unusedSimpArgs false
set_option linter.unusedVariables false
namespace Go.Proofs.YtgkddhncfaeidaaGreat
set_option linter.unnecessarySimpa false
open Go.RowKit Go.ChangeShapes Go.WideShapes Go.ChangeAt CrcM PageM
theorem results_cell_tmp4 {P:Program} {fn:Func} {p u v x:Tmp} {ty:TypeId} (h:fn.results=#[.cell p ty,.tmp u,.tmp v,.tmp x]) (tmps:Array Value) (w:World) (g:Nat) (t:TypeId) (cs:Array Value) (fr:Nat × Nat) (d:TypeDesc)
 (hp:tmps.getD p undef=.pointer (some ⟨g,0,none⟩)) (hg:w.heap[g]?=some (.cells cs t fr))
 (hu:P.underlying ty=some d) (hd:(match d with | .struct _ | .array _ _=>true | _=>false)=true) (hi:(P.info? ty).map (·.size)=some cs.size) :
 (results fn tmps).run P w=.ok (.tuple #[.agg cs,tmps.getD u undef,tmps.getD v undef,tmps.getD x undef]) w:=by
 have hp':tmps[p]?.getD undef=.pointer (some ⟨g,0,none⟩):=by simpa using hp
 simp [results,h,hp',asAddr,run_loadVar_row w g t ty cs fr d hg hu hd hi]
theorem outX_of_row {X:Nat→Prop} {w w1:World} {g:Nat} (h:OuterX X w w1) (hg:w.heap.size≤g) (C:Array Value):OuterX X w (w1.setRow g C) :=
 ⟨h.os,h.tape,h.output,by simpa using h.size,fun k hk hX=>(setRow_other w1 g k C (by omega)).trans (h.block k hk hX)⟩
theorem keepT_row {w:World} {g:Nat} {cs:Array Value} {T:TypeId} {fr:Nat × Nat} (hg:w.heap[g]?=some (.cells cs T fr)) (C:Array Value) {base:Nat} {n:NodeD} {l:NdL} (h:OwnN w base n l) (h1:T≠40) (h2:T≠38) (h3:T≠3):OwnN (w.setRow g C) base n l :=
 h.keepT fun b cs' T' fr' hb _ hT=>setRow_other w g b C (fun e=>by
  subst e
  rw [hg] at hb
  cases hb
  rcases hT with rfl | rfl | rfl
  ·exact h1 rfl
  ·exact h2 rfl
  ·exact h3 rfl)
def esMid (parts:List PartD) (r:Nat) (E0:List EntD) (f t:Nat):List EntD:=esOf ((parts.take r).drop f) ++ E0 ++ esOf ((parts.take t).drop (r+1))
theorem esMid_one (parts:List PartD) (r:Nat) (E0:List EntD):esMid parts r E0 r (r+1)=E0:=by
 unfold esMid
 rw [List.drop_eq_nil_of_le (by rw [List.length_take];omega),List.drop_eq_nil_of_le (by rw [List.length_take];omega)]
 simp [esOf]
theorem esMid_right {parts:List PartD} {r f t:Nat} {E0:List EntD} {x:PartD} (hx:parts[t]?=some x) (hrt:r<t):esMid parts r E0 f (t+1)=esMid parts r E0 f t ++ x.2.2:=by
 unfold esMid
 have hlt:=(List.getElem?_eq_some_iff.1 hx).1
 rw [take_snoc hx,List.drop_append_of_le_length (by rw [List.length_take];omega),esOf_append,← List.append_assoc]
 simp [esOf]
theorem esMid_left {parts:List PartD} {r f t:Nat} {E0:List EntD} {x:PartD} (hx:parts[f]?=some x) (hfr:f<r) (hr:r≤parts.length):esMid parts r E0 f t=x.2.2 ++ esMid parts r E0 (f+1) t:=by
 unfold esMid
 have hlt:=(List.getElem?_eq_some_iff.1 hx).1
 have e:(parts.take r).drop f=x :: (parts.take r).drop (f+1):=by
  rw [List.drop_eq_getElem_cons (by rw [List.length_take];omega),List.getElem_take]
  rw [(List.getElem?_eq_some_iff.1 hx).2]
 rw [e]
 simp [esOf]
structure JoW (w wr:World) (gc gv p:Nat) (V:List Bool) (lv:Value) (rn:Nat→NodeD→Prop) (Sm:Nat→Nat→NodeD→NdL→List Bool→Prop) (z h r:Nat) (parts:List PartD) (E0:List EntD) (m:Nat) (bs:List Nat) (b5:Nat) (f t:Nat) (n:NodeD) (l:NdL) (U:List Bool) (bo:Nat):Prop where
 own:OwnN wr bo n l
 box:wr.heap[b5]?=some (.cells #[.bool n.leaf,.slice l.EA n.es.length l.ec,.slice l.KA n.ks.length l.kc,.slice l.DA n.ds.length l.dc] 86 (0,0))
 chg:ChgAt wr gc gv (p:Int) U V lv
 fit:FitU p V U m bs
 out:OuterX (fun k=>k=gc) w wr
 fr:f≤r
 rt:r<t
 tm:t≤parts.length
 tre:TrO rn h n (esMid parts r E0 f t)
 big:n.size≤2*capN n.leaf
 one:t=f+1→n.size≤z
 same:Sm f t n l U
theorem JoW.below {w wr w':World} {gc gv p:Nat} {V:List Bool} {lv:Value} {rn:Nat→NodeD→Prop} {Sm:Nat→Nat→NodeD→NdL→List Bool→Prop} {z h r:Nat} {parts:List PartD} {E0:List EntD} {m:Nat} {bs:List Nat} {b5 f t:Nat} {n:NodeD} {l:NdL} {U:List Bool} {bo:Nat} (j:JoW w wr gc gv p V lv rn Sm z h r parts E0 m bs b5 f t n l U bo) (hb:Below wr.heap.size wr w'):JoW w w' gc gv p V lv rn Sm z h r parts E0 m bs b5 f t n l U bo :=
 { j with own:=j.own.below hb,box:=row_stays j.box hb,chg:=j.chg.below hb,out:=outX_trans j.out (outerX_of_below hb) }
theorem clean_small {n:NodeD} (h:cleanN n):n.es.length≤n.size∧n.ks.length≤n.size∧n.ds.length≤n.size:=by
 unfold cleanN at h
 unfold NodeD.size
 split at h
 ·rename_i hl
  rw [if_pos hl,h.1,h.2]
  simp
 ·rename_i hl
  rw [if_neg hl,h.1,h.2]
  simp
theorem ok_size {n:NodeD} (h:okNode n):1≤n.size∧n.size≤capN n.leaf:=by
 unfold okNode at h
 unfold NodeD.size capN
 split at h
 ·rename_i hl
  rw [if_pos hl,if_pos hl]
  exact ⟨h.2.2.1,h.2.2.2.1⟩
 ·rename_i hl
  rw [if_neg hl,if_neg hl,← h.2.1]
  exact ⟨h.2.2.1.1,h.2.2.1.2.1⟩
theorem few_size {n:NodeD} (h:fewB n=true):n.size+1≤leastN n.leaf:=by
 unfold fewB at h
 unfold NodeD.size leastN
 split at h
 ·rename_i hl
  rw [if_pos hl,if_pos hl]
  have:=of_decide_eq_true h
  omega
 ·rename_i hl
  rw [if_neg hl,if_neg hl]
  have:=of_decide_eq_true h
  omega
theorem capN_le (b:Bool):leastN b≤capN b∧capN b≤16∧leastN b≤8:=by cases b <;> decide
theorem joined_any (gc gv g gen p h:Nat) (U Uv Vv V:List Bool) (lv:Value) {B N gs gn Ls cs cn:Nat} {rw:Value} {st nw:List UInt8} {ws:List (Nat × List UInt8)} (s:StepM) (n0:NodeD) (l0:NdL) (rd rn:Nat→NodeD→Prop) (parts:List PartD) (E0:List EntD) (m:Nat) (bs:List Nat) (bo b1:Nat)
 (hrd:∀ a n,rd a n→rdQ nw Ls a n∧2≤a∧a<p∧V.getD a false=true) (hrn:∀ a n,rd a n→rn a n)
 (hds:s.s.n.ds=parts.map (fun x=>kidI x.1)) (hp:∀ x ∈ parts,rd x.1 x.2.1∧Tre rd h x.2.1 x.2.2∧1≤x.2.2.length) (hr:s.s.at_<parts.length) (hm:parts.length≤16)
 (ht:TrO rn h n0 E0) (hn0:n0.size≤capN n0.leaf+1) (hV:V.length=512) (hf:FitU p V U m bs) (w:World) (hc:ChgAt w gc gv (p:Int) U V lv) (hv:ViewAt w gv g gen (p:Int) Uv Vv) (hd:Dk w B N g gs gn rw Ls cs cn st nw ws true (-1)) (hsn:OwnN w b1 s.s.n s.l) (hnn:OwnN w bo n0 l0) :
 Calls Tryz.prog 91 #[.pointer (some ⟨gc,0,none⟩),.agg (stC s).toArray,.agg #[.bool n0.leaf,.slice l0.EA n0.es.length l0.ec,.slice l0.KA n0.ks.length l0.kc,.slice l0.DA n0.ds.length l0.dc]] w fun e w'=>∃ (n':NodeD) (l':NdL) (f t bo' b5:Nat) (U':List Bool),e=.returned (.tuple #[.agg #[.bool n'.leaf,.slice l'.EA n'.es.length l'.ec,.slice l'.KA n'.ks.length l'.kc,.slice l'.DA n'.ds.length l'.dc],.int .i64 (f:Int),.int .i64 (t:Int),.int .i64 0]) ∧
  JoW w w' gc gv p V lv rn (fun f t n' l' U'=>fewB n0=false→f=s.s.at_∧t=s.s.at_+1∧n'=n0∧l'=l0∧U'=U) n0.size h s.s.at_ parts E0 m bs b5 f t n' l' U' bo':=by
 obtain ⟨⟨a,M,r⟩,l⟩:=s
 dsimp only [stC] at hds hr hsn ⊢
 obtain ⟨Sm,hSm⟩:∃ Sm:Nat→Nat→NodeD→NdL→List Bool→Prop,Sm=fun f t n' l' U'=>fewB n0=false→f=r∧t=r+1∧n'=n0∧l'=l0∧U'=U:=⟨_,rfl⟩
 rw [← hSm]
 have HSM0:Hid (Sm r (r+1) n0 l0 U):=Lib.hid (by rw [hSm];exact fun _=>⟨rfl,rfl,rfl,rfl,rfl⟩)
 have HNO:Hid (∀ f t n' l' U',fewB n'=true→Sm f t n' l' U'→∀ f2 t2 n2 l2 U2,Sm f2 t2 n2 l2 U2):=Lib.hid (fun f t n' l' U' h1 h2 f2 t2 n2 l2 U2=>by
  rw [hSm] at h2 ⊢
  intro h3
  obtain ⟨_,_,rfl,_,_⟩:=h2 h3
  rw [h1] at h3
  cases h3)
 clear hSm
 obtain ⟨q,hq⟩:∃ q,parts.length=q:=⟨_,rfl⟩
 have HQ:=Lib.hid hq
 have HND:Hid (M.ds.length=q):=Lib.hid (by rw [hds,List.length_map];exact hq)
 obtain ⟨ne,hne⟩:∃ ne,ne=M.es.length:=⟨_,rfl⟩
 obtain ⟨nk,hnk⟩:∃ nk,nk=M.ks.length:=⟨_,rfl⟩
 obtain ⟨lfN,hlfN⟩:∃ lfN,lfN=M.leaf:=⟨_,rfl⟩
 rw [HND.out,← hne,← hnk,← hlfN]
 rw [hq] at hr hm
 clear hq hne hnk hlfN
 have HRD:=Lib.hid hrd
 have HRN:=Lib.hid hrn
 have HDS:=Lib.hid hds
 have HP:=Lib.hid hp
 have HV:=Lib.hid hV
 have HVW:=Lib.hid hv
 have HD:=Lib.hid hd
 have HSN:=Lib.hid hsn
 have HC:=Lib.hid hc
 have HB0:Hid (∀ W,OuterX (fun k=>k=gc) w W→OwnN W b1 M l∧ViewAt W gv g gen (p:Int) Uv Vv∧Dk W B N g gs gn rw Ls cs cn st nw ws true (-1)):=Lib.hid (fun W hW=>⟨hsn.offgc hc hW,hv.offgc hc hW,hd.offgc hc hW⟩)
 go_enter Tryz.func91,Tryz.ntmps91
 go_upto_region 1 with fail
 obtain ⟨w3,hw3⟩:∃ w3,w3=((w.alloc (.cells #[.int .i64 (a:Int),.bool lfN,.slice l.EA ne l.ec,.slice l.KA nk l.kc,.slice l.DA q l.dc,.int .i64 (r:Int)] 96)).alloc (.cells #[.bool n0.leaf,.slice l0.EA n0.es.length l0.ec,.slice l0.KA n0.ks.length l0.kc,.slice l0.DA n0.ds.length l0.dc] 86)).alloc (.cells #[.bool false,.slice none 0 0,.slice none 0 0,.slice none 0 0] 86):=⟨_,rfl⟩
 have A4:Hid (w3.heap[w.heap.size]?=some (.cells #[.int .i64 (a:Int),.bool lfN,.slice l.EA ne l.ec,.slice l.KA nk l.kc,.slice l.DA q l.dc,.int .i64 (r:Int)] 96 (0,0))):=Lib.hid (by
  rw [hw3]
  exact row_stays (row_stays (heap_alloc_new w _) (alloc_bel rfl)) (alloc_bel rfl))
 have A5:Hid (w3.heap[w.heap.size+1]?=some (.cells #[.bool n0.leaf,.slice l0.EA n0.es.length l0.ec,.slice l0.KA n0.ks.length l0.kc,.slice l0.DA n0.ds.length l0.dc] 86 (0,0))):=Lib.hid (by
  rw [hw3]
  have h1:=heap_alloc_new (w.alloc (.cells #[.int .i64 (a:Int),.bool lfN,.slice l.EA ne l.ec,.slice l.KA nk l.kc,.slice l.DA q l.dc,.int .i64 (r:Int)] 96)) (.cells #[.bool n0.leaf,.slice l0.EA n0.es.length l0.ec,.slice l0.KA n0.ks.length l0.kc,.slice l0.DA n0.ds.length l0.dc] 86)
  rw [World.size_alloc] at h1
  exact row_stays h1 (alloc_bel rfl))
 have A6:Hid (w3.heap[w.heap.size+1+1]?=some (.cells #[.bool false,.slice none 0 0,.slice none 0 0,.slice none 0 0] 86 (0,0))):=Lib.hid (by
  rw [hw3]
  have h1:=heap_alloc_new ((w.alloc (.cells #[.int .i64 (a:Int),.bool lfN,.slice l.EA ne l.ec,.slice l.KA nk l.kc,.slice l.DA q l.dc,.int .i64 (r:Int)] 96)).alloc (.cells #[.bool n0.leaf,.slice l0.EA n0.es.length l0.ec,.slice l0.KA n0.ks.length l0.kc,.slice l0.DA n0.ds.length l0.dc] 86)) (.cells #[.bool false,.slice none 0 0,.slice none 0 0,.slice none 0 0] 86)
  rw [World.size_alloc,World.size_alloc] at h1
  exact h1)
 have B3:Hid (Below w.heap.size w w3):=Lib.hid (by
  rw [hw3]
  exact (((Below.refl _ w).alloc (Nat.le_refl _) _).alloc (by simp) _).alloc (by simp;omega) _)
 rw [← hw3]
 clear hw3
 obtain ⟨b4,hb4⟩:∃ b4,b4=w.heap.size:=⟨_,rfl⟩
 obtain ⟨b5,hb5⟩:∃ b5,b5=w.heap.size+1:=⟨_,rfl⟩
 obtain ⟨b6,hb6⟩:∃ b6,b6=w.heap.size+1+1:=⟨_,rfl⟩
 rw [← hb4] at A4
 rw [← hb5] at A5
 rw [← hb6] at A6
 rw [← hb6,← hb5,← hb4]
 have HB4:=Lib.hid hb4
 have HB5:=Lib.hid hb5
 have HB6:=Lib.hid hb6
 have HST:Hid (JoW w w3 gc gv p V lv rn Sm n0.size h r parts E0 m bs b5 r (r+1) n0 l0 U bo):=Lib.hid { own:=hnn.below B3.out,box:=A5.out,chg:=hc.below B3.out,fit:=hf,out:=outerX_of_below B3.out,fr:=Nat.le_refl _,rt:=Nat.lt_succ_self _,tm:=by rw [HQ.out];omega,tre:=by rw [esMid_one];exact ht,big:=by have h1:1≤capN n0.leaf:=(by cases n0.leaf <;> decide);omega,one:=fun _=>Nat.le_refl _,same:=HSM0.out }
 clear hb4 hb5 hb6 hc hv hd hsn hnn hf ht hn0 hV hrd hrn hds hp A5
 refine region_below w3.heap.size w3 (Below.refl _ _) (by kernel_rfl) (by kernel_rfl) ?_
 have f5:∀ y:SubW w3.heap.size w3,y.at_.cell? ⟨b4,5,none⟩=some (.int .i64 (r:Int)):=fun y=>nd_cell (row_stays A4.out y.ok_) 5 _ rfl
 have hrw:wrap64 ((r:Int)+1)=((r+1:Nat):Int):=by unfold wrap64;omega
 repeat (go_big_quiet_step (fail))
 refine wpQuiet_nil ?_
 rintro w' ⟨y,rfl⟩
 obtain ⟨w4,hw4⟩:∃ w4,w4=y.at_:=⟨_,rfl⟩
 have B4:Hid (Below w3.heap.size w3 w4):=Lib.hid (by rw [hw4];exact y.ok_)
 rw [← hw4]
 clear hw4 f5
 have HS4:=Lib.hid (HST.out.below B4.out)
 have K4:=Lib.hid (row_stays A4.out B4.out)
 have K6:=Lib.hid (row_stays A6.out B4.out)
 clear HST A4 A6 B4
 go_wp2_with fail
 go_loopw [10,11] (fun fv tv wr=>∃ (f t bo:Nat) (n:NodeD) (l':NdL) (U:List Bool),fv=.int .i64 (f:Int)∧tv=.int .i64 (t:Int)∧Hid (JoW w wr gc gv p V lv rn Sm n0.size h r parts E0 m bs b5 f t n l' U bo∧wr.heap[b4]?=some (.cells #[.int .i64 (a:Int),.bool lfN,.slice l.EA ne l.ec,.slice l.KA nk l.kc,.slice l.DA q l.dc,.int .i64 (r:Int)] 96 (0,0))∧wr.heap[b6]?=some (.cells #[.bool false,.slice none 0 0,.slice none 0 0,.slice none 0 0] 86 (0,0))))
  (fun fv tv _=>q - (intOf tv - intOf fv).toNat)
 case atStart=>exact ⟨r,r+1,bo,n0,l0,U,rfl,by first | rfl | go_num,Lib.hid ⟨HS4.out,K4.out,K6.out⟩⟩
 case round =>
  clear HS4 K4 K6
  obtain ⟨f,t,bo,n,l',U,rfl,rfl,HR⟩:=hrel
  have HJ:=Lib.hid HR.out.1
  have K4:=Lib.hid HR.out.2.1
  have K6:=Lib.hid HR.out.2.2
  clear HR
  have HFW:=Lib.hid (fun W=>few_any n l' W)
  have hft:(f:Int)<(t:Int):=by have:=HJ.out.fr;have:=HJ.out.rt;omega
  have htq:(t:Int)≤(q:Int):=by have:=HJ.out.tm;have:=HQ.out;omega
  have hw1:wrap64 ((t:Int) - (f:Int))=(t:Int) - (f:Int):=by unfold wrap64;omega
  cases hfw:fewB n with
  | false =>
    rw [hfw] at HFW
    go_upto_region 14 with (first
     | (refine wpList_load_row rfl 86 (.tmp 5) rfl b5 rfl 86 _ (0,0) _ HJ.out.box Tryz.underlying86 rfl (by kernel_rfl) ?_)
     | (go_at_call 126;refine (HFW.out _).mono ?_;rintro e x1 ⟨rfl,hb1⟩;have z4:=nd_cell (row_stays K4.out hb1) 4 (.slice l.DA q l.dc) rfl;have J1:=Lib.hid (HJ.out.below hb1);have K61:=Lib.hid (row_stays K6.out hb1);clear hb1))
    clear z4
    obtain ⟨cc,hcc⟩:∃ cc:Array Value,cc=#[.bool n.leaf,.slice l'.EA n.es.length l'.ec,.slice l'.KA n.ks.length l'.kc,.slice l'.DA n.ds.length l'.dc]:=⟨_,rfl⟩
    have CC1:Hid ((Tryz.prog.info? 86).map (·.size)=some cc.size):=Lib.hid (by rw [hcc];kernel_rfl)
    have CC2:Hid ((#[.bool false,.slice none 0 0,.slice none 0 0,.slice none 0 0]:Array Value).size=cc.size):=Lib.hid (by rw [hcc];rfl)
    have CC3:Hid (cc.all (·.oneCell')=true):=Lib.hid (by rw [hcc];simp [Value.oneCell'])
    have JB:Hid (x1.heap[b5]?=some (.cells cc 86 (0,0))):=Lib.hid (by rw [hcc];exact J1.out.box)
    have HCC:=Lib.hid hcc
    clear hcc
    go_wp2_with (first
     | (refine wpList_load_row rfl 86 (.tmp 5) rfl b5 rfl 86 cc (0,0) _ JB.out Tryz.underlying86 rfl CC1.out ?_)
     | (refine wpList_store_row rfl 86 (.tmp 6) (.tmp 81) rfl b6 cc rfl rfl 86 _ K61.out CC1.out CC2.out CC3.out ?_))
    refine bodyPost_ret (v:=.tuple #[.agg cc,.int .i64 (f:Int),.int .i64 (t:Int),.int .i64 0]) (results_cell_tmp4 (p:=6) (u:=7) (v:=8) (x:=9) (ty:=86) rfl _ _ b6 86 cc (0,0) _ rfl (setRow_heap _ _ _ _ _ _ K61.out) Tryz.underlying86 rfl CC1.out) rfl ?_
    refine ⟨n,l',f,t,bo,b5,U,by rw [HCC.out],?_⟩
    have j1:=J1.out
    have h56:b5≠b6:=by have:=HB5.out;have:=HB6.out;omega
    exact { j1 with own:=keepT_row K61.out cc j1.own (by decide) (by decide) (by decide),box:=(setRow_other _ b6 b5 cc h56).trans j1.box,chg:=j1.chg.keep (setRow_other _ b6 gc cc (fun e=>row_ne_typed j1.chg e.symm K61.out (by decide))),out:=outX_of_row j1.out (by have:=HB6.out;omega) cc }
  | true =>
    have HNX:=Lib.hid (HNO.out _ _ _ _ _ hfw HJ.out.same)
    rw [hfw] at HFW
    by_cases hlt:t - f<q
    ·have hlt':decide ((t:Int) - (f:Int)<(q:Int))=true:=by simp;omega
     by_cases hla:t=q
     ·obtain ⟨bi,hbi⟩:∃ bi,f=bi+1:=⟨f - 1,by have:=HJ.out.rt;omega⟩
      subst hbi
      obtain rfl:t=q:=hla
      have hbw:wrap64 (((bi+1:Nat):Int) - 1)=(bi:Int):=by unfold wrap64;omega
      have hlq:((t:Int) == (t:Int))=true:=by simp
      have hbq:bi<t:=by omega
      have hzb:0≤(bi:Int):=by omega
      have hzc:(bi:Int)<(t:Int):=by omega
      obtain ⟨x,hx⟩:∃ x,parts[bi]?=some x:=⟨_,List.getElem?_eq_getElem (by rw [HQ.out];exact hbq)⟩
      have HX:=Lib.hid hx
      have HPX:=Lib.hid (HP.out x (List.mem_of_getElem? hx))
      have HXR:=Lib.hid (HRD.out _ _ HPX.out.1)
      have HLX:Hid (n.leaf=x.2.1.leaf):=Lib.hid (HJ.out.tre.leaf.trans HPX.out.2.1.leaf.symm)
      have hdx:M.ds[bi]?=some ((x.1:Nat):Int):=by rw [HDS.out,List.getElem?_map,hx];rfl
      obtain ⟨bd,od,hDA,hcd⟩:=HSN.out.at.d (by intro e;rw [e] at hdx;simp at hdx)
      have HCD:Hid (∀ W,OuterX (fun k=>k=gc) w W→W.cell? ⟨bd,od+bi,none⟩=some (.int .i64 ((x.1:Nat):Int))):=Lib.hid (fun W hW=>by
       obtain ⟨b',o',h1,h2⟩:=(HB0.out W hW).1.at.d (by intro e;rw [e] at hdx;simp at hdx)
       rw [hDA] at h1
       cases h1
       exact h2 bi _ hdx)
      have HDA:=Lib.hid hDA
      clear hx hdx hcd
      have HNN:Hid (∀ W,OuterX (fun k=>k=gc) w W→Calls Tryz.prog 57 #[.pointer (some ⟨gv,0,none⟩),.int .i64 ((x.1:Nat):Int),.bool n.leaf] W fun e w'=>(∃ (lx:NdL),e=.returned (.tuple #[.agg #[.bool x.2.1.leaf,.slice lx.EA x.2.1.es.length lx.ec,.slice lx.KA x.2.1.ks.length lx.kc,.slice lx.DA x.2.1.ds.length lx.dc],.int .i64 0])∧∃ bx,OwnN w' bx x.2.1 lx)∧Below W.heap.size W w'):=Lib.hid (fun W hW=>by
       obtain ⟨⟨k1,k2,k3,gg,k4,k5⟩,_⟩:=HXR.out
       refine (node_yes gv g gen p x.1 gg Uv Vv x.2.1 k1 k2 k3 k4 k5 n.leaf HLX.out _ rfl W (HB0.out W hW).2.1 (HB0.out W hW).2.2).mono ?_
       rintro e w' ⟨⟨lx,rfl,_,hn⟩,hb⟩
       exact ⟨⟨lx,rfl,_,hn.own⟩,hb⟩)
      rw [hDA] at K4
      clear hDA
      go_upto_region 7 with (first
       | (refine wpList_load_row rfl 86 (.tmp 5) rfl b5 rfl 86 _ (0,0) _ HJ.out.box Tryz.underlying86 rfl (by kernel_rfl) ?_)
       | (go_at_call 126;refine (HFW.out _).mono ?_;rintro e x1 ⟨rfl,hb1⟩;have z4:=nd_cell (row_stays K4.out hb1) 4 (.slice (some ⟨bd,od,none⟩) t l.dc) rfl;have J1:=Lib.hid (HJ.out.below hb1);have K41:=Lib.hid (row_stays K4.out hb1);have K61:=Lib.hid (row_stays K6.out hb1);clear hb1))
      clear z4
      have HBX:=Lib.hid (HJ.out.out)
      have f1:∀ y:SubW x1.heap.size x1,y.at_.cell? ⟨gc,0,none⟩=some (.pointer (some ⟨gv,0,none⟩)):=fun y=>(J1.out.chg.below y.ok_).cv
      have f2:∀ y:SubW x1.heap.size x1,y.at_.cell? ⟨b4,4,none⟩=some (.slice (some ⟨bd,od,none⟩) t l.dc):=fun y=>nd_cell (row_stays K41.out y.ok_) 4 _ rfl
      have f3:∀ y:SubW x1.heap.size x1,y.at_.cell? ⟨bd,od+bi,none⟩=some (.int .i64 ((x.1:Nat):Int)):=fun y=>HCD.out _ (outX_trans J1.out.out (outerX_of_below y.ok_))
      have f4:∀ y:SubW x1.heap.size x1,y.at_.cell? ⟨b5,0,none⟩=some (.bool n.leaf):=fun y=>nd_cell (row_stays J1.out.box y.ok_) 0 _ rfl
      refine region_ways4 x1.heap.size (Nat.le_refl _) (.two [0,1,2,3,4,5,6,7,8,9,10,11] 12 (.one [13,14,15] 16 (.one [] 17 (.done [18]))) 16 (.one [] 12 (.one [13,14,15] 17 (.done [18])))) (by kernel_rfl) (by kernel_rfl) ?_
      rintro wd hbd
      have BD:=Lib.hid hbd
      clear hbd
      rw [wpWays_two4]
      try simp only [List.map_cons,List.map_nil,opAt,List.getElem?_toArray,List.getElem?_cons_zero,List.getElem?_cons_succ,Option.getD_some]
      repeat (first
       | go_big_quiet_step (fail))
      refine wpQuiet_nil ⟨?_,?_⟩
      ·go_wp2_with (go_at_call 57;refine (HNN.out _ (outX_trans J1.out.out (outerX_of_below BD.out))).mono ?_;rintro e x2 ⟨⟨lx,rfl,bx,hn2⟩,hb2⟩;have O2:=Lib.hid hn2;have HB2:=Lib.hid hb2;have B5:=Lib.hid (BD.out.trans (hb2.mono BD.out.size));clear hn2 hb2)
       refine ⟨⟨⟨_,B5.out⟩,rfl⟩,?_⟩
       try simp only [Act.put,List.setIfInBounds_toArray,List.set_cons_zero,List.set_cons_succ]
       rw [wpWays_one4]
       try simp only [List.map_cons,List.map_nil,opAt,List.getElem?_toArray,List.getElem?_cons_zero,List.getElem?_cons_succ,Option.getD_some]
       repeat (first
        | go_big_quiet_step (fail))
       refine wpQuiet_nil ?_
       go_wp2_with fail
       obtain ⟨qa,hqa⟩:∃ qa,qa=x2.heap.size:=⟨_,rfl⟩
       obtain ⟨wa,hwa⟩:∃ wa,wa=World.alloc x2 (.cells #[.bool false,.slice none 0 0,.slice none 0 0,.slice none 0 0] 86):=⟨_,rfl⟩
       have GA:Hid (wa.heap[qa]?=some (.cells #[.bool false,.slice none 0 0,.slice none 0 0,.slice none 0 0] 86 (0,0))):=Lib.hid (by rw [hwa,hqa];exact heap_alloc_new _ _)
       have AB:=Lib.hid (alloc_bel hwa)
       have B6:=Lib.hid (B5.out.trans (AB.out.mono B5.out.size))
       have QL:Hid (x1.heap.size≤qa):=Lib.hid (by rw [hqa];exact B5.out.size)
       rw [← hwa,← hqa]
       clear hwa hqa
       refine ⟨⟨⟨_,B6.out⟩,rfl⟩,?_⟩
       try simp only [Act.put,List.setIfInBounds_toArray,List.set_cons_zero,List.set_cons_succ]
       have OA:=Lib.hid (O2.out.below AB.out)
       rw [wpWays_one4]
       try simp only [List.map_cons,List.map_nil,opAt,List.getElem?_toArray,List.getElem?_cons_zero,List.getElem?_cons_succ,Option.getD_some]
       refine wpQuiet_nil ?_
       obtain ⟨cc,hcc⟩:∃ cc:Array Value,cc=#[.bool x.2.1.leaf,.slice lx.EA x.2.1.es.length lx.ec,.slice lx.KA x.2.1.ks.length lx.kc,.slice lx.DA x.2.1.ds.length lx.dc]:=⟨_,rfl⟩
       rw [← hcc]
       have S1:Hid ((Tryz.prog.info? 86).map (·.size)=some cc.size):=Lib.hid (by subst hcc;kernel_rfl)
       have S2:Hid ((#[.bool false,.slice none 0 0,.slice none 0 0,.slice none 0 0]:Array Value).size=cc.size):=Lib.hid (by subst hcc;rfl)
       have S3:Hid (cc.all (·.oneCell')=true):=Lib.hid (by subst hcc;simp [Value.oneCell'])
       have HCC:=Lib.hid hcc
       clear hcc
       go_wp2_with (refine wpList_store_row rfl 86 (.tmp 14) (.tmp 57) rfl qa cc rfl rfl 86 _ GA.out S1.out S2.out S3.out ?_)
       have BS:=Lib.hid (below_setRow B6.out QL.out cc)
       have GS:=Lib.hid (setRow_heap _ qa _ cc _ _ GA.out)
       have OS:=Lib.hid (keepT_row GA.out cc OA.out (by decide) (by decide) (by decide))
       refine ⟨⟨⟨_,BS.out⟩,rfl⟩,?_⟩
       try simp only [Act.put,List.setIfInBounds_toArray,List.set_cons_zero,List.set_cons_succ]
       rw [wpWays_done4]
       try simp only [List.map_cons,List.map_nil,opAt,List.getElem?_toArray,List.getElem?_cons_zero,List.getElem?_cons_succ,Option.getD_some]
       repeat (first
        | go_big_quiet_step (fail))
       refine wpQuiet_nil ?_
       obtain ⟨xs,hxs⟩:∃ xs,xs=World.setRow wa qa cc:=⟨_,rfl⟩
       rw [← hxs] at BS GS OS ⊢
       clear hxs
       have J2:=Lib.hid (J1.out.below BS.out)
       have K42:=Lib.hid (row_stays K41.out BS.out)
       have K62:=Lib.hid (row_stays K61.out BS.out)
       have z4:=nd_cell K42.out 4 (.slice (some ⟨bd,od,none⟩) t l.dc) rfl
       have z5:=HCD.out xs J2.out.out
       have HGV:=Lib.hid (give_any gc gv p U V lv HJ.out.fit.len HV.out HJ.out.fit.ok x.1 HXR.out.2.1 HXR.out.2.2.1 xs J2.out.chg)
       go_upto_region 11 with (go_at_call 59;refine HGV.out.mono ?_;rintro e x4 ⟨rfl,hc4,ho4⟩;have C4:=Lib.hid hc4;have O4:=Lib.hid ho4;clear hc4 ho4)
       clear z4 z5
       have GS4':x4.heap[qa]?=some (.cells #[.bool x.2.1.leaf,.slice lx.EA x.2.1.es.length lx.ec,.slice lx.KA x.2.1.ks.length lx.kc,.slice lx.DA x.2.1.ds.length lx.dc] 86 (0,0)):=by
        have h1:=row_off GS.out (by decide) J2.out.chg O4.out
        rw [HCC.out] at h1
        exact h1
       have GS4:=Lib.hid GS4'
       have JB4:=Lib.hid (row_off J2.out.box (by decide) J2.out.chg O4.out)
       have K44:=Lib.hid (row_off K42.out (by decide) J2.out.chg O4.out)
       have K64:=Lib.hid (row_off K62.out (by decide) J2.out.chg O4.out)
       have OX4:=Lib.hid (OS.out.offgc J2.out.chg O4.out)
       have ON4:=Lib.hid (J2.out.own.offgc J2.out.chg O4.out)
       have OW4:=Lib.hid (outX_trans J2.out.out O4.out)
       have FT4:=Lib.hid (HJ.out.fit.give HXR.out.2.1 HXR.out.2.2.1 HXR.out.2.2.2)
       have SM:Hid (x.2.1.es.length+n.es.length≤1000000000∧x.2.1.ks.length+n.ks.length≤1000000000∧x.2.1.ds.length+n.ds.length≤1000000000):=Lib.hid (by
        have h1:=clean_small HJ.out.tre.clean
        have h2:=clean_small HPX.out.2.1.o.clean
        have h3:=HJ.out.big
        have h4:=(ok_size HXR.out.1.1).2
        have h5:=capN_le x.2.1.leaf
        have h6:=capN_le n.leaf
        omega)
       clear GS4' J1 J2 K41 K42 K61 K62 GS S1 S2 S3 HCC OS BS
       have HJN:=Lib.hid (join_own x.2.1 n lx l' x4 OX4.out.at ON4.out.at SM.out.1 SM.out.2.1 SM.out.2.2)
       obtain ⟨nn,hnn⟩:∃ nn,nn=joinD x.2.1 n:=⟨_,rfl⟩
       rw [← hnn] at HJN
       have HTN:Hid (TrO rn h nn (esMid parts r E0 bi t)):=Lib.hid (by
        rw [hnn,esMid_left HX.out (by have:=HJ.out.fr;omega) (by have:=HJ.out.rt;have:=HJ.out.tm;omega)]
        exact TrO.join (Tre.mono HRN.out HPX.out.2.1).o HJ.out.tre)
       have HSZ:Hid (nn.size≤2*capN nn.leaf):=Lib.hid (by
        obtain ⟨h1,h2⟩:=size_join x.2.1 n HLX.out.symm
        rw [hnn,h1,h2]
        have h3:=few_size hfw
        have h4:=(ok_size HXR.out.1.1).2
        have h5:=capN_le x.2.1.leaf
        rw [HLX.out] at h3
        omega)
       clear hnn
       go_upto_region 14 with (first
        | (refine wpList_load_row rfl 86 (.tmp 14) rfl qa rfl 86 _ (0,0) _ GS4.out Tryz.underlying86 rfl (by kernel_rfl) ?_)
        | (refine wpList_load_row rfl 86 (.tmp 5) rfl b5 rfl 86 _ (0,0) _ JB4.out Tryz.underlying86 rfl (by kernel_rfl) ?_)
        | (go_at_call 127;refine HJN.out.mono ?_;rintro e x5 ⟨⟨lj,rfl,hn5⟩,hb5⟩;have ON5:=Lib.hid hn5;have X5:=Lib.hid hb5;have JB5:=Lib.hid (row_stays JB4.out hb5);clear hn5 hb5)
        | (refine wpList_store_row rfl 86 (.tmp 5) (.tmp 74) rfl b5 #[.bool nn.leaf,.slice lj.EA nn.es.length lj.ec,.slice lj.KA nn.ks.length lj.kc,.slice lj.DA nn.ds.length lj.dc] rfl rfl 86 _ JB5.out (by kernel_rfl) rfl (by simp [Value.oneCell']) ?_))
       obtain ⟨x6,hx6⟩:∃ x6,x6=x5.setRow b5 #[.bool nn.leaf,.slice lj.EA nn.es.length lj.ec,.slice lj.KA nn.ks.length lj.kc,.slice lj.DA nn.ds.length lj.dc]:=⟨_,rfl⟩
       rw [← hx6]
       have h54:b4≠b5:=by have:=HB4.out;have:=HB5.out;omega
       have h56:b6≠b5:=by have:=HB5.out;have:=HB6.out;omega
       have HEND:Hid (JoW w x6 gc gv p V lv rn Sm n0.size h r parts E0 m bs b5 (bi) (t) nn lj (markN U x.1 false 1) x4.heap.size):=Lib.hid (by
        rw [hx6]
        exact { own:=keepT_row JB5.out _ ON5.out (by decide) (by decide) (by decide),box:=setRow_heap _ _ _ _ _ _ JB5.out,chg:=(C4.out.below X5.out).keep (setRow_other _ b5 gc _ (fun e=>row_ne_typed (C4.out.below X5.out) e.symm JB5.out (by decide))),fit:=FT4.out,out:=outX_of_row (outX_trans OW4.out (outerX_of_below X5.out)) (by have:=HB5.out;omega) _,fr:=by have:=HJ.out.fr;omega,rt:=by have:=HJ.out.rt;omega,tm:=by have:=HQ.out;omega,tre:=HTN.out,big:=HSZ.out,one:=fun e=>by have:=HJ.out.fr;have:=HJ.out.rt;omega,same:=HNX.out _ _ _ _ _ })
       have K46:Hid (x6.heap[b4]?=some (.cells #[.int .i64 (a:Int),.bool lfN,.slice l.EA ne l.ec,.slice l.KA nk l.kc,.slice l.DA t l.dc,.int .i64 (r:Int)] 96 (0,0))):=Lib.hid (by
        rw [hx6,HDA.out]
        exact (setRow_other _ b5 b4 _ h54).trans (row_stays K44.out X5.out))
       have K66:Hid (x6.heap[b6]?=some (.cells #[.bool false,.slice none 0 0,.slice none 0 0,.slice none 0 0] 86 (0,0))):=Lib.hid (by
        rw [hx6]
        exact (setRow_other _ b5 b6 _ h56).trans (row_stays K64.out X5.out))
       clear hx6 h54 h56
       go_roundw
       case rel=>exact ⟨bi,t,_,nn,lj,_,rfl,by first | rfl | go_num,Lib.hid ⟨HEND.out,K46.out,K66.out⟩⟩
       case measure=>first | (simp [intOf];done) | (simp [intOf];omega)
      ·go_wp2_with fail
       obtain ⟨qa,hqa⟩:∃ qa,qa=wd.heap.size:=⟨_,rfl⟩
       obtain ⟨wa,hwa⟩:∃ wa,wa=World.alloc wd (.cells #[.bool false,.slice none 0 0,.slice none 0 0,.slice none 0 0] 86):=⟨_,rfl⟩
       have GA:Hid (wa.heap[qa]?=some (.cells #[.bool false,.slice none 0 0,.slice none 0 0,.slice none 0 0] 86 (0,0))):=Lib.hid (by rw [hwa,hqa];exact heap_alloc_new _ _)
       have AB:=Lib.hid (alloc_bel hwa)
       have B5:=Lib.hid (BD.out.trans (AB.out.mono BD.out.size))
       have QL:Hid (x1.heap.size≤qa):=Lib.hid (by rw [hqa];exact BD.out.size)
       rw [← hwa,← hqa]
       clear hwa hqa
       refine ⟨⟨⟨_,B5.out⟩,rfl⟩,?_⟩
       try simp only [Act.put,List.setIfInBounds_toArray,List.set_cons_zero,List.set_cons_succ]
       rw [wpWays_one4]
       try simp only [List.map_cons,List.map_nil,opAt,List.getElem?_toArray,List.getElem?_cons_zero,List.getElem?_cons_succ,Option.getD_some]
       refine wpQuiet_nil ?_
       go_wp2_with (go_at_call 57;refine (HNN.out _ (outX_trans J1.out.out (outerX_of_below B5.out))).mono ?_;rintro e x2 ⟨⟨lx,rfl,bx,hn2⟩,hb2⟩;have O2:=Lib.hid hn2;have HB2:=Lib.hid hb2;have B6:=Lib.hid (B5.out.trans (hb2.mono B5.out.size));clear hn2 hb2)
       refine ⟨⟨⟨_,B6.out⟩,rfl⟩,?_⟩
       try simp only [Act.put,List.setIfInBounds_toArray,List.set_cons_zero,List.set_cons_succ]
       have GA1:=Lib.hid (row_stays GA.out HB2.out)
       clear GA
       have GA:=GA1
       have OA:=O2
       rw [wpWays_one4]
       try simp only [List.map_cons,List.map_nil,opAt,List.getElem?_toArray,List.getElem?_cons_zero,List.getElem?_cons_succ,Option.getD_some]
       repeat (first
        | go_big_quiet_step (fail))
       refine wpQuiet_nil ?_
       obtain ⟨cc,hcc⟩:∃ cc:Array Value,cc=#[.bool x.2.1.leaf,.slice lx.EA x.2.1.es.length lx.ec,.slice lx.KA x.2.1.ks.length lx.kc,.slice lx.DA x.2.1.ds.length lx.dc]:=⟨_,rfl⟩
       rw [← hcc]
       have S1:Hid ((Tryz.prog.info? 86).map (·.size)=some cc.size):=Lib.hid (by subst hcc;kernel_rfl)
       have S2:Hid ((#[.bool false,.slice none 0 0,.slice none 0 0,.slice none 0 0]:Array Value).size=cc.size):=Lib.hid (by subst hcc;rfl)
       have S3:Hid (cc.all (·.oneCell')=true):=Lib.hid (by subst hcc;simp [Value.oneCell'])
       have HCC:=Lib.hid hcc
       clear hcc
       go_wp2_with (refine wpList_store_row rfl 86 (.tmp 14) (.tmp 57) rfl qa cc rfl rfl 86 _ GA.out S1.out S2.out S3.out ?_)
       have BS:=Lib.hid (below_setRow B6.out QL.out cc)
       have GS:=Lib.hid (setRow_heap _ qa _ cc _ _ GA.out)
       have OS:=Lib.hid (keepT_row GA.out cc OA.out (by decide) (by decide) (by decide))
       refine ⟨⟨⟨_,BS.out⟩,rfl⟩,?_⟩
       try simp only [Act.put,List.setIfInBounds_toArray,List.set_cons_zero,List.set_cons_succ]
       rw [wpWays_done4]
       try simp only [List.map_cons,List.map_nil,opAt,List.getElem?_toArray,List.getElem?_cons_zero,List.getElem?_cons_succ,Option.getD_some]
       repeat (first
        | go_big_quiet_step (fail))
       refine wpQuiet_nil ?_
       obtain ⟨xs,hxs⟩:∃ xs,xs=World.setRow x2 qa cc:=⟨_,rfl⟩
       rw [← hxs] at BS GS OS ⊢
       clear hxs
       have J2:=Lib.hid (J1.out.below BS.out)
       have K42:=Lib.hid (row_stays K41.out BS.out)
       have K62:=Lib.hid (row_stays K61.out BS.out)
       have z4:=nd_cell K42.out 4 (.slice (some ⟨bd,od,none⟩) t l.dc) rfl
       have z5:=HCD.out xs J2.out.out
       have HGV:=Lib.hid (give_any gc gv p U V lv HJ.out.fit.len HV.out HJ.out.fit.ok x.1 HXR.out.2.1 HXR.out.2.2.1 xs J2.out.chg)
       go_upto_region 11 with (go_at_call 59;refine HGV.out.mono ?_;rintro e x4 ⟨rfl,hc4,ho4⟩;have C4:=Lib.hid hc4;have O4:=Lib.hid ho4;clear hc4 ho4)
       clear z4 z5
       have GS4':x4.heap[qa]?=some (.cells #[.bool x.2.1.leaf,.slice lx.EA x.2.1.es.length lx.ec,.slice lx.KA x.2.1.ks.length lx.kc,.slice lx.DA x.2.1.ds.length lx.dc] 86 (0,0)):=by
        have h1:=row_off GS.out (by decide) J2.out.chg O4.out
        rw [HCC.out] at h1
        exact h1
       have GS4:=Lib.hid GS4'
       have JB4:=Lib.hid (row_off J2.out.box (by decide) J2.out.chg O4.out)
       have K44:=Lib.hid (row_off K42.out (by decide) J2.out.chg O4.out)
       have K64:=Lib.hid (row_off K62.out (by decide) J2.out.chg O4.out)
       have OX4:=Lib.hid (OS.out.offgc J2.out.chg O4.out)
       have ON4:=Lib.hid (J2.out.own.offgc J2.out.chg O4.out)
       have OW4:=Lib.hid (outX_trans J2.out.out O4.out)
       have FT4:=Lib.hid (HJ.out.fit.give HXR.out.2.1 HXR.out.2.2.1 HXR.out.2.2.2)
       have SM:Hid (x.2.1.es.length+n.es.length≤1000000000∧x.2.1.ks.length+n.ks.length≤1000000000∧x.2.1.ds.length+n.ds.length≤1000000000):=Lib.hid (by
        have h1:=clean_small HJ.out.tre.clean
        have h2:=clean_small HPX.out.2.1.o.clean
        have h3:=HJ.out.big
        have h4:=(ok_size HXR.out.1.1).2
        have h5:=capN_le x.2.1.leaf
        have h6:=capN_le n.leaf
        omega)
       clear GS4' J1 J2 K41 K42 K61 K62 GS S1 S2 S3 HCC OS BS
       have HJN:=Lib.hid (join_own x.2.1 n lx l' x4 OX4.out.at ON4.out.at SM.out.1 SM.out.2.1 SM.out.2.2)
       obtain ⟨nn,hnn⟩:∃ nn,nn=joinD x.2.1 n:=⟨_,rfl⟩
       rw [← hnn] at HJN
       have HTN:Hid (TrO rn h nn (esMid parts r E0 bi t)):=Lib.hid (by
        rw [hnn,esMid_left HX.out (by have:=HJ.out.fr;omega) (by have:=HJ.out.rt;have:=HJ.out.tm;omega)]
        exact TrO.join (Tre.mono HRN.out HPX.out.2.1).o HJ.out.tre)
       have HSZ:Hid (nn.size≤2*capN nn.leaf):=Lib.hid (by
        obtain ⟨h1,h2⟩:=size_join x.2.1 n HLX.out.symm
        rw [hnn,h1,h2]
        have h3:=few_size hfw
        have h4:=(ok_size HXR.out.1.1).2
        have h5:=capN_le x.2.1.leaf
        rw [HLX.out] at h3
        omega)
       clear hnn
       go_upto_region 14 with (first
        | (refine wpList_load_row rfl 86 (.tmp 14) rfl qa rfl 86 _ (0,0) _ GS4.out Tryz.underlying86 rfl (by kernel_rfl) ?_)
        | (refine wpList_load_row rfl 86 (.tmp 5) rfl b5 rfl 86 _ (0,0) _ JB4.out Tryz.underlying86 rfl (by kernel_rfl) ?_)
        | (go_at_call 127;refine HJN.out.mono ?_;rintro e x5 ⟨⟨lj,rfl,hn5⟩,hb5⟩;have ON5:=Lib.hid hn5;have X5:=Lib.hid hb5;have JB5:=Lib.hid (row_stays JB4.out hb5);clear hn5 hb5)
        | (refine wpList_store_row rfl 86 (.tmp 5) (.tmp 74) rfl b5 #[.bool nn.leaf,.slice lj.EA nn.es.length lj.ec,.slice lj.KA nn.ks.length lj.kc,.slice lj.DA nn.ds.length lj.dc] rfl rfl 86 _ JB5.out (by kernel_rfl) rfl (by simp [Value.oneCell']) ?_))
       obtain ⟨x6,hx6⟩:∃ x6,x6=x5.setRow b5 #[.bool nn.leaf,.slice lj.EA nn.es.length lj.ec,.slice lj.KA nn.ks.length lj.kc,.slice lj.DA nn.ds.length lj.dc]:=⟨_,rfl⟩
       rw [← hx6]
       have h54:b4≠b5:=by have:=HB4.out;have:=HB5.out;omega
       have h56:b6≠b5:=by have:=HB5.out;have:=HB6.out;omega
       have HEND:Hid (JoW w x6 gc gv p V lv rn Sm n0.size h r parts E0 m bs b5 (bi) (t) nn lj (markN U x.1 false 1) x4.heap.size):=Lib.hid (by
        rw [hx6]
        exact { own:=keepT_row JB5.out _ ON5.out (by decide) (by decide) (by decide),box:=setRow_heap _ _ _ _ _ _ JB5.out,chg:=(C4.out.below X5.out).keep (setRow_other _ b5 gc _ (fun e=>row_ne_typed (C4.out.below X5.out) e.symm JB5.out (by decide))),fit:=FT4.out,out:=outX_of_row (outX_trans OW4.out (outerX_of_below X5.out)) (by have:=HB5.out;omega) _,fr:=by have:=HJ.out.fr;omega,rt:=by have:=HJ.out.rt;omega,tm:=by have:=HQ.out;omega,tre:=HTN.out,big:=HSZ.out,one:=fun e=>by have:=HJ.out.fr;have:=HJ.out.rt;omega,same:=HNX.out _ _ _ _ _ })
       have K46:Hid (x6.heap[b4]?=some (.cells #[.int .i64 (a:Int),.bool lfN,.slice l.EA ne l.ec,.slice l.KA nk l.kc,.slice l.DA t l.dc,.int .i64 (r:Int)] 96 (0,0))):=Lib.hid (by
        rw [hx6,HDA.out]
        exact (setRow_other _ b5 b4 _ h54).trans (row_stays K44.out X5.out))
       have K66:Hid (x6.heap[b6]?=some (.cells #[.bool false,.slice none 0 0,.slice none 0 0,.slice none 0 0] 86 (0,0))):=Lib.hid (by
        rw [hx6]
        exact (setRow_other _ b5 b6 _ h56).trans (row_stays K64.out X5.out))
       clear hx6 h54 h56
       go_roundw
       case rel=>exact ⟨bi,t,_,nn,lj,_,rfl,by first | rfl | go_num,Lib.hid ⟨HEND.out,K46.out,K66.out⟩⟩
       case measure=>first | (simp [intOf];done) | (simp [intOf];omega)
     ·have hlq:((t:Int) == (q:Int))=false:=by simp;omega
      have hbq:t<q:=by omega
      have hzb:0≤(t:Int):=by omega
      have hzc:(t:Int)<(q:Int):=by omega
      clear hla
      obtain ⟨x,hx⟩:∃ x,parts[t]?=some x:=⟨_,List.getElem?_eq_getElem (by rw [HQ.out];exact hbq)⟩
      have HX:=Lib.hid hx
      have HPX:=Lib.hid (HP.out x (List.mem_of_getElem? hx))
      have HXR:=Lib.hid (HRD.out _ _ HPX.out.1)
      have HLX:Hid (n.leaf=x.2.1.leaf):=Lib.hid (HJ.out.tre.leaf.trans HPX.out.2.1.leaf.symm)
      have hdx:M.ds[t]?=some ((x.1:Nat):Int):=by rw [HDS.out,List.getElem?_map,hx];rfl
      obtain ⟨bd,od,hDA,hcd⟩:=HSN.out.at.d (by intro e;rw [e] at hdx;simp at hdx)
      have HCD:Hid (∀ W,OuterX (fun k=>k=gc) w W→W.cell? ⟨bd,od+t,none⟩=some (.int .i64 ((x.1:Nat):Int))):=Lib.hid (fun W hW=>by
       obtain ⟨b',o',h1,h2⟩:=(HB0.out W hW).1.at.d (by intro e;rw [e] at hdx;simp at hdx)
       rw [hDA] at h1
       cases h1
       exact h2 t _ hdx)
      have HDA:=Lib.hid hDA
      clear hx hdx hcd
      have HNN:Hid (∀ W,OuterX (fun k=>k=gc) w W→Calls Tryz.prog 57 #[.pointer (some ⟨gv,0,none⟩),.int .i64 ((x.1:Nat):Int),.bool n.leaf] W fun e w'=>(∃ (lx:NdL),e=.returned (.tuple #[.agg #[.bool x.2.1.leaf,.slice lx.EA x.2.1.es.length lx.ec,.slice lx.KA x.2.1.ks.length lx.kc,.slice lx.DA x.2.1.ds.length lx.dc],.int .i64 0])∧∃ bx,OwnN w' bx x.2.1 lx)∧Below W.heap.size W w'):=Lib.hid (fun W hW=>by
       obtain ⟨⟨k1,k2,k3,gg,k4,k5⟩,_⟩:=HXR.out
       refine (node_yes gv g gen p x.1 gg Uv Vv x.2.1 k1 k2 k3 k4 k5 n.leaf HLX.out _ rfl W (HB0.out W hW).2.1 (HB0.out W hW).2.2).mono ?_
       rintro e w' ⟨⟨lx,rfl,_,hn⟩,hb⟩
       exact ⟨⟨lx,rfl,_,hn.own⟩,hb⟩)
      rw [hDA] at K4
      clear hDA
      go_upto_region 7 with (first
       | (refine wpList_load_row rfl 86 (.tmp 5) rfl b5 rfl 86 _ (0,0) _ HJ.out.box Tryz.underlying86 rfl (by kernel_rfl) ?_)
       | (go_at_call 126;refine (HFW.out _).mono ?_;rintro e x1 ⟨rfl,hb1⟩;have z4:=nd_cell (row_stays K4.out hb1) 4 (.slice (some ⟨bd,od,none⟩) q l.dc) rfl;have J1:=Lib.hid (HJ.out.below hb1);have K41:=Lib.hid (row_stays K4.out hb1);have K61:=Lib.hid (row_stays K6.out hb1);clear hb1))
      clear z4
      have HBX:=Lib.hid (HJ.out.out)
      have f1:∀ y:SubW x1.heap.size x1,y.at_.cell? ⟨gc,0,none⟩=some (.pointer (some ⟨gv,0,none⟩)):=fun y=>(J1.out.chg.below y.ok_).cv
      have f2:∀ y:SubW x1.heap.size x1,y.at_.cell? ⟨b4,4,none⟩=some (.slice (some ⟨bd,od,none⟩) q l.dc):=fun y=>nd_cell (row_stays K41.out y.ok_) 4 _ rfl
      have f3:∀ y:SubW x1.heap.size x1,y.at_.cell? ⟨bd,od+t,none⟩=some (.int .i64 ((x.1:Nat):Int)):=fun y=>HCD.out _ (outX_trans J1.out.out (outerX_of_below y.ok_))
      have f4:∀ y:SubW x1.heap.size x1,y.at_.cell? ⟨b5,0,none⟩=some (.bool n.leaf):=fun y=>nd_cell (row_stays J1.out.box y.ok_) 0 _ rfl
      refine region_ways4 x1.heap.size (Nat.le_refl _) (.two [0,1,2,3,4,5,6,7,8,9,10,11] 12 (.one [13,14,15] 16 (.one [] 17 (.done [18]))) 16 (.one [] 12 (.one [13,14,15] 17 (.done [18])))) (by kernel_rfl) (by kernel_rfl) ?_
      rintro wd hbd
      have BD:=Lib.hid hbd
      clear hbd
      rw [wpWays_two4]
      try simp only [List.map_cons,List.map_nil,opAt,List.getElem?_toArray,List.getElem?_cons_zero,List.getElem?_cons_succ,Option.getD_some]
      repeat (first
       | go_big_quiet_step (fail))
      refine wpQuiet_nil ⟨?_,?_⟩
      ·go_wp2_with (go_at_call 57;refine (HNN.out _ (outX_trans J1.out.out (outerX_of_below BD.out))).mono ?_;rintro e x2 ⟨⟨lx,rfl,bx,hn2⟩,hb2⟩;have O2:=Lib.hid hn2;have HB2:=Lib.hid hb2;have B5:=Lib.hid (BD.out.trans (hb2.mono BD.out.size));clear hn2 hb2)
       refine ⟨⟨⟨_,B5.out⟩,rfl⟩,?_⟩
       try simp only [Act.put,List.setIfInBounds_toArray,List.set_cons_zero,List.set_cons_succ]
       rw [wpWays_one4]
       try simp only [List.map_cons,List.map_nil,opAt,List.getElem?_toArray,List.getElem?_cons_zero,List.getElem?_cons_succ,Option.getD_some]
       repeat (first
        | go_big_quiet_step (fail))
       refine wpQuiet_nil ?_
       go_wp2_with fail
       obtain ⟨qa,hqa⟩:∃ qa,qa=x2.heap.size:=⟨_,rfl⟩
       obtain ⟨wa,hwa⟩:∃ wa,wa=World.alloc x2 (.cells #[.bool false,.slice none 0 0,.slice none 0 0,.slice none 0 0] 86):=⟨_,rfl⟩
       have GA:Hid (wa.heap[qa]?=some (.cells #[.bool false,.slice none 0 0,.slice none 0 0,.slice none 0 0] 86 (0,0))):=Lib.hid (by rw [hwa,hqa];exact heap_alloc_new _ _)
       have AB:=Lib.hid (alloc_bel hwa)
       have B6:=Lib.hid (B5.out.trans (AB.out.mono B5.out.size))
       have QL:Hid (x1.heap.size≤qa):=Lib.hid (by rw [hqa];exact B5.out.size)
       rw [← hwa,← hqa]
       clear hwa hqa
       refine ⟨⟨⟨_,B6.out⟩,rfl⟩,?_⟩
       try simp only [Act.put,List.setIfInBounds_toArray,List.set_cons_zero,List.set_cons_succ]
       have OA:=Lib.hid (O2.out.below AB.out)
       rw [wpWays_one4]
       try simp only [List.map_cons,List.map_nil,opAt,List.getElem?_toArray,List.getElem?_cons_zero,List.getElem?_cons_succ,Option.getD_some]
       refine wpQuiet_nil ?_
       obtain ⟨cc,hcc⟩:∃ cc:Array Value,cc=#[.bool x.2.1.leaf,.slice lx.EA x.2.1.es.length lx.ec,.slice lx.KA x.2.1.ks.length lx.kc,.slice lx.DA x.2.1.ds.length lx.dc]:=⟨_,rfl⟩
       rw [← hcc]
       have S1:Hid ((Tryz.prog.info? 86).map (·.size)=some cc.size):=Lib.hid (by subst hcc;kernel_rfl)
       have S2:Hid ((#[.bool false,.slice none 0 0,.slice none 0 0,.slice none 0 0]:Array Value).size=cc.size):=Lib.hid (by subst hcc;rfl)
       have S3:Hid (cc.all (·.oneCell')=true):=Lib.hid (by subst hcc;simp [Value.oneCell'])
       have HCC:=Lib.hid hcc
       clear hcc
       go_wp2_with (refine wpList_store_row rfl 86 (.tmp 14) (.tmp 57) rfl qa cc rfl rfl 86 _ GA.out S1.out S2.out S3.out ?_)
       have BS:=Lib.hid (below_setRow B6.out QL.out cc)
       have GS:=Lib.hid (setRow_heap _ qa _ cc _ _ GA.out)
       have OS:=Lib.hid (keepT_row GA.out cc OA.out (by decide) (by decide) (by decide))
       refine ⟨⟨⟨_,BS.out⟩,rfl⟩,?_⟩
       try simp only [Act.put,List.setIfInBounds_toArray,List.set_cons_zero,List.set_cons_succ]
       rw [wpWays_done4]
       try simp only [List.map_cons,List.map_nil,opAt,List.getElem?_toArray,List.getElem?_cons_zero,List.getElem?_cons_succ,Option.getD_some]
       repeat (first
        | go_big_quiet_step (fail))
       refine wpQuiet_nil ?_
       obtain ⟨xs,hxs⟩:∃ xs,xs=World.setRow wa qa cc:=⟨_,rfl⟩
       rw [← hxs] at BS GS OS ⊢
       clear hxs
       have J2:=Lib.hid (J1.out.below BS.out)
       have K42:=Lib.hid (row_stays K41.out BS.out)
       have K62:=Lib.hid (row_stays K61.out BS.out)
       have z4:=nd_cell K42.out 4 (.slice (some ⟨bd,od,none⟩) q l.dc) rfl
       have z5:=HCD.out xs J2.out.out
       have HGV:=Lib.hid (give_any gc gv p U V lv HJ.out.fit.len HV.out HJ.out.fit.ok x.1 HXR.out.2.1 HXR.out.2.2.1 xs J2.out.chg)
       go_upto_region 11 with (go_at_call 59;refine HGV.out.mono ?_;rintro e x4 ⟨rfl,hc4,ho4⟩;have C4:=Lib.hid hc4;have O4:=Lib.hid ho4;clear hc4 ho4)
       clear z4 z5
       have GS4':x4.heap[qa]?=some (.cells #[.bool x.2.1.leaf,.slice lx.EA x.2.1.es.length lx.ec,.slice lx.KA x.2.1.ks.length lx.kc,.slice lx.DA x.2.1.ds.length lx.dc] 86 (0,0)):=by
        have h1:=row_off GS.out (by decide) J2.out.chg O4.out
        rw [HCC.out] at h1
        exact h1
       have GS4:=Lib.hid GS4'
       have JB4:=Lib.hid (row_off J2.out.box (by decide) J2.out.chg O4.out)
       have K44:=Lib.hid (row_off K42.out (by decide) J2.out.chg O4.out)
       have K64:=Lib.hid (row_off K62.out (by decide) J2.out.chg O4.out)
       have OX4:=Lib.hid (OS.out.offgc J2.out.chg O4.out)
       have ON4:=Lib.hid (J2.out.own.offgc J2.out.chg O4.out)
       have OW4:=Lib.hid (outX_trans J2.out.out O4.out)
       have FT4:=Lib.hid (HJ.out.fit.give HXR.out.2.1 HXR.out.2.2.1 HXR.out.2.2.2)
       have SM:Hid (x.2.1.es.length+n.es.length≤1000000000∧x.2.1.ks.length+n.ks.length≤1000000000∧x.2.1.ds.length+n.ds.length≤1000000000):=Lib.hid (by
        have h1:=clean_small HJ.out.tre.clean
        have h2:=clean_small HPX.out.2.1.o.clean
        have h3:=HJ.out.big
        have h4:=(ok_size HXR.out.1.1).2
        have h5:=capN_le x.2.1.leaf
        have h6:=capN_le n.leaf
        omega)
       clear GS4' J1 J2 K41 K42 K61 K62 GS S1 S2 S3 HCC OS BS
       have HJN:=Lib.hid (join_own n x.2.1 l' lx x4 ON4.out.at OX4.out.at (by have:=SM.out.1;omega) (by have:=SM.out.2.1;omega) (by have:=SM.out.2.2;omega))
       obtain ⟨nn,hnn⟩:∃ nn,nn=joinD n x.2.1:=⟨_,rfl⟩
       rw [← hnn] at HJN
       have HTN:Hid (TrO rn h nn (esMid parts r E0 f (t+1))):=Lib.hid (by
        rw [hnn,esMid_right HX.out HJ.out.rt]
        exact TrO.join HJ.out.tre (Tre.mono HRN.out HPX.out.2.1).o)
       have HSZ:Hid (nn.size≤2*capN nn.leaf):=Lib.hid (by
        obtain ⟨h1,h2⟩:=size_join n x.2.1 HLX.out
        rw [hnn,h1,h2]
        have h3:=few_size hfw
        have h4:=(ok_size HXR.out.1.1).2
        have h5:=capN_le x.2.1.leaf
        rw [HLX.out] at h3 ⊢
        omega)
       clear hnn
       go_upto_region 14 with (first
        | (refine wpList_load_row rfl 86 (.tmp 14) rfl qa rfl 86 _ (0,0) _ GS4.out Tryz.underlying86 rfl (by kernel_rfl) ?_)
        | (refine wpList_load_row rfl 86 (.tmp 5) rfl b5 rfl 86 _ (0,0) _ JB4.out Tryz.underlying86 rfl (by kernel_rfl) ?_)
        | (go_at_call 127;refine HJN.out.mono ?_;rintro e x5 ⟨⟨lj,rfl,hn5⟩,hb5⟩;have ON5:=Lib.hid hn5;have X5:=Lib.hid hb5;have JB5:=Lib.hid (row_stays JB4.out hb5);clear hn5 hb5)
        | (refine wpList_store_row rfl 86 (.tmp 5) (.tmp 78) rfl b5 #[.bool nn.leaf,.slice lj.EA nn.es.length lj.ec,.slice lj.KA nn.ks.length lj.kc,.slice lj.DA nn.ds.length lj.dc] rfl rfl 86 _ JB5.out (by kernel_rfl) rfl (by simp [Value.oneCell']) ?_))
       obtain ⟨x6,hx6⟩:∃ x6,x6=x5.setRow b5 #[.bool nn.leaf,.slice lj.EA nn.es.length lj.ec,.slice lj.KA nn.ks.length lj.kc,.slice lj.DA nn.ds.length lj.dc]:=⟨_,rfl⟩
       rw [← hx6]
       have h54:b4≠b5:=by have:=HB4.out;have:=HB5.out;omega
       have h56:b6≠b5:=by have:=HB5.out;have:=HB6.out;omega
       have HEND:Hid (JoW w x6 gc gv p V lv rn Sm n0.size h r parts E0 m bs b5 (f) (t+1) nn lj (markN U x.1 false 1) x4.heap.size):=Lib.hid (by
        rw [hx6]
        exact { own:=keepT_row JB5.out _ ON5.out (by decide) (by decide) (by decide),box:=setRow_heap _ _ _ _ _ _ JB5.out,chg:=(C4.out.below X5.out).keep (setRow_other _ b5 gc _ (fun e=>row_ne_typed (C4.out.below X5.out) e.symm JB5.out (by decide))),fit:=FT4.out,out:=outX_of_row (outX_trans OW4.out (outerX_of_below X5.out)) (by have:=HB5.out;omega) _,fr:=by have:=HJ.out.fr;omega,rt:=by have:=HJ.out.rt;omega,tm:=by have:=HQ.out;omega,tre:=HTN.out,big:=HSZ.out,one:=fun e=>by have:=HJ.out.fr;have:=HJ.out.rt;omega,same:=HNX.out _ _ _ _ _ })
       have K46:Hid (x6.heap[b4]?=some (.cells #[.int .i64 (a:Int),.bool lfN,.slice l.EA ne l.ec,.slice l.KA nk l.kc,.slice l.DA q l.dc,.int .i64 (r:Int)] 96 (0,0))):=Lib.hid (by
        rw [hx6,HDA.out]
        exact (setRow_other _ b5 b4 _ h54).trans (row_stays K44.out X5.out))
       have K66:Hid (x6.heap[b6]?=some (.cells #[.bool false,.slice none 0 0,.slice none 0 0,.slice none 0 0] 86 (0,0))):=Lib.hid (by
        rw [hx6]
        exact (setRow_other _ b5 b6 _ h56).trans (row_stays K64.out X5.out))
       clear hx6 h54 h56
       go_roundw
       case rel=>exact ⟨f,t+1,_,nn,lj,_,rfl,by first | rfl | go_num,Lib.hid ⟨HEND.out,K46.out,K66.out⟩⟩
       case measure=>first | (simp [intOf];done) | (simp [intOf];omega)
      ·go_wp2_with fail
       obtain ⟨qa,hqa⟩:∃ qa,qa=wd.heap.size:=⟨_,rfl⟩
       obtain ⟨wa,hwa⟩:∃ wa,wa=World.alloc wd (.cells #[.bool false,.slice none 0 0,.slice none 0 0,.slice none 0 0] 86):=⟨_,rfl⟩
       have GA:Hid (wa.heap[qa]?=some (.cells #[.bool false,.slice none 0 0,.slice none 0 0,.slice none 0 0] 86 (0,0))):=Lib.hid (by rw [hwa,hqa];exact heap_alloc_new _ _)
       have AB:=Lib.hid (alloc_bel hwa)
       have B5:=Lib.hid (BD.out.trans (AB.out.mono BD.out.size))
       have QL:Hid (x1.heap.size≤qa):=Lib.hid (by rw [hqa];exact BD.out.size)
       rw [← hwa,← hqa]
       clear hwa hqa
       refine ⟨⟨⟨_,B5.out⟩,rfl⟩,?_⟩
       try simp only [Act.put,List.setIfInBounds_toArray,List.set_cons_zero,List.set_cons_succ]
       rw [wpWays_one4]
       try simp only [List.map_cons,List.map_nil,opAt,List.getElem?_toArray,List.getElem?_cons_zero,List.getElem?_cons_succ,Option.getD_some]
       refine wpQuiet_nil ?_
       go_wp2_with (go_at_call 57;refine (HNN.out _ (outX_trans J1.out.out (outerX_of_below B5.out))).mono ?_;rintro e x2 ⟨⟨lx,rfl,bx,hn2⟩,hb2⟩;have O2:=Lib.hid hn2;have HB2:=Lib.hid hb2;have B6:=Lib.hid (B5.out.trans (hb2.mono B5.out.size));clear hn2 hb2)
       refine ⟨⟨⟨_,B6.out⟩,rfl⟩,?_⟩
       try simp only [Act.put,List.setIfInBounds_toArray,List.set_cons_zero,List.set_cons_succ]
       have GA1:=Lib.hid (row_stays GA.out HB2.out)
       clear GA
       have GA:=GA1
       have OA:=O2
       rw [wpWays_one4]
       try simp only [List.map_cons,List.map_nil,opAt,List.getElem?_toArray,List.getElem?_cons_zero,List.getElem?_cons_succ,Option.getD_some]
       repeat (first
        | go_big_quiet_step (fail))
       refine wpQuiet_nil ?_
       obtain ⟨cc,hcc⟩:∃ cc:Array Value,cc=#[.bool x.2.1.leaf,.slice lx.EA x.2.1.es.length lx.ec,.slice lx.KA x.2.1.ks.length lx.kc,.slice lx.DA x.2.1.ds.length lx.dc]:=⟨_,rfl⟩
       rw [← hcc]
       have S1:Hid ((Tryz.prog.info? 86).map (·.size)=some cc.size):=Lib.hid (by subst hcc;kernel_rfl)
       have S2:Hid ((#[.bool false,.slice none 0 0,.slice none 0 0,.slice none 0 0]:Array Value).size=cc.size):=Lib.hid (by subst hcc;rfl)
       have S3:Hid (cc.all (·.oneCell')=true):=Lib.hid (by subst hcc;simp [Value.oneCell'])
       have HCC:=Lib.hid hcc
       clear hcc
       go_wp2_with (refine wpList_store_row rfl 86 (.tmp 14) (.tmp 57) rfl qa cc rfl rfl 86 _ GA.out S1.out S2.out S3.out ?_)
       have BS:=Lib.hid (below_setRow B6.out QL.out cc)
       have GS:=Lib.hid (setRow_heap _ qa _ cc _ _ GA.out)
       have OS:=Lib.hid (keepT_row GA.out cc OA.out (by decide) (by decide) (by decide))
       refine ⟨⟨⟨_,BS.out⟩,rfl⟩,?_⟩
       try simp only [Act.put,List.setIfInBounds_toArray,List.set_cons_zero,List.set_cons_succ]
       rw [wpWays_done4]
       try simp only [List.map_cons,List.map_nil,opAt,List.getElem?_toArray,List.getElem?_cons_zero,List.getElem?_cons_succ,Option.getD_some]
       repeat (first
        | go_big_quiet_step (fail))
       refine wpQuiet_nil ?_
       obtain ⟨xs,hxs⟩:∃ xs,xs=World.setRow x2 qa cc:=⟨_,rfl⟩
       rw [← hxs] at BS GS OS ⊢
       clear hxs
       have J2:=Lib.hid (J1.out.below BS.out)
       have K42:=Lib.hid (row_stays K41.out BS.out)
       have K62:=Lib.hid (row_stays K61.out BS.out)
       have z4:=nd_cell K42.out 4 (.slice (some ⟨bd,od,none⟩) q l.dc) rfl
       have z5:=HCD.out xs J2.out.out
       have HGV:=Lib.hid (give_any gc gv p U V lv HJ.out.fit.len HV.out HJ.out.fit.ok x.1 HXR.out.2.1 HXR.out.2.2.1 xs J2.out.chg)
       go_upto_region 11 with (go_at_call 59;refine HGV.out.mono ?_;rintro e x4 ⟨rfl,hc4,ho4⟩;have C4:=Lib.hid hc4;have O4:=Lib.hid ho4;clear hc4 ho4)
       clear z4 z5
       have GS4':x4.heap[qa]?=some (.cells #[.bool x.2.1.leaf,.slice lx.EA x.2.1.es.length lx.ec,.slice lx.KA x.2.1.ks.length lx.kc,.slice lx.DA x.2.1.ds.length lx.dc] 86 (0,0)):=by
        have h1:=row_off GS.out (by decide) J2.out.chg O4.out
        rw [HCC.out] at h1
        exact h1
       have GS4:=Lib.hid GS4'
       have JB4:=Lib.hid (row_off J2.out.box (by decide) J2.out.chg O4.out)
       have K44:=Lib.hid (row_off K42.out (by decide) J2.out.chg O4.out)
       have K64:=Lib.hid (row_off K62.out (by decide) J2.out.chg O4.out)
       have OX4:=Lib.hid (OS.out.offgc J2.out.chg O4.out)
       have ON4:=Lib.hid (J2.out.own.offgc J2.out.chg O4.out)
       have OW4:=Lib.hid (outX_trans J2.out.out O4.out)
       have FT4:=Lib.hid (HJ.out.fit.give HXR.out.2.1 HXR.out.2.2.1 HXR.out.2.2.2)
       have SM:Hid (x.2.1.es.length+n.es.length≤1000000000∧x.2.1.ks.length+n.ks.length≤1000000000∧x.2.1.ds.length+n.ds.length≤1000000000):=Lib.hid (by
        have h1:=clean_small HJ.out.tre.clean
        have h2:=clean_small HPX.out.2.1.o.clean
        have h3:=HJ.out.big
        have h4:=(ok_size HXR.out.1.1).2
        have h5:=capN_le x.2.1.leaf
        have h6:=capN_le n.leaf
        omega)
       clear GS4' J1 J2 K41 K42 K61 K62 GS S1 S2 S3 HCC OS BS
       have HJN:=Lib.hid (join_own n x.2.1 l' lx x4 ON4.out.at OX4.out.at (by have:=SM.out.1;omega) (by have:=SM.out.2.1;omega) (by have:=SM.out.2.2;omega))
       obtain ⟨nn,hnn⟩:∃ nn,nn=joinD n x.2.1:=⟨_,rfl⟩
       rw [← hnn] at HJN
       have HTN:Hid (TrO rn h nn (esMid parts r E0 f (t+1))):=Lib.hid (by
        rw [hnn,esMid_right HX.out HJ.out.rt]
        exact TrO.join HJ.out.tre (Tre.mono HRN.out HPX.out.2.1).o)
       have HSZ:Hid (nn.size≤2*capN nn.leaf):=Lib.hid (by
        obtain ⟨h1,h2⟩:=size_join n x.2.1 HLX.out
        rw [hnn,h1,h2]
        have h3:=few_size hfw
        have h4:=(ok_size HXR.out.1.1).2
        have h5:=capN_le x.2.1.leaf
        rw [HLX.out] at h3 ⊢
        omega)
       clear hnn
       go_upto_region 14 with (first
        | (refine wpList_load_row rfl 86 (.tmp 14) rfl qa rfl 86 _ (0,0) _ GS4.out Tryz.underlying86 rfl (by kernel_rfl) ?_)
        | (refine wpList_load_row rfl 86 (.tmp 5) rfl b5 rfl 86 _ (0,0) _ JB4.out Tryz.underlying86 rfl (by kernel_rfl) ?_)
        | (go_at_call 127;refine HJN.out.mono ?_;rintro e x5 ⟨⟨lj,rfl,hn5⟩,hb5⟩;have ON5:=Lib.hid hn5;have X5:=Lib.hid hb5;have JB5:=Lib.hid (row_stays JB4.out hb5);clear hn5 hb5)
        | (refine wpList_store_row rfl 86 (.tmp 5) (.tmp 78) rfl b5 #[.bool nn.leaf,.slice lj.EA nn.es.length lj.ec,.slice lj.KA nn.ks.length lj.kc,.slice lj.DA nn.ds.length lj.dc] rfl rfl 86 _ JB5.out (by kernel_rfl) rfl (by simp [Value.oneCell']) ?_))
       obtain ⟨x6,hx6⟩:∃ x6,x6=x5.setRow b5 #[.bool nn.leaf,.slice lj.EA nn.es.length lj.ec,.slice lj.KA nn.ks.length lj.kc,.slice lj.DA nn.ds.length lj.dc]:=⟨_,rfl⟩
       rw [← hx6]
       have h54:b4≠b5:=by have:=HB4.out;have:=HB5.out;omega
       have h56:b6≠b5:=by have:=HB5.out;have:=HB6.out;omega
       have HEND:Hid (JoW w x6 gc gv p V lv rn Sm n0.size h r parts E0 m bs b5 (f) (t+1) nn lj (markN U x.1 false 1) x4.heap.size):=Lib.hid (by
        rw [hx6]
        exact { own:=keepT_row JB5.out _ ON5.out (by decide) (by decide) (by decide),box:=setRow_heap _ _ _ _ _ _ JB5.out,chg:=(C4.out.below X5.out).keep (setRow_other _ b5 gc _ (fun e=>row_ne_typed (C4.out.below X5.out) e.symm JB5.out (by decide))),fit:=FT4.out,out:=outX_of_row (outX_trans OW4.out (outerX_of_below X5.out)) (by have:=HB5.out;omega) _,fr:=by have:=HJ.out.fr;omega,rt:=by have:=HJ.out.rt;omega,tm:=by have:=HQ.out;omega,tre:=HTN.out,big:=HSZ.out,one:=fun e=>by have:=HJ.out.fr;have:=HJ.out.rt;omega,same:=HNX.out _ _ _ _ _ })
       have K46:Hid (x6.heap[b4]?=some (.cells #[.int .i64 (a:Int),.bool lfN,.slice l.EA ne l.ec,.slice l.KA nk l.kc,.slice l.DA q l.dc,.int .i64 (r:Int)] 96 (0,0))):=Lib.hid (by
        rw [hx6,HDA.out]
        exact (setRow_other _ b5 b4 _ h54).trans (row_stays K44.out X5.out))
       have K66:Hid (x6.heap[b6]?=some (.cells #[.bool false,.slice none 0 0,.slice none 0 0,.slice none 0 0] 86 (0,0))):=Lib.hid (by
        rw [hx6]
        exact (setRow_other _ b5 b6 _ h56).trans (row_stays K64.out X5.out))
       clear hx6 h54 h56
       go_roundw
       case rel=>exact ⟨f,t+1,_,nn,lj,_,rfl,by first | rfl | go_num,Lib.hid ⟨HEND.out,K46.out,K66.out⟩⟩
       case measure=>first | (simp [intOf];done) | (simp [intOf];omega)
    ·have hlt':decide ((t:Int) - (f:Int)<(q:Int))=false:=by simp;omega
     go_upto_region 14 with (first
      | (refine wpList_load_row rfl 86 (.tmp 5) rfl b5 rfl 86 _ (0,0) _ HJ.out.box Tryz.underlying86 rfl (by kernel_rfl) ?_)
      | (go_at_call 126;refine (HFW.out _).mono ?_;rintro e x1 ⟨rfl,hb1⟩;have z4:=nd_cell (row_stays K4.out hb1) 4 (.slice l.DA q l.dc) rfl;have J1:=Lib.hid (HJ.out.below hb1);have K61:=Lib.hid (row_stays K6.out hb1);clear hb1))
     clear z4
     obtain ⟨cc,hcc⟩:∃ cc:Array Value,cc=#[.bool n.leaf,.slice l'.EA n.es.length l'.ec,.slice l'.KA n.ks.length l'.kc,.slice l'.DA n.ds.length l'.dc]:=⟨_,rfl⟩
     have CC1:Hid ((Tryz.prog.info? 86).map (·.size)=some cc.size):=Lib.hid (by rw [hcc];kernel_rfl)
     have CC2:Hid ((#[.bool false,.slice none 0 0,.slice none 0 0,.slice none 0 0]:Array Value).size=cc.size):=Lib.hid (by rw [hcc];rfl)
     have CC3:Hid (cc.all (·.oneCell')=true):=Lib.hid (by rw [hcc];simp [Value.oneCell'])
     have JB:Hid (x1.heap[b5]?=some (.cells cc 86 (0,0))):=Lib.hid (by rw [hcc];exact J1.out.box)
     have HCC:=Lib.hid hcc
     clear hcc
     go_wp2_with (first
      | (refine wpList_load_row rfl 86 (.tmp 5) rfl b5 rfl 86 cc (0,0) _ JB.out Tryz.underlying86 rfl CC1.out ?_)
      | (refine wpList_store_row rfl 86 (.tmp 6) (.tmp 81) rfl b6 cc rfl rfl 86 _ K61.out CC1.out CC2.out CC3.out ?_))
     refine bodyPost_ret (v:=.tuple #[.agg cc,.int .i64 (f:Int),.int .i64 (t:Int),.int .i64 0]) (results_cell_tmp4 (p:=6) (u:=7) (v:=8) (x:=9) (ty:=86) rfl _ _ b6 86 cc (0,0) _ rfl (setRow_heap _ _ _ _ _ _ K61.out) Tryz.underlying86 rfl CC1.out) rfl ?_
     refine ⟨n,l',f,t,bo,b5,U,by rw [HCC.out],?_⟩
     have j1:=J1.out
     have h56:b5≠b6:=by have:=HB5.out;have:=HB6.out;omega
     exact { j1 with own:=keepT_row K61.out cc j1.own (by decide) (by decide) (by decide),box:=(setRow_other _ b6 b5 cc h56).trans j1.box,chg:=j1.chg.keep (setRow_other _ b6 gc cc (fun e=>row_ne_typed j1.chg e.symm K61.out (by decide))),out:=outX_of_row j1.out (by have:=HB6.out;omega) cc }
end Go.Proofs.YtgkddhncfaeidaaGreat
