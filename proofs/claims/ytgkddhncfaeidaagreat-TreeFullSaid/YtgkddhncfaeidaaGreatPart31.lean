/- Squeezed: the texts as they are written lie in wip/tpl. -/
import Derived.Test.YtgkddhncfaeidaaGreatPart30
import Derived.Test.YtgkddhncfaeidaaGreatPart20
set_option maxRecDepth 100000
set_option maxHeartbeats 8000000
set_option linter.unusedSimpArgs false
set_option linter.unusedVariables false
namespace Go.Proofs.YtgkddhncfaeidaaGreat
open Go.RowKit Go.ChangeShapes Go.WideShapes Go.ChangeAt CrcM PageM
theorem Tre.same_height {rd:Nat→NodeD→Prop} (hfun:∀ a m m',rd a m→rd a m'→m=m'):∀ {h k:Nat} {n:NodeD} {es es':List EntD},Tre rd h n es→Tre rd k n es'→h=k
 | 0,0,_,_,_,_,_=>rfl
 | 0,k+1,_,_,_,⟨h1,_⟩,⟨g1,_⟩=>by rw [h1] at g1;cases g1
 | h+1,0,_,_,_,⟨h1,_⟩,⟨g1,_⟩=>by rw [h1] at g1;cases g1
 | h+1,k+1,n,es,es',⟨h1,h2,parts,e1,e2,e3,e4,e5⟩,⟨_,_,parts',f1,f2,f3,f4,f5⟩=>by
   obtain ⟨x,t,rfl⟩:∃ x t,parts=x :: t:=by
    cases parts with
    | nil=>simp at e5
    | cons x t=>exact ⟨x,t,rfl⟩
   obtain ⟨y,s,rfl⟩:∃ y s,parts'=y :: s:=by
    cases parts' with
    | nil=>simp at f5
    | cons x t=>exact ⟨x,t,rfl⟩
   rw [e1] at f1
   simp only [List.map_cons,List.cons.injEq] at f1
   have hxy:x.1=y.1:=by
    have:=f1.1
    unfold kidI at this
    exact Int.ofNat.inj this
   have hx:=e3 x (List.mem_cons_self ..)
   have hy:=f3 y (List.mem_cons_self ..)
   have hn:=hfun x.1 x.2.1 y.2.1 hx.1 (by rw [hxy];exact hy.1)
   have h9:=hx.2.1
   rw [hn] at h9
   rw [Tre.same_height hfun h9 hy.2.1]
theorem Tre.avoid {rd rd':Nat→NodeD→Prop} (hfun:∀ a m m',rd a m→rd a m'→m=m') {q H:Nat} {child:NodeD} {es0:List EntD} (hq:rd q child) (hc:Tre rd H child es0) (hsub:∀ a m,rd a m→a≠q→rd' a m):∀ {h:Nat} {n:NodeD} {es:List EntD},h≤H→Tre rd h n es→Tre rd' h n es
 | 0,_,_,_,ht=>ht
 | h+1,n,es,hh,⟨h1,h2,parts,e1,e2,e3,e4,e5⟩=>⟨h1,h2,parts,e1,e2,fun x hx=>by
     have h3:=e3 x hx
     refine ⟨hsub _ _ h3.1 (fun e=>?_),Tre.avoid hfun hq hc hsub (by omega) h3.2.1,h3.2.2⟩
     have hn:=hfun q x.2.1 child (by rw [← e];exact h3.1) hq
     have h9:=h3.2.1
     rw [hn] at h9
     have:=Tre.same_height hfun h9 hc
     omega,e4,e5⟩
theorem Tre.single {rd:Nat→NodeD→Prop} {h:Nat} {n:NodeD} {es:List EntD} (ht:Tre rd (h+1) n es) (hs:n.size=1):∃ q child,n.ds=[kidI q]∧rd q child∧Tre rd h child es∧1≤es.length:=by
 obtain ⟨h1,h2,parts,e1,e2,e3,e4,e5⟩:=ht
 unfold NodeD.size at hs
 rw [if_neg (by simp [h1]),e1,List.length_map] at hs
 obtain ⟨x,rfl⟩:=List.length_eq_one_iff.1 hs
 have hx:=e3 x (List.mem_singleton.2 rfl)
 have:es=x.2.2:=by rw [e4];simp
 rw [this]
 exact ⟨x.1,x.2.1,by rw [e1];rfl,hx⟩
theorem rdL_drop {rd:Nat→NodeD→Prop} {L1 L2:List (Nat × (NodeD × NdL))} {q:Nat} {y:NodeD × NdL} {a:Nat} {m:NodeD} (h:rdL rd (L1 ++ (q,y) :: L2) a m) (ha:a≠q):rdL rd (L1 ++ L2) a m:=by
 rcases h with h | ⟨l,h⟩
 ·exact .inl h
 ·refine .inr ⟨l,?_⟩
  rcases List.mem_append.1 h with h | h
  ·exact List.mem_append_left _ h
  ·rcases List.mem_cons.1 h with h | h
   ·cases h
    exact absurd rfl ha
   ·exact List.mem_append_right _ h
def TopS (n:NodeD) (h:Nat) (L:List (Nat × (NodeD × NdL))) (U:List Bool) (a hh:Nat) (L':List (Nat × (NodeD × NdL))) (U':List Bool):Prop :=
 (1≤n.size→(n.leaf=true∨n.size≠1)→n.size≤capN n.leaf→hh=h+1∧U'=markN U a true 1∧∃ l,L'=L ++ [(a,(n,l))]) ∧
 (capN n.leaf<n.size→∃ x y q1 q2 l1 l2 l3,SplitOf n [x,y]∧hh=h+2∧U'=marks U [q1,q2,a]∧L'=L ++ [(q1,(x,l1)),(q2,(y,l2)),(a,(⟨false,[],[leastK x,leastK y],[kidI q1,kidI q2]⟩,l3))])
structure ToR (w w':World) (gc gv p B0 m:Nat) (V:List Bool) (rd:Nat→NodeD→Prop) (E:List EntD) (a hh k:Nat) (L':List (Nat × (NodeD × NdL))) (U':List Bool) (lv':Value) (Rs:Nat→Nat→List (Nat × (NodeD × NdL))→List Bool→Prop):Prop where
 chg:ChgS w' gc gv p B0 U' V lv' L'
 fit:FitU p V U' m (L'.map Prod.fst)
 lay:∀ x ∈ L',NodeT w' x.2.1 x.2.2
 good:∀ x ∈ L',okNode x.2.1∧inNode x.2.1
 out:OutS gc B0 (fun _=>False) w w'
 tree:TreeOf (rdL rd L') a hh E
 cnt:L'.length≤k
 same:Rs a hh L' U'
structure ToL (w wr:World) (gc gv p B0 m:Nat) (V:List Bool) (rd:Nat→NodeD→Prop) (E:List EntD) (k b6 b10 h:Nat) (n:NodeD) (l:NdL) (L:List (Nat × (NodeD × NdL))) (U:List Bool) (lv:Value) (Sm:Nat→NodeD→List (Nat × (NodeD × NdL))→List Bool→Prop):Prop where
 chg:ChgS wr gc gv p B0 U V lv L
 fit:FitU p V U (1+m) (L.map Prod.fst)
 lay:∀ x ∈ L,OwnN wr B0 x.2.1 x.2.2
 good:∀ x ∈ L,okNode x.2.1∧inNode x.2.1
 out:OutS gc B0 (fun _=>False) w wr
 tre:Tre (rdL rd L) h n E
 own:OwnN wr B0 n l
 gn:okNode n∧inNode n
 box:wr.heap[b10]?=some (.cells #[.bool n.leaf,.slice l.EA n.es.length l.ec,.slice l.KA n.ks.length l.kc,.slice l.DA n.ds.length l.dc] 86 (0,0))
 res:wr.heap[b6]?=some (.cells #[.int .i64 0,.int .i64 0] 43 (0,0))
 cnt:L.length+1≤k
 same:Sm h n L U
theorem ToL.below {w wr w':World} {gc gv p B0 m:Nat} {V:List Bool} {rd:Nat→NodeD→Prop} {E:List EntD} {k b6 b10 h:Nat} {n:NodeD} {l:NdL} {L:List (Nat × (NodeD × NdL))} {U:List Bool} {lv:Value} {Sm:Nat→NodeD→List (Nat × (NodeD × NdL))→List Bool→Prop} (t:ToL w wr gc gv p B0 m V rd E k b6 b10 h n l L U lv Sm) (hb:Below wr.heap.size wr w'):ToL w w' gc gv p B0 m V rd E k b6 b10 h n l L U lv Sm :=
 { t with chg:=t.chg.below hb,lay:=fun x hx=>(t.lay x hx).below hb,out:=t.out.trans (OutS.of_below hb),own:=t.own.below hb,box:=row_stays t.box hb,res:=row_stays t.res hb }
theorem top_one (gc gv p B0 h m:Nat) (U V:List Bool) (lv:Value) (L:List (Nat × (NodeD × NdL))) (rd:Nat→NodeD→Prop) (hfun:∀ a m m',rd a m→rd a m'→m=m') (hrv:∀ a m,rd a m→V.getD a false=true) (E:List EntD) (n:NodeD) (l:NdL) (hV:V.length=512) (okV:okM (p:Int) V) (hf:FitU p V U (1+m) (L.map Prod.fst)) (hLL:L.length≤900)
 (ht:Tre (rdL rd L) h n E) (h4:h≤4) (hE:1≤E.length) (hgn:okNode n∧inNode n) (hgood:∀ x ∈ L,okNode x.2.1∧inNode x.2.1) (A:Option Addr) (c:Nat) (w:World) (hc:ChgS w gc gv p B0 U V lv L) (hL:∀ x ∈ L,OwnN w B0 x.2.1 x.2.2) (hA:ChAt w A [(n,l)]) (ho:OwnN w B0 n l) (hB0:B0≤w.heap.size) :
 Calls Tryz.prog 30 #[.pointer (some ⟨gc,0,none⟩),.slice A 1 c,.int .i64 ((h:Int)+1)] w fun e w'=>∃ (a hh:Nat) (L':List (Nat × (NodeD × NdL))) (U':List Bool) (lv':Value),e=.returned (.tuple #[.agg #[.int .i64 (a:Int),.int .i64 (hh:Int)],.int .i64 0])∧ToR w w' gc gv p B0 m V rd E a hh (L.length+1) L' U' lv' (TopS n h L U):=by
 obtain ⟨Sm,hSm⟩:∃ Sm:Nat→NodeD→List (Nat × (NodeD × NdL))→List Bool→Prop,Sm=fun h' n' L' U'=>(n.leaf=true∨n.size≠1)→n'=n∧L'=L∧U'=U∧h'=h:=⟨_,rfl⟩
 obtain ⟨Rs,hRs⟩:∃ Rs,Rs=TopS n h L U:=⟨_,rfl⟩
 rw [← hRs]
 have hsz:=ok_size hgn.1
 have HSM0:Hid (Sm h n L U):=Lib.hid (by rw [hSm];exact fun _=>⟨rfl,rfl,rfl,rfl⟩)
 have HFIN:Hid (∀ (hc:Nat) (n':NodeD) (l':NdL) (L':List (Nat × (NodeD × NdL))) (U':List Bool) (pa:Nat),Sm hc n' L' U'→Rs pa (hc+1) (L' ++ [(pa,(n',l'))]) (markN U' pa true 1)):=Lib.hid (fun hc n' l' L' U' pa hs=>by
  rw [hSm] at hs
  rw [hRs]
  refine ⟨fun _ h2 _=>?_,fun h1=>by omega⟩
  obtain ⟨rfl,rfl,rfl,rfl⟩:=hs h2
  exact ⟨rfl,rfl,l',rfl⟩)
 have HNO:Hid (∀ (hc:Nat) (n':NodeD) (L':List (Nat × (NodeD × NdL))) (U':List Bool),n'.leaf=false→n'.size=1→Sm hc n' L' U'→(∀ a hh L2 U2,Rs a hh L2 U2)∧∀ h2 n2 L2 U2,Sm h2 n2 L2 U2):=Lib.hid (fun hc n' L' U' h1 h2 hs=>by
  rw [hSm] at hs ⊢
  rw [hRs]
  have hno:¬ (n.leaf=true∨n.size≠1):=fun h3=>by
   obtain ⟨rfl,_⟩:=hs h3
   rcases h3 with h3 | h3
   ·rw [h1] at h3
    cases h3
   ·exact h3 h2
  exact ⟨fun _ _ _ _=>⟨fun _ h3 _=>absurd h3 hno,fun h3=>by omega⟩,fun _ _ _ _ h3=>absurd h3 hno⟩)
 clear hSm hRs hsz
 have HFN:=Lib.hid hfun
 have HRV:=Lib.hid hrv
 have HV:=Lib.hid hV
 have HOV:=Lib.hid okV
 have HB0:=Lib.hid hB0
 have HE:=Lib.hid hE
 have HLL:=Lib.hid hLL
 obtain ⟨b,cs,hAb,hbc,hcs⟩:=hA (by simp)
 subst hAb
 have HRG:Hid (w.rangeAt b 0 (ndP (n,l))):=Lib.hid (fun j u hu=>nd_cell hbc (0+j) u (hcs _ _ (by simpa using hu)))
 have HST:Hid (∀ W b6 b10,Below w.heap.size w W→W.heap[b10]?=some (.cells #[.bool n.leaf,.slice l.EA n.es.length l.ec,.slice l.KA n.ks.length l.kc,.slice l.DA n.ds.length l.dc] 86 (0,0))→W.heap[b6]?=some (.cells #[.int .i64 0,.int .i64 0] 43 (0,0))→ToL w W gc gv p B0 m V rd E (L.length+1) b6 b10 h n l L U lv Sm):=Lib.hid (fun W b6 b10 hb h10 h6 =>
  { chg:=hc.below hb,fit:=hf,lay:=fun x hx=>(hL x hx).below hb,good:=hgood,out:=OutS.of_below hb,tre:=ht,own:=ho.below hb,gn:=hgn,box:=h10,res:=h6,cnt:=Nat.le_refl _,same:=HSM0.out })
 obtain ⟨K0,hK0⟩:∃ K0,K0=L.length+1:=⟨_,rfl⟩
 have HK0:Hid (K0≤1000):=Lib.hid (by omega)
 rw [← hK0] at HST ⊢
 clear hfun hrv hV okV hB0 hE hbc hcs hc hL ho hf ht hgn hgood hA hLL hK0
 go_enter Tryz.func30,Tryz.ntmps30
 go_upto_region 1 with fail
 obtain ⟨w1,hw1⟩:∃ w1,w1=w.alloc (.cells #[.int .i64 0,.int .i64 0] 43):=⟨_,rfl⟩
 have B1:=Lib.hid (alloc_bel hw1)
 have G1:Hid (w1.heap[w.heap.size]?=some (.cells #[.int .i64 0,.int .i64 0] 43 (0,0))):=Lib.hid (by rw [hw1];exact heap_alloc_new _ _)
 obtain ⟨b6,hb6⟩:∃ b6,b6=w.heap.size:=⟨_,rfl⟩
 rw [← hb6] at G1
 rw [← hw1,← hb6]
 have HB6:=Lib.hid hb6
 clear hw1 hb6
 go_loopw [1,2] (fun vv hv wr=>vv=.slice (some ⟨b,0,none⟩) 1 c∧hv=.int .i64 ((h:Int)+1)∧w1=wr) (fun _ _ _=>0)
 case atStart=>exact ⟨rfl,rfl,rfl⟩
 case round =>
  obtain ⟨rfl,rfl,rfl⟩:=hrel
  have HRG1:Hid (w1.rangeAt b 0 (ndP (n,l))):=Lib.hid (fun j u hu=>(B1.out.cell (World.block_lt_of_cell? _ _ (HRG.out j u hu))).trans (HRG.out j u hu))
  go_upto_region 12 with (first
   | (refine wpList_load_mid rfl 86 (.tmp 40) rfl b 0 rfl (ndP (n,l)) _ HRG1.out Tryz.underlying86 rfl (by kernel_rfl) ?_)
   | (refine wpList_store_row rfl 86 (.tmp 10) (.tmp 41) rfl w1.heap.size #[.bool n.leaf,.slice l.EA n.es.length l.ec,.slice l.KA n.ks.length l.kc,.slice l.DA n.ds.length l.dc] rfl rfl 86 _ (heap_alloc_new _ _) (by kernel_rfl) rfl (by simp [Value.oneCell']) ?_))
  obtain ⟨b10,hb10⟩:∃ b10,b10=w1.heap.size:=⟨_,rfl⟩
  obtain ⟨w2,hw2⟩:∃ w2,w2=(w1.alloc (.cells #[.bool false,.slice none 0 0,.slice none 0 0,.slice none 0 0] 86)).setRow b10 #[.bool n.leaf,.slice l.EA n.es.length l.ec,.slice l.KA n.ks.length l.kc,.slice l.DA n.ds.length l.dc]:=⟨_,rfl⟩
  have B12:Hid (Below w1.heap.size w1 w2):=Lib.hid (by rw [hw2,hb10];exact below_setRow (alloc_bel rfl) (Nat.le_refl _) _)
  have HT2:Hid (ToL w w2 gc gv p B0 m V rd E K0 b6 b10 h n l L U lv Sm):=Lib.hid (HST.out w2 b6 b10 (B1.out.trans (B12.out.mono B1.out.size)) (by rw [hw2];exact setRow_heap _ _ _ _ _ _ (by rw [hb10];exact heap_alloc_new _ _)) (row_stays G1.out B12.out))
  have HB10:Hid (w.heap.size≤b10):=Lib.hid (by rw [hb10];exact B1.out.size)
  rw [← hb10,← hw2]
  clear hw2 hb10 HST HRG HRG1 G1 B12
  try simp only [Act.put,List.setIfInBounds_toArray,List.set_cons_zero,List.set_cons_succ]
  go_loopw [2] (fun hv wr=>∃ (hc:Nat) (n:NodeD) (l:NdL) (L:List (Nat × (NodeD × NdL))) (U:List Bool) (lv:Value),hv=.int .i64 ((hc+1:Nat):Int)∧Hid (hc≤4∧ToL w wr gc gv p B0 m V rd E K0 b6 b10 hc n l L U lv Sm)) (fun hv _=>(intOf hv).toNat)
  case atStart=>exact ⟨h,n,l,L,U,lv,by first | rfl | go_num,Lib.hid ⟨h4,HT2.out⟩⟩
  case round =>
   clear HT2 HLL
   obtain ⟨hc,n,l,L,U,lv,rfl,HR⟩:=hrel
   have HT:=Lib.hid HR.out.2
   have HC4:=Lib.hid HR.out.1
   clear HR
   have HSZ:=Lib.hid (fun W=>size_any n l W)
   have hlf:=HT.out.tre.leaf
   cases hc with
   | zero =>
     have hl:n.leaf=true:=hlf
     rw [hl] at HSZ
     have HLF:=Lib.hid hl
     have z0:=nd_cell HT.out.box 0 (.bool true) (by rw [hl];rfl)
     have LB:Hid (wr.heap[b10]?=some (.cells #[.bool true,.slice l.EA n.es.length l.ec,.slice l.KA n.ks.length l.kc,.slice l.DA n.ds.length l.dc] 86 (0,0))):=Lib.hid (by have:=HT.out.box;rw [hl] at this;exact this)
     clear hlf hl
     obtain ⟨pa,hpa,hrm⟩:=HT.out.fit.room.less (m:=0+1) (by omega) |>.first (by have:=HT.out.fit.len;have:=HT.out.fit.ok.2.1;omega)
     have HLY:Hid (∀ W,ChgS W gc gv p B0 U V lv L→Calls Tryz.prog 54 #[.pointer (some ⟨gc,0,none⟩),.agg #[.bool true,.slice l.EA n.es.length l.ec,.slice l.KA n.ks.length l.kc,.slice l.DA n.ds.length l.dc]] W fun e w'=>e=.returned (.tuple #[.int .i64 (pa:Int),.int .i64 0])∧(∃ lv',ChgS w' gc gv p B0 (markN U pa true 1) V lv' (L ++ [(pa,(n,l))]))∧OutT gc B0 151 W w'):=Lib.hid (fun W hW=>by
      have h1:=lay_yes gc gv p B0 U V lv L HT.out.fit.len HV.out HT.out.fit.ok HOV.out pa hpa.1 hpa.2 (n,l) (by have:=HT.out.cnt;have:=HK0.out;omega) W hW
      dsimp only at h1
      rw [HLF.out] at h1
      exact h1)
     have HPA:=Lib.hid hpa
     clear hpa hrm
     go_upto_region 19 with (first
      | (refine wpList_load_row rfl 86 (.tmp 10) rfl b10 rfl 86 _ (0,0) _ LB.out Tryz.underlying86 rfl (by kernel_rfl) ?_)
      | (go_at_call 52;refine (HSZ.out _).mono ?_;rintro e x1 ⟨rfl,hb1⟩;have BSZ:=Lib.hid hb1;clear hb1)
      | (go_at_call 54;refine (HLY.out _ HT.out.chg).mono ?_;rintro e x2 ⟨rfl,⟨lv2,hc2⟩,ho2⟩;have C2:=Lib.hid hc2;have O2:=Lib.hid ho2;clear hc2 ho2))
     have S2:Hid (OutS gc B0 (fun _=>False) wr x2):=Lib.hid (OutS.of_outT O2.out)
     have GR2:Hid (x2.heap[b6]?=some (.cells #[.int .i64 0,.int .i64 0] 43 (0,0))):=Lib.hid (S2.out.typed HT.out.chg.chg HT.out.res (by decide) (by decide) (fun h=>h))
     go_wp2_with (refine wpList_store_row rfl 43 (.tmp 6) (.tmp 82) rfl b6 #[.int .i64 (pa:Int),.int .i64 1] rfl rfl 43 _ GR2.out (by kernel_rfl) rfl (by simp [Value.oneCell']) ?_)
     refine bodyPost_ret (v:=.tuple #[.agg #[.int .i64 (pa:Int),.int .i64 1],.int .i64 0]) (results_cell_tmpB (p:=6) (u:=7) (ty:=43) rfl _ _ b6 43 _ (0,0) _ rfl (setRow_heap _ _ _ _ _ _ GR2.out) Tryz.underlying43 rfl (by kernel_rfl)) rfl ?_
     have KN:=KeptNot.of_setRow GR2.out #[.int .i64 (pa:Int),.int .i64 1]
     have hfit:=(HT.out.fit.less (k:=m+1) (by omega))
     have hp5:p≤512:=by have:=HT.out.fit.ok.2.1;omega
     have hfa:=HPA.out.1.1
     have hw6:w.heap.size≤b6:=by have:=HB6.out;omega
     have s3:OutS gc B0 (fun _=>False) w x2:=HT.out.out.trans S2.out
     refine ⟨pa,0+1,L ++ [(pa,(n,l))],markN U pa true 1,lv2,by first | rfl | (congr 1;done),{ chg:=KN.chg C2.out (by decide) (by decide),fit:=?_,lay:=fun x hx=>?_,good:=fun x hx=>?_,out:=?_,tree:=?_,cnt:=?_,same:=HFIN.out _ _ _ _ _ _ HT.out.same }⟩
     ·obtain ⟨pa',hq1,hq2⟩:=hfit.room.first (by rw [hfit.len];exact hp5)
      obtain rfl:pa'=pa:=by
       rcases Nat.lt_trichotomy pa' pa with h | h | h
       ·exact absurd hq1.1 (HPA.out.2 pa' h)
       ·exact h
       ·exact absurd HPA.out.1 (hq1.2 pa h)
      have h1:=LaidOk.one hfit.laid hfit.ok hfit.len hq1.1
      rw [List.map_append]
      exact ⟨by rw [length_markN];exact hfit.len,okM_mark hfit.ok hfit.len hfa,hq2,h1⟩
     ·have h1:OwnN x2 B0 x.2.1 x.2.2:=by
       rcases List.mem_append.1 hx with hx | hx
       ·exact S2.out.own HT.out.chg.chg (HT.out.lay x hx) (fun _ _ h=>h)
       ·rw [List.mem_singleton.1 hx]
        exact S2.out.own HT.out.chg.chg HT.out.own (fun _ _ h=>h)
      exact (own_kept KN h1 (by decide) (by decide) (by decide)).t
     ·rcases List.mem_append.1 hx with hx | hx
      ·exact HT.out.good x hx
      ·rw [List.mem_singleton.1 hx]
       exact HT.out.gn
     ·exact ⟨s3.os,s3.tape,s3.output,by simpa using s3.size,fun k hk hg hX hT=>(setRow_other x2 b6 k _ (by omega)).trans (s3.block k hk hg hX hT)⟩
     ·refine .inr ⟨0,n,rfl,HC4.out,Tre.mono (fun a m h=>rdL_more (.inl h)) HT.out.tre,.inr ⟨l,List.mem_append_right _ (List.mem_singleton.2 rfl)⟩,HE.out⟩
     ·rw [List.length_append]
      exact HT.out.cnt
   | succ hc =>
     have hl:n.leaf=false:=by rw [hlf];simp
     have HLF:=Lib.hid hl
     rw [hl] at HSZ
     have HBX:Hid (wr.heap[b10]?=some (.cells #[.bool false,.slice l.EA n.es.length l.ec,.slice l.KA n.ks.length l.kc,.slice l.DA n.ds.length l.dc] 86 (0,0))):=Lib.hid (by have:=HT.out.box;rw [hl] at this;exact this)
     have z0:=nd_cell HBX.out 0 (.bool false) rfl
     have z1:=nd_cell HBX.out 1 (.slice l.EA n.es.length l.ec) rfl
     have z2:=nd_cell HBX.out 2 (.slice l.KA n.ks.length l.kc) rfl
     have z3:=nd_cell HBX.out 3 (.slice l.DA n.ds.length l.dc) rfl
     clear hlf hl
     by_cases h1:n.size=1
     ·have hs1:((n.size:Int) == 1)=true:=by rw [h1];rfl
      obtain ⟨q,child,hds,hrq,htc,hEc⟩:=HT.out.tre.single h1
      have HRQ:=Lib.hid hrq
      have HTC:=Lib.hid htc
      have HFU:Hid (∀ a m m',rdL rd L a m→rdL rd L a m'→m=m'):=Lib.hid (rdL_fun HFN.out HRV.out HT.out.fit.laid.1 (fun a ha=>(HT.out.fit.laid.2 a ha).2.2.2))
      obtain ⟨bd,od,hDA,hcell⟩:=HT.out.own.at.d (by rw [hds];simp)
      have HCE:Hid (wr.cell? ⟨bd,od,none⟩=some (.int .i64 (q:Int))):=Lib.hid (by
       have:=hcell 0 (kidI q) (by rw [hds];rfl)
       rw [Nat.add_zero] at this
       exact this)
      have hdl:(0:Int)<(n.ds.length:Int):=by rw [hds];simp
      have HBY:Hid (∀ W,Below wr.heap.size wr W→W.cell? ⟨b10,3,none⟩=some (.slice (some ⟨bd,od,none⟩) n.ds.length l.dc)):=Lib.hid (fun W hW=>by
       rw [← hDA]
       exact nd_cell (row_stays HBX.out hW) 3 (.slice l.DA n.ds.length l.dc) rfl)
      have hcw:wrap64 (((hc+1+1:Nat):Int) - 1)=((hc+1:Nat):Int):=by have:=HC4.out;unfold wrap64;omega
      have hcw2:wrap64 ((hc:Int)+1)=((hc+1:Nat):Int):=by have:=HC4.out;unfold wrap64;omega
      have hcw3:wrap64 ((hc:Int)+1+1 - 1)=((hc+1:Nat):Int):=by have:=HC4.out;unfold wrap64;omega
      rw [hDA] at HSZ z3
      have HNX:=Lib.hid (HNO.out _ _ _ _ HLF.out h1 HT.out.same)
      clear hrq htc hcell hds h1 hEc
      have HDA:=Lib.hid hDA
      clear hDA
      go_upto_region 13 with (go_at_call 52;refine (HSZ.out _).mono ?_;rintro e x1 ⟨rfl,hb1⟩;have BSZ:=Lib.hid hb1;have HTX:=Lib.hid (HT.out.below hb1);have y3:=HBY.out _ hb1;have y4:=(hb1.cell (World.block_lt_of_cell? _ _ HCE.out)).trans HCE.out;clear hb1)
      clear z0 z1 z2 z3 hs1
      by_cases hin:q ∈ L.map Prod.fst
      ·have HUN:=Lib.hid (unlay_yes gc gv p B0 q (1+m) U V lv L HT.out.fit HV.out hin (by have:=HT.out.cnt;have:=HK0.out;omega) x1 HTX.out.chg (Nat.le_trans HB0.out HTX.out.out.size))
       clear hin
       go_upto_region 14 with fail
       go_upto_region 15 with (first
        | (go_at_call 53;refine HUN.out.mono ?_;rintro e x5 ⟨L1,L2,y,lv5,hL12,rfl,hc5,hf5,ho5⟩;have L12:=Lib.hid hL12;have C5:=Lib.hid hc5;have F5:=Lib.hid hf5;have S5:=Lib.hid ho5;clear hL12 hc5 hf5 ho5)
        | (refine wpList_store_row rfl 86 (.tmp 11) (.tmp 59) rfl x5.heap.size #[.bool y.1.leaf,.slice y.2.EA y.1.es.length y.2.ec,.slice y.2.KA y.1.ks.length y.2.kc,.slice y.2.DA y.1.ds.length y.2.dc] rfl rfl 86 _ (heap_alloc_new _ _) (by kernel_rfl) rfl (by simp [Value.oneCell']) ?_))
       clear y3 y4
       obtain ⟨cc,hcc⟩:∃ cc:Array Value,cc=#[.bool y.1.leaf,.slice y.2.EA y.1.es.length y.2.ec,.slice y.2.KA y.1.ks.length y.2.kc,.slice y.2.DA y.1.ds.length y.2.dc]:=⟨_,rfl⟩
       have Q1:Hid ((Tryz.prog.info? 86).map (·.size)=some cc.size):=Lib.hid (by subst hcc;kernel_rfl)
       have Q2:Hid ((#[.bool false,.slice l.EA n.es.length l.ec,.slice l.KA n.ks.length l.kc,.slice l.DA n.ds.length l.dc]:Array Value).size=cc.size):=Lib.hid (by subst hcc;rfl)
       have Q3:Hid (cc.all (·.oneCell')=true):=Lib.hid (by subst hcc;simp [Value.oneCell'])
       have HCC:=Lib.hid hcc
       obtain ⟨b11,hb11⟩:∃ b11,b11=x5.heap.size:=⟨_,rfl⟩
       obtain ⟨x6,hx6⟩:∃ x6,x6=(x5.alloc (.cells #[.bool false,.slice none 0 0,.slice none 0 0,.slice none 0 0] 86)).setRow b11 cc:=⟨_,rfl⟩
       have B56:Hid (Below x5.heap.size x5 x6):=Lib.hid (by rw [hx6,hb11];exact below_setRow (alloc_bel rfl) (Nat.le_refl _) _)
       have G11:Hid (x6.heap[b11]?=some (.cells cc 86 (0,0))):=Lib.hid (by
        rw [hx6]
        exact setRow_heap _ _ _ _ _ _ (by rw [hb11];exact heap_alloc_new _ _))
       have HBX1:Hid (x1.heap[b10]?=some (.cells #[.bool false,.slice l.EA n.es.length l.ec,.slice l.KA n.ks.length l.kc,.slice l.DA n.ds.length l.dc] 86 (0,0))):=Lib.hid (row_stays HBX.out BSZ.out)
       have G106:Hid (x6.heap[b10]?=some (.cells #[.bool false,.slice l.EA n.es.length l.ec,.slice l.KA n.ks.length l.kc,.slice l.DA n.ds.length l.dc] 86 (0,0))):=Lib.hid (row_stays (S5.out.typed HTX.out.chg.chg HBX1.out (by decide) (by decide) (fun h=>h)) B56.out)
       rw [← hcc,← hb11,← hx6]
       clear hcc hb11 hx6 HUN
       try simp only [Act.put,List.setIfInBounds_toArray,List.set_cons_zero,List.set_cons_succ]
       go_wp2_with (first
        | (refine wpList_load_row rfl 86 (.tmp 11) rfl b11 rfl 86 cc (0,0) _ G11.out Tryz.underlying86 rfl Q1.out ?_)
        | (refine wpList_store_row rfl 86 (.tmp 10) (.tmp 69) rfl b10 cc rfl rfl 86 _ G106.out Q1.out Q2.out Q3.out ?_))
       have KN:=KeptNot.of_setRow G106.out cc
       have hbne:b6≠b10:=fun e=>by
        have h2:=HT.out.res
        rw [e,HBX.out] at h2
        cases h2
       have hyc:child=y.1:=HFU.out q child y.1 HRQ.out (.inr ⟨y.2,by rw [L12.out];exact List.mem_append_right _ (List.mem_cons_self ..)⟩)
       have hsub:∀ x,x ∈ L1 ++ L2→x ∈ L:=fun x hx=>by
        rw [L12.out]
        rcases List.mem_append.1 hx with hx | hx
        ·exact List.mem_append_left _ hx
        ·exact List.mem_append_right _ (List.mem_cons_of_mem _ hx)
       have hyL:(q,y) ∈ L:=by rw [L12.out];exact List.mem_append_right _ (List.mem_cons_self ..)
       have s6:OutS gc B0 (fun _=>False) w x6:=(HTX.out.out.trans S5.out).trans (OutS.of_below B56.out)
       have HEND:Hid (ToL w (x6.setRow b10 cc) gc gv p B0 m V rd E K0 b6 b10 hc y.1 y.2 (L1 ++ L2) (markN U q false 1) lv5 Sm):=Lib.hid
        { chg:=KN.chg (C5.out.below B56.out) (by decide) (by decide)
          fit:=F5.out
          lay:=fun x hx=>own_kept KN ((S5.out.own HTX.out.chg.chg (HTX.out.lay x (hsub x hx)) (fun _ _ h=>h)).below B56.out) (by decide) (by decide) (by decide)
          good:=fun x hx=>HT.out.good x (hsub x hx)
          out:=⟨s6.os,s6.tape,s6.output,by simpa using s6.size,fun k hk hg hX hT=>(setRow_other x6 b10 k _ (by have:=HB10.out;omega)).trans (s6.block k hk hg hX hT)⟩
          tre:=by
           have h3:=HTC.out
           rw [hyc] at h3
           refine Tre.avoid HFU.out (q:=q) (H:=hc) (child:=y.1) (by rw [← hyc];exact HRQ.out) h3 (fun a m hm ha=>?_) (Nat.le_refl _) h3
           rw [L12.out] at hm
           exact rdL_drop hm ha
          own:=own_kept KN ((S5.out.own HTX.out.chg.chg (HTX.out.lay (q,y) hyL) (fun _ _ h=>h)).below B56.out) (by decide) (by decide) (by decide)
          gn:=HT.out.good (q,y) hyL
          box:=by
           have h3:=setRow_heap x6 b10 _ cc _ _ G106.out
           rw [h3,HCC.out]
          res:=(setRow_other x6 b10 b6 _ hbne).trans (row_stays (S5.out.typed HTX.out.chg.chg HTX.out.res (by decide) (by decide) (fun h=>h)) B56.out)
          cnt:=by
           have h3:=HT.out.cnt
           rw [L12.out,List.length_append,List.length_cons] at h3
           rw [List.length_append]
           omega
          same:=HNX.out.2 _ _ _ _ }
       clear KN hbne hyc hsub hyL s6
       try simp only [Act.put,List.setIfInBounds_toArray,List.set_cons_zero,List.set_cons_succ]
       go_roundw
       case rel=>exact ⟨hc,y.1,y.2,L1 ++ L2,markN U q false 1,lv5,by first | rfl | go_num,Lib.hid ⟨by have:=HC4.out;omega,HEND.out⟩⟩
       case measure=>first | (simp [intOf];done) | (simp [intOf];omega)
      ·have HUN:=Lib.hid (unlay_no gc gv p B0 q U V lv L HT.out.fit.len HV.out hin (by have:=HT.out.cnt;have:=HK0.out;omega) x1 HTX.out.chg)
       go_upto_region 15 with (first
        | (go_at_call 53;refine HUN.out.mono ?_;rintro e x5 ⟨rfl,hb5⟩;have B5:=Lib.hid hb5;clear hb5)
        | (refine wpList_store_row rfl 86 (.tmp 11) (.tmp 59) rfl x5.heap.size #[.bool false,.slice none 0 0,.slice none 0 0,.slice none 0 0] rfl rfl 86 _ (heap_alloc_new _ _) (by kernel_rfl) rfl (by simp [Value.oneCell']) ?_))
       obtain ⟨x6,hx6⟩:∃ x6,x6=(x5.alloc (.cells #[.bool false,.slice none 0 0,.slice none 0 0,.slice none 0 0] 86)).setRow x5.heap.size #[.bool false,.slice none 0 0,.slice none 0 0,.slice none 0 0]:=⟨_,rfl⟩
       have B16:Hid (Below x1.heap.size x1 x6):=Lib.hid (B5.out.trans ((by rw [hx6];exact below_setRow (alloc_bel rfl) (Nat.le_refl _) _:Below x5.heap.size x5 x6).mono B5.out.size))
       rw [← hx6]
       clear hx6
       have HT6:=Lib.hid (HTX.out.below B16.out)
       have y36:=HBY.out x6 ((BSZ.out).trans (B16.out.mono BSZ.out.size))
       have y46:=(B16.out.cell (World.block_lt_of_cell? _ _ y4)).trans y4
       clear y3 y4 HUN
       try simp only [Act.put,List.setIfInBounds_toArray,List.set_cons_zero,List.set_cons_succ]
       go_wp2_with (refine wpList_store_row rfl 43 (.tmp 6) (.tmp 68) rfl b6 #[.int .i64 (q:Int),.int .i64 ((hc+1:Nat):Int)] rfl rfl 43 _ HT6.out.res (by kernel_rfl) rfl (by simp [Value.oneCell']) ?_)
       refine bodyPost_ret (v:=.tuple #[.agg #[.int .i64 (q:Int),.int .i64 ((hc+1:Nat):Int)],.int .i64 0]) (results_cell_tmpB (p:=6) (u:=7) (ty:=43) rfl _ _ b6 43 _ (0,0) _ rfl (setRow_heap _ _ _ _ _ _ HT6.out.res) Tryz.underlying43 rfl (by kernel_rfl)) rfl ?_
       have KN:=KeptNot.of_setRow HT6.out.res #[.int .i64 (q:Int),.int .i64 ((hc+1:Nat):Int)]
       have s3:=HT6.out.out
       have hw6:w.heap.size≤b6:=by have:=HB6.out;omega
       refine ⟨q,hc+1,L,U,lv,rfl,{ chg:=KN.chg HT6.out.chg (by decide) (by decide),fit:=HT.out.fit.less (by omega),lay:=fun x hx=>(own_kept KN (HT6.out.lay x hx) (by decide) (by decide) (by decide)).t,good:=HT.out.good,out:=?_,tree:=.inr ⟨hc,child,rfl,by have:=HC4.out;omega,HTC.out,HRQ.out,HE.out⟩,cnt:=by have:=HT.out.cnt;omega,same:=HNX.out.1 _ _ _ _ }⟩
       exact ⟨s3.os,s3.tape,s3.output,by simpa using s3.size,fun k hk hg hX hT=>(setRow_other x6 b6 k _ (by omega)).trans (s3.block k hk hg hX hT)⟩
     ·have hs1:((n.size:Int) == 1)=false:=by simp;omega
      have H1:=Lib.hid h1
      clear h1
      have HBY:Hid (∀ W,Below wr.heap.size wr W→W.heap[b10]?=some (.cells #[.bool false,.slice l.EA n.es.length l.ec,.slice l.KA n.ks.length l.kc,.slice l.DA n.ds.length l.dc] 86 (0,0))):=Lib.hid (fun W hW=>row_stays HBX.out hW)
      go_upto_region 18 with (first
       | (refine wpList_load_row rfl 86 (.tmp 10) rfl b10 rfl 86 _ (0,0) _ HBX.out Tryz.underlying86 rfl (by kernel_rfl) ?_)
       | (go_at_call 52;refine (HSZ.out _).mono ?_;rintro e x1 ⟨rfl,hb1⟩;have BSZ:=Lib.hid hb1;have HTX:=Lib.hid (HT.out.below hb1);have HBZ:=Lib.hid (HBY.out _ hb1);clear hb1))
      obtain ⟨pa,hpa,hrm⟩:=HT.out.fit.room.less (m:=0+1) (by omega) |>.first (by have:=HT.out.fit.len;have:=HT.out.fit.ok.2.1;omega)
      have HLY:Hid (∀ W,ChgS W gc gv p B0 U V lv L→Calls Tryz.prog 54 #[.pointer (some ⟨gc,0,none⟩),.agg #[.bool false,.slice l.EA n.es.length l.ec,.slice l.KA n.ks.length l.kc,.slice l.DA n.ds.length l.dc]] W fun e w'=>e=.returned (.tuple #[.int .i64 (pa:Int),.int .i64 0])∧(∃ lv',ChgS w' gc gv p B0 (markN U pa true 1) V lv' (L ++ [(pa,(n,l))]))∧OutT gc B0 151 W w'):=Lib.hid (fun W hW=>by
       have h1:=lay_yes gc gv p B0 U V lv L HT.out.fit.len HV.out HT.out.fit.ok HOV.out pa hpa.1 hpa.2 (n,l) (by have:=HT.out.cnt;have:=HK0.out;omega) W hW
       dsimp only at h1
       rw [HLF.out] at h1
       exact h1)
      have HPA:=Lib.hid hpa
      clear hpa hrm
      go_upto_region 19 with (first
       | (refine wpList_load_row rfl 86 (.tmp 10) rfl b10 rfl 86 _ (0,0) _ HBZ.out Tryz.underlying86 rfl (by kernel_rfl) ?_)
       | (go_at_call 52;refine (HSZ.out _).mono ?_;rintro e x1 ⟨rfl,hb1⟩;have BSZ:=Lib.hid hb1;clear hb1)
       | (go_at_call 54;refine (HLY.out _ HTX.out.chg).mono ?_;rintro e x2 ⟨rfl,⟨lv2,hc2⟩,ho2⟩;have C2:=Lib.hid hc2;have O2:=Lib.hid ho2;clear hc2 ho2))
      have S2:Hid (OutS gc B0 (fun _=>False) x1 x2):=Lib.hid (OutS.of_outT O2.out)
      have GR2:Hid (x2.heap[b6]?=some (.cells #[.int .i64 0,.int .i64 0] 43 (0,0))):=Lib.hid (S2.out.typed HTX.out.chg.chg HTX.out.res (by decide) (by decide) (fun h=>h))
      go_wp2_with (refine wpList_store_row rfl 43 (.tmp 6) (.tmp 82) rfl b6 #[.int .i64 (pa:Int),.int .i64 ((hc+1+1:Nat):Int)] rfl rfl 43 _ GR2.out (by kernel_rfl) rfl (by simp [Value.oneCell']) ?_)
      refine bodyPost_ret (v:=.tuple #[.agg #[.int .i64 (pa:Int),.int .i64 ((hc+1+1:Nat):Int)],.int .i64 0]) (results_cell_tmpB (p:=6) (u:=7) (ty:=43) rfl _ _ b6 43 _ (0,0) _ rfl (setRow_heap _ _ _ _ _ _ GR2.out) Tryz.underlying43 rfl (by kernel_rfl)) rfl ?_
      have KN:=KeptNot.of_setRow GR2.out #[.int .i64 (pa:Int),.int .i64 ((hc+1+1:Nat):Int)]
      have hfit:=(HT.out.fit.less (k:=m+1) (by omega))
      have hp5:p≤512:=by have:=HT.out.fit.ok.2.1;omega
      have hfa:=HPA.out.1.1
      have hw6:w.heap.size≤b6:=by have:=HB6.out;omega
      have s3:OutS gc B0 (fun _=>False) w x2:=HTX.out.out.trans S2.out
      refine ⟨pa,(hc+1)+1,L ++ [(pa,(n,l))],markN U pa true 1,lv2,by first | rfl | (congr 1;done),{ chg:=KN.chg C2.out (by decide) (by decide),fit:=?_,lay:=fun x hx=>?_,good:=fun x hx=>?_,out:=?_,tree:=?_,cnt:=?_,same:=HFIN.out _ _ _ _ _ _ HT.out.same }⟩
      ·obtain ⟨pa',hq1,hq2⟩:=hfit.room.first (by rw [hfit.len];exact hp5)
       obtain rfl:pa'=pa:=by
        rcases Nat.lt_trichotomy pa' pa with h | h | h
        ·exact absurd hq1.1 (HPA.out.2 pa' h)
        ·exact h
        ·exact absurd HPA.out.1 (hq1.2 pa h)
       have h1:=LaidOk.one hfit.laid hfit.ok hfit.len hq1.1
       rw [List.map_append]
       exact ⟨by rw [length_markN];exact hfit.len,okM_mark hfit.ok hfit.len hfa,hq2,h1⟩
      ·have h1:OwnN x2 B0 x.2.1 x.2.2:=by
        rcases List.mem_append.1 hx with hx | hx
        ·exact S2.out.own HTX.out.chg.chg (HTX.out.lay x hx) (fun _ _ h=>h)
        ·rw [List.mem_singleton.1 hx]
         exact S2.out.own HTX.out.chg.chg HTX.out.own (fun _ _ h=>h)
       exact (own_kept KN h1 (by decide) (by decide) (by decide)).t
      ·rcases List.mem_append.1 hx with hx | hx
       ·exact HT.out.good x hx
       ·rw [List.mem_singleton.1 hx]
        exact HT.out.gn
      ·exact ⟨s3.os,s3.tape,s3.output,by simpa using s3.size,fun k hk hg hX hT=>(setRow_other x2 b6 k _ (by omega)).trans (s3.block k hk hg hX hT)⟩
      ·refine .inr ⟨(hc+1),n,rfl,HC4.out,Tre.mono (fun a m h=>rdL_more (.inl h)) HT.out.tre,.inr ⟨l,List.mem_append_right _ (List.mem_singleton.2 rfl)⟩,HE.out⟩
      ·rw [List.length_append]
       exact HT.out.cnt
theorem top_zero (gc h:Nat) (A:Option Addr) (c:Nat) (w:World) :
 Calls Tryz.prog 30 #[.pointer (some ⟨gc,0,none⟩),.slice A 0 c,.int .i64 ((h:Int)+1)] w fun e w'=>e=.returned (.tuple #[.agg #[.int .i64 0,.int .i64 0],.int .i64 0])∧Below w.heap.size w w':=by
 go_enter Tryz.func30,Tryz.ntmps30
 go_upto_region 1 with fail
 obtain ⟨w1,hw1⟩:∃ w1,w1=w.alloc (.cells #[.int .i64 0,.int .i64 0] 43):=⟨_,rfl⟩
 have G1:Hid (w1.heap[w.heap.size]?=some (.cells #[.int .i64 0,.int .i64 0] 43 (0,0))):=Lib.hid (by rw [hw1];exact heap_alloc_new _ _)
 have B1:=Lib.hid (alloc_bel hw1)
 rw [← hw1]
 clear hw1
 go_loopw [1,2] (fun l i wr=>l=.slice A 0 c∧i=.int .i64 ((h:Int)+1)∧Hid (wr=w1)) (fun _ _ _=>0)
 case atStart=>exact ⟨rfl,rfl,Lib.hid rfl⟩
 case round =>
  obtain ⟨rfl,rfl,HW⟩:=hrel
  obtain ⟨W0,rfl⟩:∃ W0,W0=wr:=⟨_,rfl⟩
  have G2:Hid (W0.heap[w.heap.size]?=some (.cells #[.int .i64 0,.int .i64 0] 43 (0,0))):=Lib.hid (by rw [HW.out];exact G1.out)
  have hd:decide ((0:Int) > 1)=false:=by simp
  go_wp2_with (refine wpList_store_row rfl 43 (.tmp 6) (.tmp 38) rfl w.heap.size #[.int .i64 0,.int .i64 0] rfl rfl 43 _ G2.out (by kernel_rfl) rfl (by simp [Value.oneCell']) ?_)
  refine bodyPost_ret (v:=.tuple #[.agg #[.int .i64 0,.int .i64 0],.int .i64 0]) (results_cell_tmpB (p:=6) (u:=7) (ty:=43) rfl _ _ w.heap.size 43 _ (0,0) _ rfl (setRow_heap _ _ _ _ _ _ G2.out) Tryz.underlying43 rfl (by kernel_rfl)) rfl ⟨rfl,?_⟩
  rw [HW.out]
  exact below_setRow B1.out (Nat.le_refl _) _
theorem top_split (gc gv p B0 h m:Nat) (U V:List Bool) (lv:Value) (L:List (Nat × (NodeD × NdL))) (rd:Nat→NodeD→Prop) (hfun:∀ a m m',rd a m→rd a m'→m=m') (hrv:∀ a m,rd a m→2≤a∧a<p∧V.getD a false=true) (E:List EntD) (n:NodeD) (hV:V.length=512) (okV:okM (p:Int) V) (hf:FitU p V U (1+m) (L.map Prod.fst)) (hLL:L.length≤900)
 (ht:TrO (rdL rd L) h n E) (hn:n.size≤capN n.leaf) (h4:h≤4) (hE:GoodE E) (hgood:∀ x ∈ L,okNode x.2.1∧inNode x.2.1) (w:World) (hc:ChgS w gc gv p B0 U V lv L) (hL:∀ x ∈ L,OwnN w B0 x.2.1 x.2.2) (hB0:B0≤w.heap.size) (A:Option Addr) (c:Nat) (ps:List (NodeD × NdL)) (W:World) (hW:Below w.heap.size w W) (hsp:SplitOf n (ps.map Prod.fst)) (hrow:W.ownsRow w.heap.size 86 4 (.slice A ps.length c) ps.length (ps.flatMap ndP)) (how:∀ x ∈ ps,OwnN W w.heap.size x.1 x.2) :
 Calls Tryz.prog 30 #[.pointer (some ⟨gc,0,none⟩),.slice A ps.length c,.int .i64 ((h:Int)+1)] W fun e w'=>∃ (a hh:Nat) (L':List (Nat × (NodeD × NdL))) (U':List Bool) (lv':Value),e=.returned (.tuple #[.agg #[.int .i64 (a:Int),.int .i64 (hh:Int)],.int .i64 0])∧ToR W w' gc gv p B0 m V rd E a hh (L.length+1) L' U' lv' (TopS n h L U):=by
 by_cases h0:n.size=0
 ·have hps:ps=[]:=by
   have:=hsp.none h0
   exact List.map_eq_nil_iff.1 this
  subst hps
  refine (top_zero gc h A c W).mono ?_
  rintro e w' ⟨rfl,hb⟩
  exact ⟨0,0,L,U,lv,rfl,{ chg:=(hc.below hW).below hb,fit:=hf.less (by omega),lay:=fun x hx=>(((hL x hx).below hW).below hb).t,good:=hgood,out:=OutS.of_below hb,tree:=.inl ⟨ht.none h0,rfl⟩,cnt:=by omega,same:=⟨fun h1=>by omega,fun h1=>by omega⟩ }⟩
 ·have hps:=hsp.one (by omega) hn
  obtain ⟨⟨n',l⟩,rfl⟩:∃ x,ps=[x]:=List.length_eq_one_iff.1 (by have:=congrArg List.length hps;rw [List.length_map] at this;simpa using this)
  obtain rfl:n'=n:=by simpa using hps
  have hp5:p≤512:=by have:=okV.2.1;omega
  have htr:=ht.tre (by omega)
  have hfu:=rdL_fun hfun (fun a m h=>(hrv a m h).2.2) hf.laid.1 (fun a ha=>(hf.laid.2 a ha).2.2.2)
  have hgn:=ok_tre hfu (fun a m h=>by
   rcases h with h | ⟨l,h⟩
   ·have:=hrv a m h
    omega
   ·have:=hf.laid.2 a (List.mem_map_of_mem h)
    omega) htr hE (by omega) hn
  exact top_one gc gv p B0 h m U V lv L rd hfun (fun a m h=>(hrv a m h).2.2) E n' l hV okV hf hLL htr h4 (htr.some (by omega)) hgn hgood A c W (hc.below hW) (fun x hx=>(hL x hx).below hW) (ChAt.of_row hrow) ((how (n',l) (List.mem_singleton.2 rfl)).mono hB0) (Nat.le_trans hB0 hW.size)
end Go.Proofs.YtgkddhncfaeidaaGreat
