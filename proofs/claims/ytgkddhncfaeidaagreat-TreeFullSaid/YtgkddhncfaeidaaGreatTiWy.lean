/- Squeezed: the texts as they are written lie in wip/tpl. -/
import Derived.Test.YtgkddhncfaeidaaGreatPart22
import Derived.Test.YtgkddhncfaeidaaGreatPart26
import Derived.Test.YtgkddhncfaeidaaGreatPart25
import Derived.Test.YtgkddhncfaeidaaGreatPart10
import Derived.Test.YtgkddhncfaeidaaGreatPart21
set_option maxRecDepth 100000
set_option maxHeartbeats 8000000
set_option linter.unusedSimpArgs false
set_option linter.unusedVariables false
namespace Go.Proofs.YtgkddhncfaeidaaGreat
set_option linter.unnecessarySimpa false
open Go.RowKit Go.ChangeShapes Go.WideShapes Go.ChangeAt CrcM PageM
theorem trefused_ok (gv g gen:Nat) (p:Int) (U V:List Bool) (a h:Int) (h0:0≤h) (h5:h≤5) (w:World) (hv:ViewAt w gv g gen p U V) :
 Calls Tryz.prog 56 #[.pointer (some ⟨gv,0,none⟩),.agg #[.int .i64 a,.int .i64 h]] w fun e w'=>e=.returned (.int .i64 0)∧Below w.heap.size w w':=by
 have d1:decide (h<0)=false:=by simp;omega
 have d2:decide (h > 5)=false:=by simp;omega
 have HV:=Lib.hid hv
 clear hv
 go_enter Tryz.func56,Tryz.ntmps56
 go_wp2_with (go_at_call 26;refine (open_yes gv g gen p U V _ (HV.out.below (alloc_bel rfl))).mono ?_;rintro e w0 ⟨rfl,rfl⟩)
 go_ret
 exact ⟨rfl,(Below.refl _ _).alloc (Nat.le_refl _) _⟩
theorem wrap_smallT {x:Int} (h0:0≤x) (h1:x≤1000000):wrap64 x=x:=by unfold wrap64;omega
structure StepM where
 s:StepD
 l:NdL
def stC (x:StepM):List Value:=[.int .i64 (x.s.a:Int),.bool x.s.n.leaf,.slice x.l.EA x.s.n.es.length x.l.ec,.slice x.l.KA x.s.n.ks.length x.l.kc,.slice x.l.DA x.s.n.ds.length x.l.dc,.int .i64 (x.s.at_:Int)]
theorem stC_one (x:StepM):∀ u ∈ stC x,u.oneCell'=true:=by
 intro u hu
 simp only [stC,List.mem_cons,List.not_mem_nil,or_false] at hu
 rcases hu with rfl | rfl | rfl | rfl | rfl | rfl <;> rfl
theorem infoStep:(Tryz.prog.info? 96).map (fun i=>(i.zero,i.size,i.bytes))=some (some (.agg #[.int .i64 0,.bool false,.slice none 0 0,.slice none 0 0,.slice none 0 0,.int .i64 0]),6,96):=by kernel_rfl
theorem NdNew.own {w:World} {B:Nat} {n:NodeD} {l:NdL} (h:NdNew w B n l):OwnN w B n l:=⟨h.re,h.rk,h.rd⟩
theorem NdNew.beside {w w':World} {B base' m sz:Nat} {n:NodeD} {l:NdL} {v:Value} {us:List Value} (h:NdNew w B n l) (ho:w.ownsRow base' 96 sz v m us) (hg:w.grownBy w' v.ownBlock):NdNew w' B n l :=
 ⟨h.e,h.k,h.d,row_keep h.re (fun k cur _ hc=>typed_kept ho hg (by decide) hc),row_keep h.rk (fun k cur _ hc=>typed_kept ho hg (by decide) hc),row_keep h.rd (fun k cur _ hc=>typed_kept ho hg (by decide) hc)⟩
def SepL (l l':NdL):Prop:=∃ b,((∀ a,l.EA=some a→a.block<b)∧(∀ a,l.KA=some a→a.block<b)∧∀ a,l.DA=some a→a.block<b)∧(∀ a,l'.EA=some a→b≤a.block)∧(∀ a,l'.KA=some a→b≤a.block)∧∀ a,l'.DA=some a→b≤a.block
theorem sepL_new {w w':World} {B b:Nat} {n n':NodeD} {l l':NdL} (h:NdNew w B n l) (hb:b=w.heap.size) (h':NdNew w' b n' l'):SepL l l' :=
 ⟨b,⟨fun a e=>by rw [hb];exact (World.ownsRow.lt h.re _ (by rw [e];rfl)).2,fun a e=>by rw [hb];exact (World.ownsRow.lt h.rk _ (by rw [e];rfl)).2,fun a e=>by rw [hb];exact (World.ownsRow.lt h.rd _ (by rw [e];rfl)).2⟩,h'.e,h'.k,h'.d⟩
structure WyS (w wr:World) (pre:List StepM) (v:Value):Prop where
 bel:Below w.heap.size w wr
 row:wr.ownsRow w.heap.size 96 6 v pre.length (pre.flatMap stC)
 nod:∀ x ∈ pre,NdNew wr w.heap.size x.s.n x.l
 dis:pre.Pairwise (fun x y=>SepL x.l y.l)
theorem WyS.below {w wr w':World} {pre:List StepM} {v:Value} (h:WyS w wr pre v) (hb:Below wr.heap.size wr w'):WyS w w' pre v :=
 ⟨h.bel.trans (hb.mono h.bel.size),row_below h.row hb,fun x hx=>(h.nod x hx).below hb,h.dis⟩
def rdQ (nw:List UInt8) (Ls:Nat) (a:Nat) (n:NodeD):Prop:=okNode n∧inNode n∧256*a+256≤Ls∧∃ gg,gg<18446744073709551616∧pageOf nw a=putP ⟨kindB n.leaf,(a:Int),gg,nodeB n⟩
theorem rdQ_up {nw:List UInt8} {Ls a:Nat} {n:NodeD} (h:rdQ nw Ls a n) (k:KeyD):n.es.length≤1000000∧n.ks.length≤1000000∧UpK (n.es.map EntD.key) k∧UpK n.ks k:=by
 have h1:=h.1
 unfold okNode at h1
 split at h1
 ·obtain ⟨h2,_,h4⟩:=h1
  rw [h2]
  exact ⟨Nat.le_trans h4.2.1 (by decide),by simp,upK_ents h4 k,upK_nil k⟩
 ·obtain ⟨h2,_,h4,_⟩:=h1
  rw [h2]
  exact ⟨by simp,Nat.le_trans h4.2.1 (by decide),upK_nil k,upK_keys h4 k⟩
theorem way_of {rd:Nat→NodeD→Prop} (gv g gen p a h:Nat) (U V:List Bool) {B N gs gn Ls cs cn:Nat} {rw:Value} {st nw:List UInt8} {ws:List (Nat × List UInt8)} (n0:NodeD) (es:List EntD) (k:KeyD) (hrd:∀ a n,rd a n→rdQ nw Ls a n) (hr:rd a n0) (ht:Tre rd h n0 es) (h1:1≤es.length) (h4:h≤4) (w:World) (hv:ViewAt w gv g gen (p:Int) U V) (hd:Dk w B N g gs gn rw Ls cs cn st nw ws true (-1)) (hh:Int) (ehh:hh=(h:Int)+1) :
 Calls Tryz.prog 35 #[.pointer (some ⟨gv,0,none⟩),.agg #[.int .i64 (a:Int),.int .i64 hh],.agg #[.int .i64 k.se,.int .i64 k.st]] w fun e w'=>∃ (pre:List StepM) (A:Option Addr) (c:Nat),e=.returned (.tuple #[.slice A pre.length c,.int .i64 0])∧WyS w w' pre (.slice A pre.length c)∧Down rd k h a n0 es (pre.map StepM.s):=by
 have HNY:Hid (∀ (W:World) (a:Nat) (n:NodeD) (za:Int) (lf:Bool),za=(a:Int)→lf=n.leaf→rd a n→Below w.heap.size w W→Calls Tryz.prog 57 #[.pointer (some ⟨gv,0,none⟩),.int .i64 za,.bool lf] W fun e w'=>(∃ l':NdL,e=.returned (.tuple #[.agg #[.bool n.leaf,.slice l'.EA n.es.length l'.ec,.slice l'.KA n.ks.length l'.kc,.slice l'.DA n.ds.length l'.dc],.int .i64 0])∧NodeAt w' n l'∧NdNew w' W.heap.size n l')∧Below W.heap.size W w'):=Lib.hid (fun W a n za lf h1 h2 h3 hW=>by
  obtain ⟨k1,k2,k3,gg,k4,k5⟩:=hrd _ _ h3
  exact node_yes gv g gen p a gg U V n k1 k2 k3 k4 k5 lf h2 za h1 W (hv.below hW) (hd.below hW))
 have HRF:Hid (∀ W,Below w.heap.size w W→Calls Tryz.prog 56 #[.pointer (some ⟨gv,0,none⟩),.agg #[.int .i64 (a:Int),.int .i64 hh]] W fun e w'=>e=.returned (.int .i64 0)∧Below W.heap.size W w'):=Lib.hid (fun W hW=>trefused_ok gv g gen p U V _ _ (by omega) (by omega) W (hv.below hW))
 have HON:Hid (OnDown rd k h a n0 es [] h a n0 es):=Lib.hid (OnDown.start hr ht h1)
 have HHH:Hid (hh=((h+1:Nat):Int)):=Lib.hid (by omega)
 have H4:=Lib.hid h4
 have HRD:=Lib.hid hrd
 clear hv hd hr ht h1 h4 ehh hrd
 obtain ⟨kse,hks⟩:∃ x,x=k.se:=⟨_,rfl⟩
 obtain ⟨kst,hkt⟩:∃ x,x=k.st:=⟨_,rfl⟩
 have HKE:=Lib.hid hks
 have HKT:=Lib.hid hkt
 rw [← hks,← hkt]
 clear hks hkt
 obtain ⟨w1,hw1⟩:∃ w1,w1=(w.alloc (.cells #[.int .i64 (a:Int),.int .i64 hh] 43)).alloc (.cells #[.int .i64 kse,.int .i64 kst] 38):=⟨_,rfl⟩
 have G1:Hid (w1.heap[w.heap.size]?=some (.cells #[.int .i64 (a:Int),.int .i64 hh] 43 (0,0))):=Lib.hid (by rw [hw1];exact heap_alloc2_old _ _ _)
 have G2:Hid (w1.heap[w.heap.size+1]?=some (.cells #[.int .i64 kse,.int .i64 kst] 38 (0,0))):=Lib.hid (by rw [hw1];exact heap_alloc2_new _ _ _)
 have B1:Hid (Below w.heap.size w w1):=Lib.hid (by rw [hw1];exact below_two (Below.refl _ _))
 have HW1:=Lib.hid hw1
 clear hw1
 go_enter Tryz.func35,Tryz.ntmps35
 go_upto_region 1 with fail
 rw [← HW1.out]
 clear HW1
 go_upto_region 5 with (first
  | (refine wpList_load_row rfl 43 (.tmp 4) rfl w.heap.size rfl 43 _ (0,0) _ G1.out Tryz.underlying43 rfl (by kernel_rfl) ?_)
  | (go_at_call 56;refine (HRF.out _ B1.out).mono ?_;rintro e w2 ⟨rfl,hb2⟩;have RB:=Lib.hid hb2;clear hb2))
 have g1:=row_stays G1.out RB.out
 have z0:=nd_cell g1 0 (.int .i64 (a:Int)) rfl
 have z1:=nd_cell g1 1 (.int .i64 hh) rfl
 have g2:=row_stays G2.out RB.out
 have G2:=Lib.hid g2
 have B2:=Lib.hid (B1.out.trans (RB.out.mono B1.out.size))
 clear g1 g2 G1
 rw [HHH.out] at z1
 go_upto_region 7 with fail
 go_loopw [9,10,11] (fun vv av hv wr=>∃ (pre:List StepM) (A:Option Addr) (c m aa j:Nat),vv=.slice A m c∧av=.int .i64 (aa:Int)∧hv=.int .i64 (j:Int)∧Hid (pre.length=m∧j≤h+1∧pre.length+j=h+1∧WyS w wr pre (.slice A m c)∧wr.heap[w.heap.size+1]?=some (.cells #[.int .i64 kse,.int .i64 kst] 38 (0,0))∧(j=0→Down rd k h a n0 es (pre.map StepM.s))∧∀ i,j=i+1→∃ n es',OnDown rd k h a n0 es (pre.map StepM.s) i aa n es'))
  (fun _ _ hv _=>(intOf hv).toNat)
 case atStart=>exact ⟨[],none,0,0,a,h+1,rfl,rfl,rfl,Lib.hid ⟨rfl,Nat.le_refl _,by simp,⟨B2.out,World.ownsRow_nil _ _ _ _,fun x hx=>(by cases hx),List.Pairwise.nil⟩,G2.out,fun e=>(by cases e),fun i e=>(by cases e;exact ⟨n0,es,HON.out⟩)⟩⟩
 case round =>
  clear z0 z1
  obtain ⟨pre,A0,c0,m0,aa,j,rfl,rfl,rfl,HR⟩:=hrel
  cases j with
  | zero =>
    obtain ⟨hm,-,-,hs,-,hdn,-⟩:=HR.out
    have HM:=Lib.hid hm
    have HS:=Lib.hid hs
    have HDN:=Lib.hid (hdn rfl)
    clear HR hs hdn hm
    have q0:decide (((0:Nat):Int) > 0)=false:=by simp
    go_wp2_with fail
    go_ret2
    obtain rfl:=HM.out
    exact ⟨pre,A0,c0,rfl,HS.out,HDN.out⟩
  | succ i =>
    obtain ⟨-,hj1,hj2,hs,hk,-,hn⟩:=HR.out
    obtain ⟨n,es',hon⟩:=hn i rfl
    have HS:=Lib.hid hs
    have HK:=Lib.hid hk
    have HON1:=Lib.hid hon
    have HJ1:=Lib.hid hj1
    have HJ2:=Lib.hid hj2
    clear HR hs hk hn hon hj1 hj2
    obtain ⟨lf,hlf⟩:∃ lf,lf=n.leaf:=⟨_,rfl⟩
    obtain ⟨ne,hne⟩:∃ ne,ne=n.es.length:=⟨_,rfl⟩
    obtain ⟨nk,hnk⟩:∃ nk,nk=n.ks.length:=⟨_,rfl⟩
    obtain ⟨nd,hnd⟩:∃ nd,nd=n.ds.length:=⟨_,rfl⟩
    have HLI:Hid (lf=decide (i=0)):=Lib.hid (hlf.trans HON1.out.2.1.leaf)
    have HNN:=Lib.hid (fun W hW=>HNY.out W aa n (aa:Int) lf rfl hlf HON1.out.1 hW)
    have HPL:Hid (∀ (l:NdL) (W:World),NodeAt W n l→Calls Tryz.prog 58 #[.agg #[.bool n.leaf,.slice l.EA n.es.length l.ec,.slice l.KA n.ks.length l.kc,.slice l.DA n.ds.length l.dc],.agg #[.int .i64 kse,.int .i64 kst]] W fun e w'=>∃ r:Nat,e=.returned (.int .i64 (r:Int))∧PlaceOf n k r∧Below W.heap.size W w'):=Lib.hid (fun l W hW=>by
     have hu:=rdQ_up (HRD.out _ _ HON1.out.1) k
     have h:=place_any n l k hu.1 hu.2.1 hu.2.2.1 hu.2.2.2 W hW
     rw [← HKE.out,← HKT.out] at h
     exact h)
    rw [← hlf,← hne,← hnk,← hnd] at HNN HPL
    have HLF:=Lib.hid hlf
    have HNE:=Lib.hid hne
    have HNK:=Lib.hid hnk
    have HND:=Lib.hid hnd
    clear hlf hne hnk hnd
    obtain ⟨ji,hji⟩:∃ ji:Int,ji=((i+1:Nat):Int):=⟨_,rfl⟩
    have q0:decide (ji > 0)=true:=by simp;omega
    have q1:(ji == 1)=lf:=by
     rw [HLI.out,hji]
     by_cases h0:i=0
     ·subst h0;rfl
     ·rw [decide_eq_false h0,beq_eq_false_iff_ne]
      omega
    have q2:decide (ji > 1)=!lf:=by
     rw [HLI.out,hji]
     by_cases h0:i=0
     ·subst h0;rfl
     ·rw [decide_eq_false h0,Bool.not_false,decide_eq_true_eq]
      omega
    rw [← hji]
    have hjb:0≤ji:=by omega
    have hjc:ji≤10:=by have:=H4.out;have:=HJ1.out;omega
    have HJI:=Lib.hid hji
    clear hji
    go_upto_region 10 with (go_at_call 57;refine (HNN.out _ HS.out.bel).mono ?_;rintro e w3 ⟨⟨l',rfl,hn3,hw3⟩,hb3⟩;have N3:=Lib.hid hn3;have O3:=Lib.hid hw3;have B3:=Lib.hid hb3;clear hn3 hw3 hb3)
    obtain ⟨g3,hg3⟩:∃ g3,g3=w3.heap.size:=⟨_,rfl⟩
    obtain ⟨wb,hwb⟩:∃ wb,wb=w3.alloc (.cells #[.bool lf,.slice l'.EA ne l'.ec,.slice l'.KA nk l'.kc,.slice l'.DA nd l'.dc] 86):=⟨_,rfl⟩
    have GB:Hid (wb.heap[g3]?=some (.cells #[.bool lf,.slice l'.EA ne l'.ec,.slice l'.KA nk l'.kc,.slice l'.DA nd l'.dc] 86 (0,0))):=Lib.hid (by rw [hwb,hg3];exact heap_alloc_new _ _)
    have AB:=Lib.hid (alloc_bel hwb)
    have SB:=Lib.hid (HS.out.below (B3.out.trans (AB.out.mono B3.out.size)))
    have KB:=Lib.hid (row_stays HK.out (B3.out.trans (AB.out.mono B3.out.size)))
    have NB:=Lib.hid (N3.out.below AB.out)
    have OB:=Lib.hid ((O3.out.mono HS.out.bel.size).below AB.out)
    rw [← hwb,← hg3]
    clear hwb hg3
    have SEP:Hid (∀ x ∈ pre,SepL x.l l'):=Lib.hid (fun x hx=>sepL_new (HS.out.nod x hx) rfl O3.out)
    clear HS HK N3 O3 B3 AB
    go_upto_region 12 with fail
    have f4:∀ y:SubW wb.heap.size wb,y.at_.heap[g3]?=some (.cells #[.bool lf,.slice l'.EA ne l'.ec,.slice l'.KA nk l'.kc,.slice l'.DA nd l'.dc] 86 (0,0)):=fun y=>row_stays GB.out y.ok_
    have f5:∀ y:SubW wb.heap.size wb,y.at_.heap[w.heap.size+1]?=some (.cells #[.int .i64 kse,.int .i64 kst] 38 (0,0)):=fun y=>row_stays KB.out y.ok_
    refine region_ways4 wb.heap.size (Nat.le_refl _) (.two [0,1,2,3] 4 (.one [5] 6 (.one [] 7 (.done []))) 6 (.one [] 4 (.one [5] 7 (.done [])))) (by kernel_rfl) (by kernel_rfl) ?_
    rintro wd hbd
    have BD:=Lib.hid hbd
    clear hbd
    rw [wpWays_two4]
    try simp only [List.map_cons,List.map_nil,opAt,List.getElem?_toArray,List.getElem?_cons_zero,List.getElem?_cons_succ,Option.getD_some]
    repeat (first
     | (go_big_quiet_want;refine quiet_load_row 86 (.tmp 12) rfl g3 rfl 86 _ (0,0) _ f4 Tryz.underlying86 rfl (by kernel_rfl) ?_;simp only [Act.put,List.setIfInBounds_toArray,List.set_cons_zero,List.set_cons_succ];go_big_quiet_on)
     | (go_big_quiet_want;refine quiet_load_row 38 (.tmp 5) rfl (w.heap.size+1) rfl 38 _ (0,0) _ f5 Tryz.underlying38 rfl (by kernel_rfl) ?_;simp only [Act.put,List.setIfInBounds_toArray,List.set_cons_zero,List.set_cons_succ];go_big_quiet_on)
     | go_big_quiet_step (fail))
    clear f4 f5
    refine wpQuiet_nil ⟨?_,?_⟩
    ·go_wp2_with (go_at_call 58;refine (HPL.out l' _ (NB.out.below BD.out)).mono ?_;rintro e x1 ⟨r,rfl,hp4,hb4⟩;have HP:=Lib.hid hp4;have B5:=Lib.hid (BD.out.trans (hb4.mono BD.out.size));clear hp4)
     refine ⟨⟨⟨_,B5.out⟩,rfl⟩,?_⟩
     try simp only [Act.put,List.setIfInBounds_toArray,List.set_cons_zero,List.set_cons_succ]
     rw [wpWays_one4]
     try simp only [List.map_cons,List.map_nil,opAt,List.getElem?_toArray,List.getElem?_cons_zero,List.getElem?_cons_succ,Option.getD_some]
     repeat (first
      | go_big_quiet_step (fail))
     refine wpQuiet_nil ?_
     go_wp2_with fail
     obtain ⟨qa,hqa⟩:∃ qa,qa=x1.heap.size:=⟨_,rfl⟩
     obtain ⟨wa,hwa⟩:∃ wa,wa=World.alloc x1 (.cells #[.int .i64 0,.bool false,.slice none 0 0,.slice none 0 0,.slice none 0 0,.int .i64 0] 96):=⟨_,rfl⟩
     have GA:Hid (wa.heap[qa]?=some (.cells #[.int .i64 0,.bool false,.slice none 0 0,.slice none 0 0,.slice none 0 0,.int .i64 0] 96 (0,0))):=Lib.hid (by rw [hwa,hqa];exact heap_alloc_new _ _)
     have AB:=Lib.hid (alloc_bel hwa)
     have B6:=Lib.hid (B5.out.trans (AB.out.mono B5.out.size))
     have QL:Hid (wb.heap.size≤qa):=Lib.hid (by rw [hqa];exact B5.out.size)
     rw [← hwa,← hqa]
     clear hwa hqa
     refine ⟨⟨⟨_,B6.out⟩,rfl⟩,?_⟩
     try simp only [Act.put,List.setIfInBounds_toArray,List.set_cons_zero,List.set_cons_succ]
     rw [wpWays_one4]
     try simp only [List.map_cons,List.map_nil,opAt,List.getElem?_toArray,List.getElem?_cons_zero,List.getElem?_cons_succ,Option.getD_some]
     refine wpQuiet_nil ?_
     obtain ⟨cc,hcc⟩:∃ cc:Array Value,cc=#[.int .i64 (aa:Int),.bool lf,.slice l'.EA ne l'.ec,.slice l'.KA nk l'.kc,.slice l'.DA nd l'.dc,.int .i64 (r:Int)]:=⟨_,rfl⟩
     rw [← hcc]
     have S1:Hid ((Tryz.prog.info? 96).map (·.size)=some cc.size):=Lib.hid (by subst hcc;kernel_rfl)
     have S2:Hid ((#[.int .i64 0,.bool false,.slice none 0 0,.slice none 0 0,.slice none 0 0,.int .i64 0]:Array Value).size=cc.size):=Lib.hid (by subst hcc;rfl)
     have S3:Hid (cc.all (·.oneCell')=true):=Lib.hid (by subst hcc;simp [Value.oneCell'])
     have HCC:=Lib.hid hcc
     clear hcc
     go_wp2_with (refine wpList_store_row rfl 96 (.tmp 14) (.tmp 45) rfl qa cc rfl rfl 96 _ GA.out S1.out S2.out S3.out ?_)
     have BS:=Lib.hid (below_setRow B6.out QL.out cc)
     have GS:=Lib.hid (setRow_heap _ qa _ cc _ _ GA.out)
     refine ⟨⟨⟨_,BS.out⟩,rfl⟩,?_⟩
     try simp only [Act.put,List.setIfInBounds_toArray,List.set_cons_zero,List.set_cons_succ]
     rw [wpWays_done4]
     try simp only [List.map_nil]
     repeat (first
      | go_big_quiet_step (fail))
     refine wpQuiet_nil ?_
     obtain ⟨xs,hxs⟩:∃ xs,xs=World.setRow wa qa cc:=⟨_,rfl⟩
     rw [← hxs] at BS GS ⊢
     clear hxs
     rw [HCC.out] at GS
     obtain ⟨xz,hxz⟩:∃ xz,xz=xs.alloc (.cells #[.int .i64 (aa:Int),.bool lf,.slice l'.EA ne l'.ec,.slice l'.KA nk l'.kc,.slice l'.DA nd l'.dc,.int .i64 (r:Int)] 96):=⟨_,rfl⟩
     have ZB:=Lib.hid (alloc_bel hxz)
     have CZ:Hid (CellsAt xz (some ⟨xs.heap.size,0,none⟩) [.int .i64 (aa:Int),.bool lf,.slice l'.EA ne l'.ec,.slice l'.KA nk l'.kc,.slice l'.DA nd l'.dc,.int .i64 (r:Int)]):=Lib.hid (by
      rw [hxz]
      exact fun _=>⟨_,0,rfl,fun j hj=>by
       rw [Nat.zero_add]
       exact nd_cell (heap_alloc_new xs _) j _ (by simpa using hj)⟩)
     have BZ:Hid (Below wb.heap.size wb xz):=Lib.hid (BS.out.trans (ZB.out.mono BS.out.size))
     have SZ:=Lib.hid (SB.out.below BZ.out)
     have KZ:=Lib.hid (row_stays KB.out BZ.out)
     have NZ:=Lib.hid (NB.out.below BZ.out)
     have OZ:=Lib.hid (OB.out.below BZ.out)
     have GZ:=Lib.hid (row_stays GB.out BZ.out)
     have GY:=Lib.hid (row_stays GS.out ZB.out)
     have QN:Hid (∀ q,(Value.slice A0 m0 c0).ownBlock=some q→q<qa):=Lib.hid (fun q hq=>Nat.lt_of_lt_of_le (World.ownsRow.lt SB.out.row q hq).2 QL.out)
     have PL:Hid (pre.length≤5):=Lib.hid (by have:=HJ2.out;have:=H4.out;omega)
     have HXZ:=Lib.hid hxz
     clear hxz
     go_upto_region 14 with (first
      | (refine wpList_load_row rfl 96 (.tmp 14) rfl qa rfl 96 _ (0,0) _ GS.out Tryz.underlying96 rfl (by kernel_rfl) ?_)
      | (at_builtin;rw [← HXZ.out];refine wpList_append_row rfl (.tmp 46) (.tmp 48) 90 rfl Tryz.underlying90 (.agg #[.int .i64 0,.bool false,.slice none 0 0,.slice none 0 0,.slice none 0 0,.int .i64 0]) 96 infoStep (by rfl) (by decide) _ rfl SZ.out.row (some ⟨xs.heap.size,0,none⟩) 1 1 rfl rfl CZ.out (by intro u hu;simp only [List.mem_cons,List.not_mem_nil,or_false] at hu;rcases hu with rfl | rfl | rfl | rfl | rfl | rfl <;> rfl) (by have:=PL.out;omega) (by have:=PL.out;unfold maxLen;omega) (by have:=SZ.out.bel.size;omega) (pre.length+1) rfl _ rfl ?_;intro A9 c9 x9 ho9 hg9;have R9:=Lib.hid ho9;have GG9:=Lib.hid hg9;clear ho9 hg9))
     have S9:Hid (WyS w x9 (pre ++ [⟨⟨aa,n,r⟩,l'⟩]) (.slice A9 (pre.length+1) c9)):=Lib.hid ⟨SZ.out.bel.grown GG9.out SZ.out.bel.size (fun q hq=>(World.ownsRow.lt SZ.out.row q hq).1),(by
      rw [List.length_append,List.flatMap_append]
      have h9:=R9.out
      rw [HNE.out,HNK.out,HND.out,HLF.out] at h9
      exact h9),fun x hx=>by
      rcases List.mem_append.1 hx with hx | hx
      ·exact (SZ.out.nod x hx).beside SZ.out.row GG9.out
      ·rw [List.mem_singleton.1 hx]
       exact OZ.out.beside SZ.out.row GG9.out,List.pairwise_append.2 ⟨SZ.out.dis,List.pairwise_singleton _ _,fun x hx y hy=>by rw [List.mem_singleton.1 hy];exact SEP.out x hx⟩⟩
     have K9:Hid (x9.heap[w.heap.size+1]?=some (.cells #[.int .i64 kse,.int .i64 kst] 38 (0,0))):=Lib.hid ((typed_kept SZ.out.row GG9.out (by decide) KZ.out).trans KZ.out)
     have G9:Hid (x9.heap[g3]?=some (.cells #[.bool lf,.slice l'.EA ne l'.ec,.slice l'.KA nk l'.kc,.slice l'.DA nd l'.dc] 86 (0,0))):=Lib.hid ((typed_kept SZ.out.row GG9.out (by decide) GZ.out).trans GZ.out)
     have Q9:Hid (x9.heap[qa]?=some (.cells #[.int .i64 (aa:Int),.bool lf,.slice l'.EA ne l'.ec,.slice l'.KA nk l'.kc,.slice l'.DA nd l'.dc,.int .i64 (r:Int)] 96 (0,0))):=Lib.hid ((GG9.out.block qa (Array.getElem?_eq_some_iff.1 GY.out).1 (fun e=>Nat.lt_irrefl _ (QN.out qa e.symm))).trans GY.out)
     have O9:Hid (NdNew x9 w.heap.size n l'):=Lib.hid (OZ.out.beside SZ.out.row GG9.out)
     have DJ:Hid (wrap64 (ji - 1)=(i:Int)):=Lib.hid (by have e9:=HJI.out;have b9:ji - 1≤1000000:=(by omega);have a9:0≤ji - 1:=(by omega);rw [wrap_smallT a9 b9];omega)
     clear CZ SZ KZ NZ OZ GZ GY R9 HXZ
     cases lf with
     | true =>
       have HI:Hid (i=0):=Lib.hid (by have:=HLI.out;simpa using this)
       go_wp2_with fail
       go_roundw
       case rel=>exact ⟨_,A9,c9,pre.length+1,aa,i,rfl,rfl,by first | rw [DJ.out] | (rw [HJI.out];go_num),Lib.hid ⟨by rw [List.length_append];rfl,by have:=HJ1.out;omega,by rw [List.length_append];have:=HJ2.out;simp;omega,S9.out,K9.out,fun _=>by
        obtain rfl:=HI.out
        rw [List.map_append]
        exact HON1.out.stop HP.out,fun i' hi'=>by have:=HI.out;omega⟩⟩
       case measure=>have:=HJI.out;first | (simp [intOf];omega) | (rw [DJ.out];simp [intOf];omega)
     | false =>
       obtain ⟨i',hi'⟩:∃ i',i=i'+1:=by
        cases i with
        | zero=>have:=HLI.out;simp at this
        | succ i'=>exact ⟨i',rfl⟩
       have HX:Hid (∃ x:Nat × (NodeD × List EntD),n.ds[r]?=some (kidI x.1)∧OnDown rd k h a n0 es (pre.map StepM.s ++ [⟨aa,n,r⟩]) i' x.1 x.2.1 x.2.2):=Lib.hid (by
        have h9:=HON1.out
        rw [hi'] at h9
        exact h9.next HP.out)
       obtain ⟨⟨b,n1,es1⟩,hb,hod⟩:=HX.out
       have HOD:=Lib.hid hod
       have HI:=Lib.hid hi'
       clear HX hod hi'
       have hrd:(r:Int)<(nd:Int):=by have h9:=(List.getElem?_eq_some_iff.1 hb).1;rw [← HND.out] at h9;omega
       have hr0:0≤(r:Int):=by omega
       obtain ⟨bk,o,hDA,hcell⟩:=O9.out.own.at.d (by intro e;rw [e] at hb;simp at hb)
       have hbc:=hcell r _ hb
       have HB:=Lib.hid hb
       clear hcell hb
       have z3:=nd_cell G9.out 3 (.slice l'.DA nd l'.dc) rfl
       have z5:=nd_cell Q9.out 5 (.int .i64 (r:Int)) rfl
       rw [hDA] at z3
       go_wp2_with fail
       go_roundw
       case rel=>exact ⟨_,A9,c9,pre.length+1,b,i,rfl,rfl,by first | rw [DJ.out] | (rw [HJI.out];go_num),Lib.hid ⟨by rw [List.length_append];rfl,by have:=HJ1.out;omega,by rw [List.length_append];have:=HJ2.out;simp;omega,S9.out,K9.out,fun h0=>by have:=HI.out;omega,fun i2 hi2=>by
        have h9:i2=i':=by have:=HI.out;omega
        subst h9
        rw [List.map_append]
        exact ⟨n1,es1,HOD.out⟩⟩⟩
       case measure=>have:=HJI.out;first | (simp [intOf];omega) | (rw [DJ.out];simp [intOf];omega)
    ·go_wp2_with fail
     obtain ⟨qa,hqa⟩:∃ qa,qa=wd.heap.size:=⟨_,rfl⟩
     obtain ⟨wa,hwa⟩:∃ wa,wa=World.alloc wd (.cells #[.int .i64 0,.bool false,.slice none 0 0,.slice none 0 0,.slice none 0 0,.int .i64 0] 96):=⟨_,rfl⟩
     have GA:Hid (wa.heap[qa]?=some (.cells #[.int .i64 0,.bool false,.slice none 0 0,.slice none 0 0,.slice none 0 0,.int .i64 0] 96 (0,0))):=Lib.hid (by rw [hwa,hqa];exact heap_alloc_new _ _)
     have AB:=Lib.hid (alloc_bel hwa)
     have B5:=Lib.hid (BD.out.trans (AB.out.mono BD.out.size))
     have QL:Hid (wb.heap.size≤qa):=Lib.hid (by rw [hqa];exact BD.out.size)
     rw [← hwa,← hqa]
     clear hwa hqa
     refine ⟨⟨⟨_,B5.out⟩,rfl⟩,?_⟩
     try simp only [Act.put,List.setIfInBounds_toArray,List.set_cons_zero,List.set_cons_succ]
     rw [wpWays_one4]
     try simp only [List.map_cons,List.map_nil,opAt,List.getElem?_toArray,List.getElem?_cons_zero,List.getElem?_cons_succ,Option.getD_some]
     refine wpQuiet_nil ?_
     go_wp2_with (go_at_call 58;refine (HPL.out l' _ (NB.out.below B5.out)).mono ?_;rintro e x1 ⟨r,rfl,hp4,hb4⟩;have HP:=Lib.hid hp4;have B6:=Lib.hid (B5.out.trans (hb4.mono B5.out.size));clear hp4)
     refine ⟨⟨⟨_,B6.out⟩,rfl⟩,?_⟩
     try simp only [Act.put,List.setIfInBounds_toArray,List.set_cons_zero,List.set_cons_succ]
     have GA1:=Lib.hid (row_stays GA.out hb4)
     clear GA
     have GA:=GA1
     rw [wpWays_one4]
     try simp only [List.map_cons,List.map_nil,opAt,List.getElem?_toArray,List.getElem?_cons_zero,List.getElem?_cons_succ,Option.getD_some]
     repeat (first
      | go_big_quiet_step (fail))
     refine wpQuiet_nil ?_
     obtain ⟨cc,hcc⟩:∃ cc:Array Value,cc=#[.int .i64 (aa:Int),.bool lf,.slice l'.EA ne l'.ec,.slice l'.KA nk l'.kc,.slice l'.DA nd l'.dc,.int .i64 (r:Int)]:=⟨_,rfl⟩
     rw [← hcc]
     have S1:Hid ((Tryz.prog.info? 96).map (·.size)=some cc.size):=Lib.hid (by subst hcc;kernel_rfl)
     have S2:Hid ((#[.int .i64 0,.bool false,.slice none 0 0,.slice none 0 0,.slice none 0 0,.int .i64 0]:Array Value).size=cc.size):=Lib.hid (by subst hcc;rfl)
     have S3:Hid (cc.all (·.oneCell')=true):=Lib.hid (by subst hcc;simp [Value.oneCell'])
     have HCC:=Lib.hid hcc
     clear hcc
     go_wp2_with (refine wpList_store_row rfl 96 (.tmp 14) (.tmp 45) rfl qa cc rfl rfl 96 _ GA.out S1.out S2.out S3.out ?_)
     have BS:=Lib.hid (below_setRow B6.out QL.out cc)
     have GS:=Lib.hid (setRow_heap _ qa _ cc _ _ GA.out)
     refine ⟨⟨⟨_,BS.out⟩,rfl⟩,?_⟩
     try simp only [Act.put,List.setIfInBounds_toArray,List.set_cons_zero,List.set_cons_succ]
     rw [wpWays_done4]
     try simp only [List.map_nil]
     repeat (first
      | go_big_quiet_step (fail))
     refine wpQuiet_nil ?_
     obtain ⟨xs,hxs⟩:∃ xs,xs=World.setRow x1 qa cc:=⟨_,rfl⟩
     rw [← hxs] at BS GS ⊢
     clear hxs
     rw [HCC.out] at GS
     obtain ⟨xz,hxz⟩:∃ xz,xz=xs.alloc (.cells #[.int .i64 (aa:Int),.bool lf,.slice l'.EA ne l'.ec,.slice l'.KA nk l'.kc,.slice l'.DA nd l'.dc,.int .i64 (r:Int)] 96):=⟨_,rfl⟩
     have ZB:=Lib.hid (alloc_bel hxz)
     have CZ:Hid (CellsAt xz (some ⟨xs.heap.size,0,none⟩) [.int .i64 (aa:Int),.bool lf,.slice l'.EA ne l'.ec,.slice l'.KA nk l'.kc,.slice l'.DA nd l'.dc,.int .i64 (r:Int)]):=Lib.hid (by
      rw [hxz]
      exact fun _=>⟨_,0,rfl,fun j hj=>by
       rw [Nat.zero_add]
       exact nd_cell (heap_alloc_new xs _) j _ (by simpa using hj)⟩)
     have BZ:Hid (Below wb.heap.size wb xz):=Lib.hid (BS.out.trans (ZB.out.mono BS.out.size))
     have SZ:=Lib.hid (SB.out.below BZ.out)
     have KZ:=Lib.hid (row_stays KB.out BZ.out)
     have NZ:=Lib.hid (NB.out.below BZ.out)
     have OZ:=Lib.hid (OB.out.below BZ.out)
     have GZ:=Lib.hid (row_stays GB.out BZ.out)
     have GY:=Lib.hid (row_stays GS.out ZB.out)
     have QN:Hid (∀ q,(Value.slice A0 m0 c0).ownBlock=some q→q<qa):=Lib.hid (fun q hq=>Nat.lt_of_lt_of_le (World.ownsRow.lt SB.out.row q hq).2 QL.out)
     have PL:Hid (pre.length≤5):=Lib.hid (by have:=HJ2.out;have:=H4.out;omega)
     have HXZ:=Lib.hid hxz
     clear hxz
     go_upto_region 14 with (first
      | (refine wpList_load_row rfl 96 (.tmp 14) rfl qa rfl 96 _ (0,0) _ GS.out Tryz.underlying96 rfl (by kernel_rfl) ?_)
      | (at_builtin;rw [← HXZ.out];refine wpList_append_row rfl (.tmp 46) (.tmp 48) 90 rfl Tryz.underlying90 (.agg #[.int .i64 0,.bool false,.slice none 0 0,.slice none 0 0,.slice none 0 0,.int .i64 0]) 96 infoStep (by rfl) (by decide) _ rfl SZ.out.row (some ⟨xs.heap.size,0,none⟩) 1 1 rfl rfl CZ.out (by intro u hu;simp only [List.mem_cons,List.not_mem_nil,or_false] at hu;rcases hu with rfl | rfl | rfl | rfl | rfl | rfl <;> rfl) (by have:=PL.out;omega) (by have:=PL.out;unfold maxLen;omega) (by have:=SZ.out.bel.size;omega) (pre.length+1) rfl _ rfl ?_;intro A9 c9 x9 ho9 hg9;have R9:=Lib.hid ho9;have GG9:=Lib.hid hg9;clear ho9 hg9))
     have S9:Hid (WyS w x9 (pre ++ [⟨⟨aa,n,r⟩,l'⟩]) (.slice A9 (pre.length+1) c9)):=Lib.hid ⟨SZ.out.bel.grown GG9.out SZ.out.bel.size (fun q hq=>(World.ownsRow.lt SZ.out.row q hq).1),(by
      rw [List.length_append,List.flatMap_append]
      have h9:=R9.out
      rw [HNE.out,HNK.out,HND.out,HLF.out] at h9
      exact h9),fun x hx=>by
      rcases List.mem_append.1 hx with hx | hx
      ·exact (SZ.out.nod x hx).beside SZ.out.row GG9.out
      ·rw [List.mem_singleton.1 hx]
       exact OZ.out.beside SZ.out.row GG9.out,List.pairwise_append.2 ⟨SZ.out.dis,List.pairwise_singleton _ _,fun x hx y hy=>by rw [List.mem_singleton.1 hy];exact SEP.out x hx⟩⟩
     have K9:Hid (x9.heap[w.heap.size+1]?=some (.cells #[.int .i64 kse,.int .i64 kst] 38 (0,0))):=Lib.hid ((typed_kept SZ.out.row GG9.out (by decide) KZ.out).trans KZ.out)
     have G9:Hid (x9.heap[g3]?=some (.cells #[.bool lf,.slice l'.EA ne l'.ec,.slice l'.KA nk l'.kc,.slice l'.DA nd l'.dc] 86 (0,0))):=Lib.hid ((typed_kept SZ.out.row GG9.out (by decide) GZ.out).trans GZ.out)
     have Q9:Hid (x9.heap[qa]?=some (.cells #[.int .i64 (aa:Int),.bool lf,.slice l'.EA ne l'.ec,.slice l'.KA nk l'.kc,.slice l'.DA nd l'.dc,.int .i64 (r:Int)] 96 (0,0))):=Lib.hid ((GG9.out.block qa (Array.getElem?_eq_some_iff.1 GY.out).1 (fun e=>Nat.lt_irrefl _ (QN.out qa e.symm))).trans GY.out)
     have O9:Hid (NdNew x9 w.heap.size n l'):=Lib.hid (OZ.out.beside SZ.out.row GG9.out)
     have DJ:Hid (wrap64 (ji - 1)=(i:Int)):=Lib.hid (by have e9:=HJI.out;have b9:ji - 1≤1000000:=(by omega);have a9:0≤ji - 1:=(by omega);rw [wrap_smallT a9 b9];omega)
     clear CZ SZ KZ NZ OZ GZ GY R9 HXZ
     cases lf with
     | true =>
       have HI:Hid (i=0):=Lib.hid (by have:=HLI.out;simpa using this)
       go_wp2_with fail
       go_roundw
       case rel=>exact ⟨_,A9,c9,pre.length+1,aa,i,rfl,rfl,by first | rw [DJ.out] | (rw [HJI.out];go_num),Lib.hid ⟨by rw [List.length_append];rfl,by have:=HJ1.out;omega,by rw [List.length_append];have:=HJ2.out;simp;omega,S9.out,K9.out,fun _=>by
        obtain rfl:=HI.out
        rw [List.map_append]
        exact HON1.out.stop HP.out,fun i' hi'=>by have:=HI.out;omega⟩⟩
       case measure=>have:=HJI.out;first | (simp [intOf];omega) | (rw [DJ.out];simp [intOf];omega)
     | false =>
       obtain ⟨i',hi'⟩:∃ i',i=i'+1:=by
        cases i with
        | zero=>have:=HLI.out;simp at this
        | succ i'=>exact ⟨i',rfl⟩
       have HX:Hid (∃ x:Nat × (NodeD × List EntD),n.ds[r]?=some (kidI x.1)∧OnDown rd k h a n0 es (pre.map StepM.s ++ [⟨aa,n,r⟩]) i' x.1 x.2.1 x.2.2):=Lib.hid (by
        have h9:=HON1.out
        rw [hi'] at h9
        exact h9.next HP.out)
       obtain ⟨⟨b,n1,es1⟩,hb,hod⟩:=HX.out
       have HOD:=Lib.hid hod
       have HI:=Lib.hid hi'
       clear HX hod hi'
       have hrd:(r:Int)<(nd:Int):=by have h9:=(List.getElem?_eq_some_iff.1 hb).1;rw [← HND.out] at h9;omega
       have hr0:0≤(r:Int):=by omega
       obtain ⟨bk,o,hDA,hcell⟩:=O9.out.own.at.d (by intro e;rw [e] at hb;simp at hb)
       have hbc:=hcell r _ hb
       have HB:=Lib.hid hb
       clear hcell hb
       have z3:=nd_cell G9.out 3 (.slice l'.DA nd l'.dc) rfl
       have z5:=nd_cell Q9.out 5 (.int .i64 (r:Int)) rfl
       rw [hDA] at z3
       go_wp2_with fail
       go_roundw
       case rel=>exact ⟨_,A9,c9,pre.length+1,b,i,rfl,rfl,by first | rw [DJ.out] | (rw [HJI.out];go_num),Lib.hid ⟨by rw [List.length_append];rfl,by have:=HJ1.out;omega,by rw [List.length_append];have:=HJ2.out;simp;omega,S9.out,K9.out,fun h0=>by have:=HI.out;omega,fun i2 hi2=>by
        have h9:i2=i':=by have:=HI.out;omega
        subst h9
        rw [List.map_append]
        exact ⟨n1,es1,HOD.out⟩⟩⟩
       case measure=>have:=HJI.out;first | (simp [intOf];omega) | (rw [DJ.out];simp [intOf];omega)
theorem way_yes (gv g gen p a h:Nat) (U V:List Bool) {B N gs gn Ls cs cn:Nat} {rw:Value} {st nw:List UInt8} {ws:List (Nat × List UInt8)} (n0:NodeD) (es:List EntD) (k:KeyD) (hr:rdQ nw Ls a n0) (ht:Tre (rdQ nw Ls) h n0 es) (h1:1≤es.length) (h4:h≤4) (w:World) (hv:ViewAt w gv g gen (p:Int) U V) (hd:Dk w B N g gs gn rw Ls cs cn st nw ws true (-1)) (hh:Int) (ehh:hh=(h:Int)+1) :
 Calls Tryz.prog 35 #[.pointer (some ⟨gv,0,none⟩),.agg #[.int .i64 (a:Int),.int .i64 hh],.agg #[.int .i64 k.se,.int .i64 k.st]] w fun e w'=>∃ (pre:List StepM) (A:Option Addr) (c:Nat),e=.returned (.tuple #[.slice A pre.length c,.int .i64 0])∧WyS w w' pre (.slice A pre.length c)∧Down (rdQ nw Ls) k h a n0 es (pre.map StepM.s) :=
 way_of gv g gen p a h U V n0 es k (fun _ _ h=>h) hr ht h1 h4 w hv hd hh ehh
end Go.Proofs.YtgkddhncfaeidaaGreat
