/- Squeezed: the texts as they are written lie in wip/tpl. -/
import Derived.Test.YtgkddhncfaeidaaGreatPart21
import Derived.Test.YtgkddhncfaeidaaGreatPart15
import Derived.Great.FillDense
import Derived.Test.YtgkddhncfaeidaaGreatPart12
import Derived.Test.YtgkddhncfaeidaaGreatPart24
set_option maxRecDepth 100000
set_option maxHeartbeats 8000000
set_option linter.unusedSimpArgs false
set_option linter.unusedVariables false
namespace Go.Proofs.YtgkddhncfaeidaaGreat
open Go.RowKit Go.ChangeShapes Go.WideShapes Go.ChangeAt CrcM PageM
theorem quietS_build {P:Program} {o:Oper} {a:Act} {S:World→Prop} {K:Act→Prop} (t:TypeId) (parts:Array (Nat × Operand)) (ho:o.op=.build t parts)
 (cells:Array Value) (hf:P.built t (parts.map fun (i,x)=>(i,a.eval x)).toList=some cells) (h:K (a.put o.dst (.agg cells))):o.quiet P a S K:=by
 refine ⟨.agg cells,fun w _=>?_,h⟩
 unfold Oper.quietAt execOp
 simp only [ho,Sem.run_bind,run_build w t _ cells hf,Result.andThen_ok,Sem.run_pure]
 exact ⟨rfl,rfl⟩
theorem built_chg (parts:List (Nat × Value)):Tryz.prog.built 114 parts=Instr.fill (fun i=>([(0,1),(1,513),(514,513),(1027,1)].toArray:Array (Nat × Nat))[i]?) Tryz.zeroCells114 parts:=by kernel_rfl
theorem size_zeroChg:(Tryz.zeroCells114).size=1028:=by kernel_rfl
theorem last_zeroChg:(Tryz.zeroCells114)[1027]?=some (.slice none 0 0):=by kernel_rfl
theorem fill_one {place:Nat→Option (Nat × Nat)} {cells:Array Value} {i off:Nat} {v:Value} {V:List Value} {rest:List (Nat × Value)} (hv:v.cells=V.toArray) (hp:place i=some (off,V.length)) (hs:off+V.length≤cells.size) :
 Instr.fill place cells ((i,v) :: rest)=Instr.fill place ((V.zipIdx 0).foldl (fun cs (x:Value × Nat)=>cs.setIfInBounds (off+x.2) x.1) cells) rest:=by
 rw [Instr.fill,hp]
 simp only [hv,List.size_toArray]
 rw [if_neg (by simp;omega)]
 simp
theorem chg_built (gv p:Nat) (U V:List Bool) (hU:U.length=512) (hV:V.length=512) :
 Tryz.prog.built 114 [(0,.pointer (some ⟨gv,0,none⟩)),(1,.agg (mapL (p:Int) U).toArray),(2,.agg (mapL (p:Int) V).toArray)]=some (chgL gv (p:Int) U V (.slice none 0 0)).toArray:=by
 rw [built_chg]
 have lU:=mapL_len (p:Int) hU
 have lV:=mapL_len (p:Int) hV
 obtain ⟨s1,q1⟩:=Great.foldl_set 0 [Value.pointer (some ⟨gv,0,none⟩)] 0 Tryz.zeroCells114
 rw [fill_one (V:=[Value.pointer (some ⟨gv,0,none⟩)]) rfl rfl (by rw [size_zeroChg];simp)]
 generalize List.foldl (fun cs (x:Value × Nat)=>cs.setIfInBounds (0+x.2) x.1) Tryz.zeroCells114 ([Value.pointer (some ⟨gv,0,none⟩)].zipIdx 0)=Z1 at *
 obtain ⟨s2,q2⟩:=Great.foldl_set 1 (mapL (p:Int) U) 0 Z1
 rw [fill_one (V:=mapL (p:Int) U) rfl (by rw [lU];rfl) (by rw [s1,size_zeroChg,lU];decide)]
 generalize List.foldl (fun cs (x:Value × Nat)=>cs.setIfInBounds (1+x.2) x.1) Z1 ((mapL (p:Int) U).zipIdx 0)=Z2 at *
 obtain ⟨s3,q3⟩:=Great.foldl_set 514 (mapL (p:Int) V) 0 Z2
 rw [fill_one (V:=mapL (p:Int) V) rfl (by rw [lV];rfl) (by rw [s2,s1,size_zeroChg,lV];decide)]
 generalize List.foldl (fun cs (x:Value × Nat)=>cs.setIfInBounds (514+x.2) x.1) Z2 ((mapL (p:Int) V).zipIdx 0)=Z3 at *
 rw [Instr.fill]
 congr 1
 rw [s1,size_zeroChg] at s2
 rw [s2] at s3
 rw [size_zeroChg] at s1
 apply Array.ext_getElem?
 intro k
 have eC:(chgL gv (p:Int) U V (.slice none 0 0)).toArray[k]?=(chgL gv (p:Int) U V (.slice none 0 0))[k]?:=by simp
 rw [q3,q2,q1,s2,s1,size_zeroChg,lU,lV,eC]
 by_cases h0:k=0
 ·subst h0
  rw [if_neg (by omega),if_neg (by omega),if_pos (by simp)]
  rfl
 ·by_cases h1:k<514
  ·rw [if_neg (by omega),if_pos (by omega)]
   obtain ⟨j,rfl⟩:∃ j,k=j+1:=⟨k - 1,by omega⟩
   rw [chgL,List.getElem?_cons_succ,List.getElem?_append_left (by rw [lU];omega),show j+1 - (1+0)=j by omega]
  ·by_cases h2:k<1027
   ·rw [if_pos (by omega)]
    obtain ⟨j,rfl⟩:∃ j,k=j+514:=⟨k - 514,by omega⟩
    rw [chgL,show j+514=(j+513)+1 by omega,List.getElem?_cons_succ,List.getElem?_append_right (by rw [lU];omega),lU,List.getElem?_append_left (by rw [lV];omega)]
    rw [show j+513+1 - (514+0)=j by omega,show j+513 - 513=j by omega]
   ·rw [if_neg (by omega),if_neg (by omega),if_neg (by simp;omega)]
    by_cases h3:k=1027
    ·subst h3
     rw [last_zeroChg,chgL,show 1027=1026+1 from rfl,List.getElem?_cons_succ,List.getElem?_append_right (by rw [lU];omega),lU,List.getElem?_append_right (by rw [lV];omega),lV]
     rfl
    ·rw [Array.getElem?_eq_none (by rw [size_zeroChg];omega),List.getElem?_eq_none (by rw [chgL_len hU hV];omega)]
def orK (U V:List Bool):Nat→List Bool
 | 0=>V
 | k+1=>(orK U V k).set k (V.getD k false || U.getD k false)
theorem length_orK (U V:List Bool):∀ k,(orK U V k).length=V.length
 | 0=>rfl
 | k+1=>by rw [orK,List.length_set,length_orK U V k]
theorem getD_orK (U V:List Bool) (j:Nat):∀ k,k≤V.length→(orK U V k).getD j false=if j<k then (V.getD j false || U.getD j false) else V.getD j false
 | 0,_=>by rw [if_neg (by omega)];rfl
 | k+1,h=>by
   rw [orK,getD_set' _ _ _ _ (by rw [length_orK];omega),getD_orK U V j k (by omega)]
   by_cases h1:j=k
   ·rw [if_pos h1,if_pos (by omega),h1]
   ·rw [if_neg h1]
    by_cases h2:j<k
    ·rw [if_pos h2,if_pos (by omega)]
    ·rw [if_neg h2,if_neg (by omega)]
theorem ViewAt.cu {w:World} {gv g gen:Nat} {p:Int} {U V:List Bool} (h:ViewAt w gv g gen p U V):w.rangeAt gv 259 (U.map Value.bool) :=
 range_of_block (X:=tab.toList ++ [.pointer (some ⟨g,0,none⟩),.int .u64 (gen:Int),.int .i64 p]) (Z:=mapL p V) h (by simp [viewL,mapL]) (by rw [List.length_append,tab_len];rfl)
theorem ChgAt.cbi {w:World} {gc gv:Nat} {p:Int} {U V:List Bool} {lv:Value} (h:ChgAt w gc gv p U V lv) (hU:U.length=512) (k:Nat) (hk:k<V.length):w.cell? ⟨gc,515+k,none⟩=some (.bool (V.getD k false)):=by
 have h1:=h.cb hU (1+k) (.bool (V.getD k false)) (by
  rw [mapL,Nat.add_comm,List.getElem?_cons_succ,List.getElem?_map,List.getElem?_eq_getElem hk]
  simp [List.getD,List.getElem?_eq_getElem hk])
 rwa [show 514+(1+k)=515+k by omega] at h1
theorem ChgAt.setB {w:World} {gc gv:Nat} {p:Int} {U V:List Bool} {lv:Value} (h:ChgAt w gc gv p U V lv) (hU:U.length=512) (k:Nat) (hk:k<V.length) (b:Bool):ChgAt (w.setCell ⟨gc,515+k,none⟩ (.bool b)) gc gv p U (V.set k b) lv:=by
 have h1:=heap_setCell_same w gc (515+k) _ _ (.bool b) h
 rw [List.setIfInBounds_toArray] at h1
 have e:∀ V:List Bool,chgL gv p U V lv=(.pointer (some ⟨gv,0,none⟩) :: (mapL p U ++ [.int .i64 p])) ++ (V.map Value.bool ++ [lv]):=fun V=>by simp [chgL,mapL]
 have hl:(Value.pointer (some ⟨gv,0,none⟩) :: (mapL p U ++ [.int .i64 p])).length=515:=by rw [List.length_cons,List.length_append,mapL_len p hU];rfl
 rw [e V,List.set_append_right _ _ (by rw [hl];omega),hl,show 515+k - 515=k by omega,List.set_append_left _ _ (by rw [List.length_map];exact hk),← List.map_set] at h1
 unfold ChgAt
 rw [e (V.set k b)]
 exact h1
theorem infoU {U:List Bool} (hU:U.length=512):(Tryz.prog.info? 60).map (·.size)=some (U.map Value.bool).length:=by
 rw [List.length_map,hU]
 kernel_rfl
theorem meas_step3 {M k:Nat} {z:Int} (h:k<M) (e:z=(k:Int)+1):M - (intOf (.int .i64 z)).toNat<M - (intOf (.int .i64 (k:Int))).toNat:=by
 subst e
 simp only [intOf]
 omega
theorem begin_yes (gv g gen p:Nat) (U V:List Bool) (hU:U.length=512) (hV:V.length=512) (w:World) (h:ViewAt w gv g gen (p:Int) U V) :
 Calls Tryz.prog 28 #[.pointer (some ⟨gv,0,none⟩)] w fun e w'=>∃ gc,e=.returned (.pointer (some ⟨gc,0,none⟩))∧ChgS w' gc gv p w.heap.size U (orK U V 512) (.slice none 0 0) []∧Below w.heap.size w w':=by
 have H:=Lib.hid h
 have HU:=Lib.hid hU
 have HV:=Lib.hid hV
 have HBU:=Lib.hid (chg_built gv p U V hU hV)
 obtain ⟨C,hC⟩:∃ C,C=(chgL gv (p:Int) U V (.slice none 0 0)).toArray:=⟨_,rfl⟩
 rw [← hC] at HBU
 have HC:=Lib.hid hC
 clear h hU hV hC
 go_enter Tryz.func28,Tryz.ntmps28
 go_upto_region 1 with fail
 have g1:∀ y:SubX (fun _=>False) w,y.at_.rangeAt gv 258 (mapL (p:Int) U):=fun y=>(H.out.keep (y.ok_.block _ H.out.lt (fun h=>h))).cm
 have g2:∀ y:SubX (fun _=>False) w,y.at_.rangeAt gv 771 (mapL (p:Int) V):=fun y=>(H.out.keep (y.ok_.block _ H.out.lt (fun h=>h))).co HU.out
 refine region_waysX 11 (fun _=>False) (.one [0,1,2,3,4,5,6,7,8,9] 10 (.done [])) (by kernel_rfl) (by kernel_rfl) ?_
 rintro wd hbd
 have BD:=Lib.hid hbd
 clear hbd
 rw [wpWaysT_one]
 try simp only [List.map_cons,List.map_nil,opAt,List.getElem?_toArray,List.getElem?_cons_zero,List.getElem?_cons_succ,Option.getD_some]
 repeat (first
  | (go_big_quiet_want;refine quietX_load_mid 62 (.tmp 9) rfl gv 258 rfl (mapL (p:Int) U) _ g1 Tryz.underlying62 rfl (infoMapL _ HU.out) ?_;simp only [Act.put,List.setIfInBounds_toArray,List.set_cons_zero,List.set_cons_succ];go_big_quiet_on)
  | (go_big_quiet_want;refine quietX_load_mid 62 (.tmp 13) rfl gv 771 rfl (mapL (p:Int) V) _ g2 Tryz.underlying62 rfl (infoMapL _ HV.out) ?_;simp only [Act.put,List.setIfInBounds_toArray,List.set_cons_zero,List.set_cons_succ];go_big_quiet_on)
  | (go_big_quiet_want;refine quietS_build 114 _ rfl C (by simp only [List.map_toArray,List.map_cons,List.map_nil];exact HBU.out) ?_;simp only [Act.put,List.setIfInBounds_toArray,List.set_cons_zero,List.set_cons_succ];go_big_quiet_on)
  | go_big_quiet_step (fail))
 clear g1 g2
 refine wpQuiet_nil ?_
 go_wp2_with fail
 obtain ⟨gc,hgc⟩:∃ gc,gc=wd.heap.size:=⟨_,rfl⟩
 obtain ⟨w1,hw1⟩:∃ w1,w1=wd.alloc (.cells C 114):=⟨_,rfl⟩
 have C1:Hid (ChgAt w1 gc gv (p:Int) U V (.slice none 0 0)):=Lib.hid (by
  rw [hw1,hgc,HC.out]
  exact heap_alloc_new _ _)
 have B1:Hid (Below w.heap.size w w1):=Lib.hid (BD.out.trans ((alloc_bel hw1).mono BD.out.size))
 have LG:Hid (w.heap.size≤gc):=Lib.hid (by rw [hgc];exact BD.out.size)
 rw [← hw1,← hgc]
 clear hw1 hgc
 refine ⟨⟨⟨_,outerX_of_below B1.out⟩,rfl⟩,?_⟩
 try simp only [Act.put,List.setIfInBounds_toArray,List.set_cons_zero,List.set_cons_succ]
 rw [wpWaysT_done]
 simp only [List.map_nil,List.drop_succ_cons,List.drop_zero]
 refine wpQuiet_nil ?_
 go_upto_region 3 with (refine wpList_load_mid rfl 60 _ rfl gv 259 rfl (U.map Value.bool) _ (H.out.below B1.out).cu Tryz.underlying60 rfl (infoU HU.out) ?_)
 have C2:Hid (ChgAt w1 gc gv (p:Int) U (orK U V 0) (.slice none 0 0)):=C1
 clear C1 HC HBU
 go_loopw [22] (fun i wr=>∃ k:Nat,k≤512∧i=.int .i64 (k:Int)∧Hid (ChgAt wr gc gv (p:Int) U (orK U V k) (.slice none 0 0)∧Below w.heap.size w wr))
  (fun i _=>512 - (intOf i).toNat)
 case atStart=>exact ⟨0,Nat.zero_le _,rfl,Lib.hid ⟨C2.out,B1.out⟩⟩
 case round =>
  clear C2 B1
  obtain ⟨k,hk,rfl,HR⟩:=hrel
  by_cases hlt:k<512
  ·have hkm:decide ((k:Int)<512)=true:=by simp;omega
   have hix:=run_idx U HU.out k hlt wr
   obtain ⟨b,hb⟩:∃ b,V.getD k false=b:=⟨_,rfl⟩
   obtain ⟨u,hu⟩:∃ u,U.getD k false=u:=⟨_,rfl⟩
   have HBB:=Lib.hid hb
   have HUU:=Lib.hid hu
   rw [hu] at hix
   clear hb hu
   go_upto_region 5 with fail
   have g1:∀ y:SubX (fun q=>q=gc) wr,True:=fun _=>trivial
   have g2:∀ y:SubX (fun _=>False) wr,y.at_.cell? ⟨gc,515+k,none⟩=some (.bool b):=fun y=>by
    have h1:=(HR.out.1.keep (y.ok_.block _ HR.out.1.lt (fun h=>h))).cbi HU.out k (by rw [length_orK,HV.out];exact hlt)
    rwa [getD_orK _ _ _ _ (by rw [HV.out];exact hk),if_neg (Nat.lt_irrefl _),HBB.out] at h1
   clear g1
   refine region_waysX 16 (fun _=>False) (.done [0,1,2,3,4,5,6,7,8,9,10,11,12,13,14,15]) (by kernel_rfl) (by kernel_rfl) ?_
   rintro wd2 hbd
   have BD2:=Lib.hid hbd
   clear hbd
   rw [wpWaysT_done]
   try simp only [List.map_cons,List.map_nil,opAt,List.getElem?_toArray,List.getElem?_cons_zero,List.getElem?_cons_succ,Option.getD_some]
   have CC:=Lib.hid (HR.out.1.below BD2.out)
   have BW:=Lib.hid (HR.out.2.trans (BD2.out.mono HR.out.2.size))
   have k1:wd2.cell? ⟨gc,515+k,none⟩=some (.bool b):=by
    have h1:=CC.out.cbi HU.out k (by rw [length_orK,HV.out];exact hlt)
    rwa [getD_orK _ _ _ _ (by rw [HV.out];exact hk),if_neg (Nat.lt_irrefl _),HBB.out] at h1
   have k2:=CC.out.fr (515+k)
   have HEND:Hid (ChgAt (wd2.setCell ⟨gc,515+k,none⟩ (.bool (b || u))) gc gv (p:Int) U (orK U V (k+1)) (.slice none 0 0)∧Below w.heap.size w (wd2.setCell ⟨gc,515+k,none⟩ (.bool (b || u)))):=Lib.hid ⟨by rw [orK,HBB.out,HUU.out];exact CC.out.setB HU.out k (by rw [length_orK,HV.out];exact hlt) _,bel_cell BW.out LG.out⟩
   clear HBB HUU
   cases b
   ·skip
    repeat (first
     | go_big_quiet_step (fail))
    clear g2
    refine wpQuiet_nil ?_
    simp only [List.drop_succ_cons,List.drop_zero]
    rw [Bool.false_or] at HEND
    go_wp2_with fail
    go_roundw
    case rel=>exact ⟨k+1,by omega,by go_num,HEND⟩
    case measure=>exact meas_step3 hlt rfl
   ·skip
    repeat (first
     | go_big_quiet_step (fail))
    clear g2
    refine wpQuiet_nil ?_
    simp only [List.drop_succ_cons,List.drop_zero]
    rw [Bool.true_or] at HEND
    go_wp2_with fail
    go_roundw
    case rel=>exact ⟨k+1,by omega,by go_num,HEND⟩
    case measure=>exact meas_step3 hlt rfl
  ·obtain rfl:k=512:=by omega
   go_wp2_with fail
   go_ret
   exact ⟨gc,rfl,⟨HR.out.1,World.ownsRow_nil _ _ _ _,LG.out⟩,HR.out.2⟩
def enV (e:EntD):Value:=.agg #[.int .i64 e.se,.int .i64 e.st,.int .i64 e.en,.int .i64 e.ad,.int .i64 e.le,.int .i64 e.cn,.int .i64 e.co,.int .u32 e.cr]
structure RisingD (es:List EntD):Prop where
 ok:∀ e ∈ es,okEnt e
 up:∀ i p e,es[i]?=some p→es[i+1]?=some e→apartB p e=true
theorem okNode_one {e:EntD} (h:okEnt e):okNode ⟨true,[e],[],[]⟩:=⟨rfl,rfl,Nat.le_refl _,by simp,fun i hi=>by
 have hi0:i=0:=by simp at hi;omega
 subst hi0
 exact ⟨e,rfl,h,.inl rfl⟩⟩
theorem okNode_two {p e:EntD} (h:okEnt p) (h2:okEnt e) (ha:apartB p e=true):okNode ⟨true,[p,e],[],[]⟩:=⟨rfl,rfl,by simp,by simp,fun i hi=>by
 rcases i with _ | i
 ·exact ⟨p,rfl,h,.inl rfl⟩
 ·have hi0:i=0:=by simp at hi;omega
  subst hi0
  exact ⟨e,rfl,h2,.inr ⟨p,rfl,ha⟩⟩⟩
theorem one_at (w:World) (e:EntD):NodeAt (w.alloc (.cells #[.int .i64 e.se,.int .i64 e.st,.int .i64 e.en,.int .i64 e.ad,.int .i64 e.le,.int .i64 e.cn,.int .i64 e.co,.int .u32 e.cr] 40)) ⟨true,[e],[],[]⟩ ⟨some ⟨w.heap.size,0,none⟩,1,none,0,none,0⟩:=by
 have g:=heap_alloc_new w (.cells #[.int .i64 e.se,.int .i64 e.st,.int .i64 e.en,.int .i64 e.ad,.int .i64 e.le,.int .i64 e.cn,.int .i64 e.co,.int .u32 e.cr] 40)
 exact { e:=fun _=>⟨_,0,rfl,fun i e' he=>by
           have hi0:i=0:=by
            have:=(List.getElem?_eq_some_iff.1 he).1
            simp at this
            omega
           subst hi0
           obtain rfl:e=e':=by simpa using he
           exact ⟨nd_cell g 0 _ rfl,nd_cell g 1 _ rfl,nd_cell g 2 _ rfl,nd_cell g 3 _ rfl,nd_cell g 4 _ rfl,nd_cell g 5 _ rfl,nd_cell g 6 _ rfl,nd_cell g 7 _ rfl⟩⟩
         k:=fun h=>absurd rfl h,d:=fun h=>absurd rfl h,ec:=Nat.le_refl _,kc:=Nat.le_refl _,dc:=Nat.le_refl _,em:=by show 1≤maxLen;unfold maxLen;omega,km:=Nat.zero_le _,dm:=Nat.zero_le _ }
theorem rightEntry_yes (e:EntD) (he:okEnt e) (w:World) :
 Calls Tryz.prog 39 #[.agg #[.int .i64 e.se,.int .i64 e.st,.int .i64 e.en,.int .i64 e.ad,.int .i64 e.le,.int .i64 e.cn,.int .i64 e.co,.int .u32 e.cr]] w fun e' w'=>e'=.returned (.bool true)∧Below w.heap.size w w':=by
 obtain ⟨w1,hw1⟩:∃ w1,w1=w.alloc (.cells #[.int .i64 e.se,.int .i64 e.st,.int .i64 e.en,.int .i64 e.ad,.int .i64 e.le,.int .i64 e.cn,.int .i64 e.co,.int .u32 e.cr] 40):=⟨_,rfl⟩
 have G1:Hid (w1.heap[w.heap.size]?=some (.cells #[.int .i64 e.se,.int .i64 e.st,.int .i64 e.en,.int .i64 e.ad,.int .i64 e.le,.int .i64 e.cn,.int .i64 e.co,.int .u32 e.cr] 40 (0,0))):=Lib.hid (by rw [hw1];exact heap_alloc_new _ _)
 have B1:=Lib.hid (alloc_bel hw1)
 have HE:=Lib.hid he
 clear he
 go_enter Tryz.func39,Tryz.ntmps39
 go_upto_region 1 with fail
 rw [← hw1]
 clear hw1
 go_wp2_with (first
  | (refine wpList_load_row rfl 40 (.tmp 1) rfl w.heap.size rfl 40 _ (0,0) _ G1.out Tryz.underlying40 rfl (by kernel_rfl) ?_)
  | (go_at_call 49;refine (right_any ⟨true,[e],[],[]⟩ ⟨some ⟨w1.heap.size,0,none⟩,1,none,0,none,0⟩ true (IsB.mkT (okNode_one HE.out)) _ (one_at w1 e)).mono ?_;rintro e2 w2 ⟨rfl,hb2⟩;have B2:=Lib.hid hb2;clear hb2))
 go_ret
 exact ⟨rfl,B1.out.trans (((alloc_bel rfl).trans (B2.out.mono (alloc_bel rfl).size)).mono B1.out.size)⟩
theorem meas_step5 {M k:Nat} {z:Int} (h:k<M) (e:z=(k:Int)+1):M - (intOf (.int .i64 z)).toNat<M - (intOf (.int .i64 (k:Int))).toNat:=by
 subst e
 simp only [intOf]
 omega
theorem meas_step6 {M j:Nat} (h:j+1<M):M+1 - (intOf (.int .i64 ((j:Int)+1+1))).toNat<M+1 - (intOf (.int .i64 ((j:Int)+1))).toNat:=by
 simp only [intOf]
 omega
theorem rising_yes (es:List EntD) (A:Option Addr) (n c:Nat) (hn:es.length=n) (hnc:n≤c) (hc:c≤maxLen) (hm:n≤1000000) (hr:RisingD es) (w:World) (hx:EnAt w A es) :
 Calls Tryz.prog 27 #[.slice A n c] w fun e w'=>e=.returned (.int .i64 0)∧Below w.heap.size w w':=by
 have HN:=Lib.hid hn
 have HR:=Lib.hid hr
 have HX:=Lib.hid hx
 have HCM:Hid (c≤9223372036854775807):=Lib.hid hc
 clear hn hr hx hc
 go_enter Tryz.func27,Tryz.ntmps27
 go_upto_region 2 with fail
 go_loopw [8] (fun i wr=>∃ k:Nat,k≤n∧i=.int .i64 (k:Int)∧Hid (Below w.heap.size w wr)) (fun i _=>n - (intOf i).toNat)
 case atStart=>exact ⟨0,Nat.zero_le _,rfl,Lib.hid (Below.refl _ _)⟩
 case round =>
  obtain ⟨k,hk,rfl,HB⟩:=hrel
  have hkw:wrap64 ((k:Int)+1)=(k:Int)+1:=by unfold wrap64;omega
  by_cases hlt:k<n
  ·obtain ⟨e,he⟩:∃ e,es[k]?=some e:=⟨_,List.getElem?_eq_getElem (by rw [HN.out];exact hlt)⟩
   have HE:=Lib.hid (HR.out.ok e (List.mem_of_getElem? he))
   obtain ⟨b,off,hA,hcs⟩:=HX.out (by intro h;rw [h] at he;simp at he)
   subst hA
   obtain ⟨e0,e1,e2,e3,e4,e5,e6,e7⟩:=(hcs k e he).below HB.out
   have hkm:decide ((k:Int)<(n:Int))=true:=by simp;omega
   clear he hcs
   go_upto_region 4 with fail
   obtain ⟨wa,hwa⟩:∃ wa,wa=wr.alloc (.cells #[.int .i64 e.se,.int .i64 e.st,.int .i64 e.en,.int .i64 e.ad,.int .i64 e.le,.int .i64 e.cn,.int .i64 e.co,.int .u32 e.cr] 40):=⟨_,rfl⟩
   have GA:Hid (wa.heap[wr.heap.size]?=some (.cells #[.int .i64 e.se,.int .i64 e.st,.int .i64 e.en,.int .i64 e.ad,.int .i64 e.le,.int .i64 e.cn,.int .i64 e.co,.int .u32 e.cr] 40 (0,0))):=Lib.hid (by rw [hwa];exact heap_alloc_new _ _)
   have BA:=Lib.hid (alloc_bel hwa)
   rw [← hwa]
   clear hwa e0 e1 e2 e3 e4 e5 e6 e7
   go_wp2_with (first
    | (refine wpList_load_row rfl 40 (.tmp 4) rfl wr.heap.size rfl 40 _ (0,0) _ GA.out Tryz.underlying40 rfl (by kernel_rfl) ?_)
    | (go_at_call 39;refine (rightEntry_yes e HE.out _).mono ?_;rintro e2 w2 ⟨rfl,hb2⟩;have B2:=Lib.hid (BA.out.trans (hb2.mono BA.out.size));clear hb2))
   have B3:=Lib.hid (HB.out.trans (B2.out.mono HB.out.size))
   go_roundw
   case rel=>exact ⟨k+1,by omega,by go_num,B3⟩
   case measure=>first | exact meas_step5 hlt rfl | exact meas_step5 hlt hkw
  ·obtain rfl:k=n:=by omega
   have hkm:decide ((k:Int)<(k:Int))=false:=by simp
   go_upto_region 8 with fail
   clear hkm hkw
   obtain ⟨w1,hw1⟩:∃ w1,w1=wr:=⟨_,rfl⟩
   rw [← hw1] at HB ⊢
   clear hw1
   go_loopw [5] (fun i w2=>∃ j:Nat,j≤k∧i=.int .i64 ((j:Int)+1)∧Hid (Below w.heap.size w w2)) (fun i _=>k+1 - (intOf i).toNat)
   case atStart=>exact ⟨0,Nat.zero_le _,rfl,HB⟩
   case round =>
    clear HB
    obtain ⟨j,hj,rfl,HB⟩:=hrel
    have hw1:wrap64 ((j:Int)+1 - 1)=(j:Int):=by unfold wrap64;omega
    have hw2:wrap64 ((j:Int)+1+1)=(j:Int)+1+1:=by unfold wrap64;omega
    have hw3:wrap64 (j:Int)=(j:Int):=by unfold wrap64;omega
    by_cases hlj:j+1<k
    ·have hkm:decide ((j:Int)+1<(k:Int))=true:=by simp;omega
     obtain ⟨p,hp⟩:∃ p,es[j]?=some p:=⟨_,List.getElem?_eq_getElem (by rw [HN.out];omega)⟩
     obtain ⟨e,he⟩:∃ e,es[j+1]?=some e:=⟨_,List.getElem?_eq_getElem (by rw [HN.out];exact hlj)⟩
     have HOK:Hid (okNode ⟨true,[p,e],[],[]⟩):=Lib.hid (okNode_two (HR.out.ok p (List.mem_of_getElem? hp)) (HR.out.ok e (List.mem_of_getElem? he)) (HR.out.up j p e hp he))
     obtain ⟨b,off,hA,hcs⟩:=HX.out (by intro h;rw [h] at hp;simp at hp)
     subst hA
     have HAT:Hid (∀ W,Below w.heap.size w W→NodeAt W ⟨true,[p,e],[],[]⟩ ⟨some ⟨b,off+j*8,none⟩,c - j,none,0,none,0⟩):=Lib.hid (fun W hW =>
      { e:=fun _=>⟨b,off+j*8,rfl,fun i x hx=>by
          rcases i with _ | i
          ·obtain rfl:p=x:=by simpa using hx
           exact (hcs j p hp).below hW
          ·have hi0:i=0:=by
            have:=(List.getElem?_eq_some_iff.1 hx).1
            simp at this
            omega
           subst hi0
           obtain rfl:e=x:=by simpa using hx
           have h1:=(hcs (j+1) e he).below hW
           rwa [show off+j*8+(0+1)*8=off+(j+1)*8 by omega]⟩
        k:=fun h=>absurd rfl h,d:=fun h=>absurd rfl h,ec:=by show 2≤c - j;omega,kc:=Nat.le_refl _,dc:=Nat.le_refl _,em:=by show c - j≤maxLen;have:=HCM.out;unfold maxLen;omega,km:=Nat.zero_le _,dm:=Nat.zero_le _ })
     have hjc:j+1+1≤c:=by omega
     have hcne:¬ c=j:=by omega
     have HRI:Hid (∀ W,Below w.heap.size w W→Calls Tryz.prog 49 #[.agg #[.bool true,.slice (some ⟨b,off+j*8,none⟩) 2 (c - j),.slice none 0 0,.slice none 0 0]] W fun e w'=>e=.returned (.bool true)∧Below W.heap.size W w'):=Lib.hid (fun W hW=>right_any ⟨true,[p,e],[],[]⟩ ⟨some ⟨b,off+j*8,none⟩,c - j,none,0,none,0⟩ true (IsB.mkT HOK.out) W (HAT.out W hW))
     have h2:j+1+1 - j=2:=by omega
     rw [← h2] at HRI
     clear hp he hcs HAT h2
     have hcm:=HCM.out
     go_wp2_with (go_at_call 49;refine (HRI.out _ HB.out).mono ?_;rintro e2 w3 ⟨rfl,hb3⟩;have B3:=Lib.hid (HB.out.trans (hb3.mono HB.out.size));clear hb3)
     exact ⟨⟨j+1,by omega,rfl,B3⟩,meas_step6 hlj⟩
    ·have hkm:decide ((j:Int)+1<(k:Int))=false:=by simp;omega
     go_wp2_with fail
     go_ret
     exact ⟨rfl,HB.out⟩
def lvlE (es:List EntD):List NodeD:=(chs 7 es.length ((es.length+6) / 7)).map fun x=>⟨true,(es.drop x.1).take x.2,[],[]⟩
theorem fillP_lvlE (es:List EntD) (l:NdL):(fillP ⟨true,es,[],[]⟩ l).map Prod.fst=lvlE es:=by
 have h0:(chs 16 ([]:List Int).length ((([]:List Int).length+15) / 16))=[]:=rfl
 rw [fillP]
 dsimp only
 rw [h0,List.map_nil,List.append_nil,List.map_map,lvlE]
 rfl
theorem okM_or {p:Nat} {U V:List Bool} (hU:okM (p:Int) U) (hV:okM (p:Int) V) (lV:V.length=512):okM (p:Int) (orK U V 512):=by
 obtain ⟨h1,h2,h3⟩:=hU
 refine ⟨h1,h2,fun j hj=>?_⟩
 have a1:=h3 j hj
 have a2:=hV.2.2 j hj
 unfold okAt at a1 a2 ⊢
 rw [getD_orK U V j 512 (by rw [lV];exact Nat.le_refl _),if_pos hj]
 cases hu:U.getD j false <;> cases hv:V.getD j false <;> simp_all
theorem Picks.free {p:Nat} {V:List Bool}:∀ {qs:List Nat} {U:List Bool},U.length=512→p≤512→Picks p V U qs→∀ b ∈ qs,U.getD b false=false∧b<p
 | [],_,_,_,_,b,hb=>by cases hb
 | a :: qs,U,hU,hp,h,b,hb=>by
   rcases List.mem_cons.1 hb with rfl | hb
   ·have h1:=h.1.1.2 0 (by decide)
    exact ⟨by simpa using h1.1,by have:=h.1.1.1;omega⟩
   ·have h2:=Picks.free (by rw [length_markN];exact hU) hp h.2 b hb
    rw [getD_markN U a true b 1 (by have:=h.1.1.1;omega)] at h2
    by_cases hab:a≤b∧b<a+1
    ·rw [if_pos hab] at h2
     exact absurd h2.1 (by decide)
    ·rw [if_neg hab] at h2
     exact h2
theorem Picks.nodup {p:Nat} {V:List Bool}:∀ {qs:List Nat} {U:List Bool},U.length=512→p≤512→Picks p V U qs→qs.Nodup
 | [],_,_,_,_=>List.nodup_nil
 | a :: qs,U,hU,hp,h=>by
   refine List.nodup_cons.2 ⟨fun hm=>?_,Picks.nodup (by rw [length_markN];exact hU) hp h.2⟩
   have h2:=Picks.free (by rw [length_markN];exact hU) hp h.2 a hm
   rw [getD_markN U a true a 1 (by have:=h.1.1.1;omega),if_pos (by omega)] at h2
   exact absurd h2.1 (by decide)
theorem load_yes (gv g gen p:Nat) (U V:List Bool) (hU:U.length=512) (hV:V.length=512) (okU:okM (p:Int) U) (okV:okM (p:Int) V) (hg:gen<18446744073709551616) {B N gs gn Ls cs cn:Nat} {rw:Value} {st nw:List UInt8} {ws:List (Nat × List UInt8)}
 (es:List EntD) (A:Option Addr) (n c:Nat) (hn:es.length=n) (hm:n≤1000000) (hr:RisingD es) (Lr:List (Nat × NodeD)) (nr:NodeD) (h' a:Nat) (ht:Tops (lvlE es) 1 Lr nr h') (h5:h'≤5) (hnr:nr.leaf=false→2≤nr.ds.length) (hp:Picks p (orK U V 512) U (Lr.map Prod.fst ++ [a]))
 (hok:∀ x ∈ Lr ++ [(a,nr)],okNode x.2∧256*x.1+256≤Ls) (hws:ws.length+4*(Lr.length+1)≤500) (w:World) (hx:NodeT w ⟨true,es,[],[]⟩ ⟨A,c,none,0,none,0⟩) (hv:ViewAt w gv g gen (p:Int) U V) (hd:Dk w B N g gs gn rw Ls cs cn st nw ws true (-1)) :
 Calls Tryz.prog 10 #[.pointer (some ⟨gv,0,none⟩),.slice A n c] w fun e w'=>e=.returned (.tuple #[.agg #[.int .i64 (a:Int),.int .i64 (h':Int)],.int .i64 0])∧∃ Lx,Lx.map strip=Lr ++ [(a,nr)]∧Wrote w w' gv g gen p (marks U (Lr.map Prod.fst ++ [a])) V B gs gn Ls cs cn rw st nw ws Lx:=by
 have HU:=Lib.hid hU
 have HV:=Lib.hid hV
 have HOU:=Lib.hid okU
 have HOV:=Lib.hid okV
 have HG:=Lib.hid hg
 have HN:=Lib.hid hn
 have HRI:=Lib.hid hr
 have HT:=Lib.hid ht
 have H5:=Lib.hid h5
 have HNR:=Lib.hid hnr
 have HP:=Lib.hid hp
 have HOK:=Lib.hid hok
 have HWS:=Lib.hid hws
 have HX:=Lib.hid hx
 have HVW:=Lib.hid hv
 have HD:=Lib.hid hd
 have HMM:=Lib.hid hm
 have HPB:Hid (p≤512):=Lib.hid (by have:=okU.2.1;omega)
 clear hU hV okU okV hg hn hr ht h5 hnr hp hok hws hx hv hd hm
 go_enter Tryz.func10,Tryz.ntmps10
 go_upto_region 1 with fail
 obtain ⟨w1,hw1⟩:∃ w1,w1=w.alloc (.cells #[.int .i64 0,.int .i64 0] 43):=⟨_,rfl⟩
 have G1:Hid (w1.heap[w.heap.size]?=some (.cells #[.int .i64 0,.int .i64 0] 43 (0,0))):=Lib.hid (by rw [hw1];exact heap_alloc_new _ _)
 have B1:=Lib.hid (alloc_bel hw1)
 rw [← hw1]
 clear hw1
 have HV1:=Lib.hid (HVW.out.below B1.out)
 go_upto_region 6 with (first
  | (go_at_call 26;refine (open_yes gv g gen p U V _ HV1.out).mono ?_;rintro e w2 ⟨rfl,rfl⟩)
  | (go_at_call 27;refine (rising_yes es A n c HN.out (by rw [← HN.out];exact HX.out.at_.ec) HX.out.at_.em HMM.out HRI.out _ (HX.out.at_.below B1.out).e).mono ?_;rintro e w2 ⟨rfl,hb2⟩;have B2:=Lib.hid (B1.out.trans (hb2.mono B1.out.size));have G2:=Lib.hid (row_stays G1.out hb2);clear hb2))
 have HV2:=Lib.hid (HVW.out.below B2.out)
 go_upto_region 7 with (go_at_call 28;refine (begin_yes gv g gen p U V HU.out HV.out _ HV2.out).mono ?_;rintro e w3 ⟨gc,rfl,hc3,hb3⟩;have C3:=Lib.hid hc3;have B23:=Lib.hid hb3;have G3:=Lib.hid (row_stays G2.out hb3);clear hc3 hb3)
 have BW3:Hid (Below w.heap.size w w3):=Lib.hid (B2.out.trans (B23.out.mono B2.out.size))
 have HX3:=Lib.hid (HX.out.below BW3.out)
 obtain ⟨pr,hpr⟩:∃ pr,pr=fillP ⟨true,es,[],[]⟩ ⟨A,c,none,0,none,0⟩:=⟨_,rfl⟩
 obtain ⟨m,hm⟩:∃ m,pr.length=m:=⟨_,rfl⟩
 have HPM:=Lib.hid hm
 have HPF:Hid (pr.map Prod.fst=lvlE es):=Lib.hid (by rw [hpr];exact fillP_lvlE _ _)
 have HPT:Hid (∀ W,NodeT W ⟨true,es,[],[]⟩ ⟨A,c,none,0,none,0⟩→LvlT W pr):=Lib.hid (fun W hW=>by rw [hpr];exact fillP_T hW rfl)
 have HFI:Hid (Calls Tryz.prog 31 #[.agg #[.bool true,.slice A n c,.slice none 0 0,.slice none 0 0]] w3 fun e w'=>(∃ A4 c4,e=.returned (.slice A4 m c4)∧w'.ownsRow w3.heap.size 86 4 (.slice A4 m c4) m (pr.flatMap ndP))∧Below w3.heap.size w3 w'):=Lib.hid (by
  have h1:=filled_any ⟨true,es,[],[]⟩ ⟨A,c,none,0,none,0⟩ rfl (by show es.length≤_;rw [HN.out];exact HMM.out) (by show ([]:List Int).length≤_;simp) w3 HX3.out.at_
  rw [← hpr,hm] at h1
  rw [← HN.out]
  exact h1)
 have HTOP:Hid (∀ (A4:Option Addr) (c4:Nat) (W:World),w3.heap.size≤W.heap.size→Below w3.heap.size w3 W→W.ownsRow w3.heap.size 86 4 (.slice A4 m c4) m (pr.flatMap ndP)→Calls Tryz.prog 30 #[.pointer (some ⟨gc,0,none⟩),.slice A4 m c4,.int .i64 1] W fun e w'=>e=.returned (.tuple #[.agg #[.int .i64 (a:Int),.int .i64 (h':Int)],.int .i64 0]) ∧
  (∃ lv' Lx,ChgS w' gc gv p w2.heap.size (marks U (Lr.map Prod.fst ++ [a])) (orK U V 512) lv' Lx∧Lx.map strip=Lr ++ [(a,nr)]∧∀ x ∈ Lx,NodeT w' x.2.1 x.2.2)∧OutT gc w2.heap.size 151 W w'):=Lib.hid (fun A4 c4 W hs hb hr=>by
  have h1:=top_yes gc gv p w2.heap.size U (orK U V 512) (.slice none 0 0) [] HU.out (by rw [length_orK];exact HV.out) HOU.out (okM_or HOU.out HOV.out HV.out) pr A4 c4 1 Lr nr h' a (by rw [HPF.out];exact HT.out) HNR.out HP.out (by have:=HWS.out;simp;omega) H5.out W (C3.out.below hb) (by simp) (ChAt.of_row (base:=w3.heap.size) (c:=c4) (by rw [HPM.out];exact hr)) (HPT.out W (HX3.out.below hb))
  rw [HPM.out] at h1
  simp only [List.nil_append] at h1
  exact h1)
 clear hpr hm
 go_wp2_with (first
  | (go_at_call 31;refine HFI.out.mono ?_;rintro e w4 ⟨⟨A4,c4,rfl,hr4⟩,hb4⟩;have R4:=Lib.hid hr4;have B34:=Lib.hid hb4;clear hr4 hb4)
  | (go_at_call 30;refine (HTOP.out A4 c4 _ B34.out.size B34.out R4.out).mono ?_;rintro e w5 ⟨rfl,⟨lv5,Lx,hc5,hL5,hn5⟩,ho5⟩;have C5:=Lib.hid hc5;have L5:=Lib.hid hL5;have N5:=Lib.hid hn5;have O5:=Lib.hid ho5;clear hc5 hL5 hn5 ho5))
 have B25:Hid (Below w2.heap.size w2 w5):=Lib.hid ((B23.out.trans (B34.out.mono B23.out.size)).trans (O5.out.below C3.out.B0 (by have:=B23.out.size;have:=B34.out.size;omega)))
 have BW5:Hid (Below w.heap.size w w5):=Lib.hid (B2.out.trans (B25.out.mono B2.out.size))
 have D5:=Lib.hid (HD.out.below BW5.out)
 have V5:=Lib.hid (HVW.out.below BW5.out)
 have G4:=row_stays G3.out B34.out
 have G5:=Lib.hid ((O5.out.typed G4 (by decide) (chg_ne_box (C3.out.below B34.out) G4 (by decide))).trans G4)
 clear G4
 have LF:Hid (Lx.map Prod.fst=Lr.map Prod.fst ++ [a]):=Lib.hid (by
  have h1:=congrArg (List.map Prod.fst) L5.out
  rw [List.map_map,List.map_append] at h1
  exact h1)
 refine (done_yes a h' gc gv g gen p (marks U (Lr.map Prod.fst ++ [a])) U V Lx w5 D5.out V5.out (fun W hW=>?_)).mono ?_
 ·refine (write_yes gc gv p w2.heap.size gen (marks U (Lr.map Prod.fst ++ [a])) U V (orK U V 512) lv5 Lx (by rw [length_marks];exact HU.out) HU.out (by rw [length_orK];exact HV.out) HV.out HG.out (by
   have h1:=congrArg List.length L5.out
   rw [List.length_map,List.length_append,List.length_singleton] at h1
   rw [h1]
   exact Nat.le_trans HWS.out (by decide)) (by rw [LF.out];exact HP.out.nodup HU.out HPB.out) (fun x hx=>by
   have h1:strip x ∈ Lr ++ [(a,nr)]:=by rw [← L5.out];exact List.mem_map_of_mem hx
   exact HOK.out (strip x) h1) W (fun x hx=>(N5.out x hx).below hW) (C5.out.below hW) (V5.out.below hW) (D5.out.below hW)).mono ?_
  rintro e w' ⟨h1,h2,h3,h4⟩
  exact ⟨h1,⟨h2,h3,h4⟩⟩
 ·rintro e w6 ⟨rfl,hw6⟩
  have W6:=Lib.hid hw6
  clear hw6
  have hX:¬ (DkX g gn rw w.heap.size∨w.heap.size=gv):=fun hx=>by
   rcases hx with hx | hx
   ·exact D5.out.notX G5.out (by decide) (.inl (by decide)) (by decide) hx
   ·have h1:=V5.out
    have h2:=G5.out
    unfold ViewAt at h1
    rw [hx,h1] at h2
    cases h2
  have G6:=Lib.hid (W6.out.out.heap G5.out hX)
  clear hX
  go_wp2_with (refine wpList_store_row rfl 43 (.tmp 4) (.tmp 29) rfl w.heap.size #[.int .i64 (a:Int),.int .i64 (h':Int)] rfl rfl 43 _ G6.out (by kernel_rfl) rfl (by simp [Value.oneCell']) ?_)
  refine bodyPost_ret (v:=.tuple #[.agg #[.int .i64 (a:Int),.int .i64 (h':Int)],.int .i64 0]) (results_cell_tmpB (p:=4) (u:=5) (ty:=43) rfl _ _ w.heap.size 43 _ (0,0) _ rfl (setRow_heap _ _ _ _ _ _ G6.out) Tryz.underlying43 rfl (by kernel_rfl)) rfl ⟨rfl,Lx,L5.out,?_⟩
  exact (W6.out.pre BW5.out).post (KeptNot.of_setRow G6.out _) (below_setRow (Below.refl _ _) (Nat.le_refl _) _) (by decide) (by decide) (by decide) (by decide)
end Go.Proofs.YtgkddhncfaeidaaGreat
