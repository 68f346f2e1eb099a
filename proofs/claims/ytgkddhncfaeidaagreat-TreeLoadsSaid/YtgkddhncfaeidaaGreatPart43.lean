/- Squeezed: the texts as they are written lie in wip/tpl. -/
import Derived.Test.YtgkddhncfaeidaaGreatPart42
import Derived.Test.YtgkddhncfaeidaaGreatPart41
import Derived.Test.YtgkddhncfaeidaaGreatPart29
import Derived.Test.YtgkddhncfaeidaaGreatPart04
import Derived.Test.YtgkddhncfaeidaaGreatPart17
import Derived.Great.BuildSlice
set_option maxRecDepth 100000
set_option maxHeartbeats 4000000
set_option linter.unnecessarySimpa false
set_option linter.unusedSimpArgs false
set_option linter.unusedVariables false
namespace Go.Proofs.YtgkddhncfaeidaaGreat
open Go.RowKit Go.ChangeShapes Go.WideShapes Go.ChangeAt CrcM PageM
theorem visit_zero (gv g gen p ga:Nat) (a:Int) (U V:List Bool) (w:World) (hv:ViewAt w gv g gen (p:Int) U V) :
 Calls Tryz.prog 32 #[.pointer (some ⟨gv,0,none⟩),.agg #[.int .i64 a,.int .i64 0],.func (.func 33) #[] #[.pointer (some ⟨ga,0,none⟩)]] w fun e w'=>e=.returned (.int .i64 0)∧Below w.heap.size w w':=by
 obtain ⟨w1,hw1⟩:∃ w1,w1=w.alloc (.cells #[.int .i64 a,.int .i64 0] 43):=⟨_,rfl⟩
 have G1:Hid (w1.heap[w.heap.size]?=some (.cells #[.int .i64 a,.int .i64 0] 43 (0,0))):=Lib.hid (by rw [hw1];exact heap_alloc_new _ _)
 have B1:=Lib.hid (alloc_bel hw1)
 have V1:=Lib.hid (hv.below B1.out)
 have HW1:=Lib.hid hw1
 clear hw1 hv
 go_enter Tryz.func32,Tryz.ntmps32
 go_upto_region 1 with fail
 rw [← HW1.out]
 clear HW1
 go_upto_region 2 with (first
  | (refine wpList_load_row rfl 43 (.tmp 4) rfl w.heap.size rfl 43 _ (0,0) _ G1.out Tryz.underlying43 rfl (by kernel_rfl) ?_)
  | (go_at_call 56;refine (trefused_ok gv g gen p U V _ _ (by omega) (by omega) _ V1.out).mono ?_;rintro e w2 ⟨rfl,hb2⟩;have RB:=Lib.hid hb2;clear hb2))
 have z1:=nd_cell (row_stays G1.out RB.out) 1 (.int .i64 0) rfl
 go_wp2_with fail
 go_ret
 exact ⟨rfl,B1.out.trans (RB.out.mono B1.out.size)⟩
theorem all_any (gv g gen p a hh:Nat) (U V:List Bool) {B N gs gn Ls cs cn:Nat} {rw:Value} {st nw:List UInt8} {ws:List (Nat × List UInt8)} (es:List EntD) (ht:TreeQ nw Ls a hh es) (hlen:es.length≤100000) (w:World) (hv:ViewAt w gv g gen (p:Int) U V) (hd:Dk w B N g gs gn rw Ls cs cn st nw ws true (-1)) :
 Calls Tryz.prog 11 #[.pointer (some ⟨gv,0,none⟩),.agg #[.int .i64 (a:Int),.int .i64 (hh:Int)]] w fun e w'=>∃ A c,e=.returned (.tuple #[.slice A es.length c,.int .i64 0])∧w'.ownsRow w.heap.size 40 8 (.slice A es.length c) es.length (es.flatMap enC)∧Below w.heap.size w w':=by
 obtain ⟨hi,hhi⟩:∃ hi:Int,hi=(hh:Int):=⟨_,rfl⟩
 rw [← hhi]
 have HVS:Hid (∀ (ga:Nat) (W:World),Below w.heap.size w W→GaT ga w.heap.size [] W→Calls Tryz.prog 32 #[.pointer (some ⟨gv,0,none⟩),.agg #[.int .i64 (a:Int),.int .i64 hi],.func (.func 33) #[] #[.pointer (some ⟨ga,0,none⟩)]] W fun e w'=>e=.returned (.int .i64 0)∧GaT ga w.heap.size es w'∧FrT w.heap.size W w'):=Lib.hid (fun ga W hW hG=>by
  rw [hhi]
  rcases ht with ⟨h1,h2⟩ | ⟨h,n,h1,h2,h3,h4,h5⟩
  ·subst h1 h2
   refine (visit_zero gv g gen p ga (a:Int) U V W (hv.below hW)).mono ?_
   rintro e w' ⟨rfl,hb⟩
   exact ⟨rfl,hG.below hb,FrT.of_below hb hW.size⟩
  ·have h9:=visit_tree gv g gen p ga w.heap.size U V (B:=B) (N:=N) (gs:=gs) (gn:=gn) (cs:=cs) (cn:=cn) (rw:=rw) (st:=st) (ws:=ws) h a n es h3 h4 h2 [] W hG (by simpa using hlen) (hv.below hW) (hd.below hW)
   rw [h1,show ((h+1:Nat):Int)=(h:Int)+1 from by omega]
   exact h9)
 obtain ⟨w2,hw2⟩:∃ w2,w2=(w.alloc (.cells #[.int .i64 (a:Int),.int .i64 hi] 43)).alloc (.cells #[.slice none 0 0] 29):=⟨_,rfl⟩
 have G1:Hid (w2.heap[w.heap.size]?=some (.cells #[.int .i64 (a:Int),.int .i64 hi] 43 (0,0))):=Lib.hid (by rw [hw2];exact heap_alloc2_old _ _ _)
 have G2:Hid (w2.heap[w.heap.size+1]?=some (.cells #[.slice none 0 0] 29 (0,0))):=Lib.hid (by rw [hw2];exact heap_alloc2_new _ _ _)
 have B2:Hid (Below w.heap.size w w2):=Lib.hid (by rw [hw2];exact below_two (Below.refl _ _))
 have GG:Hid (GaT (w.heap.size+1) w.heap.size [] w2):=Lib.hid ⟨⟨B2.out.size,Nat.le_succ _⟩,none,0,G2.out,World.ownsRow_nil _ _ _ _⟩
 have HW2:=Lib.hid hw2
 clear hw2 hhi ht hlen hv hd
 go_enter Tryz.func11,Tryz.ntmps11
 go_upto_region 2 with fail
 rw [← HW2.out]
 clear HW2
 go_upto_region 3 with (first
  | (refine wpList_load_row rfl 43 (.tmp 3) rfl w.heap.size rfl 43 _ (0,0) _ G1.out Tryz.underlying43 rfl (by kernel_rfl) ?_)
  | (go_at_call 32;refine (HVS.out _ _ B2.out GG.out).mono ?_;rintro e w3 ⟨rfl,hg3,hf3⟩;have G3:=Lib.hid hg3;have F3:=Lib.hid hf3;clear hg3 hf3))
 obtain ⟨_,A,c,h1,h2⟩:=G3.out
 have R3:=Lib.hid h2
 have z0:=nd_cell h1 0 (.slice A es.length c) rfl
 clear h1 h2 G3
 go_wp2_with fail
 go_ret2
 refine ⟨A,c,rfl,R3.out,?_⟩
 have h1:=F3.out
 exact B2.out.trans ⟨h1.os,h1.tape,h1.output,h1.size,fun k hk=>h1.old k hk⟩
theorem modU (a:Int) (m:Nat) (h0:0<m) (hm:m≤1000000):∃ k:Nat,k<m∧wrap64 ((IntKind.u64.wrap a).tmod (m:Int))=(k:Int):=by
 obtain ⟨u,hu⟩:∃ u:Nat,IntKind.u64.wrap a=(u:Int):=⟨(IntKind.u64.wrap a).toNat,by
  have h1:0≤IntKind.u64.wrap a:=by rw [IntKind.wrap_u64];omega
  omega⟩
 rw [hu]
 refine ⟨u % m,Nat.mod_lt _ h0,?_⟩
 have h2:=Nat.mod_lt u h0
 have h3:(u:Int).tmod (m:Int)=((u % m:Nat):Int):=rfl
 rw [h3]
 unfold wrap64
 omega
theorem infoEntN:(Tryz.prog.info? 40).map (fun i=>(i.zero,i.size,i.bytes))=some (some (.agg #[.int .i64 0,.int .i64 0,.int .i64 0,.int .i64 0,.int .i64 0,.int .i64 0,.int .i64 0,.int .u32 0]),8,64):=by kernel_rfl
structure BuL (wo W:World) (Q R i:Nat) (A1:Option Addr) (c1:Nat) (A2:Option Addr) (c2:Nat):Prop where
 r1:W.ownsRow wo.heap.size 34 8 (.slice A1 i c1) i ((entsL Q R i).flatMap enC)
 r2:W.ownsRow wo.heap.size 40 8 (.slice A2 i c2) i ((entsL Q R i).flatMap enC)
 bel:Below wo.heap.size wo W
 z:i=0→A2=none∧c2=0
theorem atK_nextL {Q R k i:Nat}:atK (entsL Q R k) ⟨((i / 40:Nat):Int),((i % 40*10:Nat):Int)+1⟩=none:=by
 unfold atK
 rw [List.find?_eq_none]
 intro e he
 obtain ⟨j,hj,rfl⟩:=List.mem_map.1 he
 have e1:(entL Q R j).st=((j % 40*10:Nat):Int):=rfl
 simp [e1]
 omega
theorem less_ne {a b:EntD} (h:lessB a.key b.key=true):¬ (a.se=b.se∧a.st=b.st):=by
 unfold lessB EntD.key at h
 have h1:=of_decide_eq_true h
 dsimp only at h1
 omega
theorem less_ne2 {a b:EntD} (h:lessB a.key b.key=true):¬ (b.se=a.se∧b.st=a.st):=fun h1=>less_ne h ⟨h1.1.symm,h1.2.symm⟩
theorem offK_true {a b:Int} {e:EntD} (h:¬ (e.se=a∧e.st=b)):offK a b e=true:=by
 unfold offK
 rw [Bool.not_eq_true',Bool.eq_false_iff]
 intro h1
 exact h (by simpa using h1)
theorem filter_one {es X Z:List EntD} {e:EntD} (hu:Up es) (h:es=X ++ e :: Z):es.filter (offK e.se e.st)=X ++ Z:=by
 rw [h] at hu
 have h1:=List.pairwise_append.1 hu
 have h2:=(List.pairwise_cons.1 h1.2.1).1
 rw [h,List.filter_append,List.filter_cons]
 rw [List.filter_eq_self.2 (fun x hx=>offK_true (less_ne (h1.2.2 x hx e (List.mem_cons_self ..)))),List.filter_eq_self.2 (fun x hx=>offK_true (less_ne2 (h2 x hx))),if_neg (by simp [offK])]
theorem atK_self {es:List EntD} {e:EntD} (hu:Up es) (h:e ∈ es):atK es e.key=some e:=by
 cases hc:atK es e.key with
 | none=>exact absurd ⟨rfl,rfl⟩ (atK_none hc h)
 | some x =>
   obtain ⟨h1,h2⟩:=atK_key hc
   by_cases he:x=e
   ·rw [he]
   ·exfalso
    obtain ⟨i,hi⟩:=List.mem_iff_getElem?.1 h
    obtain ⟨j,hj⟩:=List.mem_iff_getElem?.1 h1
    have hk:x.se=e.se∧x.st=e.st:=⟨congrArg KeyD.se h2,congrArg KeyD.st h2⟩
    have hu':=List.pairwise_iff_getElem.1 hu
    obtain ⟨li,ei⟩:=List.getElem?_eq_some_iff.1 hi
    obtain ⟨lj,ej⟩:=List.getElem?_eq_some_iff.1 hj
    rcases Nat.lt_trichotomy i j with hij | hij | hij
    ·have h3:=hu' i j li lj hij
     rw [ei,ej] at h3
     exact less_ne2 h3 hk
    ·subst hij
     exact he (by rw [← ej,← ei])
    ·have h3:=hu' j i lj li hij
     rw [ei,ej] at h3
     exact less_ne h3 hk
theorem entsL_up {Q R k:Nat} (hk:k≤150):Up (entsL Q R k):=(entsL_rising hk).upD
theorem load_law (gv g b n Q R:Nat) (hm:n≤150) (hR:R<4294967296) {B N gs gn cs cn:Nat} {rw:Value} {st nw:List UInt8} (A:Option Addr) (c:Nat) (w:World) (hrow:w.ownsRow b 40 8 (.slice A n c) n ((entsL Q R n).flatMap enC)) (hz:n=0→A=none∧c=0)
 (hv:ViewAt w gv g 1 ((200:Nat):Int) map0 map0) (hd:Dk w B N g gs gn rw (200*256) cs cn st nw [] true (-1)) :
 Calls Tryz.prog 10 #[.pointer (some ⟨gv,0,none⟩),.slice A n c] w fun e w'=>∃ (a hh:Nat) (U:List Bool) (L:List (Nat × (NodeD × NdL))),e=.returned (.tuple #[.agg #[.int .i64 (a:Int),.int .i64 (hh:Int)],.int .i64 0])∧Wrote w w' gv g 1 200 U map0 B gs gn (200*256) cs cn rw st nw [] L∧(hh=0 ↔ n=0)∧(1≤n→(hh=1 ↔ n<8)) ∧
  U.length=512∧okM ((200:Nat):Int) U∧RoomP 200 (orK U map0 512) U 11∧L.length≤44∧∀ nw',PgsOf 1 nw nw' L→TreeQ nw' (200*256) a hh (entsL Q R n)∧(1≤n→TreeW nw' (200*256) 200 U a hh (entsL Q R n)):=by
 have ok0:=okM_zero 200 (by decide) (by decide)
 by_cases h0:n=0
 ·subst h0
  obtain ⟨rfl,rfl⟩:=hz rfl
  refine (load_none gv g 1 200 map0 map0 length_map0 length_map0 ok0 (by decide) (by simp) w hv hd).mono ?_
  rintro e w' ⟨rfl,h⟩
  exact ⟨0,0,map0,[],rfl,h,by simp,fun h=>by omega,length_map0,ok0,room_new 0 11 (by omega),by simp,fun _ _=>⟨.inl ⟨rfl,rfl⟩,fun h=>by omega⟩⟩
 ·refine (load_use gv g b n (entsL Q R n) (entsL_len Q R n) (by omega) hm (entsL_rising hm) (entsL_in hm hR) A c w hrow hv hd).mono ?_
  rintro e w' ⟨a,hh,U,L,rfl,h1,h2,h3,h4,h5,h6,h7,h8⟩
  exact ⟨a,hh,U,L,rfl,h1,by omega,fun _=>h3,h4,h5,h6,h7,fun nw' hp=>⟨(h8 nw' hp).q,fun _=>h8 nw' hp⟩⟩
theorem wpList_buildSlice0 {P:Program} {ops:Array Oper} {rest:List Oper} {o:Oper} {a:Act} {w:World} {Q:Exit→Act→World→Prop} (hg:o.guard=none) (t e:TypeId) (ho:o.op=.buildSlice t 0 #[])
 (ie:TypeInfo) (hu:P.underlying t=some (.slice e)) (hie:P.info? e=some ie)
 (h:wpList P ops Q rest (a.put o.dst (.slice (some ⟨w.heap.size,0,none⟩) 0 0)) (w.alloc (.cells #[] e))):wpList P ops Q (o :: rest) a w :=
 wpList_plain hg fun _ hK=>by
  have hr:(Instr.buildSlice t 0 #[]).run P w=.ok (.slice (some ⟨w.heap.size,0,none⟩) 0 0) (w.alloc (.cells #[] e)):=by
   simp [Instr.buildSlice,run_underlying hu,sizeOf,typeInfo,hie,newRow,Instr.fill]
   have h0:Array.map (fun (_:Nat)=>(default:Value)) (Array.range 0)=#[]:=Array.size_eq_zero_iff.1 (by simp)
   rw [h0]
  unfold Oper.wp execOp
  simp only [ho,Sem.run_bind,List.map_toArray,List.map_nil,hr,Result.andThen_ok]
  exact hK _ _ h
theorem ownsRow_lit {w:World} {e:TypeId} {sz base:Nat} (hb:base≤w.heap.size):(w.alloc (.cells #[] e)).ownsRow base e sz (.slice (some ⟨w.heap.size,0,none⟩) 0 0) 0 [] :=
 ⟨by simp,.inr ⟨w.heap.size,0,#[],rfl,hb,heap_alloc_new _ _,Nat.le_refl _,Nat.zero_le _,by simp,by simp⟩⟩
theorem swap_row {W:World} {base n c:Nat} {A:Option Addr} {p q:EntD} {t:List EntD} (h:W.ownsRow base 40 8 (.slice A n c) n ((p :: q :: t).flatMap enC)) :
 ∃ g,A=some ⟨g,0,none⟩∧base≤g∧W.there g 0 8∧(W.setCells g 0 (enC q)).there g 8 8∧((W.setCells g 0 (enC q)).setCells g 8 (enC p)).ownsRow base 40 8 (.slice A n c) n ((q :: p :: t).flatMap enC):=by
 obtain ⟨hl,h1⟩:=h
 have lp:(enC p).length=8:=rfl
 have lq:(enC q).length=8:=rfl
 rw [List.flatMap_cons,List.flatMap_cons,List.length_append,List.length_append,lp,lq] at hl
 rcases h1 with ⟨_,h2⟩ | ⟨g,cap,cur,hv,hb,hh,h3,h4,h5,h6⟩
 ·omega
 ·have hA:A=some ⟨g,0,none⟩:=by injection hv
  obtain ⟨L,hL⟩:∃ L,L=cur.toList:=⟨_,rfl⟩
  have hcur:cur=L.toArray:=by rw [hL]
  have hlen:L.length=cap*8:=by rw [hL];simpa using h5
  rw [← hL] at h6
  obtain ⟨Z,hZ⟩:∃ Z,Z=L.drop 16:=⟨_,rfl⟩
  have hn8:16≤n*8:=by omega
  have ht:L.take 16=enC p ++ enC q:=by
   have h7:=congrArg (List.take 16) h6
   rw [List.take_take,Nat.min_eq_left hn8] at h7
   rw [h7,List.flatMap_cons,List.flatMap_cons,← List.append_assoc]
   rw [List.take_append_of_le_length (by rw [List.length_append,lp,lq];omega)]
   exact List.take_of_length_le (by rw [List.length_append,lp,lq];omega)
  have hLs:L=enC p ++ (enC q ++ Z):=by
   rw [← List.append_assoc,← ht,hZ,List.take_append_drop]
  have hZt:Z.take (n*8 - 16)=t.flatMap enC:=by
   rw [hLs] at h6
   rw [List.flatMap_cons,List.flatMap_cons] at h6
   rw [show n*8=8+(8+(n*8 - 16)) by omega] at h6
   have h7:=List.take_length_add_append (l₁:=enC p) (l₂:=enC q ++ Z) (i:=8+(n*8 - 16))
   rw [lp] at h7
   rw [h7] at h6
   have h8:=List.take_length_add_append (l₁:=enC q) (l₂:=Z) (i:=n*8 - 16)
   rw [lq] at h8
   rw [h8] at h6
   exact List.append_cancel_left (List.append_cancel_left h6)
  have hh0:W.heap[g]?=some (.cells (enC p ++ (enC q ++ Z)).toArray 40 (0,0)):=by rw [hh,hcur,hLs]
  have hlen2:(enC p ++ (enC q ++ Z)).length=cap*8:=by rw [← hLs];exact hlen
  have hlen3:16≤cap*8:=by have:=Nat.mul_le_mul_right 8 h3;omega
  have hh1:=heap_setCells g 40 (enC q) W 0 _ hh0
  have e1:spl (enC p ++ (enC q ++ Z)) 0 (enC q)=enC q ++ (enC q ++ Z):=spl_mid (enC q) [] (enC p) (enC q ++ Z) (by rw [lp,lq])
  rw [e1] at hh1
  have hh2:=heap_setCells g 40 (enC p) _ 8 _ hh1
  have e2:spl (enC q ++ (enC q ++ Z)) 8 (enC p)=enC q ++ (enC p ++ Z):=spl_mid (enC p) (enC q) (enC q) Z (by rw [lp,lq])
  rw [e2] at hh2
  rw [List.length_append,List.length_append,lp,lq] at hlen2
  refine ⟨g,hA,hb,there_of_block hh0 0 8 (by rw [List.length_append,lp];omega),there_of_block hh1 8 8 (by rw [List.length_append,List.length_append,lq];omega),?_,.inr ⟨g,cap,_,hv,hb,hh2,h3,h4,?_,?_⟩⟩
  ·rw [List.flatMap_cons,List.flatMap_cons,List.length_append,List.length_append,lp,lq]
   omega
  ·rw [List.size_toArray,List.length_append,List.length_append,lp,lq]
   omega
  ·rw [List.flatMap_cons,List.flatMap_cons]
   show (enC q ++ (enC p ++ Z)).take (n*8)=_
   rw [show n*8=8+(8+(n*8 - 16)) by omega]
   have h7:=List.take_length_add_append (l₁:=enC q) (l₂:=enC p ++ Z) (i:=8+(n*8 - 16))
   rw [lq] at h7
   have h8:=List.take_length_add_append (l₁:=enC p) (l₂:=Z) (i:=n*8 - 16)
   rw [lp] at h8
   rw [h7,h8,hZt]
theorem below_setCells {w w1:World} {B g o:Nat} {vs:List Value} (h:Below B w w1) (hB:B≤g):Below B w (w1.setCells g o vs):=by
 have h1:=grown_setCells g vs w1 o
 refine ⟨h1.os.trans h.os,h1.tape.trans h.tape,h1.output.trans h.output,Nat.le_trans h.size h1.size,fun q hq=>?_⟩
 by_cases hs:q<w1.heap.size
 ·refine (h1.block q hs (fun e=>?_)).trans (h.block q hq)
  have e':q=g:=by simpa using e
  omega
 ·rw [← h.block q hq]
  have h2:=h1.size
  have hn:w1.heap[q]?=none:=Array.getElem?_eq_none (by omega)
  rw [hn]
  have h3:(w1.setCells g o vs).heap.size=w1.heap.size:=by
   clear hs hn h1 h2 hq h hB
   induction vs generalizing w1 o with
   | nil=>rfl
   | cons v r ih=>show ((w1.setCell ⟨g,o,none⟩ v).setCells g (o+1) r).heap.size=_;rw [ih];simp
  exact Array.getElem?_eq_none (by omega)
theorem entsL_two {Q R i:Nat} (h:2≤i):∃ t,entsL Q R i=entL Q R 0 :: entL Q R 1 :: t:=by
 obtain ⟨d,rfl⟩:∃ d,i=d+2:=⟨i - 2,by omega⟩
 refine ⟨(entsL Q R (d+2)).drop 2,?_⟩
 have h1:=List.take_append_drop 2 (entsL Q R (d+2))
 have h2:(entsL Q R (d+2)).take 2=[entL Q R 0,entL Q R 1]:=by
  refine List.ext_getElem (by rw [List.length_take,entsL_len];simp) fun j h3 h4=>?_
  have h5:(entsL Q R (d+2))[j]?=some (entL Q R j):=entsL_get (by simp at h4;omega)
  rw [List.getElem_take]
  have h6:=(List.getElem?_eq_some_iff.1 h5).2
  rw [h6]
  rcases j with _ | _ | j
  ·rfl
  ·rfl
  ·simp at h4;omega
 rw [h2] at h1
 exact h1.symm
theorem entL_back {Q R:Nat}:apartB (entL Q R 1) (entL Q R 0)=false:=rfl
end Go.Proofs.YtgkddhncfaeidaaGreat
