/- Squeezed: the texts as they are written lie in wip/tpl. -/
import Derived.Test.YtgkddhncfaeidaaGreatPart16
import Derived.Test.YtgkddhncfaeidaaGreatPart00
import Derived.Test.YtgkddhncfaeidaaGreatPart03
import Derived.Deep.RegionHeld3
import Derived.StillTailTactics
import Derived.Test.YtgkddhncfaeidaaGreatPart15
set_option maxRecDepth 100000
set_option maxHeartbeats 8000000
set_option linter.unusedSimpArgs false
set_option linter.unusedVariables false
namespace Go.Proofs.YtgkddhncfaeidaaGreat
open Go.RowKit CrcM PageM
def sizeOfPage (xs:List UInt8):Nat:=val ((xs.drop 12).take 2)
def parse (xs:List UInt8):Pg:=⟨xs.getD 0 0,(val ((xs.drop 2).take 2):Nat),val ((xs.drop 4).take 8),(xs.drop 14).take (sizeOfPage xs)⟩
def good (xs:List UInt8):Prop:=xs.length=256∧sizeOfPage xs≤238∧okP (parse xs)∧putP (parse xs)=xs
def zeroPage:Value:=.agg #[.int .u8 0,.int .i64 0,.int .u64 0,.slice none 0 0]
theorem results_cell_tmp {P:Program} {fn:Func} {p u:Tmp} {ty:TypeId} (h:fn.results=#[.cell p ty,.tmp u]) (tmps:Array Value) (w:World) (g:Nat) (t:TypeId) (cs:Array Value) (fr:Nat × Nat) (d:TypeDesc)
 (hp:tmps.getD p undef=.pointer (some ⟨g,0,none⟩)) (hg:w.heap[g]?=some (.cells cs t fr))
 (hu:P.underlying ty=some d) (hd:(match d with | .struct _ | .array _ _=>true | _=>false)=true) (hi:(P.info? ty).map (·.size)=some cs.size) :
 (results fn tmps).run P w=.ok (.tuple #[.agg cs,tmps.getD u undef]) w:=by
 have hp':tmps[p]?.getD undef=.pointer (some ⟨g,0,none⟩):=by simpa using hp
 simp [results,h,hp',asAddr,run_loadVar_row w g t ty cs fr d hg hu hd hi]
theorem takeHigh_len (A:Option Addr) (cap n:Nat) (xs:List UInt8) (w:World) (hn:xs.length=n) (hx:BytesAt w A xs) (hl:n≤8) :
 Calls Tryz.prog 157 #[.slice A n cap] w fun e w'=>e=.returned (.int .u64 (val xs))∧w=w':=by
 subst hn
 exact takeHigh_any A cap xs w hx hl
theorem put_err_len (p:Pg) (hp:¬ okP p) (hc:bodyC p) (n:Nat) (hn:p.body.length=n) (A:Option Addr) (c:Nat) (w:World) :
 Calls Tryz.prog 118 #[.agg tab,.agg #[.int .u8 (p.kind.toNat:Int),.int .i64 p.addr,.int .u64 (p.gen:Int),.slice A n c]] w fun e w'=>e=.returned (.tuple #[.slice none 0 0,.int .i64 1])∧Below w.heap.size w w':=by
 subst hn
 exact put_err p hp hc A c w
theorem put_ok_len (k:UInt8) (m g:Nat) (b:List UInt8) (n:Nat) (hn:b.length=n) (hk:isK k=true) (hm:m<512) (hg:g<18446744073709551616) (hb:n≤238) (A:Option Addr) (c:Nat) (w:World) (hx:BytesAt w A b) (hbc:n≤c) :
 Calls Tryz.prog 118 #[.agg tab,.agg #[.int .u8 (k.toNat:Int),.int .i64 (m:Int),.int .u64 (g:Int),.slice A n c]] w fun e w'=>e=.returned (.tuple #[.slice (some ⟨w.heap.size+1+1,0,none⟩) 256 256,.int .i64 0])∧OwnB w' w.heap.size (w.heap.size+1+1) 256 5 (putP ⟨k,m,g,b⟩)∧Below w.heap.size w w':=by
 subst hn
 exact put_ok k m g b hk hm hg hb A c w hx hbc
theorem piece {w:World} {ab ao:Nat} {xs:List UInt8} (hx:BytesAt w (some ⟨ab,ao,none⟩) xs) (k n:Nat) (hk:0<k):BytesAt w (some ⟨ab,ao+k,none⟩) ((xs.drop k).take n) :=
 (hx.cut k _ (fun _=>by simp [Addr.add,Nat.pos_iff_ne_zero.1 hk])).take n
theorem piece_len {xs:List UInt8} (h:xs.length=256) (k n:Nat) (hk:k+n≤256):((xs.drop k).take n).length=n:=by simp;omega
theorem val2_lt (l:List UInt8) (h:l.length=2):val l<65536:=by
 have:=val_lt l
 rw [h] at this
 exact this
theorem val8_lt (l:List UInt8) (h:l.length=8):val l<18446744073709551616:=by
 have:=val_lt l
 rw [h] at this
 exact this
theorem get_size (A:Option Addr) (cap:Nat) (xs:List UInt8) (w:World) (hx:BytesAt w A xs) (hc:xs.length≤cap) (h:xs.length=256) (hs:238<sizeOfPage xs) :
 Calls Tryz.prog 122 #[.agg tab,.slice A 256 cap] w fun e w'=>e=.returned (.tuple #[zeroPage,.int .i64 3])∧Below w.heap.size w w':=by
 have hb:Below w.heap.size w ((w.alloc (.cells tab 71)).alloc (.cells #[.int .u8 0,.int .i64 0,.int .u64 0,.slice none 0 0] 156)):=((Below.refl _ _).alloc (Nat.le_refl _) _).alloc (by simp) _
 obtain ⟨ab,ao,rfl,_⟩:=hx (by intro h0;subst h0;simp at h)
 have hc14:(14:Int)≤(cap:Int):=by omega
 have cutB:=piece (hx.below hb) 12 2 (by omega)
 have hl2:=piece_len h 12 2 (by omega)
 have HL:=Lib.hid hl2
 have H:=Lib.hid h
 have HS:Hid (238<val ((xs.drop 12).take 2)):=hs
 clear hl2 h hs
 go_enter Tryz.func122,Tryz.ntmps122
 go_wp2_with (go_at_call 157;refine (takeHigh_len _ _ _ _ _ HL.out cutB (by omega)).mono ?_;rintro e w' ⟨rfl,rfl⟩;have hs:=HS.out;have hs2:(238:Int)<(val ((xs.drop 12).take 2):Int):=by omega)
 exact bodyPost_ret (v:=.tuple #[zeroPage,.int .i64 3]) (results_cell_tmp (p:=4) (u:=5) (ty:=156) rfl _ _ (w.heap.size+1) 156 #[.int .u8 0,.int .i64 0,.int .u64 0,.slice none 0 0] (0,0) _ rfl (heap_alloc2_new _ _ _) Tryz.underlying156 rfl size_page) rfl
  ⟨rfl,hb⟩
def GetRetF (xs:List UInt8) (w:World) (e:Ending) (w':World):Prop :=
 Below w.heap.size w w'∧((¬ good xs∧e=.returned (.tuple #[zeroPage,.int .i64 3])) ∨
  (good xs∧∃ A' c',e=.returned (.tuple #[pageV (parse xs) A' c',.int .i64 0])∧BytesAt w' A' (parse xs).body∧(parse xs).body.length≤c'∧c'≤maxLen∧∀ a,A'=some a→w.heap.size≤a.block))
theorem get_restF (A:Option Addr) (cap:Nat) (xs:List UInt8) (w:World) (hx:BytesAt w A xs) (hc:xs.length≤cap) (h:xs.length=256) (hs:sizeOfPage xs≤238) :
 Calls Tryz.prog 122 #[.agg tab,.slice A 256 cap] w (GetRetF xs w):=by
 have hb:Below w.heap.size w ((w.alloc (.cells tab 71)).alloc (.cells #[.int .u8 0,.int .i64 0,.int .u64 0,.slice none 0 0] 156)):=((Below.refl _ _).alloc (Nat.le_refl _) _).alloc (by simp) _
 obtain ⟨ab,ao,rfl,hcell⟩:=hx (by intro h0;subst h0;simp at h)
 have hc14:(14:Int)≤(cap:Int):=by omega
 have hc4:(4:Int)≤(cap:Int):=by omega
 have hc12:(12:Int)≤(cap:Int):=by omega
 have hn2:¬ cap=2:=by omega
 have hn4:¬ cap=4:=by omega
 have hn14:¬ cap=14:=by omega
 have cutB:=piece (hx.below hb) 12 2 (by omega)
 have hl2:=piece_len h 12 2 (by omega)
 obtain ⟨s,es⟩:∃ s:Nat,s=val ((xs.drop 12).take 2):=⟨_,rfl⟩
 have hs2:s≤238:=by rw [es];exact hs
 have hsw:IntKind.u64.wrap (14+(s:Int))=14+(s:Int):=by simp [IntKind.wrap_u64];omega
 have hsn:(14+(s:Int)).toNat - 14=s:=by omega
 have hs4:(14:Int)≤14+(s:Int):=by omega
 have hs5:14+(s:Int)≤(cap:Int):=by omega
 have hs3:decide ((238:Int)<(s:Int))=false:=by simp;omega
 have HL:=Lib.hid hl2
 have H:=Lib.hid h
 have ES:=Lib.hid es
 have HL2:=Lib.hid (piece_len h 2 2 (by omega))
 have HL8:=Lib.hid (piece_len h 4 8 (by omega))
 have HLS:Hid (((xs.drop 14).take s).length=s):=Lib.hid (by simp;omega)
 have cut2:=piece (hx.below hb) 2 2 (by omega)
 have cut4:=piece (hx.below hb) 4 8 (by omega)
 have cutS:=piece (hx.below hb) 14 s (by omega)
 obtain ⟨m,em⟩:∃ m:Nat,m=val ((xs.drop 2).take 2):=⟨_,rfl⟩
 obtain ⟨g,eg⟩:∃ g:Nat,g=val ((xs.drop 4).take 8):=⟨_,rfl⟩
 obtain ⟨k,ek⟩:∃ k:UInt8,k=xs.getD 0 0:=⟨_,rfl⟩
 have hm:m<65536:=by rw [em];exact val2_lt _ HL2.out
 have hg:g<18446744073709551616:=by rw [eg];exact val8_lt _ HL8.out
 have hW:((w.alloc (.cells tab 71)).alloc (.cells #[.int .u8 0,.int .i64 0,.int .u64 0,.slice none 0 0] 156)).heap.size≤w.heap.size+1+1:=by simp
 have hWB:w.heap.size+1+1≤((w.alloc (.cells tab 71)).alloc (.cells #[.int .u8 0,.int .i64 0,.int .u64 0,.slice none 0 0] 156)).heap.size:=by simp
 have hZ:Hid ((((w.alloc (.cells tab 71)).alloc (.cells #[.int .u8 0,.int .i64 0,.int .u64 0,.slice none 0 0] 156)).alloc (.cells #[.int .u8 0,.int .i64 0,.int .u64 0,.slice none 0 0] 156)).heap[w.heap.size+1+1]?=some (.cells #[.int .u8 0,.int .i64 0,.int .u64 0,.slice none 0 0] 156 (0,0))):=Lib.hid (by
  have:=heap_alloc_new ((w.alloc (.cells tab 71)).alloc (.cells #[.int .u8 0,.int .i64 0,.int .u64 0,.slice none 0 0] 156)) (.cells #[.int .u8 0,.int .i64 0,.int .u64 0,.slice none 0 0] 156)
  simpa using this)
 have hlt0:ab<w.heap.size:=by
  rcases Nat.lt_or_ge ab w.heap.size with h0 | h0
  ·exact h0
  ·have:=hcell 0 (by omega)
   simp [World.cell?,Array.getElem?_eq_none h0] at this
 have hc0:((w.alloc (.cells tab 71)).alloc (.cells #[.int .u8 0,.int .i64 0,.int .u64 0,.slice none 0 0] 156)).cell? ⟨ab,ao,none⟩=some (.int .u8 (k.toNat:Int)):=by
  rw [World.cell?_of_block (hb.block ab hlt0),show ao=ao+0 from rfl,hcell 0 (by omega),ek]
  congr 3
  simp [List.getElem?_eq_getElem (show 0<xs.length by omega)]
 have hab:(⟨ab,ao,none⟩:Addr).block<w.heap.size+1+1:=Nat.lt_succ_of_lt (Nat.lt_succ_of_lt hlt0)
 have HC2:Hid (∀ w',Below (w.heap.size+1+1) ((w.alloc (.cells tab 71)).alloc (.cells #[.int .u8 0,.int .i64 0,.int .u64 0,.slice none 0 0] 156)) w'→Calls Tryz.prog 157 #[.slice (some ⟨ab,ao+2,none⟩) 2 (cap - 2)] w' fun e w''=>e=.returned (.int .u64 (m:Int))∧w'=w''):=fun w' hw=>by
  rw [em]
  exact takeHigh_len _ _ _ _ _ HL2.out (cut2.below (Below.mono hw hW)) (by omega)
 have HC4:Hid (∀ w',Below (w.heap.size+1+1) ((w.alloc (.cells tab 71)).alloc (.cells #[.int .u8 0,.int .i64 0,.int .u64 0,.slice none 0 0] 156)) w'→Calls Tryz.prog 157 #[.slice (some ⟨ab,ao+4,none⟩) 8 (cap - 4)] w' fun e w''=>e=.returned (.int .u64 (g:Int))∧w'=w''):=fun w' hw=>by
  rw [eg]
  exact takeHigh_len _ _ _ _ _ HL8.out (cut4.below (Below.mono hw hW)) (by omega)
 have hpar:parse xs=⟨k,(m:Int),g,(xs.drop 14).take s⟩:=by rw [ek,em,eg,es];rfl
 have HG:Hid (okP ⟨k,(m:Int),g,(xs.drop 14).take s⟩∧putP ⟨k,(m:Int),g,(xs.drop 14).take s⟩=xs→good xs):=fun h0=>⟨h,by have:=es;unfold sizeOfPage;omega,by rw [hpar];exact h0.1,by rw [hpar];exact h0.2⟩
 have HB:Hid (¬ (okP ⟨k,(m:Int),g,(xs.drop 14).take s⟩∧putP ⟨k,(m:Int),g,(xs.drop 14).take s⟩=xs)→¬ good xs):=fun h0 hg0=>h0 (by rw [← hpar];exact hg0.2.2)
 have HPAR:=Lib.hid hpar
 clear hpar
 have HC:Hid (bodyC ⟨k,(m:Int),g,(xs.drop 14).take s⟩):=⟨hg,by have:=HLS.out;show ((xs.drop 14).take s).length≤_;omega,by show (-9223372036854775808:Int)≤(m:Int);omega,by show (m:Int)≤_;omega⟩
 have hmw:IntKind.i64.wrap (m:Int)=m:=by simp only [IntKind.wrap_i64];omega
 have EK:=Lib.hid ek
 have EM:=Lib.hid em
 have EG:=Lib.hid eg
 clear hl2 h hs es em eg ek
 go_enter Tryz.func122,Tryz.ntmps122
 go_upto_region 6 with (go_at_call 157;refine (takeHigh_len _ _ _ _ _ HL.out cutB (by omega)).mono ?_;rintro e w' ⟨rfl,rfl⟩;rw [← ES.out])
 go_cut [7] (fun s7 wx=>∃ p A' c',s7=.pointer (some ⟨p,0,none⟩)∧Below (w.heap.size+1+1) ((w.alloc (.cells tab 71)).alloc (.cells #[.int .u8 0,.int .i64 0,.int .u64 0,.slice none 0 0] 156)) wx ∧
  wx.heap[p]?=some (.cells #[.int .u8 (k.toNat:Int),.int .i64 (m:Int),.int .u64 (g:Int),.slice A' s c'] 156 (0,0))∧BytesAt wx A' ((xs.drop 14).take s)∧s≤c'∧c'≤maxLen∧∀ a,A'=some a→w.heap.size+1<a.block)
 case first =>
  go_region_held3 (fun w'=>Below (w.heap.size+1+1) ((w.alloc (.cells tab 71)).alloc (.cells #[.int .u8 0,.int .i64 0,.int .u64 0,.slice none 0 0] 156)) w'∧w'.cell? ⟨ab,ao,none⟩=some (.int .u8 (k.toNat:Int)))
   (first
    | assumption
    | (with_reducible refine kept_new hab hc0 (below_set4 ?_ (Nat.le_refl _) _ _ _ _);first | assumption | (apply And.left;assumption))
    | (with_reducible refine kept_new hab hc0 (below_alloc hWB ?_ _);first | assumption | (apply And.left;assumption))
    | (with_reducible refine kept_new hab hc0 (below_grown hWB ?_ (by assumption));first | assumption | (apply And.left;assumption))
    | (exact kept_new hab hc0 (below_drewN (Below.refl _ _) 1))
    | (exact kept_new hab hc0 (below_drewN (below_alloc hWB (Below.refl _ _) _) 1)))
   (first
    | (go_at_call 157;with_reducible refine Calls.mono (HC2.out _ ?_) ?_;(first | assumption | (apply And.left;assumption));rintro e w' ⟨rfl,rfl⟩)
    | (go_at_call 157;with_reducible refine Calls.mono (HC4.out _ ?_) ?_;(first | assumption | (apply And.left;assumption));rintro e w' ⟨rfl,rfl⟩)
    | (refine step_append_nilM rfl _ _ 110 rfl Tryz.underlying110 (by kernel_rfl) rfl _ _ _ _ rfl HLS.out (cutS.below (Below.mono ?_ hW)) (by omega) ?_;(first | assumption | (apply And.left;assumption));intro A' c' w2 hA2 hc2 hg2 hn2' hcm2;have HCM2:=Lib.hid hcm2;clear hcm2;have HN2:=Lib.hid hn2';clear hn2';have hb2:=below_grown (B:=w.heap.size+1+1) (w0:=((w.alloc (.cells tab 71)).alloc (.cells #[.int .u8 0,.int .i64 0,.int .u64 0,.slice none 0 0] 156))) hWB (by first | assumption | (apply And.left;assumption)) hg2;try (have hp2:=(hg2.block (w.heap.size+1+1) (by simp) (by simp)).trans hZ.out;obtain ⟨q0,q1,q2,q3,f0,f1,f2,f3⟩:=four_cells hp2;have HP2:=Lib.hid hp2;clear hp2)))
  all_goals (go_wp2_with fail;go_meet)
  ·exact ⟨_,A',c',rfl,below_alloc hWB hb2 _,heap_alloc_new _ _,hA2.below ((Below.refl _ _).alloc (Nat.le_refl _) _),hc2,HCM2.out,fun a ha=>by have:=HN2.out a ha;simp at this;omega⟩
  all_goals exact ⟨_,A',c',rfl,below_set4 hb2 (Nat.le_refl _) _ _ _ _,set_four HP2.out _ _ _ _,bytes_set4 hA2 (fun a ha=>by have:=HN2.out a ha;simp at this;omega) _ _ _ _,hc2,HCM2.out,fun a ha=>by have:=HN2.out a ha;simp at this;omega⟩
 case rest =>
  obtain ⟨p,A',c',rfl,hbx,hp,hA,hc',hcm',hA1⟩:=hcut
  have HCM:=Lib.hid hcm'
  clear hcm'
  have hT:wc.heap[w.heap.size]?=some (.cells tab 71 (0,0)):=(hbx.block _ (by omega)).trans (heap_alloc2_old _ _ _)
  have hR:wc.heap[w.heap.size+1]?=some (.cells #[.int .u8 0,.int .i64 0,.int .u64 0,.slice none 0 0] 156 (0,0)):=(hbx.block _ (by omega)).trans (heap_alloc2_new _ _ _)
  have hBw:Below w.heap.size w wc:=hb.trans (hbx.mono (by omega))
  have hsz:w.heap.size+1+1≤wc.heap.size:=by have:=hbx.size;simp at this;omega
  have hpl:p<wc.heap.size:=(Array.getElem?_eq_some_iff.1 hp).1
  have HX:BytesAt wc (some ⟨ab,ao,none⟩) xs:=(hx.below hBw)
  have HPl:=Lib.hid hpl
  have HT:=Lib.hid hT
  have HR:=Lib.hid hR
  have HP:=Lib.hid hp
  have HA1:=Lib.hid hA1
  clear hT hR hp hA1 hpl
  by_cases hok:isK k=true∧m<512
  ·have hok':okP ⟨k,(m:Int),g,(xs.drop 14).take s⟩:=⟨hok.1,by show (0:Int)≤(m:Int);omega,by show (m:Int)≤511;omega,by have:=HLS.out;show ((xs.drop 14).take s).length≤238;omega⟩
   have HLP:=Lib.hid (length_putP ⟨k,(m:Int),g,(xs.drop 14).take s⟩ hok'.2.2.2)
   have HK:=Lib.hid hok.1
   have hm5:=hok.2
   have HA:=Lib.hid hA
   by_cases heq:putP ⟨k,(m:Int),g,(xs.drop 14).take s⟩=xs
   ·have hd:decide (putP ⟨k,(m:Int),g,(xs.drop 14).take s⟩=xs)=true:=by simpa using heq
    have HGD:=Lib.hid (HG.out ⟨hok',heq⟩)
    clear heq hok hok' hA
    go_wp2_with (first
    | (go_at_call 118;refine (put_ok_len k m g ((xs.drop 14).take s) s HLS.out HK.out hm5 hg hs2 A' c' _ HA.out hc').mono ?_;rintro e w3 ⟨rfl,hown,hb3⟩)
    | (go_at_call 158;refine (equal_any _ _ _ _ _ _ _ _ _ HLP.out H.out hown.bytes (HX.below hb3)).mono ?_;rintro e w4 ⟨rfl,rfl⟩;rw [hd])
    | (refine wpList_load_row rfl 71 (.tmp 2) rfl w.heap.size rfl 71 tab (0,0) _ HT.out Tryz.underlying71 rfl (by rw [size_tab];exact info64) ?_)
    | (refine wpList_load_row rfl 156 (.tmp 7) rfl p rfl 156 #[.int .u8 (k.toNat:Int),.int .i64 (m:Int),.int .u64 (g:Int),.slice A' s c'] (0,0) _ HP.out Tryz.underlying156 rfl size_page ?_)
    | (refine wpList_load_row rfl 156 (.tmp 7) rfl p rfl 156 #[.int .u8 (k.toNat:Int),.int .i64 (m:Int),.int .u64 (g:Int),.slice A' s c'] (0,0) _ ((hb3.block _ HPl.out).trans HP.out) Tryz.underlying156 rfl size_page ?_)
    | (refine wpList_store_row rfl 156 (.tmp 4) (.tmp 51) rfl (w.heap.size+1) #[.int .u8 (k.toNat:Int),.int .i64 (m:Int),.int .u64 (g:Int),.slice A' s c'] rfl rfl 156 #[.int .u8 0,.int .i64 0,.int .u64 0,.slice none 0 0] ((hb3.block _ (by omega)).trans HR.out) size_page rfl (by simp [Value.oneCell']) ?_))
    refine bodyPost_ret (v:=.tuple #[.agg #[.int .u8 (k.toNat:Int),.int .i64 (m:Int),.int .u64 (g:Int),.slice A' s c'],.int .i64 0]) (results_cell_tmp (p:=4) (u:=5) (ty:=156) rfl _ _ (w.heap.size+1) 156 #[.int .u8 (k.toNat:Int),.int .i64 (m:Int),.int .u64 (g:Int),.slice A' s c'] (0,0) _ rfl (setRow_heap _ _ #[.int .u8 0,.int .i64 0,.int .u64 0,.slice none 0 0] _ _ _ ((hb3.block _ (by omega)).trans HR.out)) Tryz.underlying156 rfl size_page) rfl
     ⟨below_setRow (hBw.trans (hb3.mono (by omega))) (Nat.le_succ _) _,.inr ⟨HGD.out,A',c',?_,?_,?_,HCM.out,fun a ha=>by have:=HA1.out a ha;omega⟩⟩
    ·rw [HPAR.out];unfold pageV;rw [HLS.out]
    ·rw [HPAR.out];exact bytes_setRow (HA.out.below hb3) HA1.out _
    ·rw [HPAR.out];show ((xs.drop 14).take s).length≤c';rw [HLS.out];exact hc'
   ·have hd:decide (putP ⟨k,(m:Int),g,(xs.drop 14).take s⟩=xs)=false:=by simpa using heq
    have HNE:=Lib.hid heq
    clear heq hok hok' hA
    go_wp2_with (first
    | (go_at_call 118;refine (put_ok_len k m g ((xs.drop 14).take s) s HLS.out HK.out hm5 hg hs2 A' c' _ HA.out hc').mono ?_;rintro e w3 ⟨rfl,hown,hb3⟩)
    | (go_at_call 158;refine (equal_any _ _ _ _ _ _ _ _ _ HLP.out H.out hown.bytes (HX.below hb3)).mono ?_;rintro e w4 ⟨rfl,rfl⟩;rw [hd])
    | (refine wpList_load_row rfl 71 (.tmp 2) rfl w.heap.size rfl 71 tab (0,0) _ HT.out Tryz.underlying71 rfl (by rw [size_tab];exact info64) ?_)
    | (refine wpList_load_row rfl 156 (.tmp 7) rfl p rfl 156 #[.int .u8 (k.toNat:Int),.int .i64 (m:Int),.int .u64 (g:Int),.slice A' s c'] (0,0) _ HP.out Tryz.underlying156 rfl size_page ?_)
    | (refine wpList_load_row rfl 156 (.tmp 7) rfl p rfl 156 #[.int .u8 (k.toNat:Int),.int .i64 (m:Int),.int .u64 (g:Int),.slice A' s c'] (0,0) _ ((hb3.block _ HPl.out).trans HP.out) Tryz.underlying156 rfl size_page ?_)
    | (refine wpList_store_row rfl 156 (.tmp 4) (.tmp 50) rfl (w.heap.size+1) #[.int .u8 0,.int .i64 0,.int .u64 0,.slice none 0 0] rfl rfl 156 #[.int .u8 0,.int .i64 0,.int .u64 0,.slice none 0 0] ((hb3.block _ (by omega)).trans HR.out) size_page rfl (by simp [Value.oneCell']) ?_))
    exact bodyPost_ret (v:=.tuple #[zeroPage,.int .i64 3]) (results_cell_tmp (p:=4) (u:=5) (ty:=156) rfl _ _ (w.heap.size+1) 156 #[.int .u8 0,.int .i64 0,.int .u64 0,.slice none 0 0] (0,0) _ rfl (setRow_heap _ _ #[.int .u8 0,.int .i64 0,.int .u64 0,.slice none 0 0] _ _ _ ((hb3.block _ (by omega)).trans HR.out)) Tryz.underlying156 rfl size_page) rfl
     ⟨below_setRow (hBw.trans (hb3.mono (by omega))) (Nat.le_succ _) _,.inl ⟨HB.out (fun h=>HNE.out h.2),rfl⟩⟩
  ·have hnb:¬ okP ⟨k,m,g,(xs.drop 14).take s⟩:=fun h=>hok ⟨h.1,by have:=h.2.2.1;simp at this;omega⟩
   have hbad:=HB.out (fun h=>hnb h.1)
   clear hbad
   have HNB:=Lib.hid hnb
   clear hnb hok
   go_wp2_with (first
    | (go_at_call 118;refine (put_err_len ⟨k,m,g,(xs.drop 14).take s⟩ HNB.out HC.out s HLS.out A' c' _).mono ?_;rintro e w3 ⟨rfl,hb3⟩)
    | (refine wpList_load_row rfl 71 (.tmp 2) rfl w.heap.size rfl 71 tab (0,0) _ HT.out Tryz.underlying71 rfl (by rw [size_tab];exact info64) ?_)
    | (refine wpList_load_row rfl 156 (.tmp 7) rfl p rfl 156 #[.int .u8 (k.toNat:Int),.int .i64 (m:Int),.int .u64 (g:Int),.slice A' s c'] (0,0) _ HP.out Tryz.underlying156 rfl size_page ?_)
    | (refine wpList_store_row rfl 156 (.tmp 4) (.tmp 50) rfl (w.heap.size+1) #[.int .u8 0,.int .i64 0,.int .u64 0,.slice none 0 0] rfl rfl 156 #[.int .u8 0,.int .i64 0,.int .u64 0,.slice none 0 0] ((hb3.block _ (by omega)).trans HR.out) size_page rfl (by simp [Value.oneCell']) ?_))
   exact bodyPost_ret (v:=.tuple #[zeroPage,.int .i64 3]) (results_cell_tmp (p:=4) (u:=5) (ty:=156) rfl _ _ (w.heap.size+1) 156 #[.int .u8 0,.int .i64 0,.int .u64 0,.slice none 0 0] (0,0) _ rfl (setRow_heap _ _ #[.int .u8 0,.int .i64 0,.int .u64 0,.slice none 0 0] _ _ _ ((hb3.block _ (by omega)).trans HR.out)) Tryz.underlying156 rfl size_page) rfl
    ⟨below_setRow (hBw.trans (hb3.mono (by omega))) (Nat.le_succ _) _,.inl ⟨HB.out (fun h=>HNB.out h.1),rfl⟩⟩
theorem parts_put (k:UInt8) (m g:Nat) (b:List UInt8) (hb:b.length≤238) :
 (putP ⟨k,(m:Int),g,b⟩).getD 0 0=k∧((putP ⟨k,(m:Int),g,b⟩).drop 2).take 2=be m 2∧((putP ⟨k,(m:Int),g,b⟩).drop 4).take 8=be g 8 ∧
 ((putP ⟨k,(m:Int),g,b⟩).drop 12).take 2=be b.length 2∧((putP ⟨k,(m:Int),g,b⟩).drop 14).take b.length=b:=by
 have e:putP ⟨k,(m:Int),g,b⟩=k :: 0 :: (be m 2 ++ (be g 8 ++ (be b.length 2 ++ (b ++ (List.replicate (238 - b.length) 0 ++ le (sumN (headP ⟨k,(m:Int),g,b⟩)) 4))))):=by
  unfold putP
  conv=>lhs;arg 1;unfold headP
  simp
 rw [e]
 have h2:∀ n,(be n 2).length=2:=fun n=>length_be 2 n
 have h8:∀ n,(be n 8).length=8:=fun n=>length_be 8 n
 refine ⟨rfl,?_,?_,?_,?_⟩
 ·rw [show (2:Nat)=0+1+1 from rfl,List.drop_succ_cons,List.drop_succ_cons,List.drop_zero]
  exact List.take_left' (h2 m)
 ·rw [show (4:Nat)=2+1+1 from rfl,List.drop_succ_cons,List.drop_succ_cons,List.drop_left' (h2 m)]
  exact List.take_left' (h8 g)
 ·rw [show (12:Nat)=8+2+1+1 from rfl,List.drop_succ_cons,List.drop_succ_cons,Nat.add_comm 8 2,← List.drop_drop,List.drop_left' (h2 m),List.drop_left' (h8 g)]
  exact List.take_left' (h2 _)
 ·rw [show (14:Nat)=2+(8+2)+1+1 from rfl,List.drop_succ_cons,List.drop_succ_cons,← List.drop_drop,List.drop_left' (h2 m),show (10:Nat)=8+2 from rfl,← List.drop_drop,List.drop_left' (h8 g),List.drop_left' (h2 _)]
  exact List.take_left' rfl
theorem parse_put (k:UInt8) (m g:Nat) (b:List UInt8) (hm:m<512) (hg:g<18446744073709551616) (hb:b.length≤238) :
 sizeOfPage (putP ⟨k,(m:Int),g,b⟩)=b.length∧parse (putP ⟨k,(m:Int),g,b⟩)=⟨k,(m:Int),g,b⟩:=by
 obtain ⟨h0,h1,h2,h3,h4⟩:=parts_put k m g b hb
 have hs:sizeOfPage (putP ⟨k,(m:Int),g,b⟩)=b.length:=by
  unfold sizeOfPage
  rw [h3,val_be 2 _ (by omega)]
 refine ⟨hs,?_⟩
 unfold parse
 rw [hs,h0,h1,h2,h4,val_be 2 _ (by omega),val_be 8 _ (by omega)]
theorem good_put (k:UInt8) (m g:Nat) (b:List UInt8) (hk:isK k=true) (hm:m<512) (hg:g<18446744073709551616) (hb:b.length≤238):good (putP ⟨k,(m:Int),g,b⟩):=by
 obtain ⟨hs,hp⟩:=parse_put k m g b hm hg hb
 refine ⟨length_putP _ hb,by rw [hs];exact hb,?_,by rw [hp]⟩
 rw [hp]
 exact ⟨hk,by show (0:Int)≤(m:Int);omega,by show (m:Int)≤511;omega,hb⟩
def cellsC (p:Pg) (A:Option Addr) (c:Nat):Array Value:=#[.int .u8 (p.kind.toNat:Int),.int .i64 p.addr,.int .u64 (p.gen:Int),.slice A p.body.length c]
theorem put_okV (k:UInt8) (m g:Nat) (b:List UInt8) (hk:isK k=true) (hm:m<512) (hg:g<18446744073709551616) (hb:b.length≤238) (A:Option Addr) (c:Nat) (w:World) (hx:BytesAt w A b) (hbc:b.length≤c) :
 Calls Tryz.prog 118 #[.agg tab,.agg (cellsC ⟨k,(m:Int),g,b⟩ A c)] w fun e w'=>e=.returned (.tuple #[.slice (some ⟨w.heap.size+1+1,0,none⟩) 256 256,.int .i64 0])∧OwnB w' w.heap.size (w.heap.size+1+1) 256 5 (putP ⟨k,(m:Int),g,b⟩)∧Below w.heap.size w w' :=
 put_ok k m g b hk hm hg hb A c w hx hbc
noncomputable def numOf (xs:List UInt8):Nat:=open Classical in if xs.length≠256 then 4 else if good xs then 0 else 3
noncomputable def toldP (xs:List UInt8):Pg:=open Classical in if good xs then parse xs else ⟨0,0,0,[]⟩
section
variable {w w':World} {B N g gs gn L cs cn:Nat} {rw:Value} {st nw:List UInt8} {ws:List (Nat × List UInt8)} {left:Int}
def readsP (xs:List UInt8) (a:Nat) (k:UInt8):Prop:=numOf xs=0∧(toldP xs).addr=(a:Int)∧(toldP xs).kind=k
theorem get_told256 (A:Option Addr) (cap:Nat) (xs:List UInt8) (w:World) (hx:BytesAt w A xs) (hl:xs.length=256) (hc:256≤cap) :
 Calls Tryz.prog 122 #[.agg tab,.slice A 256 cap] w fun e w'=>∃ A' c',e=.returned (.tuple #[.agg #[.int .u8 ((toldP xs).kind.toNat:Int),.int .i64 (toldP xs).addr,.int .u64 ((toldP xs).gen:Int),.slice A' (toldP xs).body.length c'],.int .i64 (numOf xs:Int)])∧BytesAt w' A' (toldP xs).body∧(toldP xs).body.length≤c'∧c'≤maxLen∧(∀ a,A'=some a→w.heap.size≤a.block)∧Below w.heap.size w w':=by
 have hnl:¬ xs.length≠256:=fun h=>h hl
 have bad:¬ good xs→∀ w':World,Below w.heap.size w w'→∃ A' c',(.returned (.tuple #[zeroPage,.int .i64 3]):Ending)=.returned (.tuple #[.agg #[.int .u8 ((toldP xs).kind.toNat:Int),.int .i64 (toldP xs).addr,.int .u64 ((toldP xs).gen:Int),.slice A' (toldP xs).body.length c'],.int .i64 (numOf xs:Int)])∧BytesAt w' A' (toldP xs).body∧(toldP xs).body.length≤c'∧c'≤maxLen∧(∀ a,A'=some a→w.heap.size≤a.block)∧Below w.heap.size w w':=by
  intro hn w' hb
  refine ⟨none,0,?_,?_,?_,Nat.zero_le _,(fun a h=>by cases h),hb⟩
  ·simp only [toldP,numOf,if_neg hn,if_neg hnl];rfl
  ·simp only [toldP,if_neg hn];exact fun h=>absurd rfl h
  ·simp only [toldP,if_neg hn];exact Nat.le_refl _
 by_cases hs:sizeOfPage xs≤238
 ·refine (get_restF A cap xs w hx (by omega) hl hs).mono fun e w' ⟨hb,hr⟩=>?_
  rcases hr with ⟨hn,he⟩ | ⟨hg,A',c',he,h2,h3,hm4,h4⟩
  ·rw [he];exact bad hn w' hb
  ·refine ⟨A',c',?_,?_,?_,hm4,h4,hb⟩
   ·simp only [toldP,numOf,if_pos hg,if_neg hnl];exact he
   ·simp only [toldP,if_pos hg];exact h2
   ·simp only [toldP,if_pos hg];exact h3
 ·refine (get_size A cap xs w hx (by omega) hl (by omega)).mono fun e w' ⟨he,hb⟩=>?_
  rw [he]
  exact bad (fun hg=>hs hg.2.1) w' hb
theorem pread_any (h:Dk w B N g gs gn rw L cs cn st nw ws true left) (za:Int) (a:Nat) (hza:za=(a:Int)) (hin:256*a+256≤L) (k:UInt8) (xs:List UInt8) (hxs:(nw.drop (256*a)).take 256=xs) :
 Calls Tryz.prog 83 #[.agg tab,.pointer (some ⟨g,0,none⟩),.int .i64 za,.int .u8 (k.toNat:Int)] w fun e w' =>
  ((readsP xs a k∧∃ A' c',e=.returned (.tuple #[.agg (cellsC (toldP xs) A' c'),.int .i64 0])∧BytesAt w' A' (toldP xs).body∧(toldP xs).body.length≤c'∧c'≤maxLen∧∀ a,A'=some a→w.heap.size≤a.block)∨(¬ readsP xs a k∧e=.returned (.tuple #[zeroPage,.int .i64 3])))∧Below w.heap.size w w':=by
 subst hza
 unfold readsP
 obtain ⟨P,hPe⟩:∃ P,P=toldP xs:=⟨_,rfl⟩
 obtain ⟨m,hme⟩:∃ m,m=numOf xs:=⟨_,rfl⟩
 rw [← hPe,← hme]
 have HPE:=Lib.hid hPe.symm
 have HME:=Lib.hid hme.symm
 clear hPe hme
 have hLh:=h.hi
 have hxl:xs.length=256:=by rw [← hxs,List.length_take,List.length_drop,h.lnw];omega
 have hb0:Below w.heap.size w (w.alloc (.cells tab 71)):=(Below.refl _ _).alloc (Nat.le_refl _) _
 have hb1:Below w.heap.size w ((w.alloc (.cells tab 71)).alloc (.cells #[.int .u8 0,.int .i64 0,.int .u64 0,.slice none 0 0] 156)):=hb0.alloc (by simp) _
 have D1:=Lib.hid (h.below hb1)
 have ht0:((w.alloc (.cells tab 71)).alloc (.cells #[.int .u8 0,.int .i64 0,.int .u64 0,.slice none 0 0] 156)).heap[w.heap.size]?=some (.cells tab 71 (0,0)):=heap_alloc2_old _ _ _
 have hr0:((w.alloc (.cells tab 71)).alloc (.cells #[.int .u8 0,.int .i64 0,.int .u64 0,.slice none 0 0] 156)).heap[w.heap.size+1]?=some (.cells #[.int .u8 0,.int .i64 0,.int .u64 0,.slice none 0 0] 156 (0,0)):=heap_alloc2_new _ _ _
 have hsz:((w.alloc (.cells tab 71)).alloc (.cells #[.int .u8 0,.int .i64 0,.int .u64 0,.slice none 0 0] 156)).heap.size=w.heap.size+2:=by simp
 have HT0:=Lib.hid ht0
 have HR0:=Lib.hid hr0
 have HSZ:=Lib.hid hsz
 have HXL:=Lib.hid hxl
 have HXS:=Lib.hid hxs
 clear h hxl hxs ht0 hr0 hsz
 go_enter Tryz.func83,Tryz.ntmps83
 go_upto_region 4 with (go_at_call 121;(refine (readRaw_ok D1.out _ _ a 256 rfl rfl (by omega) (by omega) (by omega)).mono ?_);rintro e w1 ⟨A1,c1,rfl,hx1,hc1,hcm1,hb2⟩;rw [HXS.out] at hx1;have HX1:=Lib.hid hx1;clear hx1)
 have hsz2:=hb2.size
 rw [HSZ.out] at hsz2
 have HT1:=Lib.hid ((hb2.block w.heap.size (by rw [HSZ.out];omega)).trans HT0.out)
 have HR1:=Lib.hid ((hb2.block (w.heap.size+1) (by rw [HSZ.out];omega)).trans HR0.out)
 have hbw1:Below w.heap.size w w1:=hb1.trans (hb2.mono (by rw [HSZ.out];omega))
 clear hb2
 by_cases hm:m=0
 ·have d1:((m:Int) != 0)=false:=by simp [hm]
  by_cases ha:P.addr=(a:Int)
  ·have d2:(P.addr != (a:Int))=false:=by simp [ha]
   by_cases hk:P.kind=k
   ·have d3:(((P.kind.toNat:Nat):Int) != ((k.toNat:Nat):Int))=false:=by simp [hk]
    have HM:=Lib.hid hm
    have HA:=Lib.hid ha
    have HKK:=Lib.hid hk
    clear hm ha hk
    go_wp2_with (first
     | (refine wpList_load_row rfl 71 (.tmp 4) rfl w.heap.size rfl 71 tab (0,0) _ HT1.out Tryz.underlying71 rfl (by rw [size_tab];exact info64) ?_)
     | (go_at_call 122;(refine (get_told256 A1 c1 xs w1 HX1.out HXL.out hc1).mono ?_);rintro e w2 ⟨A2,c2,rfl,hx2,hlc2,hmc2,hnw2,hb3⟩;rw [HPE.out,HME.out];rw [HPE.out] at hx2;have HX2:=Lib.hid hx2;have hr2:=(hb3.block (w.heap.size+1) (by omega)).trans HR1.out;have HR2:=Lib.hid ((Below.heap_alloc w2 (.cells #[.int .u8 (P.kind.toNat:Int),.int .i64 P.addr,.int .u64 (P.gen:Int),.slice A2 P.body.length c2] 156) (w.heap.size+1) (Array.getElem?_eq_some_iff.1 hr2).1).trans hr2);clear hx2 hr2)
     | (refine wpList_store_row rfl 156 (.tmp 12) (.tmp 27) rfl w2.heap.size #[.int .u8 (P.kind.toNat:Int),.int .i64 P.addr,.int .u64 (P.gen:Int),.slice A2 P.body.length c2] rfl rfl 156 Tryz.zeroCells156 (heap_alloc_new _ _) (by kernel_rfl) (by kernel_rfl) (by kernel_rfl) ?_;rw [World.setRow_alloc_new])
     | (refine wpList_load_row rfl 156 (.tmp 12) rfl w2.heap.size rfl 156 _ (0,0) _ (heap_alloc_new _ _) Tryz.underlying156 rfl (by kernel_rfl) ?_)
     | (refine wpList_store_row rfl 156 (.tmp 8) (.tmp 44) rfl (w.heap.size+1) #[.int .u8 (P.kind.toNat:Int),.int .i64 P.addr,.int .u64 (P.gen:Int),.slice A2 P.body.length c2] rfl rfl 156 _ HR2.out (by kernel_rfl) (by kernel_rfl) (by kernel_rfl) ?_))
    have hm:=HM.out
    have ha:=HA.out
    have hk:=HKK.out
    have hlc2':P.body.length≤c2:=by rw [HPE.out] at hlc2;exact hlc2
    refine bodyPost_ret (v:=.tuple #[.agg #[.int .u8 (P.kind.toNat:Int),.int .i64 P.addr,.int .u64 (P.gen:Int),.slice A2 P.body.length c2],.int .i64 0]) (results_cell_tmp (p:=8) (u:=9) (ty:=156) rfl _ _ (w.heap.size+1) 156 #[.int .u8 (P.kind.toNat:Int),.int .i64 P.addr,.int .u64 (P.gen:Int),.slice A2 P.body.length c2] (0,0) _ rfl (setRow_heap _ _ _ _ _ _ HR2.out) Tryz.underlying156 rfl size_page) rfl ⟨.inl ⟨⟨hm,ha,hk⟩,A2,c2,rfl,bytes_setRow (HX2.out.below ((Below.refl _ _).alloc (Nat.le_refl _) _)) (fun a ha=>by have:=hnw2 a ha;omega) _,hlc2',hmc2,fun a ha=>by have:=hnw2 a ha;omega⟩,?_⟩
    exact ((hbw1.trans (hb3.mono hbw1.size)).alloc (by have:=hbw1.size;have:=hb3.size;omega) _).trans ⟨rfl,rfl,rfl,by simp,fun k hk=>setRow_other _ _ _ _ (by omega)⟩
   ·have d3:(((P.kind.toNat:Nat):Int) != ((k.toNat:Nat):Int))=true:=by rw [bne_iff_ne];intro e;exact hk (UInt8.toNat_inj.1 (by omega))
    have HKK:=Lib.hid hk
    clear hm ha hk
    go_wp2_with (first
     | (refine wpList_load_row rfl 71 (.tmp 4) rfl w.heap.size rfl 71 tab (0,0) _ HT1.out Tryz.underlying71 rfl (by rw [size_tab];exact info64) ?_)
     | (go_at_call 122;(refine (get_told256 A1 c1 xs w1 HX1.out HXL.out hc1).mono ?_);rintro e w2 ⟨A2,c2,rfl,hx2,hlc2,hmc2,hnw2,hb3⟩;rw [HPE.out,HME.out];rw [HPE.out] at hx2;have HX2:=Lib.hid hx2;have hr2:=(hb3.block (w.heap.size+1) (by omega)).trans HR1.out;have HR2:=Lib.hid ((Below.heap_alloc w2 (.cells #[.int .u8 (P.kind.toNat:Int),.int .i64 P.addr,.int .u64 (P.gen:Int),.slice A2 P.body.length c2] 156) (w.heap.size+1) (Array.getElem?_eq_some_iff.1 hr2).1).trans hr2);clear hx2 hr2)
     | (refine wpList_store_row rfl 156 (.tmp 12) (.tmp 27) rfl w2.heap.size #[.int .u8 (P.kind.toNat:Int),.int .i64 P.addr,.int .u64 (P.gen:Int),.slice A2 P.body.length c2] rfl rfl 156 Tryz.zeroCells156 (heap_alloc_new _ _) (by kernel_rfl) (by kernel_rfl) (by kernel_rfl) ?_;rw [World.setRow_alloc_new])
     | (refine wpList_store_row rfl 156 (.tmp 8) (.tmp 43) rfl (w.heap.size+1) #[.int .u8 0,.int .i64 0,.int .u64 0,.slice none 0 0] rfl rfl 156 _ HR2.out (by kernel_rfl) (by kernel_rfl) (by kernel_rfl) ?_))
    refine bodyPost_ret (v:=.tuple #[.agg #[.int .u8 0,.int .i64 0,.int .u64 0,.slice none 0 0],.int .i64 3]) (results_cell_tmp (p:=8) (u:=9) (ty:=156) rfl _ _ (w.heap.size+1) 156 #[.int .u8 0,.int .i64 0,.int .u64 0,.slice none 0 0] (0,0) _ rfl (setRow_heap _ _ _ _ _ _ HR2.out) Tryz.underlying156 rfl size_page) rfl ⟨.inr ⟨fun h=>HKK.out h.2.2,rfl⟩,?_⟩
    exact ((hbw1.trans (hb3.mono hbw1.size)).alloc (by have:=hbw1.size;have:=hb3.size;omega) _).trans ⟨rfl,rfl,rfl,by simp,fun k hk=>setRow_other _ _ _ _ (by omega)⟩
  ·have d2:(P.addr != (a:Int))=true:=by rw [bne_iff_ne];exact ha
   have HA:=Lib.hid ha
   clear hm ha
   go_wp2_with (first
    | (refine wpList_load_row rfl 71 (.tmp 4) rfl w.heap.size rfl 71 tab (0,0) _ HT1.out Tryz.underlying71 rfl (by rw [size_tab];exact info64) ?_)
    | (go_at_call 122;(refine (get_told256 A1 c1 xs w1 HX1.out HXL.out hc1).mono ?_);rintro e w2 ⟨A2,c2,rfl,hx2,hlc2,hmc2,hnw2,hb3⟩;rw [HPE.out,HME.out];rw [HPE.out] at hx2;have HX2:=Lib.hid hx2;have hr2:=(hb3.block (w.heap.size+1) (by omega)).trans HR1.out;have HR2:=Lib.hid ((Below.heap_alloc w2 (.cells #[.int .u8 (P.kind.toNat:Int),.int .i64 P.addr,.int .u64 (P.gen:Int),.slice A2 P.body.length c2] 156) (w.heap.size+1) (Array.getElem?_eq_some_iff.1 hr2).1).trans hr2);clear hx2 hr2)
    | (refine wpList_store_row rfl 156 (.tmp 12) (.tmp 27) rfl w2.heap.size #[.int .u8 (P.kind.toNat:Int),.int .i64 P.addr,.int .u64 (P.gen:Int),.slice A2 P.body.length c2] rfl rfl 156 Tryz.zeroCells156 (heap_alloc_new _ _) (by kernel_rfl) (by kernel_rfl) (by kernel_rfl) ?_;rw [World.setRow_alloc_new])
    | (refine wpList_store_row rfl 156 (.tmp 8) (.tmp 43) rfl (w.heap.size+1) #[.int .u8 0,.int .i64 0,.int .u64 0,.slice none 0 0] rfl rfl 156 _ HR2.out (by kernel_rfl) (by kernel_rfl) (by kernel_rfl) ?_))
   refine bodyPost_ret (v:=.tuple #[.agg #[.int .u8 0,.int .i64 0,.int .u64 0,.slice none 0 0],.int .i64 3]) (results_cell_tmp (p:=8) (u:=9) (ty:=156) rfl _ _ (w.heap.size+1) 156 #[.int .u8 0,.int .i64 0,.int .u64 0,.slice none 0 0] (0,0) _ rfl (setRow_heap _ _ _ _ _ _ HR2.out) Tryz.underlying156 rfl size_page) rfl ⟨.inr ⟨fun h=>HA.out h.2.1,rfl⟩,?_⟩
   exact ((hbw1.trans (hb3.mono hbw1.size)).alloc (by have:=hbw1.size;have:=hb3.size;omega) _).trans ⟨rfl,rfl,rfl,by simp,fun k hk=>setRow_other _ _ _ _ (by omega)⟩
 ·have d1:((m:Int) != 0)=true:=by rw [bne_iff_ne];omega
  have HM:=Lib.hid hm
  clear hm
  go_wp2_with (first
   | (refine wpList_load_row rfl 71 (.tmp 4) rfl w.heap.size rfl 71 tab (0,0) _ HT1.out Tryz.underlying71 rfl (by rw [size_tab];exact info64) ?_)
   | (go_at_call 122;(refine (get_told256 A1 c1 xs w1 HX1.out HXL.out hc1).mono ?_);rintro e w2 ⟨A2,c2,rfl,hx2,hlc2,hmc2,hnw2,hb3⟩;rw [HPE.out,HME.out];rw [HPE.out] at hx2;have HX2:=Lib.hid hx2;have hr2:=(hb3.block (w.heap.size+1) (by omega)).trans HR1.out;have HR2:=Lib.hid ((Below.heap_alloc w2 (.cells #[.int .u8 (P.kind.toNat:Int),.int .i64 P.addr,.int .u64 (P.gen:Int),.slice A2 P.body.length c2] 156) (w.heap.size+1) (Array.getElem?_eq_some_iff.1 hr2).1).trans hr2);clear hx2 hr2)
   | (refine wpList_store_row rfl 156 (.tmp 12) (.tmp 27) rfl w2.heap.size #[.int .u8 (P.kind.toNat:Int),.int .i64 P.addr,.int .u64 (P.gen:Int),.slice A2 P.body.length c2] rfl rfl 156 Tryz.zeroCells156 (heap_alloc_new _ _) (by kernel_rfl) (by kernel_rfl) (by kernel_rfl) ?_;rw [World.setRow_alloc_new])
   | (refine wpList_store_row rfl 156 (.tmp 8) (.tmp 43) rfl (w.heap.size+1) #[.int .u8 0,.int .i64 0,.int .u64 0,.slice none 0 0] rfl rfl 156 _ HR2.out (by kernel_rfl) (by kernel_rfl) (by kernel_rfl) ?_))
  refine bodyPost_ret (v:=.tuple #[.agg #[.int .u8 0,.int .i64 0,.int .u64 0,.slice none 0 0],.int .i64 3]) (results_cell_tmp (p:=8) (u:=9) (ty:=156) rfl _ _ (w.heap.size+1) 156 #[.int .u8 0,.int .i64 0,.int .u64 0,.slice none 0 0] (0,0) _ rfl (setRow_heap _ _ _ _ _ _ HR2.out) Tryz.underlying156 rfl size_page) rfl ⟨.inr ⟨fun h=>HM.out h.1,rfl⟩,?_⟩
  exact ((hbw1.trans (hb3.mono hbw1.size)).alloc (by have:=hbw1.size;have:=hb3.size;omega) _).trans ⟨rfl,rfl,rfl,by simp,fun k hk=>setRow_other _ _ _ _ (by omega)⟩
end
end Go.Proofs.YtgkddhncfaeidaaGreat
