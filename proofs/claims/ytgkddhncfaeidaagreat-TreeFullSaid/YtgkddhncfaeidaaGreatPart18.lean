/- Squeezed: the texts as they are written lie in wip/tpl. -/
import Derived.Test.YtgkddhncfaeidaaGreatPart17
import Derived.Test.YtgkddhncfaeidaaGreatPart00
import Derived.Test.YtgkddhncfaeidaaGreatPart16
import Derived.Lib.SlBytesConst
import Derived.Lib.MinMax
import Derived.Test.YtgkddhncfaeidaaGreatPart03
set_option maxRecDepth 100000
set_option maxHeartbeats 1000000
set_option linter.unusedSimpArgs false
set_option linter.unusedVariables false
namespace Go.Proofs.YtgkddhncfaeidaaGreat
open Go.RowKit
section
variable {w w':World} {B N g gs gn L cs cn:Nat} {rw:Value} {st nw:List UInt8} {ws:List (Nat × List UInt8)} {on:Bool} {left:Int}
theorem ready_on (h:Dk w B N g gs gn rw L cs cn st nw ws true left) :
 Calls Tryz.prog 117 #[.pointer (some ⟨g,0,none⟩)] w fun e w'=>e=.returned (.int .i64 0)∧w=w':=by
 have H:=Lib.hid h
 clear h
 go_enter Tryz.func117,Tryz.ntmps117
 go_wp2_with (go_at_call 148;refine (on_any H.out).mono ?_;rintro e w1 ⟨rfl,rfl⟩)
 go_ret
 exact ⟨rfl,rfl⟩
theorem within_yes (h:Dk w B N g gs gn rw L cs cn st nw ws on left) (za zn:Int) (a n:Nat) (hza:za=(a:Int)) (hzn:zn=(n:Int)) (hin:n=0∨256*a+n≤L∧256*a<L) :
 Calls Tryz.prog 153 #[.pointer (some ⟨g,0,none⟩),.int .i64 za,.int .i64 zn] w fun e w'=>e=.returned (.bool true)∧w=w':=by
 subst hza hzn
 have hlo:=h.lo
 have hhi:=h.hi
 have hpg:=h.pg
 have H:=Lib.hid h
 clear h
 obtain ⟨p,hp⟩:∃ p,p=L / 256:=⟨_,rfl⟩
 have hLp:L=256*p:=by omega
 have HP:=Lib.hid hp
 by_cases hn:n=0
 ·subst hn
  go_enter Tryz.func153,Tryz.ntmps153
  go_wp2_with fail
  go_ret
  exact ⟨rfl,rfl⟩
 ·have hn0:((n:Int) == 0)=false:=by simp;omega
  have ha:a<p:=by omega
  have hap:n≤(p - a)*256:=by omega
  have hd1:decide ((a:Int)<(p:Int))=true:=by simp;omega
  have hd2:decide ((n:Int)≤((p:Int) - (a:Int))*256)=true:=by simp;omega
  have hp5:p≤512:=by omega
  clear hin hp hLp
  go_enter Tryz.func153,Tryz.ntmps153
  go_wp2_with (go_at_call 67;refine (pages_any H.out).mono ?_;rintro e w1 ⟨rfl,rfl⟩;rw [← HP.out])
  all_goals go_ret
  all_goals exact ⟨rfl,rfl⟩
theorem readRaw_ok (h:Dk w B N g gs gn rw L cs cn st nw ws true left) (za zn:Int) (a n:Nat) (hza:za=(a:Int)) (hzn:zn=(n:Int)) (hin:n=0∨256*a+n≤L∧256*a<L) (han:a≤1000) (hnn:n≤131072) :
 Calls Tryz.prog 121 #[.pointer (some ⟨g,0,none⟩),.int .i64 za,.int .i64 zn] w fun e w'=>∃ A c,e=.returned (.tuple #[.slice A n c,.int .i64 0])∧BytesAt w' A ((nw.drop (256*a)).take n)∧n≤c∧c≤maxLen∧Below w.heap.size w w':=by
 subst hza hzn
 have hpg:=h.pg
 have H:=Lib.hid h
 have HIN:=Lib.hid hin
 clear h hin
 go_enter Tryz.func121,Tryz.ntmps121
 go_wp2_with (first
  | (go_at_call 117;refine (ready_on H.out).mono ?_;rintro e w1 ⟨rfl,rfl⟩)
  | (go_at_call 153;refine (within_yes H.out _ _ a n rfl rfl HIN.out).mono ?_;rintro e w1 ⟨rfl,rfl⟩))
 go_loopw [9,10] (fun v i wr=>∃ (k len:Nat) (A1:Option Addr) (c1:Nat),Hid (len=64*k)∧k≤2048∧len<n+64∧i=.int .i64 k∧v=.slice A1 len c1∧Hid (OwnS wr w.heap.size (.slice A1 len c1) 5 ((nw.drop (256*a)).take len))∧Hid (Below w.heap.size w wr)) (fun v i _=>n+2048 - (intOf i).toNat)
 case atStart=>exact ⟨0,0,none,0,Lib.hid rfl,by omega,by omega,rfl,rfl,Lib.hid (by rw [List.take_zero];exact OwnS.nil _ _ _),Lib.hid (Below.refl _ _)⟩
 case round =>
  obtain ⟨k,len,A1,c1,hlen,hk,hln,rfl,rfl,ho,hB⟩:=hrel
  have D1:=Lib.hid (H.out.below hB.out)
  by_cases hlt:len<n
  ·have hfi:64*(4*a+k)+64≤L:=by have:=hlen.out;have:=HIN.out;omega
   have hk2:k<2048:=by have:=hlen.out;omega
   obtain ⟨j,hj⟩:∃ j,j=4*a+k:=⟨_,rfl⟩
   have hji:((a:Int)*4+(k:Int))=(j:Int):=by omega
   have HJ:=Lib.hid hj
   have HJI:=Lib.hid hji
   have HFI:=Lib.hid hfi
   clear hj hji hfi
   have hm:((nw.drop (64*j)).take 64).length=64:=by rw [List.length_take,List.length_drop,H.out.lnw];have:=HJ.out;have:=HFI.out;omega
   have HM:=Lib.hid hm
   have hlx:Hid (((nw.drop (256*a)).take len).length=len):=Lib.hid ho.out.caps.1
   have hcat:(nw.drop (256*a)).take len ++ (nw.drop (64*j)).take 64=(nw.drop (256*a)).take (len+64):=by
    have e1:=HJ.out
    have e2:=hlen.out
    rw [show 64*j=256*a+len by omega,← List.drop_drop,← List.take_add]
   have HCAT:=Lib.hid hcat
   have hdl:Hid (((nw.drop (256*a)).take len).length+64≤140737488355328):=Lib.hid (by rw [hlx.out];omega)
   clear hm hcat
   go_wp2_with (first
    | (go_at_call 156;rw [HJI.out];(refine (read_ok D1.out _ j rfl (by rw [HJ.out];exact HFI.out)).mono ?_);rintro e w2 ⟨A2,c2,rfl,ho2,hb2⟩;have ho3:=ho.out.below hb2)
    | (at_builtin;refine wpList_append_s rfl (.tmp 45) (.tmp 46) 110 rfl Tryz.underlying110 infoU8 rfl ho3 A2 c2 64 _ rfl HM.out ho2.bytes hdl.out (by have:=hB.out.size;have:=hb2.size;omega) ?_;rw [HCAT.out];intro A4 c4 w4 ho4 hg4))
   go_roundw
   case rel =>
    have hl4:((nw.drop (256*a)).take (len+64)).length=len+64:=by rw [← HCAT.out,List.length_append,hlx.out,HM.out]
    have hl5:min (len+64) (nw.length - 256*a)=len+64:=by simpa using hl4
    rw [hl4] at ho4
    refine ⟨k+1,len+64,A4,c4,Lib.hid (by have:=hlen.out;omega),by omega,by omega,by go_num,by rw [hl5],Lib.hid ho4,Lib.hid ?_⟩
    exact ho3.belowGrown (Nat.le_refl _) (by have:=hB.out.size;have:=hb2.size;omega) (hB.out.trans (hb2.mono hB.out.size)) hg4
   case measure=>simp [intOf];omega
  ·obtain ⟨hc1,hc2,hc3,hc4⟩:=ho.out.caps
   unfold maxLen at hc3
   go_wp2_with fail
   go_ret2
   refine ⟨A1,c1,rfl,?_,by omega,by unfold maxLen;omega,hB.out⟩
   have hb:=ho.out.bytes.take n
   rw [List.take_take,Nat.min_eq_left (by omega)] at hb
   exact hb
end
def rawN (nw:List UInt8) (o:Nat) (W:List UInt8) (k:Nat):List UInt8:=nw.take o ++ W.take (64*k) ++ nw.drop (o+64*k)
theorem rawN_zero (nw:List UInt8) (o:Nat) (W:List UInt8):rawN nw o W 0=nw:=by simp [rawN]
theorem rawN_step {nw W:List UInt8} {a k:Nat} (h1:256*a+64*k+64≤nw.length) (h2:64*k+64≤W.length):putAt (rawN nw (256*a) W k) (4*a+k) ((W.drop (64*k)).take 64)=rawN nw (256*a) W (k+1):=by
 unfold putAt rawN
 have hl:(nw.take (256*a) ++ W.take (64*k)).length=64*(4*a+k):=by simp only [List.length_append,List.length_take];omega
 rw [List.take_left' hl,List.drop_left' hl,List.drop_drop]
 rw [show 64*(k+1)=64*k+64 by omega,List.take_add,show 256*a+64*k+64=256*a+(64*k+64) by omega]
 simp only [List.append_assoc]
section
variable {w w':World} {B N g gs gn L cs cn:Nat} {rw:Value} {st nw:List UInt8} {ws:List (Nat × List UInt8)} {on:Bool} {left:Int}
theorem OuterX.chain {w w1 w2:World} {rw rw1:Value} (h:OuterX (DkX g gn rw) w w1) (hm:Moved w rw.ownBlock rw1.ownBlock) (h2:OuterX (DkX g gn rw1) w1 w2):OuterX (DkX g gn rw) w w2:=by
 refine ⟨h2.os.trans h.os,h2.tape.trans h.tape,h2.output.trans h.output,Nat.le_trans h.size h2.size,fun k hk hx=>?_⟩
 refine (h2.block k (Nat.lt_of_lt_of_le hk h.size) ?_).trans (h.block k hk hx)
 rintro (e | e | e)
 ·exact hx (.inl e)
 ·exact hx (.inr (.inl e))
 ·rcases hm with e2 | ⟨q,e2,hq⟩
  ·exact hx (.inr (.inr (by rw [← e2];exact e)))
  ·rw [e2] at e
   injection e with e
   omega
theorem OwnS.ownB2 {w:World} {base n c:Nat} {a:Addr} {E:TypeId} {xs:List UInt8} (h:OwnS w base (.slice (some a) n c) E xs):∃ g,some a=some ⟨g,0,none⟩∧OwnB w base g c E xs∧xs.length=n:=by
 rcases h.cases with ⟨h1,_⟩ | ⟨g,cap,hv,hob⟩
 ·cases h1
 ·injection hv with hv1 hv2 hv3
  subst hv3
  exact ⟨g,hv1,hob,hv2.symm⟩
theorem writeRaw_okX (h:Dk w B N g gs gn rw L cs cn st nw ws true (-1)) (za:Int) (a n:Nat) (hza:za=(a:Int)) (hin:n=0∨256*a+n≤L∧256*a<L) (han:a≤1000) (hnn:n≤100000) (hn0:0≤n) (A:Option Addr) (c:Nat) (bs:List UInt8) (hx:BytesAt w A bs) (hbl:bs.length=n) (p:Nat) (hp:p=(n+255) / 256) (hpl:p≤100) (hws:ws.length+4*p≤1000) :
 Calls Tryz.prog 119 #[.pointer (some ⟨g,0,none⟩),.int .i64 za,.slice A n c] w fun e w'=>e=.returned (.int .i64 0) ∧
  (∃ rw' ws',Dk w' B w'.heap.size g gs gn rw' L cs cn st (rawN nw (256*a) (bs ++ List.replicate (256*p - n) 0) (4*p)) ws' true (-1)∧ws'.length=ws.length+4*p∧Moved w rw.ownBlock rw'.ownBlock)∧OuterX (DkX g gn rw) w w':=by
 subst hza
 have hpg:=h.pg
 obtain ⟨iu,hiu,hz0,hz1,hz2⟩:=info_parts infoU8
 obtain ⟨M,hM⟩:∃ M,M=p*256:=⟨_,rfl⟩
 have hz3:iu.bytes*M≤281474976710656:=by rw [hz2];omega
 have hpi:((n:Int)+256 - 1) / 256=(p:Int):=by omega
 have hMi:(p:Int)*256=(M:Int):=by omega
 have hnM:n≤M:=by omega
 have HPI:=Lib.hid hpi
 have HMI:=Lib.hid hMi
 have HM:=Lib.hid hM
 have HP:=Lib.hid hp
 have H:=Lib.hid h
 have HIN:=Lib.hid hin
 have HX:=Lib.hid hx
 have HBL:=Lib.hid hbl
 clear hpi hMi hM hp h hin hx hbl
 go_enter Tryz.func119,Tryz.ntmps119
 go_upto_region 7 with (first
  | (go_at_call 117;refine (ready_on H.out).mono ?_;rintro e w1 ⟨rfl,rfl⟩)
  | (go_at_call 153;refine (within_yes H.out _ _ a n rfl rfl HIN.out).mono ?_;rintro e w1 ⟨rfl,rfl⟩))
 rw [HPI.out]
 have m3:(Tryz.prog.info? 5).map (·.size)=some 1:=by kernel_rfl
 have hfit:n≤(List.replicate M (0:UInt8)).length:=by simp;omega
 have M3:=Lib.hid m3
 have HFIT:=Lib.hid hfit
 have H0:Hid (0=([]:List UInt8).length):=Lib.hid rfl
 clear m3 hfit
 go_upto_region 9 with (first
  | (at_make;refine wpList_make_full _ rfl (.tmp 30) (.tmp 30) 110 rfl w.heap.size 5 iu (.int .u8 0) 1 Tryz.underlying110 hiu hz0 hz1 .i64 .i64 ((p:Int)*256) ((p:Int)*256) M rfl rfl HMI.out HMI.out hz3 (by unfold maxLen;have:=HM.out;omega) (Nat.le_refl _) ?_;intro w1 ho1 hg1;have ho2:=made8 ho1;obtain ⟨q,hq,hob,_⟩:=ho2.ownB2;injection hq with hq;injection hq with hq;have HQE:=Lib.hid hq;have HOB:Hid (OwnB w1 w.heap.size w.heap.size M 5 ([] ++ List.replicate M 0)):=Lib.hid (by rw [hq,List.nil_append];rw [hq] at hob;exact hob);have hb1:Below w.heap.size w w1:=(Below.refl _ _).grown hg1 (Nat.le_refl _) (fun k hk=>by cases hk);have HX1:=Lib.hid (HX.out.below hb1);clear ho1 ho2 hob hq)
  | ((with_reducible refine wpList_copy_bytes rfl (.tmp 32) (.tmp 33) 110 110 rfl 5 Tryz.underlying110 M3.out w.heap.size w.heap.size M 0 M M A n c [] (List.replicate M 0) bs rfl rfl H0.out HOB.out HX1.out HBL.out hnM HFIT.out ?_);intro w2 ho3 hg3))
 have hW:(bs ++ (List.replicate M (0:UInt8)).drop n).length=M:=by simp only [List.length_append,List.length_drop,List.length_replicate,HBL.out];omega
 have hWe:bs ++ (List.replicate M (0:UInt8)).drop n=bs ++ List.replicate (256*p - n) 0:=by rw [List.drop_replicate,show M - n=256*p - n by have:=HM.out;omega]
 rw [List.nil_append] at ho3
 have HWE:=Lib.hid hWe
 clear hWe
 generalize bs ++ (List.replicate M (0:UInt8)).drop n=W at *
 have HWL:=Lib.hid hW
 have hb2:Below w.heap.size w w2:=hb1.trans ⟨hg3.os,hg3.tape,hg3.output,hg3.size,fun k hk=>hg3.block k (by have:=hb1.size;omega) (fun e=>by injection e with e;omega)⟩
 have D2:=Lib.hid (H.out.below hb2)
 have hql:=ho3.lt
 have HO3:=Lib.hid ho3
 have hNw:=H.out.NN
 have hgN:=H.out.gN
 have hnN:=H.out.nN
 have hXq:∀ rwk:Value,Moved w2 rw.ownBlock rwk.ownBlock→¬ DkX g gn rwk w.heap.size:=by
  rintro rwk hm (e | e | e)
  ·omega
  ·omega
  ·rcases hm with e2 | ⟨q',e2,hq'⟩
   ·rw [e2] at e
    have:=H.out.wN _ e
    omega
   ·rw [e2] at e
    injection e with e
    omega
 have HXQ:=Lib.hid hXq
 clear hW ho3 hg3 hb1 HX1 HOB HQE hg1 hXq
 go_wp2_with fail
 go_loopw [37] (fun i wr=>∃ k:Nat,k≤4*p∧i=.int .i64 k∧Hid (∃ N' rwk wsk,Dk wr B N' g gs gn rwk L cs cn st (rawN nw (256*a) W k) wsk true (-1)∧wsk.length=ws.length+k∧Moved w2 rw.ownBlock rwk.ownBlock)∧Hid (OuterX (DkX g gn rw) w2 wr)) (fun i _=>4*p - (intOf i).toNat)
 case atStart=>exact ⟨0,by omega,rfl,Lib.hid ⟨_,rw,ws,by rw [rawN_zero];exact D2.out,rfl,.inl rfl⟩,Lib.hid (OuterX.refl _ _)⟩
 case round =>
  obtain ⟨k,hk,rfl,hd,hO⟩:=hrel
  obtain ⟨N',rwk,wsk,hdk,hwl,hmv⟩:=hd.out
  have D3:=Lib.hid hdk
  have HWS:=Lib.hid hwl
  have HMV:=Lib.hid hmv
  have hwk:wsk.length≤1000:=by omega
  clear hdk hwl hmv hd
  by_cases hlt:k<4*p
  ·obtain ⟨j,hj⟩:∃ j,j=4*a+k:=⟨_,rfl⟩
   have hji:((a:Int)*4+(k:Int))=(j:Int):=by omega
   have hpM:M=256*p:=by have:=HM.out;omega
   have hfi:64*j+64≤L:=by have:=HIN.out;have:=HP.out;omega
   have HJ:=Lib.hid hj
   have HJI:=Lib.hid hji
   have HFI:=Lib.hid hfi
   have HPM:=Lib.hid hpM
   have hne:¬ M=k*64:=by omega
   have hch:((W.drop (64*k)).take 64).length=64:=by rw [List.length_take,List.length_drop,HWL.out];omega
   have HCH:=Lib.hid hch
   have hxk:BytesAt wr (some ⟨w.heap.size,64*k,none⟩) ((W.drop (64*k)).take 64):=bytes_outerX (BytesAt.mid HO3.out.bytes (64*k) 64) hO.out (fun a ha=>by injection ha with ha;subst ha;exact HXQ.out rw (.inl rfl))
   have hxk2:BytesAt wr (some ⟨w.heap.size,k*64,none⟩) ((W.drop (64*k)).take 64):=by rw [Nat.mul_comm k 64];exact hxk
   have HXK:=Lib.hid hxk2
   have hkM:(k+1)*64≤M:=by omega
   have h64:(k+1)*64 - k*64=64:=by omega
   have H64:=Lib.hid h64
   have hAq:∀ a',some (⟨w.heap.size,k*64,none⟩:Addr)=some a'→¬ DkX g gn rwk a'.block:=fun a' ha=>by injection ha with ha;subst ha;exact HXQ.out rwk HMV.out
   have HAQ:=Lib.hid hAq
   have hst:=rawN_step (nw:=nw) (W:=W) (a:=a) (k:=k) (by rw [H.out.lnw];omega) (by rw [HWL.out];omega)
   rw [← hj] at hst
   have HST:=Lib.hid hst
   clear hj hji hfi hpM hch hxk hxk2 h64 hAq hst
   go_wp2_with (go_at_call 154;rw [HJI.out,H64.out];(refine (write_any D3.out (by decide) (by decide) (by decide) j HFI.out (some ⟨w.heap.size,k*64,none⟩) (M - k*64) _ HXK.out HCH.out HAQ.out (-1) (by decide) hwk).mono ?_);rintro e w4 ⟨rfl,⟨rw4,d4,mv4⟩,o4⟩;rw [HST.out] at d4;have D4:=Lib.hid d4;clear d4)
   go_roundw
   case rel=>exact ⟨k+1,by omega,by go_num,Lib.hid ⟨_,rw4,_,D4.out,by have:=HWS.out;simp;omega,HMV.out.trans hO.out.size mv4⟩,Lib.hid (hO.out.chain HMV.out o4)⟩
   case measure=>simp [intOf];omega
  ·obtain rfl:k=4*p:=by omega
   go_wp2_with fail
   go_ret
   refine ⟨rfl,⟨rwk,wsk,?_,HWS.out,?_⟩,((OuterX.refl (DkX g gn rw) w).then hb2 (Nat.le_refl _)).chain (.inl rfl) hO.out⟩
   ·rw [← HWE.out]
    exact D3.out.wider D3.out.NN (Nat.le_refl _)
   ·rcases HMV.out with e | ⟨q',e,hq'⟩
    ·exact .inl e
    ·exact .inr ⟨q',e,by have:=hb2.size;omega⟩
end
variable {P:Program} {w w':World} {E:TypeId}
theorem run_append_nilM (t ty:TypeId) (ht:P.underlying t=some (.slice E)) (hi:(P.info? E).map (fun i=>(i.zero,i.size,i.bytes))=some (some (.int .u8 0),1,1))
 (A:Option Addr) (c n:Nat) (ys:List UInt8) (hn:ys.length=n) (hA:BytesAt w A ys) (hl:n≤140737488355328) :
 ∃ A' c' w',(Builtin.append_ #[t,t] ty #[.slice none 0 0,.slice A n c]).run P w=.ok (.slice A' n c') w'∧BytesAt w' A' ys∧n≤c'∧w.grownBy w' none∧(∀ a,A'=some a→w.heap.size≤a.block)∧c'≤maxLen:=by
 obtain ⟨i,hi0,hz,hs,hb⟩:=info_parts hi
 subst hn
 by_cases hy:ys=[]
 ·subst hy
  refine ⟨none,0,w,?_,fun h=>absurd rfl h,Nat.le_refl _,World.grownBy.refl w _,(fun a h=>by cases h),Nat.zero_le _⟩
  cases A <;> simp [Builtin.append_,run_underlying ht,sizeOf,typeInfo,hi0,Builtin.lenOf,Builtin.firstCells,loadCells,loadCellsFrom]
 ·obtain ⟨ad,rfl,hc⟩:=byteV_cells hA hy
  obtain ⟨v',w',hr,h2,h3,h4,h5⟩:=run_append_own_at (P:=P) w w.heap.size t ty E i _ 1 1 ht hi0 hz hs hb rfl (by omega) (.slice none 0 0) 0 [] (World.ownsRow_nil w _ E 1)
   ad ys.length c (ys.map bv) (by simp) hc (bv_one ys) (by unfold maxLen;omega) (by omega) (Nat.le_refl _)
  have hpos:0<ys.length:=List.length_pos_iff.2 hy
  rw [Nat.zero_add,List.nil_append] at h2
  rcases h2.2 with ⟨_,h0⟩ | ⟨g',cap',cur,hv,hb',hh,hnc,hm,hsz,ht'⟩
  ·omega
  ·subst hv
   have hown:OwnB w' w.heap.size g' cap' E ys:=by unfold OwnB;exact h2
   exact ⟨_,cap',w',hr,hown.bytes,hnc,h3,(fun a h=>by cases h;exact hb'),hm⟩
theorem step_append_nilM {ops:Array Oper} {o:Oper} {a:Act} {K:Act→World→Prop} {Q:Exit→Act→World→Prop} {F:Prop} (hgd:o.guard=none) (s x:Operand) (t:TypeId)
 (ho:o.op=.call { callee:=.builtin .append,args:=#[s,x],argTypes:=#[t,t] })
 (ht:P.underlying t=some (.slice E)) (hi:(P.info? E).map (fun i=>(i.zero,i.size,i.bytes))=some (some (.int .u8 0),1,1))
 (hs:a.eval s=.slice none 0 0) (A:Option Addr) (c n:Nat) (ys:List UInt8) (hx:a.eval x=.slice A n c) (hn:ys.length=n) (hA:BytesAt w A ys) (hl:n≤140737488355328)
 (h:∀ A' c' w',BytesAt w' A' ys→n≤c'→w.grownBy w' none→(∀ a,A'=some a→w.heap.size≤a.block)→c'≤maxLen→K (a.put o.dst (.slice A' n c')) w') :
 if Region.wanted o (yielded ops a.tmps)=true then Oper.wp P o a w K Q else F:=by
 have hw:Region.wanted o (yielded ops a.tmps)=true:=by simp [Region.wanted,hgd]
 rw [if_pos hw]
 obtain ⟨A',c',w',hr,h2,h3,h4,h5,h6⟩:=run_append_nilM (P:=P) (w:=w) t o.type ht hi A c n ys hn hA hl
 unfold Oper.wp execOp
 simp only [ho,resolve,invoke,builtin,Sem.run_bind,Sem.run_pure,Result.andThen_ok,List.map_toArray,List.map_cons,List.map_nil,hs,hx,hr]
 exact h A' c' w' h2 h3 h4 h5 h6
end Go.Proofs.YtgkddhncfaeidaaGreat
namespace Go.Proofs.YtgkddhncfaeidaaGreat
open Go.RowKit CrcM
theorem info5:(Tryz.prog.info? 5).map (fun i=>(i.zero,i.size,i.bytes))=some (some (.int .u8 0),1,1):=by kernel_rfl
end Go.Proofs.YtgkddhncfaeidaaGreat
namespace Go.Proofs.YtgkddhncfaeidaaGreat
open Go.RowKit CrcM PageM
theorem set_mid (pre mid post:List UInt8) (s:Nat) (hs:s<mid.length) (tl:List UInt8) (c:UInt8):(pre ++ mid.take (s+1) ++ tl ++ post).set (pre.length+s) c=pre ++ mid.take s ++ (c :: tl) ++ post:=by
 have h1:(mid.take (s+1))=mid.take s ++ [mid[s]]:=by rw [List.take_succ_eq_append_getElem hs]
 rw [h1]
 have h2:pre ++ (mid.take s ++ [mid[s]]) ++ tl ++ post=(pre ++ mid.take s) ++ ([mid[s]] ++ tl ++ post):=by simp only [List.append_assoc]
 rw [h2,List.set_append_right _ _ (by simp;omega)]
 have h3:pre.length+s - (pre ++ mid.take s).length=0:=by simp;omega
 rw [h3]
 simp
theorem _root_.Go.World.grownBy.setCell_row {w w':World} {g:Nat} (h:w.grownBy w' (some g)) (i:Nat) (v:Value):w.grownBy (w'.setCell ⟨g,i,none⟩ v) (some g) :=
 ⟨h.os,h.tape,h.output,by simpa using h.size,fun k hk hne=>(Below.heap_setCell w' ⟨g,i,none⟩ v k (fun e=>hne (by rw [e]))).trans (h.block k hk hne)⟩
theorem putHigh_any (g o base cap:Nat) (pre mid post:List UInt8) (c n:Nat) (hn:n<18446744073709551616) (w:World) (ho:o=pre.length) (hown:OwnB w base g cap 5 (pre ++ mid ++ post)) (hl:mid.length≤8) (hp:pre.length≤100000) :
 Calls Tryz.prog 150 #[.slice (some ⟨g,o,none⟩) mid.length c,.int .u64 n] w fun e w'=>e=.returned (.tuple #[])∧OwnB w' base g cap 5 (pre ++ be n mid.length ++ post)∧w.grownBy w' (some g):=by
 subst ho
 go_enter Tryz.func150,Tryz.ntmps150
 go_wp2_with fail
 go_loopw [1,4] (fun v i wr=>∃ t:Nat,t≤mid.length∧i=.int .i64 ((t:Int) - 1)∧v=.int .u64 ((n / 256 ^ (mid.length - t):Nat):Int)∧Hid (OwnB wr base g cap 5 (pre ++ mid.take t ++ be n (mid.length - t) ++ post))∧Hid (w.grownBy wr (some g))) (fun _ i _=>(intOf i+1).toNat)
 case atStart=>exact ⟨mid.length,Nat.le_refl _,rfl,by simp,by simpa [be,Hid] using hown,World.grownBy.refl w _⟩
 case round =>
  obtain ⟨t,ht,rfl,rfl,hor,hgr⟩:=hrel
  cases t with
  | succ s =>
    have e1:((s+1:Nat):Int) - 1=(s:Int):=by omega
    rw [e1]
    have hq:pre.length+s<(pre ++ mid.take (s+1) ++ be n (mid.length - (s+1)) ++ post).length:=by simp [length_be];omega
    have hcell:=hor.out.cellAt (pre.length+s) hq
    have hfr:=hor.out.frozenAt (pre.length+s)
    obtain ⟨m,hm⟩:∃ m:Nat,m=n / 256 ^ (mid.length - (s+1)):=⟨_,rfl⟩
    rw [← hm]
    have hm64:m<18446744073709551616:=by rw [hm];exact Nat.lt_of_le_of_lt (Nat.div_le_self _ _) hn
    have HM:=Lib.hid hm
    clear hm e1
    go_wp2_with fail
    go_roundw
    case rel =>
     have hst:=hor.out.stored (pre.length+s) hq (UInt8.ofNat m)
     rw [set_mid pre mid post s (by omega)] at hst
     have e2:mid.length - s=(mid.length - (s+1))+1:=by omega
     have e3:UInt8.ofNat m :: be n (mid.length - (s+1))=be n (mid.length - s):=by rw [e2,be_cons,← HM.out]
     rw [e3,UInt8.toNat_ofNat'] at hst
     refine ⟨s,by omega,rfl,?_,?_,?_⟩
     ·rw [e2,Nat.pow_succ,← Nat.div_div_eq_div_mul,← HM.out]
      rfl
     ·exact hst
     ·exact hgr.out.setCell_row _ _
    case measure=>simp [intOf]
  | zero =>
    go_wp2_with fail
    refine bodyPost_end (results_none rfl _ _ _) rfl ⟨rfl,?_,hgr.out⟩
    simpa using hor.out
theorem set_low (pre done mid post:List UInt8) (k:Nat) (hk:k<mid.length) (hd:done.length=k) (c:UInt8):(pre ++ done ++ mid.drop k ++ post).set (pre.length+k) c=pre ++ (done ++ [c]) ++ mid.drop (k+1) ++ post:=by
 subst hd
 have h1:mid.drop done.length=mid[done.length] :: mid.drop (done.length+1):=List.drop_eq_getElem_cons hk
 rw [h1]
 have h2:pre ++ done ++ (mid[done.length] :: mid.drop (done.length+1)) ++ post=(pre ++ done) ++ (mid[done.length] :: (mid.drop (done.length+1) ++ post)):=by simp only [List.append_assoc,List.cons_append]
 rw [h2,List.set_append_right _ _ (by simp)]
 have h3:pre.length+done.length - (pre ++ done).length=0:=by simp
 rw [h3,List.set_cons_zero]
 simp only [List.append_assoc,List.cons_append,List.nil_append]
theorem low_val (n k:Nat) (hn:n<4294967296):((n:Int) / 2 ^ (8*k)) % 256=((UInt8.ofNat (n / 2 ^ (8*k))).toNat:Int):=by
 rw [UInt8.toNat_ofNat']
 simp
theorem putLow_any (g o base cap:Nat) (pre mid post:List UInt8) (c n:Nat) (hn:n<4294967296) (w:World) (ho:o=pre.length) (hown:OwnB w base g cap 5 (pre ++ mid ++ post)) (hl:mid.length≤4) (hp:pre.length≤100000) :
 Calls Tryz.prog 151 #[.slice (some ⟨g,o,none⟩) mid.length c,.int .u32 n] w fun e w'=>e=.returned (.tuple #[])∧OwnB w' base g cap 5 (pre ++ le n mid.length ++ post)∧w.grownBy w' (some g):=by
 subst ho
 go_enter Tryz.func151,Tryz.ntmps151
 go_wp2_with fail
 go_loopw [7] (fun i wr=>∃ k:Nat,k≤mid.length∧i=.int .i64 k∧Hid (OwnB wr base g cap 5 (pre ++ le n k ++ mid.drop k ++ post))∧Hid (w.grownBy wr (some g))) (fun i _=>mid.length - (intOf i).toNat)
 case atStart=>exact ⟨0,by omega,rfl,by simpa [le,Hid] using hown,World.grownBy.refl w _⟩
 case round =>
  obtain ⟨k,hk,rfl,hor,hgr⟩:=hrel
  by_cases hlt:k<mid.length
  ·have hq:pre.length+k<(pre ++ le n k ++ mid.drop k ++ post).length:=by simp [length_le];omega
   have hcell:=hor.out.cellAt (pre.length+k) hq
   have hfr:=hor.out.frozenAt (pre.length+k)
   go_wp2_with fail
   go_roundw
   case rel =>
    have hst:=hor.out.stored (pre.length+k) hq (UInt8.ofNat (n / 2 ^ (8*k)))
    rw [set_low pre (le n k) mid post k hlt (length_le n k),← low_val n k hn] at hst
    exact ⟨k+1,by omega,by go_num,hst,hgr.out.setCell_row _ _⟩
   case measure=>simp [intOf];omega
  ·obtain rfl:k=mid.length:=by omega
   go_wp2_with fail
   refine bodyPost_end (results_none rfl _ _ _) rfl ⟨rfl,?_,hgr.out⟩
   simpa using hor.out
theorem or_u64 (a:Nat) (c:UInt8) (ha:a<72057594037927936):bits BinOp.or IntKind.u64 ((a:Int)*256) (c.toNat:Int)=((a*256+c.toNat:Nat):Int):=by
 have hc:=c.toNat_lt
 have e:bits BinOp.or IntKind.u64 ((a*256:Nat):Int) ((c.toNat:Nat):Int)=((a*256 ||| c.toNat:Nat):Int):=u64_or_nat _ _ (by omega) (by omega)
 rw [nat_join 8 (a*256) c.toNat (by omega) (by omega)] at e
 exact e
theorem takeHigh_any (A:Option Addr) (cap:Nat) (xs:List UInt8) (w:World) (hx:BytesAt w A xs) (hl:xs.length≤8) :
 Calls Tryz.prog 157 #[.slice A xs.length cap] w fun e w'=>e=.returned (.int .u64 (val xs))∧w=w':=by
 go_enter Tryz.func157,Tryz.ntmps157
 go_wp2_with fail
 go_loop [3,8] (fun v i=>∃ k:Nat,k≤xs.length∧i=.int .i64 k∧v=.int .u64 (val (xs.take k))) (fun _ i=>xs.length - (intOf i).toNat)
 case atStart=>exact ⟨0,by omega,rfl,by simp [val]⟩
 case round =>
  obtain ⟨k,hk,rfl,rfl⟩:=hrel
  by_cases hlt:k<xs.length
  ·obtain ⟨b,off,rfl,hc⟩:=hx (by intro h;subst h;simp at hlt)
   have hck:=hc k hlt
   clear hc
   have hv:val (xs.take k)<72057594037927936:=by
    have:=val_lt (xs.take k)
    have h2:256 ^ (xs.take k).length≤256 ^ 7:=Nat.pow_le_pow_right (by omega) (by simp;omega)
    omega
   go_wp2_with fail
   go_round
   case rel =>
    refine ⟨k+1,by omega,by go_num,?_⟩
    have hw:IntKind.u64.wrap (xs[k].toNat:Int)=(xs[k].toNat:Int):=by have:=xs[k].toNat_lt;rw [IntKind.wrap_u64];omega
    rw [hw,or_u64 _ _ hv,List.take_succ_eq_append_getElem hlt,val_snoc]
   case measure=>simp [intOf];omega
  ·obtain rfl:k=xs.length:=by omega
   go_wp2_with fail
   go_ret
   exact ⟨by simp,rfl⟩
theorem isK_cases (k:UInt8):isK k=(((k.toNat:Int) == 83) || (((k.toNat:Int) == 76) || (((k.toNat:Int) == 73) || ((k.toNat:Int) == 66)))):=by
 have e:∀ n:UInt8,(k == n)=((k.toNat:Int) == (n.toNat:Int)):=fun n=>by
  rw [Bool.eq_iff_iff,beq_iff_eq,beq_iff_eq]
  constructor
  ·rintro rfl;rfl
  ·intro h;exact UInt8.toNat_inj.1 (by omega)
 unfold isK
 rw [e 83,e 76,e 73,e 66,Bool.or_assoc,Bool.or_assoc]
 rfl
theorem isKind_any (k:UInt8) (w:World):Calls Tryz.prog 149 #[.int .u8 (k.toNat:Int)] w fun e w'=>e=.returned (.bool (isK k))∧w=w':=by
 have e:=isK_cases k
 generalize isK k=b at *
 generalize k.toNat=n at *
 go_enter Tryz.func149,Tryz.ntmps149
 by_cases h1:n=83
 ·subst h1
  have E:=Lib.hid e
  clear e
  go_wp2
  go_ret
  exact ⟨by rw [E.out];rfl,rfl⟩
 ·have b1:((n:Int) == 83)=false:=by simp;omega
  by_cases h2:n=76
  ·subst h2
   have E:=Lib.hid e
   clear e
   go_wp2
   go_ret
   exact ⟨by rw [E.out];rfl,rfl⟩
  ·have b2:((n:Int) == 76)=false:=by simp;omega
   by_cases h3:n=73
   ·subst h3
    have E:=Lib.hid e
    clear e
    go_wp2
    go_ret
    exact ⟨by rw [E.out];rfl,rfl⟩
   ·have b3:((n:Int) == 73)=false:=by simp;omega
    have E:=Lib.hid e
    clear e
    go_wp2
    all_goals go_ret
    all_goals exact ⟨by rw [E.out,b1,b2,b3];simp [*],rfl⟩
theorem beq_bytes (xs ys:List UInt8):(xs == ys)=decide (xs=ys):=by
 rw [Bool.eq_iff_iff,beq_iff_eq,decide_eq_true_iff]
theorem equal_any (A B:Option Addr) (c d n m:Nat) (xs ys:List UInt8) (w:World) (hn:xs.length=n) (hm:ys.length=m) (hx:BytesAt w A xs) (hy:BytesAt w B ys) :
 Calls Tryz.prog 158 #[.slice A n c,.slice B m d] w fun e w'=>e=.returned (.bool (decide (xs=ys)))∧w=w':=by
 subst hn
 subst hm
 have e1:=run_text (P:=Tryz.prog) 110 9 Tryz.underlying110 Tryz.underlying5 Tryz.underlying9 A c hx
 have e2:=run_text (P:=Tryz.prog) 110 9 Tryz.underlying110 Tryz.underlying5 Tryz.underlying9 B d hy
 go_enter Tryz.func158,Tryz.ntmps158
 go_wp2_with fail
 go_ret
 refine ⟨ret_eq ?_,rfl⟩
 exact congrArg Value.bool (beq_bytes xs ys)
theorem size_page:(Tryz.prog.info? 156).map (·.size)=some 4:=by kernel_rfl
end Go.Proofs.YtgkddhncfaeidaaGreat
