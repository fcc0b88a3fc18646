/-
  Part of a proof: The program's fields, by its contract: an array by value of all of them. Conditions: those that each theorem names.
-/
import Derived.Test.YtooaajnkiokpnaaGreatDoorQ01
import Derived.Test.YtooaajnkiokpnaaGreatDoorQ10
import Derived.Test.YtooaajnkiokpnaaGreatDoorQ05
import Derived.Lib.MinMax
import Derived.Test.YtooaajnkiokpnaaGreatDoorQ07
import Derived.Test.YtooaajnkiokpnaaGreatDoorQ11
import Derived.Deep.CutBlock
import Derived.Deep.DeepCutAuto
import Derived.Deep.MidRow
import Derived.Test.YtooaajnkiokpnaaGreatDoorQ04
import Derived.Test.YtooaajnkiokpnaaGreatDoorQ12
import Derived.Lib.ConvBytes
import Derived.Test.YtooaajnkiokpnaaGreatDoorQ02
import Derived.Deep.QuietTactic
import Derived.BigQuiet
import Derived.Test.YtooaajnkiokpnaaGreatDoorProg
import Derived.Great.BuildSlice
import Derived.Deep.Cut
namespace Go.Proofs.YtooaajnkiokpnaaGreatDoor
open Go.RowKit Go.WideShapes
set_option maxHeartbeats 4000000
set_option maxRecDepth 100000
section
attribute [local irreducible] Fm.c
def zz6(w:World)(l:List UInt8)(e:Ending)(w':World):Prop:=
 ∃A c,e=.returned (.slice A l.length c)∧Bo w' w.heap.size 5 (.slice A l.length c) l∧Below w.heap.size w w'
theorem Frm.fmOk{f:Frm}(hk:f.Ok)(hm:f.May)(dA sA:Option Addr)(dc sc:Nat):(f.fm dA dc sA sc).Ok:=
 ⟨hk.ty,hk.fl,by have:=hm.1.1;show f.st<_;omega,hk.code,by have:=hm.1.2.1;show f.oth<_;omega,hk.wt,by have:=hm.1.2.2;show f.win<_;omega⟩
theorem Frm.fmMay{f:Frm}(hm:f.May)(dA sA:Option Addr)(dc sc:Nat):(f.fm dA dc sA sc).may=true:=decide_eq_true hm
theorem zon{n ty fl:Nat}(hn:n≤16384)(ht:ty<256)(hf:fl<256):byc (be 3 n++[UInt8.ofNat ty,UInt8.ofNat fl])=[.int .u8 ((n:Int) / 65536),.int .u8 ((n:Int) / 256),.int .u8 ((n:Int)%256),.int .u8 (ty:Int),.int .u8 (fl:Int)]:=by
 rw[be3]
 simp only[byc,List.cons_append,List.nil_append,List.map_cons,List.map_nil,Qx]
 rw[show (((n / 65536:Nat):Int)%256)=(n:Int) / 65536 by omega,show (((n / 256:Nat):Int)%256)=(n:Int) / 256 by omega,show ((ty:Int)%256)=ty by omega,show ((fl:Int)%256)=fl by omega]
theorem zgd(f:Frm)(hk:f.Ok)(hm:f.May){dA sA:Option Addr}{dc sc:Nat}(w:World)(hD:RdB w w.heap.size dA f.dat)(hS:RdS w (·<w.heap.size) sA (enl sgc f.sets)) :
  Calls Tryz.prog 116 #[.agg (f.fm dA dc sA sc).c] w (zz6 w (zh f)):=by
 obtain⟨i0,hi0,hz0,hz1,hz2⟩:=zr qk
 have hxk:=Frm.fmOk hk hm dA sA dc sc
 have hsmall:=J2 f hm
 have hsz:=zao f hm.2.2.2.1.2.2.2.2.2.1 hm.2.2.1
 have hdn:f.dat.length≤16384∧f.sets.length≤16384:=by
  have h1:=hm.2.2.2.2
  unfold yo at h1
  have h2:=hm.2.2.1
  unfold Qf at h2
  split at h1
  ·rename_i hp
   have:=h2.1 (of_decide_eq_true hp)
   omega
  ·omega
 have hpad:(Q1 f.ty f.fl→0≤f.pad∧f.pad≤255)∧(¬Q1 f.ty f.fl→f.pad = -1):=hm.2.2.1
 have hpd1:-1≤f.pad∧f.pad≤255:=by
  by_cases h:Q1 f.ty f.fl
  ·have:=hpad.1 h;omega
  ·have:=hpad.2 h;omega
 have hmay:=zur _ hxk (show f.dat.length≤1000000 by omega) (show f.sets.length≤1000000 by omega)
 rw[Frm.fmMay hm] at hmay
 have hsize:=zeu (f.fm dA dc sA sc) hk.fl (show f.dat.length≤1000000 by omega) (show f.sets.length≤1000000 by omega) (show -1000000≤f.pad by omega) (show f.pad≤1000000 by omega)
 rw[show yo (f.fm dA dc sA sc).ty (f.fm dA dc sA sc).fl (f.fm dA dc sA sc).dn (f.fm dA dc sA sc).pad (f.fm dA dc sA sc).sn=((j6 f).length:Int) from hsz.symm] at hsize
 have hisp:=Q8 (f.fm dA dc sA sc) hk.fl
 have hst:f.st<4294967296:=by have:=hm.1.1;omega
 have HX:=z2w (Row.new w 66 (f.fm dA dc sA sc).c)
 have HB:Hid (Below w.heap.size w (w.alloc (.cells (f.fm dA dc sA sc).c 66))):=(Below.refl _ _).alloc (Nat.le_refl _) _
 have HD:=z2w hD
 have HS:=z2w hS
 have hty:=hk.ty
 have hfl:=hk.fl
 obtain⟨N,hN⟩:∃N,N=(j6 f).length:=⟨_,rfl⟩
 rw[←hN] at hsize hsmall
 have HN:=z2w hN
 have hb5:=zon hsmall hty hfl
 clear hN hsz hD hS
 have hmk:∀W:World,(Instr.makeSlice 22 (.int .i64 0) (.int .i64 (9+(N:Int)))).run Tryz.prog W=.ok (.slice (some ⟨W.heap.size,0,none⟩) 0 (9+N)) (W.alloc (.cells (madeCells #[Value.int .u8 0] (9+N)) 5)):=λW=>by
  have:=run_make (P:=Tryz.prog) W 22 5 i0 (.int .u8 0) Tryz.underlying22 hi0 hz0 .i64 .i64 0 ((9+N:Nat):Int) (by omega) (by omega) (by rw[hz2];omega) (by omega)
  rw[show (9+(N:Int))=((9+N:Nat):Int) by omega,this,hz1,Nat.mul_one]
  rfl
 go_enter Tryz.func116,Tryz.ntmps116
 go_wp2_with (refine zg rfl _ rfl rfl HX.out ?_)
 refine(hmay _).mono ?_
 rintro e w1 ⟨rfl,hb1⟩
 have HB1:=z2w (HB.out.trans (hb1.mono HB.out.size))
 have HX1:=z2w (HX.out.below hb1 HX.out.lt)
 clear hb1 hmay HB HX
 go_wp2_with (refine zg rfl _ rfl rfl HX1.out ?_)
 refine(hsize _).mono ?_
 rintro e w2 ⟨rfl,hb2⟩
 have HB2:=z2w (HB1.out.trans (hb2.mono HB1.out.size))
 have HX2:=z2w (HX1.out.below hb2 HX1.out.lt)
 clear hb2 hsize HB1 HX1
 have hO3:Hid (Bo (w2.alloc (.cells (madeCells #[Value.int .u8 0] (9+N)) 5)) (w.heap.size+1) 5 (.slice (some ⟨w2.heap.size,0,none⟩) 0 (9+N)) []):=(OwB.fresh w2 5 _ (9+N) (by rw[size_madeCells]) (by simp only[maxLen];omega) (HX2.out.lt)).toBo
 have HX3:=z2w (HX2.out.alloc (.cells (madeCells #[Value.int .u8 0] (9+N)) 5))
 obtain⟨c0,c1,_⟩:=zf HX3.out
 have c0':(w2.alloc (.cells (madeCells #[Value.int .u8 0] (9+N)) 5)).cell? ⟨w.heap.size,0,none⟩=some (Value.int .u8 ((f.ty:Nat):Int)):=c0
 have c1':(w2.alloc (.cells (madeCells #[Value.int .u8 0] (9+N)) 5)).cell? ⟨w.heap.size,1,none⟩=some (Value.int .u8 ((f.fl:Nat):Int)):=c1
 clear c0 c1
 generalize madeCells #[Value.int .u8 0] (9+N)=MC at *
 have HL3:Hid (Row ((w2.alloc (.cells MC 5)).alloc (.cells #[.int .u8 ((N:Int) / 65536),.int .u8 ((N:Int) / 256),.int .u8 ((N:Int)%256),.int .u8 ((f.ty:Nat):Int),.int .u8 ((f.fl:Nat):Int)] 5)) (w2.heap.size+1) 5 #[.int .u8 ((N:Int) / 65536),.int .u8 ((N:Int) / 256),.int .u8 ((N:Int)%256),.int .u8 ((f.ty:Nat):Int),.int .u8 ((f.fl:Nat):Int)]):=Row.made _ _ _ (by simp)
 have hs2:w.heap.size<w2.heap.size:=HX2.out.lt
 have hpn:=λ(W:World) (u:Value) (h1:Bo W (w.heap.size+1) 5 u (be 3 N++[UInt8.ofNat f.ty,UInt8.ofNat f.fl])) (h2:w.heap.size+1≤W.heap.size)=>qp hst h1 h2 (by simp[zl])
 go_wp2_with (at_builtin;go_loud (refine qx rfl (.tmp 13) (.tmp 26) 22 rfl (w.heap.size+1) 5 i0 Tryz.underlying22 hi0 hz0 hz1 hz2 (.slice (some ⟨w2.heap.size,0,none⟩) 0 (9+N)) [] rfl (OwS.alloc hO3.out _) _ _ (be 3 N++[UInt8.ofNat f.ty,UInt8.ofNat f.fl]) _ _ rfl (by simp[zl]) (RdB.row HL3.out hb5.symm HL3.out.lt) (by simp[zl]) (by simp;omega) ?_;intro v4 w4 hO4 hF4 hN4;rw[List.nil_append] at hO4;have HB4:=z2w (HB2.out.trans ((((Below.refl w.heap.size w2).alloc (by omega) _).alloc (by simp;omega) _).trans (hF4.below (λk hk _=>by have:=(OwS.lt hO3.out k hk).1;omega) (by simp;omega))));have HX4:=z2w (hF4.row (λe=>by have:=(OwS.lt hO3.out _ e).1;omega) (HX3.out.alloc _));have HO4:=z2w hO4;obtain⟨_,_,d2,_⟩:=zf HX4.out;have d2':w4.cell? ⟨w.heap.size,2,none⟩=some (Value.int .u32 ((f.st:Nat):Int)):=d2;clear hO4 hF4 hN4 d2))
 have hs4:w.heap.size<w4.heap.size:=HX4.out.lt
 clear hO3 HX3 HL3 c0' c1' hmk hb5 HB2 HX2
 refine(hpn w4 v4 HO4.out (by omega)).mono ?_
 rintro e w5 ⟨v5,rfl,hO5,hF5,hN5⟩
 have HB5:=z2w (HB4.out.trans (hF5.below (λk hk _=>by have:=(OwS.lt HO4.out k hk).1;omega) (by omega)))
 have HX5:=z2w (hF5.row (λe=>by have:=(OwS.lt HO4.out _ e).1;omega) HX4.out)
 obtain⟨H9,hH9⟩:∃H9,H9=be 3 N++[UInt8.ofNat f.ty,UInt8.ofNat f.fl]++be 4 f.st:=⟨_,rfl⟩
 rw[←hH9] at hO5
 have HH9l:Hid (H9.length=9):=by show _=_;rw[hH9];simp[zl]
 have HO5:=z2w hO5
 have HH9:=z2w hH9.symm
 have hs5:w.heap.size<w5.heap.size:=HX5.out.lt
 obtain⟨_,_,_,_,e4,_⟩:=zf HX5.out
 clear hO5 hF5 hN5 hpn d2' HO4 HX4 HB4 hH9
 go_wp2_with (refine zg rfl _ rfl rfl HX5.out ?_)
 by_cases hpp:Q1 f.ty f.fl
 ·have hp0:=hpad.1 hpp
  have hwp:∃q:Nat,f.pad=(q:Int):=Int.eq_ofNat_of_zero_le hp0.1
  obtain⟨q,hq⟩:=hwp
  have hq255:q<256:=by omega
  have hbq:byc [UInt8.ofNat q]=[.int .u8 ((q:Nat):Int)]:=by
   simp only[byc,List.map_cons,List.map_nil,Qx]
   rw[show ((q:Nat):Int)%256=((q:Nat):Int) by omega]
  have e4':w5.cell? ⟨w.heap.size,4,none⟩=some (Value.int .i64 ((q:Nat):Int)):=by rw[←hq];exact e4
  have hmax:max ((q:Nat):Int) 0=((q:Nat):Int):=by omega
  have HPL:Hid (zh f=H9++[UInt8.ofNat q]++zw f++f.dat++List.replicate q 0):=by
   show _=_
   rw[←HH9.out]
   unfold zh j6 ym
   rw[if_pos hp0.1,hq,Int.toNat_natCast]
   rw[HN.out]
   unfold j6
   rw[if_pos hp0.1,hq,Int.toNat_natCast]
   simp only[List.append_assoc,List.cons_append,List.nil_append]
  rw[show yq (f.fm dA dc sA sc).ty (f.fm dA dc sA sc).fl=true from decide_eq_true hpp] at hisp
  clear e4
  refine(hisp _).mono ?_
  rintro e w6 ⟨rfl,hb6⟩
  have HX6:=z2w (HX5.out.below hb6 HX5.out.lt)
  have HO6:=z2w (HO5.out.below hb6)
  have HB6:=z2w (HB5.out.trans (hb6.mono HB5.out.size))
  have k4:=(hb6.cell (p:=⟨w.heap.size,4,none⟩) HX5.out.lt).trans e4'
  have hs6:w.heap.size<w6.heap.size:=HX6.out.lt
  clear hb6 hisp e4' HO5 HB5 HX5
  have HL6:Hid (Row (w6.alloc (.cells #[.int .u8 ((q:Nat):Int)] 5)) w6.heap.size 5 #[.int .u8 ((q:Nat):Int)]):=Row.new _ _ _
  go_wp2_with (at_builtin;go_loud (refine qx rfl (.tmp 34) (.tmp 38) 22 rfl (w.heap.size+1) 5 i0 Tryz.underlying22 hi0 hz0 hz1 hz2 v5 H9 rfl (OwS.alloc HO6.out _) _ _ [UInt8.ofNat q] _ _ rfl rfl (RdB.row HL6.out hbq.symm HL6.out.lt) (by rw[HH9l.out];simp) (by simp;omega) ?_;intro v7 w7 hO7 hF7 hN7;have HB7:=z2w (HB6.out.trans (((Below.refl _ w6).alloc (by omega) _).trans (hF7.below (λk hk _=>by have:=(OwS.lt HO6.out k hk).1;omega) (by simp;omega))));have HX7:=z2w (hF7.row (λe=>by have:=(OwS.lt HO6.out _ e).1;omega) (HX6.out.alloc _));have HO7:=z2w hO7;clear hO7 hF7 hN7 k4 HX6 HO6 HB6 HL6))
  have hs7:w.heap.size<w7.heap.size:=HX7.out.lt
  have hml:(H9++[UInt8.ofNat q]).length≤10:=by rw[List.length_append,HH9l.out];simp
  have hpf:=λ(W:World) (h1:RdS W (·<w.heap.size) sA (enl sgc f.sets)) (h2:Bo W (w.heap.size+1) 5 v7 (H9++[UInt8.ofNat q])) (h3:w.heap.size+1≤W.heap.size)=>vo f hk hm.1.2.1 hm.1.2.2 (by omega) (dA:=dA) (dc:=dc) (sc:=sc) h1 (λk hk=>⟨by omega,λe=>by have:=(OwS.lt h2 k e).1;omega⟩) h2 h3 (by omega)
  have hfl2:(zw f).length≤1000000:=by
   have:=J4 f hm.2.2.2.1.2.2.2.2.2.1
   have:=Vp f.ty f.fl
   omega
  obtain⟨_,_,_,a3,_⟩:=zf (show Row w7.drew w.heap.size 66 (f.fm dA dc sA sc).c from HX7.out)
  have a3':w7.drew.cell? ⟨w.heap.size,3,none⟩=some (.slice dA f.dat.length dc):=a3
  generalize zw f=FR at *
  refine wp_region_held_drew (S:=λw'=>Row w' w.heap.size 66 (f.fm dA dc sA sc).c∧w'.cell? ⟨w.heap.size,3,none⟩=some (.slice dA f.dat.length dc)) (by kernel_rfl) ⟨HX7.out,a3'⟩ (λhHeld=>?_)
  clear a3 a3'
  refine tkY 1 rfl (qm (by rfl) _ rfl rfl (λ_ hSw=>hSw.1)) ?_
  refine tkH 0 ?_
  refine tkH 3 ?_
  refine tkH 4 ?_
  refine rdH 2 λK hK=>?_
  go_simp
  go_at_call 151
  refine(hpf w7.drew (RdS.below HS.out (show Below w.heap.size w w7.drew from HB7.out.drew)) (show Bo w7.drew _ _ _ _ from HO7.out) (show w.heap.size+1≤w7.heap.size by omega)).mono ?_
  rintro e w8 ⟨v8,rfl,hO8,hF8,hN8⟩
  have HX8:=z2w (hF8.row (λe=>by have:=(OwS.lt HO7.out _ e).1;omega) (show Row w7.drew _ _ _ from HX7.out))
  have HB8:=z2w ((HB7.out.drew).trans (hF8.below (λk hk _=>by have:=(OwS.lt HO7.out k hk).1;omega) (show w.heap.size≤w7.heap.size by omega)))
  have HO8:=z2w hO8
  have hs8:w.heap.size<w8.heap.size:=HX8.out.lt
  obtain⟨_,_,_,a3,_⟩:=zf HX8.out
  refine hK.out _ _ ⟨HX8.out,a3⟩ (λhHeld=>?_)
  clear hK K hO8 hF8 hN8 a3 hpf HX7 HO7 HB7
  try refine ptk ?_
  refine rdH 5 λK hK=>?_
  refine jp rfl (.tmp 42) (.tmp 44) 22 rfl (w.heap.size+1) 5 i0 Tryz.underlying22 hi0 hz0 hz1 hz2 v8 ((H9++[UInt8.ofNat q])++FR) rfl HO8.out w.heap.size dA f.dat _ _ rfl rfl (HD.out.below HB8.out) (by rw[List.length_append];omega) (by omega) (λv9 w9 hO9 hF9 hN9=>?_)
  have HX9:=z2w (hF9.row (λe=>by have:=(OwS.lt HO8.out _ e).1;omega) HX8.out)
  have HB9:=z2w (HB8.out.trans (hF9.below (λk hk _=>by have:=(OwS.lt HO8.out k hk).1;omega) (by omega)))
  have HO9:=z2w hO9
  have hs9:w.heap.size<w9.heap.size:=HX9.out.lt
  obtain⟨_,_,_,a3,a4,_⟩:=zf HX9.out
  have a4':w9.cell? ⟨w.heap.size,4,none⟩=some (Value.int .i64 ((q:Nat):Int)):=by rw[←hq];exact a4
  refine hK.out _ _ ⟨HX9.out,a3⟩ (λhHeld=>?_)
  clear hK K hO9 hF9 hN9 a3 a4 HX8 HO8 HB8
  try refine ptk ?_
  refine tkH 6 ?_
  refine dnH ?_
  clear hHeld
  go_wp2_with (at_builtin;go_loud (refine X1 rfl (.tmp 46) (.tmp 49) 22 3 rfl (w.heap.size+1) 5 i0 .i64 Tryz.underlying22 Tryz.underlying3 hi0 hz0 hz1 hz2 v9 ((H9++[UInt8.ofNat q])++FR++f.dat) rfl HO9.out q _ rfl (by simp) (by rw[List.length_append,List.length_append];omega) (by omega) ?_;intro v10 w10 hO10 hF10 hN10))
  go_ret
  rw[←HPL.out] at hO10
  obtain⟨A,c,rfl,hcl⟩:=hO10.shape
  exact⟨A,c,rfl,OwS.mono hO10 (by omega),HB9.out.trans (hF10.below (λk hk _=>by have:=(OwS.lt HO9.out k hk).1;omega) (by omega))⟩
 ·have hp0:=hpad.2 hpp
  have e4':w5.cell? ⟨w.heap.size,4,none⟩=some (Value.int .i64 (-1)):=by rw[←hp0];exact e4
  have hmax:max (-1:Int) 0=0:=by omega
  have hq255:(0:Nat)<256:=by omega
  have HPL:Hid (zh f=H9++zw f++f.dat++List.replicate 0 0):=by
   show _=_
   rw[←HH9.out]
   unfold zh j6 ym
   rw[if_neg (by omega)]
   rw[HN.out]
   unfold j6
   rw[if_neg (by omega)]
   simp only[List.append_assoc,List.cons_append,List.nil_append,List.replicate_zero,List.append_nil]
  rw[show yq (f.fm dA dc sA sc).ty (f.fm dA dc sA sc).fl=false from decide_eq_false hpp] at hisp
  clear e4
  refine(hisp _).mono ?_
  rintro e w6 ⟨rfl,hb6⟩
  have HX6:=z2w (HX5.out.below hb6 HX5.out.lt)
  have HO6:=z2w (HO5.out.below hb6)
  have HB6:=z2w (HB5.out.trans (hb6.mono HB5.out.size))
  have hs6:w.heap.size<w6.heap.size:=HX6.out.lt
  clear hb6 hisp e4' HO5 HB5 HX5
  go_wp2_with fail
  have hml:H9.length≤10:=by rw[HH9l.out];omega
  have hpf:=λ(W:World) (h1:RdS W (·<w.heap.size) sA (enl sgc f.sets)) (h2:Bo W (w.heap.size+1) 5 v5 H9) (h3:w.heap.size+1≤W.heap.size)=>vo f hk hm.1.2.1 hm.1.2.2 (by omega) (dA:=dA) (dc:=dc) (sc:=sc) h1 (λk hk=>⟨by omega,λe=>by have:=(OwS.lt h2 k e).1;omega⟩) h2 h3 (by omega)
  have hfl2:(zw f).length≤1000000:=by
   have:=J4 f hm.2.2.2.1.2.2.2.2.2.1
   have:=Vp f.ty f.fl
   omega
  obtain⟨_,_,_,a3,_⟩:=zf (show Row w6.drew w.heap.size 66 (f.fm dA dc sA sc).c from HX6.out)
  have a3':w6.drew.cell? ⟨w.heap.size,3,none⟩=some (.slice dA f.dat.length dc):=a3
  generalize zw f=FR at *
  refine wp_region_held_drew (S:=λw'=>Row w' w.heap.size 66 (f.fm dA dc sA sc).c∧w'.cell? ⟨w.heap.size,3,none⟩=some (.slice dA f.dat.length dc)) (by kernel_rfl) ⟨HX6.out,a3'⟩ (λhHeld=>?_)
  clear a3 a3'
  refine tkY 1 rfl (qm (by rfl) _ rfl rfl (λ_ hSw=>hSw.1)) ?_
  refine tkH 0 ?_
  refine tkH 3 ?_
  refine tkH 4 ?_
  refine rdH 2 λK hK=>?_
  go_simp
  go_at_call 151
  refine(hpf w6.drew (RdS.below HS.out (show Below w.heap.size w w6.drew from HB6.out.drew)) (show Bo w6.drew _ _ _ _ from HO6.out) (show w.heap.size+1≤w6.heap.size by omega)).mono ?_
  rintro e w8 ⟨v8,rfl,hO8,hF8,hN8⟩
  have HX8:=z2w (hF8.row (λe=>by have:=(OwS.lt HO6.out _ e).1;omega) (show Row w6.drew _ _ _ from HX6.out))
  have HB8:=z2w ((HB6.out.drew).trans (hF8.below (λk hk _=>by have:=(OwS.lt HO6.out k hk).1;omega) (show w.heap.size≤w6.heap.size by omega)))
  have HO8:=z2w hO8
  have hs8:w.heap.size<w8.heap.size:=HX8.out.lt
  obtain⟨_,_,_,a3,_⟩:=zf HX8.out
  refine hK.out _ _ ⟨HX8.out,a3⟩ (λhHeld=>?_)
  clear hK K hO8 hF8 hN8 a3 hpf HX6 HO6 HB6
  try refine ptk ?_
  refine rdH 5 λK hK=>?_
  refine jp rfl (.tmp 42) (.tmp 44) 22 rfl (w.heap.size+1) 5 i0 Tryz.underlying22 hi0 hz0 hz1 hz2 v8 (H9++FR) rfl HO8.out w.heap.size dA f.dat _ _ rfl rfl (HD.out.below HB8.out) (by rw[List.length_append];omega) (by omega) (λv9 w9 hO9 hF9 hN9=>?_)
  have HX9:=z2w (hF9.row (λe=>by have:=(OwS.lt HO8.out _ e).1;omega) HX8.out)
  have HB9:=z2w (HB8.out.trans (hF9.below (λk hk _=>by have:=(OwS.lt HO8.out k hk).1;omega) (by omega)))
  have HO9:=z2w hO9
  have hs9:w.heap.size<w9.heap.size:=HX9.out.lt
  obtain⟨_,_,_,a3,a4,_⟩:=zf HX9.out
  have a4':w9.cell? ⟨w.heap.size,4,none⟩=some (Value.int .i64 (-1:Int)):=by rw[←hp0];exact a4
  refine hK.out _ _ ⟨HX9.out,a3⟩ (λhHeld=>?_)
  clear hK K hO9 hF9 hN9 a3 a4 HX8 HO8 HB8
  try refine ptk ?_
  refine tkH 6 ?_
  refine dnH ?_
  clear hHeld
  go_wp2_with (at_builtin;go_loud (refine X1 rfl (.tmp 46) (.tmp 49) 22 3 rfl (w.heap.size+1) 5 i0 .i64 Tryz.underlying22 Tryz.underlying3 hi0 hz0 hz1 hz2 v9 (H9++FR++f.dat) rfl HO9.out 0 _ rfl (by simp) (by rw[List.length_append,List.length_append];omega) (by omega) ?_;intro v10 w10 hO10 hF10 hN10))
  go_ret
  rw[←HPL.out] at hO10
  obtain⟨A,c,rfl,hcl⟩:=hO10.shape
  exact⟨A,c,rfl,OwS.mono hO10 (by omega),HB9.out.trans (hF10.below (λk hk _=>by have:=(OwS.lt HO9.out k hk).1;omega) (by omega))⟩
end
section
theorem zc7(p:Nat):(madeCells #[Value.int .u8 0] p).toList=byc (List.replicate p 0):=by
 apply List.ext_getElem
 ·simp[madeCells,byc]
 ·intro i h1 h2
  simp[madeCells,byc,Nat.mod_one]
attribute [local irreducible] Fm.c qt be zw
end
section
section
variable {w w':World}{base g:Nat}{x:Fm}{F:Frm}
end
theorem zpq(l:List UInt8)(w:World):∃(c:Nat) (w':World),(convert 9 22 (.string (tb l))).run Tryz.prog w=.ok (.slice (some ⟨w.heap.size,0,none⟩) l.length c) w'∧l.length≤c∧Below w.heap.size w w'∧w'.heap.size=w.heap.size+1∧RdS w' (λb=>b=w.heap.size) (some ⟨w.heap.size,0,none⟩) (byc l):=by
 have h:=Lib.run_convert_string_bytes (P:=Tryz.prog) w 9 22 5 (tb l) Tryz.underlying9 Tryz.underlying22 Tryz.underlying5
 rw[Qs] at h
 refine⟨_,_,h,grownCap_ge _ _ _ _,⟨rfl,rfl,rfl,by rw[Lib.bytesWorld_size];omega,λk hk=>Lib.bytesWorld_at_old w _ _ k hk⟩,Lib.bytesWorld_size _ _ _,λ_=>⟨w.heap.size,0,rfl,rfl,λj u hu=>?_⟩⟩
 obtain⟨hj,rfl⟩:=J8 hu
 have:=Lib.bytesWorld_cell w 5 (tb l) j (by rw[Qs];exact hj)
 rw[Nat.zero_add,this]
 simp[tb,List.getElem?_eq_getElem hj]
attribute [local irreducible] Fm.c enl
end
section
section
variable {w:World}{g:Nat}{x:Fm}{s c:Nat}
end
theorem FmIs.far{w w':World}{base:Nat}{x:Fm}{F:Frm}{S:Nat→Prop}(h:FmIs w base x F)(hf:Fs S w w')(hS:∀k,base≤k→¬S k):FmIs w' base x F:=h.keep λk h1 h2=>hf.block k h2 (hS k h1)
end
section
structure SpG(w:World)(g b fi la:Nat)(L:List UInt8)(wt:Bool):Prop where
 row:Row w g 118 #[.slice (some ⟨b,0,none⟩) 16393 16393,.int .i64 fi,.int .i64 la,.bool wt,.bool false]
 buf:Row w b 5 (byc L).toArray
 ne:b≠g
 len:L.length=16393
 le:fi≤la
 la:la≤16393
 lo:0<g∧0<b
def SpX(w:World)(g:Nat):Prop:=Row w g 118 #[.slice none 0 0,.int .i64 0,.int .i64 0,.bool false,.bool true]
def gbS(g b:Nat):Nat→Prop:=λk=>k=g∨k=b
def zv(L:List UInt8)(fi la:Nat):List UInt8:=(L.drop fi).take (la-fi)
def Spl(w:World)(g b:Nat)(l:List UInt8)(wt bad:Bool):Prop:=
 (bad=false∧∃fi la L,SpG w g b fi la L wt∧l=zv L fi la)∨(bad=true∧wt=false∧l=[]∧SpX w g∧0<g∧b≠g∧b<w.heap.size)
section
variable {w w':World}{g b fi la:Nat}{L l:List UInt8}{wt bad:Bool}
theorem SpG.keep(h:SpG w g b fi la L wt)(h1:w'.heap[g]?=w.heap[g]?)(h2:w'.heap[b]?=w.heap[b]?):SpG w' g b fi la L wt:=⟨h1.trans h.row,h2.trans h.buf,h.ne,h.len,h.le,h.la,h.lo⟩
theorem SpG.fs{S:Nat→Prop}(h:SpG w g b fi la L wt)(hf:Fs S w w')(h1:¬S g)(h2:¬S b):SpG w' g b fi la L wt:=h.keep (hf.block g h.row.lt h1) (hf.block b h.buf.lt h2)
theorem SpG.below(h:SpG w g b fi la L wt)(hb:Below w.heap.size w w'):SpG w' g b fi la L wt:=h.keep (hb.block g h.row.lt) (hb.block b h.buf.lt)
theorem SpG.drewN(h:SpG w g b fi la L wt)(n:Nat):SpG (w.drewN n) g b fi la L wt:=h.keep rfl rfl
theorem SpG.c0(h:SpG w g b fi la L wt):w.cell? ⟨g,0,none⟩=some (.slice (some ⟨b,0,none⟩) 16393 16393):=h.row.cell rfl
theorem SpG.c1(h:SpG w g b fi la L wt):w.cell? ⟨g,1,none⟩=some (.int .i64 (fi:Int)):=h.row.cell rfl
theorem SpG.c2(h:SpG w g b fi la L wt):w.cell? ⟨g,2,none⟩=some (.int .i64 (la:Int)):=h.row.cell rfl
theorem SpG.c3(h:SpG w g b fi la L wt):w.cell? ⟨g,3,none⟩=some (.bool wt):=h.row.cell rfl
theorem SpG.c4(h:SpG w g b fi la L wt):w.cell? ⟨g,4,none⟩=some (.bool false):=h.row.cell rfl
theorem SpG.held_len(h:SpG w g b fi la L wt):(zv L fi la).length=la-fi:=by
 have:=h.len
 have:=h.la
 unfold zv
 rw[List.length_take,List.length_drop]
 omega
theorem SpG.reads(h:SpG w g b fi la L wt):RdB w w.heap.size (some ⟨b,0,none⟩) L:=λ_=>⟨b,0,rfl,h.buf.lt,λj hj=>by
 rw[Nat.zero_add]
 exact h.buf.cell (by simpa using Qb hj)⟩
theorem SpG.set1(h:SpG w g b fi la L wt){fi':Nat}(hf:fi'≤la):SpG (w.setCell ⟨g,1,none⟩ (.int .i64 (fi':Int))) g b fi' la L wt:=⟨h.row.stored 1 _,h.buf.stored' h.ne _,h.ne,h.len,hf,h.la,h.lo⟩
theorem SpG.set3(h:SpG w g b fi la L wt)(wt':Bool):SpG (w.setCell ⟨g,3,none⟩ (.bool wt')) g b fi la L wt':=⟨h.row.stored 3 _,h.buf.stored' h.ne _,h.ne,h.len,h.le,h.la,h.lo⟩
theorem SpG.spl(h:SpG w g b fi la L wt):Spl w g b (zv L fi la) wt false:=.inl ⟨rfl,fi,la,L,h,rfl⟩
theorem Spl.keep(h:Spl w g b l wt bad)(hs:w.heap.size≤w'.heap.size)(h1:w'.heap[g]?=w.heap[g]?)(h2:w'.heap[b]?=w.heap[b]?):Spl w' g b l wt bad:=by
 rcases h with ⟨h0,fi,la,L,hG,hl⟩|⟨h0,hw,hl,hX,hlo,hne,hb⟩
 ·exact .inl ⟨h0,fi,la,L,hG.keep h1 h2,hl⟩
 ·exact .inr ⟨h0,hw,hl,h1.trans hX,hlo,hne,Nat.lt_of_lt_of_le hb hs⟩
theorem Spl.lts(h:Spl w g b l wt bad):g<w.heap.size∧b<w.heap.size∧b≠g∧0<g:=by
 rcases h with ⟨_,fi,la,L,hG,_⟩|⟨_,_,_,hX,hlo,hne,hb⟩
 ·exact⟨hG.row.lt,hG.buf.lt,hG.ne,hG.lo.1⟩
 ·exact⟨Row.lt hX,hb,hne,hlo⟩
theorem Spl.fs{S:Nat→Prop}(h:Spl w g b l wt bad)(hf:Fs S w w')(h1:¬S g)(h2:¬S b):Spl w' g b l wt bad:=h.keep hf.size (hf.block g h.lts.1 h1) (hf.block b h.lts.2.1 h2)
theorem Spl.below(h:Spl w g b l wt bad)(hb:Below w.heap.size w w'):Spl w' g b l wt bad:=h.keep hb.size (hb.block g h.lts.1) (hb.block b h.lts.2.1)
theorem Spl.bad_cell(h:Spl w g b l wt bad):w.cell? ⟨g,4,none⟩=some (.bool bad):=by
 rcases h with ⟨rfl,fi,la,L,hG,_⟩|⟨rfl,_,_,hX,_⟩
 ·exact hG.c4
 ·exact Row.cell hX rfl
theorem GlobE.fs{S:Nat→Prop}(h:GlobE w)(hf:Fs S w w')(hS:¬S 0):GlobE w':=(World.cell?_of_block (a:=⟨0,0,none⟩) (hf.block _ (jf h) hS)).trans h
end
theorem zh3{g b:Nat}(h1:0<g)(h2:0<b):¬gbS g b 0:=λh=>by rcases h with h|h<;>omega
theorem zwh(w:World):Calls Tryz.prog 63 #[.pointer none] w λe w'=>e=.returned (.bool true)∧w'=w:=by
 go_enter Tryz.func63,Tryz.ntmps63
 go_wp2_with fail
 go_ret
 exact⟨rfl,rfl⟩
theorem Y2{w:World}{g:Nat}{x:Bool}(h:w.cell? ⟨g,4,none⟩=some (.bool x)):Calls Tryz.prog 63 #[.pointer (some ⟨g,0,none⟩)] w λe w'=>e=.returned (.bool x)∧w'=w:=by
 go_enter Tryz.func63,Tryz.ntmps63
 go_wp2_with fail
 go_ret
 exact⟨by cases x<;>rfl,rfl⟩
theorem zjl{w:World}{g b:Nat}{l:List UInt8}{wt bad:Bool}(h:Spl w g b l wt bad):Calls Tryz.prog 63 #[.pointer (some ⟨g,0,none⟩)] w λe w'=>e=.returned (.bool bad)∧w'=w:=Y2 h.bad_cell
theorem zqj{w:World}{g b fi la:Nat}{L:List UInt8}{wt:Bool}(h:SpG w g b fi la L wt):∃A',(∀W,(Instr.slice 22 (.slice (some ⟨b,0,none⟩) 16393 16393) (some (.int .i64 (fi:Int))) (some (.int .i64 (la:Int))) none).run Tryz.prog W=.ok (.slice A' (la-fi) (16393-fi)) W)∧RdB w w.heap.size A' (zv L fi la)∧RdS w (λk=>k=b) A' (byc (zv L fi la)):=by
 obtain⟨i0,hi0,hz0,hz1,hz2⟩:=zr qk
 have hl:=h.len
 have hla:=h.la
 obtain⟨A',h1,h2,h3⟩:=zp2 (P:=Tryz.prog) Tryz.underlying22 hi0 hz1 h.reads (c:=16393) (by omega) h.le (by omega)
 rw[hl] at h1
 refine⟨A',h1,h2,λhne=>?_⟩
 have hlen:=h.held_len
 have h0:zv L fi la≠[]:=λe=>hne (by rw[e];rfl)
 obtain⟨g',o',e1,_,hc⟩:=h2 h0
 have hpos:0<la-fi:=by rw[←hlen];exact List.length_pos_iff.2 h0
 have e2:=h3 (by omega)
 rw[e1] at e2
 simp[add_plain] at e2
 obtain⟨e2,e3⟩:=e2
 subst e2
 refine⟨_,_,e1,rfl,λj u hu=>?_⟩
 obtain⟨hj,rfl⟩:=J8 hu
 exact hc j hj
theorem Zn{w:World}{g b fi la:Nat}{L:List UInt8}{wt:Bool}(h:SpG w g b fi la L wt) :
  Calls Tryz.prog 99 #[.pointer (some ⟨g,0,none⟩)] w λe w'=>∃A',e=.returned (.slice A' (la-fi) (16393-fi))∧RdB w w.heap.size A' (zv L fi la)∧RdS w (λk=>k=b) A' (byc (zv L fi la))∧∃n,w'=w.drewN n:=by
 obtain⟨A',hcut,hr,hs⟩:=zqj h
 have c0:=h.c0
 have c1:=h.c1
 have c2:=h.c2
 have HR:=z2w hr
 have HS:=z2w hs
 clear hr hs h
 go_enter Tryz.func99,Tryz.ntmps99
 go_wp2
 go_quiet (fail)
 go_wp2
 go_ret
 exact⟨A',rfl,HR.out,HS.out,_,rfl⟩
end
section
def yx:Frm:=⟨6,0,0,List.replicate 8 0,-1,0,0,0,false,0,[]⟩
theorem Vf:zh yx=[0,0,8,6,0,0,0,0,0,0,0,0,0,0,0,0,0]:=by decide +kernel
theorem z01(A:Option Addr)(c:Nat):(yx.fm A c none 0).c=#[.int .u8 6,.int .u8 0,.int .u32 0,.slice A 8 c,.int .i64 (-1),.int .u32 0,.int .u32 0,.int .u8 0,.bool false,.int .u32 0,.slice none 0 0]:=rfl
end
section
def tx(l:List UInt8):Value:=.string ⟨l.toArray⟩
def zlm(j:Nat):Value:=match j%3 with
 |0=>tx (nmL (j / 3))
 |1=>tx (vlL (j / 3))
 |_=>.bool false
def J3:Array Value:=Ze 183 zlm
def one(k:Nat):Array Value:=#[tx (nmL k),tx (vlL k),.bool false]
def zyd:Array Value:=Ze 183 λj=>match j%3 with
 |2=>.bool false
 |_=>.string ⟨#[]⟩
theorem zir:(Tryz.prog.info? 271).map (λi=>(i.zero,i.size))=some (some (.agg zyd),183):=by kernel_rfl
theorem zeq:J3.size=183:=by kernel_rfl
theorem zpz:J3.all (·.oneCell')=true:=by kernel_rfl
theorem zm3{k:Nat}(h:k<61):J3.extract (k*3) (k*3+3)=one k:=by
 apply Array.ext_getElem?
 intro i
 rw[Array.getElem?_extract,zeq]
 unfold J3 one
 match i with
 |0=>
  rw[if_pos (by omega),yh _ (by omega)]
  unfold zlm
  rw[show (k*3+0)%3=0 by omega,show (k*3+0) / 3=k by omega]
  rfl
 |1=>
  rw[if_pos (by omega),yh _ (by omega)]
  unfold zlm
  rw[show (k*3+1)%3=1 by omega,show (k*3+1) / 3=k by omega]
  rfl
 |2=>
  rw[if_pos (by omega),yh _ (by omega)]
  unfold zlm
  rw[show (k*3+2)%3=2 by omega]
  rfl
 |i+3=>rw[if_neg (by omega)];rfl
attribute [local irreducible] wpList Code.wp one J3
theorem zc9(w:World):Calls Tryz.prog 213 #[] w λe w'=>e=.returned (.agg J3)∧Below w.heap.size w w':=by
 obtain⟨hz,hsz⟩:=zero_of_info zir
 have hsz':(Tryz.prog.info? 271).map (·.size)=some J3.size:=by rw[zeq];exact hsz
 go_enter Tryz.func213,Tryz.ntmps213
 go_upto_region 1 with fail
 rename_i K hK
 apply wp_region_lit
 refine wpList_buildTo rfl 57 _ rfl (some 1) rfl (one 0) (by as_aux_lemma=>kernel_rfl) ?_
 refine wpList_buildTo rfl 57 _ rfl (some 2) rfl (one 1) (by as_aux_lemma=>kernel_rfl) ?_
 refine wpList_buildTo rfl 57 _ rfl (some 3) rfl (one 2) (by as_aux_lemma=>kernel_rfl) ?_
 refine wpList_buildTo rfl 57 _ rfl (some 4) rfl (one 3) (by as_aux_lemma=>kernel_rfl) ?_
 refine wpList_buildTo rfl 57 _ rfl (some 5) rfl (one 4) (by as_aux_lemma=>kernel_rfl) ?_
 refine wpList_buildTo rfl 57 _ rfl (some 6) rfl (one 5) (by as_aux_lemma=>kernel_rfl) ?_
 refine wpList_buildTo rfl 57 _ rfl (some 7) rfl (one 6) (by as_aux_lemma=>kernel_rfl) ?_
 refine wpList_buildTo rfl 57 _ rfl (some 8) rfl (one 7) (by as_aux_lemma=>kernel_rfl) ?_
 refine wpList_buildTo rfl 57 _ rfl (some 9) rfl (one 8) (by as_aux_lemma=>kernel_rfl) ?_
 refine wpList_buildTo rfl 57 _ rfl (some 10) rfl (one 9) (by as_aux_lemma=>kernel_rfl) ?_
 refine wpList_buildTo rfl 57 _ rfl (some 11) rfl (one 10) (by as_aux_lemma=>kernel_rfl) ?_
 refine wpList_buildTo rfl 57 _ rfl (some 12) rfl (one 11) (by as_aux_lemma=>kernel_rfl) ?_
 refine wpList_buildTo rfl 57 _ rfl (some 13) rfl (one 12) (by as_aux_lemma=>kernel_rfl) ?_
 refine wpList_buildTo rfl 57 _ rfl (some 14) rfl (one 13) (by as_aux_lemma=>kernel_rfl) ?_
 refine wpList_buildTo rfl 57 _ rfl (some 15) rfl (one 14) (by as_aux_lemma=>kernel_rfl) ?_
 refine wpList_buildTo rfl 57 _ rfl (some 16) rfl (one 15) (by as_aux_lemma=>kernel_rfl) ?_
 refine wpList_buildTo rfl 57 _ rfl (some 17) rfl (one 16) (by as_aux_lemma=>kernel_rfl) ?_
 refine wpList_buildTo rfl 57 _ rfl (some 18) rfl (one 17) (by as_aux_lemma=>kernel_rfl) ?_
 refine wpList_buildTo rfl 57 _ rfl (some 19) rfl (one 18) (by as_aux_lemma=>kernel_rfl) ?_
 refine wpList_buildTo rfl 57 _ rfl (some 20) rfl (one 19) (by as_aux_lemma=>kernel_rfl) ?_
 refine wpList_buildTo rfl 57 _ rfl (some 21) rfl (one 20) (by as_aux_lemma=>kernel_rfl) ?_
 refine wpList_buildTo rfl 57 _ rfl (some 22) rfl (one 21) (by as_aux_lemma=>kernel_rfl) ?_
 refine wpList_buildTo rfl 57 _ rfl (some 23) rfl (one 22) (by as_aux_lemma=>kernel_rfl) ?_
 refine wpList_buildTo rfl 57 _ rfl (some 24) rfl (one 23) (by as_aux_lemma=>kernel_rfl) ?_
 refine wpList_buildTo rfl 57 _ rfl (some 25) rfl (one 24) (by as_aux_lemma=>kernel_rfl) ?_
 refine wpList_buildTo rfl 57 _ rfl (some 26) rfl (one 25) (by as_aux_lemma=>kernel_rfl) ?_
 refine wpList_buildTo rfl 57 _ rfl (some 27) rfl (one 26) (by as_aux_lemma=>kernel_rfl) ?_
 refine wpList_buildTo rfl 57 _ rfl (some 28) rfl (one 27) (by as_aux_lemma=>kernel_rfl) ?_
 refine wpList_buildTo rfl 57 _ rfl (some 29) rfl (one 28) (by as_aux_lemma=>kernel_rfl) ?_
 refine wpList_buildTo rfl 57 _ rfl (some 30) rfl (one 29) (by as_aux_lemma=>kernel_rfl) ?_
 refine wpList_buildTo rfl 57 _ rfl (some 31) rfl (one 30) (by as_aux_lemma=>kernel_rfl) ?_
 refine wpList_buildTo rfl 57 _ rfl (some 32) rfl (one 31) (by as_aux_lemma=>kernel_rfl) ?_
 refine wpList_buildTo rfl 57 _ rfl (some 33) rfl (one 32) (by as_aux_lemma=>kernel_rfl) ?_
 refine wpList_buildTo rfl 57 _ rfl (some 34) rfl (one 33) (by as_aux_lemma=>kernel_rfl) ?_
 refine wpList_buildTo rfl 57 _ rfl (some 35) rfl (one 34) (by as_aux_lemma=>kernel_rfl) ?_
 refine wpList_buildTo rfl 57 _ rfl (some 36) rfl (one 35) (by as_aux_lemma=>kernel_rfl) ?_
 refine wpList_buildTo rfl 57 _ rfl (some 37) rfl (one 36) (by as_aux_lemma=>kernel_rfl) ?_
 refine wpList_buildTo rfl 57 _ rfl (some 38) rfl (one 37) (by as_aux_lemma=>kernel_rfl) ?_
 refine wpList_buildTo rfl 57 _ rfl (some 39) rfl (one 38) (by as_aux_lemma=>kernel_rfl) ?_
 refine wpList_buildTo rfl 57 _ rfl (some 40) rfl (one 39) (by as_aux_lemma=>kernel_rfl) ?_
 refine wpList_buildTo rfl 57 _ rfl (some 41) rfl (one 40) (by as_aux_lemma=>kernel_rfl) ?_
 refine wpList_buildTo rfl 57 _ rfl (some 42) rfl (one 41) (by as_aux_lemma=>kernel_rfl) ?_
 refine wpList_buildTo rfl 57 _ rfl (some 43) rfl (one 42) (by as_aux_lemma=>kernel_rfl) ?_
 refine wpList_buildTo rfl 57 _ rfl (some 44) rfl (one 43) (by as_aux_lemma=>kernel_rfl) ?_
 refine wpList_buildTo rfl 57 _ rfl (some 45) rfl (one 44) (by as_aux_lemma=>kernel_rfl) ?_
 refine wpList_buildTo rfl 57 _ rfl (some 46) rfl (one 45) (by as_aux_lemma=>kernel_rfl) ?_
 refine wpList_buildTo rfl 57 _ rfl (some 47) rfl (one 46) (by as_aux_lemma=>kernel_rfl) ?_
 refine wpList_buildTo rfl 57 _ rfl (some 48) rfl (one 47) (by as_aux_lemma=>kernel_rfl) ?_
 refine wpList_buildTo rfl 57 _ rfl (some 49) rfl (one 48) (by as_aux_lemma=>kernel_rfl) ?_
 refine wpList_buildTo rfl 57 _ rfl (some 50) rfl (one 49) (by as_aux_lemma=>kernel_rfl) ?_
 refine wpList_buildTo rfl 57 _ rfl (some 51) rfl (one 50) (by as_aux_lemma=>kernel_rfl) ?_
 refine wpList_buildTo rfl 57 _ rfl (some 52) rfl (one 51) (by as_aux_lemma=>kernel_rfl) ?_
 refine wpList_buildTo rfl 57 _ rfl (some 53) rfl (one 52) (by as_aux_lemma=>kernel_rfl) ?_
 refine wpList_buildTo rfl 57 _ rfl (some 54) rfl (one 53) (by as_aux_lemma=>kernel_rfl) ?_
 refine wpList_buildTo rfl 57 _ rfl (some 55) rfl (one 54) (by as_aux_lemma=>kernel_rfl) ?_
 refine wpList_buildTo rfl 57 _ rfl (some 56) rfl (one 55) (by as_aux_lemma=>kernel_rfl) ?_
 refine wpList_buildTo rfl 57 _ rfl (some 57) rfl (one 56) (by as_aux_lemma=>kernel_rfl) ?_
 refine wpList_buildTo rfl 57 _ rfl (some 58) rfl (one 57) (by as_aux_lemma=>kernel_rfl) ?_
 refine wpList_buildTo rfl 57 _ rfl (some 59) rfl (one 58) (by as_aux_lemma=>kernel_rfl) ?_
 refine wpList_buildTo rfl 57 _ rfl (some 60) rfl (one 59) (by as_aux_lemma=>kernel_rfl) ?_
 refine wpList_buildTo rfl 57 _ rfl (some 61) rfl (one 60) (by as_aux_lemma=>kernel_rfl) ?_
 refine wpList_buildTo rfl 271 _ rfl (some 62) rfl J3 (by as_aux_lemma=>kernel_rfl) ?_
 refine wpList_store_rowTo rfl 271 (.tmp 0) (.tmp 62) rfl rfl w.heap.size J3 (by kernel_rfl) (by kernel_rfl) 271 zyd (heap_alloc_last w _) hsz' (by kernel_rfl) zpz ?_
 apply wpList_nil
 refine hK _ _ ?_
 clear hK K
 apply wp_ret
 refine bodyPost_ret (v:=.agg J3) (results_cell_row rfl _ _ w.heap.size 271 J3 (0,0) _ (by kernel_rfl) ((Row.new w _ _).setRow _) Tryz.underlying271 rfl hsz') rfl ⟨rfl,zd ((Below.refl _ _).alloc (Nat.le_refl _) _) _ _ (Nat.le_refl _)⟩
end
end Go.Proofs.YtooaajnkiokpnaaGreatDoor
