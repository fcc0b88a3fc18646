/-
  Part of a proof: nextFrame, by its contract. Conditions: those that each theorem names.
-/
import Derived.Test.YtooaajnkiokpnaaGreatDoorQ01
import Derived.Test.YtooaajnkiokpnaaGreatDoorQ14
import Derived.Test.YtooaajnkiokpnaaGreatDoorQ12
namespace Go.Proofs.YtooaajnkiokpnaaGreatDoor
open Go.RowKit Go.WideShapes
set_option maxHeartbeats 4000000
set_option maxRecDepth 100000
section
theorem z9(s c:Nat):ftc s c=#[.int .u8 s,.int .u32 c]:=by unfold ftc;rfl
theorem Xw{ops:Array Oper}{S:World→Prop}{o:Oper}{a:Act}(hw:Region.wanted o (yielded ops a.tmps)=true)(y:Operand)(ho:o.op=.load 29 y){g:Nat}(hy:a.eval y=.pointer (some ⟨g,0,none⟩)){s c:Nat}(hS:∀w,S w→Row w g 29 (ftc s c)):YieldsIf Tryz.prog ops S o (.agg (ftc s c)) a:=
 .inl ⟨hw,λw hw'=>by
  unfold execOp
  simp only[ho,hy,Instr.loadAt,Instr.sureAddr,Sem.run_bind,Sem.run_pure,Result.andThen_ok,run_loadVar_row w g 29 29 (ftc s c) (0,0) _ (hS w hw') Tryz.underlying29 rfl Zc]⟩
theorem yg{fn:Func}{p q r:Tmp}(h:fn.results=#[.cell p 66,.cell q 29,.tmp r])(tmps:Array Value)(w:World)(g k:Nat)(x:Fm)(s c:Nat)(v:Value)(hp:tmps.getD p undef=.pointer (some ⟨g,0,none⟩))(hR:Row w g 66 x.c)(hq:tmps.getD q undef=.pointer (some ⟨k,0,none⟩))(hK:Row w k 29 (ftc s c))(hr:tmps.getD r undef=v) :
  (results fn tmps).run Tryz.prog w=.ok (.tuple #[.agg x.c,.agg (ftc s c),v]) w:=by
 have hl:=run_loadVar_row (P:=Tryz.prog) w g 66 66 x.c (0,0) _ hR Tryz.underlying66 rfl (Fm.size x)
 have hk:=run_loadVar_row (P:=Tryz.prog) w k 29 29 (ftc s c) (0,0) _ hK Tryz.underlying29 rfl Zc
 have hp':tmps[p]?.getD undef=.pointer (some ⟨g,0,none⟩):=by simpa using hp
 have hq':tmps[q]?.getD undef=.pointer (some ⟨k,0,none⟩):=by simpa using hq
 have hr':tmps[r]?.getD undef=v:=by simpa using hr
 simp only[results,h]
 simp[hp',hq',hr',asAddr,hl,hk]
def ToldP(w:World)(base:Nat)(o:Option Rd)(X:Fm)(s c:Nat)(ok:Bool):Prop:=
 match o with
 |some x=>s=x.2.1∧c=x.2.2∧ok=true∧FmIs w base X x.1
 |none=>X=fm0 0 0 0 0∧s=0∧c=0∧ok=false
theorem ToldP.keep{w w':World}{base:Nat}{o:Option Rd}{X:Fm}{s c:Nat}{ok:Bool}(h:ToldP w base o X s c ok)(hk:∀k,base≤k→k<w.heap.size→w'.heap[k]?=w.heap[k]?):ToldP w' base o X s c ok:=by
 cases o with
 |none=>exact h
 |some x=>exact⟨h.1,h.2.1,h.2.2.1,h.2.2.2.keep hk⟩
theorem ToldP.mono{w:World}{base base':Nat}{o:Option Rd}{X:Fm}{s c:Nat}{ok:Bool}(h:ToldP w base o X s c ok)(hb:base'≤base):ToldP w base' o X s c ok:=by
 cases o with
 |none=>exact h
 |some x=>exact⟨h.1,h.2.1,h.2.2.1,h.2.2.2.mono hb⟩
def zgn(w:World)(base:Nat)(o:Option Rd)(v:Value):Prop:=∃X s c ok,v=.tuple #[.agg (Fm.c X),.agg (ftc s c),.bool ok]∧ToldP w base o X s c ok
def Vr(w:World)(g b la:Nat)(L:List UInt8)(wt:Bool)(r:Option Rd × List UInt8)(e:Ending)(w':World):Prop:=
 ∃v,e=.returned v∧zgn w' w.heap.size r.1 v∧(∃fi',SpG w' g b fi' la L wt∧zv L fi' la=r.2)∧Fs (gbS g b) w w'
theorem yn(L:List UInt8)(fi la n:Nat):zv L (fi+n) la=(zv L fi la).drop n:=by
 unfold zv
 rw[List.drop_take,List.drop_drop,show la-(fi+n)=la-fi-n by omega]
theorem FmIs.skip{w w':World}{base s:Nat}{x:Fm}{F:Frm}(h:FmIs w base x F){w1:World}(hw:Below w.heap.size w w1)(hs:s=w.heap.size)(hf:Fs (λk=>k=s∨k=s+1) w1 w'):FmIs w' base x F:=
 h.keep λk _ h2=>(hf.block k (Nat.lt_of_lt_of_le h2 hw.size) (by omega)).trans (hw.block k h2)
attribute [local irreducible] Fm.c ftc
theorem z1i{w:World}{g b fi la:Nat}{L H:List UInt8}{wt:Bool}(h:SpG w g b fi la L wt)(hG:GlobE w)(hH:zv L fi la=H)(h9:H.length<9) :
  Calls Tryz.prog 98 #[.pointer (some ⟨g,0,none⟩)] w (Vr w g b la L wt (none,H)):=by
 have HX0:Hid (Row ((w.alloc (.cells z2x 66)).alloc (.cells #[.int .u8 0,.int .u32 0] 29)) w.heap.size 66 (fm0 0 0 0 0).c):=by show Row _ _ _ _;rw[z_c];exact(Row.new w _ _).alloc _
 have HT0:Hid (Row ((w.alloc (.cells z2x 66)).alloc (.cells #[.int .u8 0,.int .u32 0] 29)) (w.heap.size+1) 29 (ftc 0 0)):=by show Row _ _ _ _;rw[z9];exact Row.made _ _ _ (by simp)
 have HB0:Hid (Below w.heap.size w ((w.alloc (.cells z2x 66)).alloc (.cells #[.int .u8 0,.int .u32 0] 29))):=((Below.refl _ _).alloc (Nat.le_refl _) _).alloc (by simp) _
 have HS0:Hid (((w.alloc (.cells z2x 66)).alloc (.cells #[.int .u8 0,.int .u32 0] 29)).heap.size=w.heap.size+2):=by show _=_;simp
 have H0:Hid (SpG ((w.alloc (.cells z2x 66)).alloc (.cells #[.int .u8 0,.int .u32 0] 29)) g b fi la L wt):=h.below HB0.out
 have HF0:Hid (Fs (gbS g b) w ((w.alloc (.cells z2x 66)).alloc (.cells #[.int .u8 0,.int .u32 0] 29))):=Fs.of_below HB0.out
 have HG0:Hid (GlobE ((w.alloc (.cells z2x 66)).alloc (.cells #[.int .u8 0,.int .u32 0] 29))):=hG.below HB0.out
 have HL:=z2w h.held_len
 have hle:=h.le
 have hla:=h.la
 have hglt:=h.row.lt
 have hblt:=h.buf.lt
 have HD:=z2w (yn L fi la)
 have HQ:=z2w hH
 have hh0:=Zn H0.out
 rw[hH] at HL HD hh0
 have hnn:la-fi≤16393:=by omega
 obtain⟨m,hm⟩:∃m,m=la-fi:=⟨_,rfl⟩
 have HM:=z2w hm
 obtain⟨C,hC⟩:∃C,C=16393-fi:=⟨_,rfl⟩
 have hmC:m≤C:=by omega
 rw[←hm,←hC] at hh0
 rw[←hm] at HL hnn
 clear h hG hH hm hC
 go_enter Tryz.func98,Tryz.ntmps98
 go_upto_region 1 with fail
 generalize ((w.alloc (.cells z2x 66)).alloc (.cells #[.int .u8 0,.int .u32 0] 29))=w1 at *
 go_wp2_with fail
 refine hh0.mono ?_
 rintro e w2' ⟨A,rfl,hr,hsb,n,rfl⟩
 have HSB2:Hid (RdS (w1.drewN n) (λk=>k=b) A (byc H)):=hsb
 have HR2:Hid (RdB (w1.drewN n) w1.heap.size A H):=hr
 have H2:Hid (SpG (w1.drewN n) g b fi la L wt):=H0.out.drewN n
 have HF2:Hid (Fs (gbS g b) w (w1.drewN n)):=HF0.out.drewN n
 have HG2:Hid (GlobE (w1.drewN n)):=HG0.out
 have HX2:Hid (Row (w1.drewN n) w.heap.size 66 (fm0 0 0 0 0).c):=HX0.out
 have HT2:Hid (Row (w1.drewN n) (w.heap.size+1) 29 (ftc 0 0)):=HT0.out
 have HS2:Hid ((w1.drewN n).heap.size=w.heap.size+2):=HS0.out
 have hr2:w1.heap.size=(w1.drewN n).heap.size:=rfl
 rw[hr2] at HR2
 clear hr hsb hr2 hh0 H0 HF0 HG0 HX0 HT0 HS0 HB0
 generalize w1.drewN n=w2 at *
 have hhd:=λW=>zkg (A:=A) (c:=C) (n:=m) (w:=W) (by rw[←HL.out];exact h9)
 have HT9:=z2w (HT2.out.setRow' (k:=w.heap.size) (by omega) (fm0 0 0 0 0).c)
 have HF9:=z2w ((HF2.out.setRow (g:=w.heap.size) (λh=>by omega) (fm0 0 0 0 0).c).setRow (g:=w.heap.size+1) (λh=>by omega) (ftc 0 0))
 have H9:=z2w (H2.out.fs (S:=λk=>k=w.heap.size∨k=w.heap.size+1) (((Fs.refl _ w2).setRow (g:=w.heap.size) (λ_=>.inl rfl) (fm0 0 0 0 0).c).setRow (g:=w.heap.size+1) (λ_=>.inr rfl) (ftc 0 0)) (by omega) (by omega))
 clear h9
 go_wp2_with fail
 refine(hhd _).mono ?_
 rintro e w2' ⟨rfl,rfl⟩
 clear hhd
 go_wp2_with (first|(refine qe (x:=fm0 0 0 0 0) rfl _ _ rfl rfl (by rw[z_c];rfl) HX2.out ?_)|(refine qf rfl _ _ rfl rfl (show _=Value.agg (ftc 0 0) by rw[z9];rfl) HT9.out ?_))
 refine bodyPost_ret (yg rfl _ _ w.heap.size (w.heap.size+1) (fm0 0 0 0 0) 0 0 (.bool false) rfl ((HX2.out.setRow _).setRow' (by omega) _) rfl (HT9.out.setRow _) rfl) rfl ?_
 exact⟨_,rfl,⟨_,_,_,_,rfl,rfl,rfl,rfl,rfl⟩,⟨fi,H9.out,HQ.out⟩,HF9.out⟩
theorem z1z{w:World}{g b fi la:Nat}{L H:List UInt8}{wt:Bool}(h:SpG w g b fi la L wt)(hG:GlobE w)(hH:zv L fi la=H)(h9:9≤H.length)(hbig:16393<ql H) :
  Calls Tryz.prog 98 #[.pointer (some ⟨g,0,none⟩)] w (Vr w g b la L wt (some (qz H),H)):=by
 have HX0:Hid (Row ((w.alloc (.cells z2x 66)).alloc (.cells #[.int .u8 0,.int .u32 0] 29)) w.heap.size 66 (fm0 0 0 0 0).c):=by show Row _ _ _ _;rw[z_c];exact(Row.new w _ _).alloc _
 have HT0:Hid (Row ((w.alloc (.cells z2x 66)).alloc (.cells #[.int .u8 0,.int .u32 0] 29)) (w.heap.size+1) 29 (ftc 0 0)):=by show Row _ _ _ _;rw[z9];exact Row.made _ _ _ (by simp)
 have HB0:Hid (Below w.heap.size w ((w.alloc (.cells z2x 66)).alloc (.cells #[.int .u8 0,.int .u32 0] 29))):=((Below.refl _ _).alloc (Nat.le_refl _) _).alloc (by simp) _
 have HS0:Hid (((w.alloc (.cells z2x 66)).alloc (.cells #[.int .u8 0,.int .u32 0] 29)).heap.size=w.heap.size+2):=by show _=_;simp
 have H0:Hid (SpG ((w.alloc (.cells z2x 66)).alloc (.cells #[.int .u8 0,.int .u32 0] 29)) g b fi la L wt):=h.below HB0.out
 have HF0:Hid (Fs (gbS g b) w ((w.alloc (.cells z2x 66)).alloc (.cells #[.int .u8 0,.int .u32 0] 29))):=Fs.of_below HB0.out
 have HG0:Hid (GlobE ((w.alloc (.cells z2x 66)).alloc (.cells #[.int .u8 0,.int .u32 0] 29))):=hG.below HB0.out
 have HL:=z2w h.held_len
 have hle:=h.le
 have hla:=h.la
 have hglt:=h.row.lt
 have hblt:=h.buf.lt
 have HD:=z2w (yn L fi la)
 have HQ:=z2w hH
 have hh0:=Zn H0.out
 rw[hH] at HL HD hh0
 have hnn:la-fi≤16393:=by omega
 obtain⟨m,hm⟩:∃m,m=la-fi:=⟨_,rfl⟩
 have HM:=z2w hm
 obtain⟨C,hC⟩:∃C,C=16393-fi:=⟨_,rfl⟩
 have hmC:m≤C:=by omega
 rw[←hm,←hC] at hh0
 rw[←hm] at HL hnn
 clear h hG hH hm hC
 go_enter Tryz.func98,Tryz.ntmps98
 go_upto_region 1 with fail
 generalize ((w.alloc (.cells z2x 66)).alloc (.cells #[.int .u8 0,.int .u32 0] 29))=w1 at *
 go_wp2_with fail
 refine hh0.mono ?_
 rintro e w2' ⟨A,rfl,hr,hsb,n,rfl⟩
 have HSB2:Hid (RdS (w1.drewN n) (λk=>k=b) A (byc H)):=hsb
 have HR2:Hid (RdB (w1.drewN n) w1.heap.size A H):=hr
 have H2:Hid (SpG (w1.drewN n) g b fi la L wt):=H0.out.drewN n
 have HF2:Hid (Fs (gbS g b) w (w1.drewN n)):=HF0.out.drewN n
 have HG2:Hid (GlobE (w1.drewN n)):=HG0.out
 have HX2:Hid (Row (w1.drewN n) w.heap.size 66 (fm0 0 0 0 0).c):=HX0.out
 have HT2:Hid (Row (w1.drewN n) (w.heap.size+1) 29 (ftc 0 0)):=HT0.out
 have HS2:Hid ((w1.drewN n).heap.size=w.heap.size+2):=HS0.out
 have hr2:w1.heap.size=(w1.drewN n).heap.size:=rfl
 rw[hr2] at HR2
 clear hr hsb hr2 hh0 H0 HF0 HG0 HX0 HT0 HS0 HB0
 generalize w1.drewN n=w2 at *
 have hh:=λW=>Xf (c:=C) (w:=W) (B:=w2.heap.size) (A:=A) (l:=H)
 rw[HL.out] at hh
 go_wp2_with fail
 refine(hh _ HR2.out (by rw[←HL.out];exact h9) (by omega)).mono ?_
 rintro e w3' ⟨rfl,nq,rfl⟩
 have HR3:Hid (RdB (w2.drewN nq) w2.heap.size A H):=HR2.out
 have HSB3:Hid (RdS (w2.drewN nq) (λk=>k=b) A (byc H)):=HSB2.out
 have H3:Hid (SpG (w2.drewN nq) g b fi la L wt):=H2.out.drewN nq
 have HF3:Hid (Fs (gbS g b) w (w2.drewN nq)):=HF2.out.drewN nq
 have HG3:Hid (GlobE (w2.drewN nq)):=HG2.out
 have HX3:Hid (Row (w2.drewN nq) w.heap.size 66 (fm0 0 0 0 0).c):=HX2.out
 have HT3:Hid (Row (w2.drewN nq) (w.heap.size+1) 29 (ftc 0 0)):=HT2.out
 have HS3:Hid ((w2.drewN nq).heap.size=w.heap.size+2):=HS2.out
 have hr2:w2.heap.size=(w2.drewN nq).heap.size:=rfl
 rw[hr2] at HR3
 have hv:zt (H.take 3)<16777216:=by
  have:=zbv (l:=H.take 3) (k:=3) (by rw[List.length_take];omega)
  simpa using this
 have hNv:9+zt (H.take 3)=ql H:=rfl
 rw[hNv]
 have hN9:9≤ql H:=by omega
 have hNb:ql H≤17000000:=by omega
 have hml:=HL.out
 clear hr2 hh H2 HF2 HG2 HX2 HT2 HS2 HR2 HSB2 hNv hv
 generalize w2.drewN nq=w3 at *
 generalize hNN:ql H=N at *
 have HNN:=z2w hNN
 clear hNN
 have hd1:decide ((16393:Int)<(N:Int))=true:=by simp;omega
 have htg:=zvb (c:=C) HR3.out h9 (by omega)
 rw[hml] at htg
 have HGT:=z2w (zvv h9)
 have hTL:=ziy h9
 clear hml
 go_wp2_with fail
 refine htg.mono ?_
 rintro e w4 ⟨⟨k,rfl,hr4⟩,hb4⟩
 have HG4:=z2w (HG3.out.below hb4)
 have H4:=z2w (H3.out.below hb4)
 have HF4:=z2w (HF3.out.then_below hb4)
 have HX4:=z2w (HX3.out.below hb4 HX3.out.lt)
 have HT4:=z2w (HT3.out.below hb4 HT3.out.lt)
 have HS4:Hid (w.heap.size+2≤w4.heap.size):=by show _≤_;rw[←HS3.out];exact hb4.size
 have hgt:=zi8 (c:=16394) hr4 (by rw[hTL];omega) (by rw[hTL];omega) HG4.out
 rw[hTL,HGT.out] at hgt
 clear htg hr4 hb4 hTL HGT H3 HF3 HG3 HX3 HT3 HS3 HR3
 go_wp2_with fail
 refine hgt.mono ?_
 rintro e w5 ⟨X,rfl,hX,hb5⟩
 have H5:=z2w (H4.out.below hb5)
 have HF5:=z2w (HF4.out.then_below hb5)
 have HX5:=z2w (HX4.out.below hb5 HX4.out.lt)
 have HT5:=z2w (HT4.out.below hb5 HT4.out.lt)
 have HS5:Hid (w.heap.size+2≤w5.heap.size):=Nat.le_trans HS4.out hb5.size
 have HM5:Hid (FmIs w5 (w.heap.size+2) X (qz H).1):=hX.mono HS4.out
 clear hgt hX hb5 H4 HF4 HX4 HT4 HS4 HG4
 have HX6:Hid (Row ((w5.alloc (.cells z2x 66)).alloc (.cells #[.int .u8 0,.int .u32 0] 29)) w5.heap.size 66 (fm0 0 0 0 0).c):=by show Row _ _ _ _;rw[z_c];exact(Row.new w5 _ _).alloc _
 have HT6:Hid (Row ((w5.alloc (.cells z2x 66)).alloc (.cells #[.int .u8 0,.int .u32 0] 29)) (w5.heap.size+1) 29 (ftc 0 0)):=by show Row _ _ _ _;rw[z9];exact Row.made _ _ _ (by simp)
 have HB6:Hid (Below w5.heap.size w5 ((w5.alloc (.cells z2x 66)).alloc (.cells #[.int .u8 0,.int .u32 0] 29))):=((Below.refl _ _).alloc (Nat.le_refl _) _).alloc (by simp) _
 have HS6:Hid (((w5.alloc (.cells z2x 66)).alloc (.cells #[.int .u8 0,.int .u32 0] 29)).heap.size=w5.heap.size+2):=by show _=_;simp
 have hs5:=HS5.out
 have H7:=z2w (H5.out.below HB6.out)
 have HF7:=z2w (HF5.out.then_below HB6.out)
 have HX7:=z2w (HX5.out.below HB6.out HX5.out.lt)
 have HT7:=z2w (HT5.out.below HB6.out HT5.out.lt)
 have HS7:Hid (w.heap.size+2≤((w5.alloc (.cells z2x 66)).alloc (.cells #[.int .u8 0,.int .u32 0] 29)).heap.size):=Nat.le_trans HS5.out HB6.out.size
 have HB7:=HB6
 clear H5 HF5 HX5 HT5 HS5 HB6
 go_wp2_with (first|(with_reducible show wpList _ _ _ _ _ _;first|(refine qe (x:=X) rfl _ _ rfl rfl rfl HX6.out ?_)|(refine qf (s:=(qz H).2.1) (c:=(qz H).2.2) rfl _ _ rfl rfl rfl (HT6.out.setRow' (k:=w5.heap.size) (by omega) X.c) ?_)))
 have HX8:=z2w ((HX6.out.setRow X.c).setRow' (k:=w5.heap.size+1) (by omega) (ftc (qz H).2.1 (qz H).2.2))
 have HT8:=z2w ((HT6.out.setRow' (k:=w5.heap.size) (by omega) X.c).setRow (ftc (qz H).2.1 (qz H).2.2))
 have HSS:=z2w (((Fs.refl (λk=>k=w5.heap.size∨k=w5.heap.size+1) ((w5.alloc (.cells z2x 66)).alloc (.cells #[.int .u8 0,.int .u32 0] 29))).setRow (g:=w5.heap.size) (λ_=>.inl rfl) X.c).setRow (g:=w5.heap.size+1) (λ_=>.inr rfl) (ftc (qz H).2.1 (qz H).2.2))
 have HY8:=z2w (HSS.out.row (by omega) HX7.out)
 have HU8:=z2w (HSS.out.row (by omega) HT7.out)
 generalize ((((w5.alloc (.cells z2x 66)).alloc (.cells #[.int .u8 0,.int .u32 0] 29)).setRow w5.heap.size X.c).setRow (w5.heap.size+1) (ftc (qz H).2.1 (qz H).2.2))=w8 at *
 have H8:=z2w (H7.out.fs HSS.out (by omega) (by omega))
 have HF8:=z2w (HF7.out.trans HSS.out (λk hk h=>by omega))
 have HM8:=z2w (HM5.out.skip HB7.out rfl HSS.out)
 clear HX6 HT6 HX7 HT7 HSS H7 HF7 HS6 HS7 HM5 HB7
 refine wp_region_held_drew (S:=λw'=>Row w' w5.heap.size 66 (Fm.c X)∧Row w' (w5.heap.size+1) 29 (ftc (qz H).2.1 (qz H).2.2)) (by kernel_rfl) ⟨HX8.out,HT8.out⟩ (λhHeld=>?_)
 refine tkY 0 rfl (qm (by rfl) _ rfl rfl (λ_ hSw=>hSw.1)) ?_
 refine tkY 1 rfl (Xw (by rfl) _ rfl rfl (λ_ hSw=>hSw.2)) ?_
 refine rdH 2 λK hK=>?_
 refine xf (x:=X) rfl (.tmp 2) (.tmp 27) rfl rfl rfl HY8.out ?_
 refine hK.out _ _ ⟨hHeld.1.setRow' (by omega) _,hHeld.2.setRow' (by omega) _⟩ (λhHeld=>?_)
 clear hK K
 try refine ptk ?_
 refine rdH 3 λK hK=>?_
 refine Xi rfl (.tmp 3) (.tmp 28) rfl rfl rfl (Row.setRow' (show Row (World.drew _) _ _ _ from HU8.out) (k:=w.heap.size) (by omega) _) ?_
 refine hK.out _ _ ⟨hHeld.1.setRow' (by omega) _,hHeld.2.setRow' (by omega) _⟩ (λhHeld=>?_)
 clear hK K
 try refine ptk ?_
 refine tkH 4 ?_
 refine dnH ?_
 go_wp2_with fail
 refine bodyPost_ret (yg rfl _ _ w.heap.size (w.heap.size+1) X (qz H).2.1 (qz H).2.2 (.bool true) rfl (Row.setRow' (Row.setRow (show Row w8.drew _ _ _ from HY8.out) _) (by omega) _) rfl (Row.setRow (Row.setRow' (show Row w8.drew _ _ _ from HU8.out) (by omega) _) _) rfl) rfl ?_
 have HZ:Fs (λk=>k=w.heap.size∨k=w.heap.size+1) w8 ((w8.drew.setRow w.heap.size X.c).setRow (w.heap.size+1) (ftc (qz H).2.1 (qz H).2.2)):=(((Fs.refl _ w8).drewN 1).setRow (g:=w.heap.size) (λ_=>.inl rfl) X.c).setRow (g:=w.heap.size+1) (λ_=>.inr rfl) (ftc (qz H).2.1 (qz H).2.2)
 exact⟨_,rfl,⟨X,_,_,_,rfl,rfl,rfl,rfl,(HM8.out.far HZ (λk hk h=>by omega)).mono (by omega)⟩,⟨fi,H8.out.fs HZ (by omega) (by omega),HQ.out⟩,HF8.out.trans HZ (λk hk h=>by omega)⟩
theorem z1p{w:World}{g b fi la:Nat}{L H:List UInt8}{wt:Bool}(h:SpG w g b fi la L wt)(hG:GlobE w)(hH:zv L fi la=H)(h9:9≤H.length)(hsm:ql H≤16393)(hlt:H.length<ql H) :
  Calls Tryz.prog 98 #[.pointer (some ⟨g,0,none⟩)] w (Vr w g b la L wt (none,H)):=by
 have HX0:Hid (Row ((w.alloc (.cells z2x 66)).alloc (.cells #[.int .u8 0,.int .u32 0] 29)) w.heap.size 66 (fm0 0 0 0 0).c):=by show Row _ _ _ _;rw[z_c];exact(Row.new w _ _).alloc _
 have HT0:Hid (Row ((w.alloc (.cells z2x 66)).alloc (.cells #[.int .u8 0,.int .u32 0] 29)) (w.heap.size+1) 29 (ftc 0 0)):=by show Row _ _ _ _;rw[z9];exact Row.made _ _ _ (by simp)
 have HB0:Hid (Below w.heap.size w ((w.alloc (.cells z2x 66)).alloc (.cells #[.int .u8 0,.int .u32 0] 29))):=((Below.refl _ _).alloc (Nat.le_refl _) _).alloc (by simp) _
 have HS0:Hid (((w.alloc (.cells z2x 66)).alloc (.cells #[.int .u8 0,.int .u32 0] 29)).heap.size=w.heap.size+2):=by show _=_;simp
 have H0:Hid (SpG ((w.alloc (.cells z2x 66)).alloc (.cells #[.int .u8 0,.int .u32 0] 29)) g b fi la L wt):=h.below HB0.out
 have HF0:Hid (Fs (gbS g b) w ((w.alloc (.cells z2x 66)).alloc (.cells #[.int .u8 0,.int .u32 0] 29))):=Fs.of_below HB0.out
 have HG0:Hid (GlobE ((w.alloc (.cells z2x 66)).alloc (.cells #[.int .u8 0,.int .u32 0] 29))):=hG.below HB0.out
 have HL:=z2w h.held_len
 have hle:=h.le
 have hla:=h.la
 have hglt:=h.row.lt
 have hblt:=h.buf.lt
 have HD:=z2w (yn L fi la)
 have HQ:=z2w hH
 have hh0:=Zn H0.out
 rw[hH] at HL HD hh0
 have hnn:la-fi≤16393:=by omega
 obtain⟨m,hm⟩:∃m,m=la-fi:=⟨_,rfl⟩
 have HM:=z2w hm
 obtain⟨C,hC⟩:∃C,C=16393-fi:=⟨_,rfl⟩
 have hmC:m≤C:=by omega
 rw[←hm,←hC] at hh0
 rw[←hm] at HL hnn
 clear h hG hH hm hC
 go_enter Tryz.func98,Tryz.ntmps98
 go_upto_region 1 with fail
 generalize ((w.alloc (.cells z2x 66)).alloc (.cells #[.int .u8 0,.int .u32 0] 29))=w1 at *
 go_wp2_with fail
 refine hh0.mono ?_
 rintro e w2' ⟨A,rfl,hr,hsb,n,rfl⟩
 have HSB2:Hid (RdS (w1.drewN n) (λk=>k=b) A (byc H)):=hsb
 have HR2:Hid (RdB (w1.drewN n) w1.heap.size A H):=hr
 have H2:Hid (SpG (w1.drewN n) g b fi la L wt):=H0.out.drewN n
 have HF2:Hid (Fs (gbS g b) w (w1.drewN n)):=HF0.out.drewN n
 have HG2:Hid (GlobE (w1.drewN n)):=HG0.out
 have HX2:Hid (Row (w1.drewN n) w.heap.size 66 (fm0 0 0 0 0).c):=HX0.out
 have HT2:Hid (Row (w1.drewN n) (w.heap.size+1) 29 (ftc 0 0)):=HT0.out
 have HS2:Hid ((w1.drewN n).heap.size=w.heap.size+2):=HS0.out
 have hr2:w1.heap.size=(w1.drewN n).heap.size:=rfl
 rw[hr2] at HR2
 clear hr hsb hr2 hh0 H0 HF0 HG0 HX0 HT0 HS0 HB0
 generalize w1.drewN n=w2 at *
 have hh:=λW=>Xf (c:=C) (w:=W) (B:=w2.heap.size) (A:=A) (l:=H)
 rw[HL.out] at hh
 go_wp2_with fail
 refine(hh _ HR2.out (by rw[←HL.out];exact h9) (by omega)).mono ?_
 rintro e w3' ⟨rfl,nq,rfl⟩
 have HR3:Hid (RdB (w2.drewN nq) w2.heap.size A H):=HR2.out
 have HSB3:Hid (RdS (w2.drewN nq) (λk=>k=b) A (byc H)):=HSB2.out
 have H3:Hid (SpG (w2.drewN nq) g b fi la L wt):=H2.out.drewN nq
 have HF3:Hid (Fs (gbS g b) w (w2.drewN nq)):=HF2.out.drewN nq
 have HG3:Hid (GlobE (w2.drewN nq)):=HG2.out
 have HX3:Hid (Row (w2.drewN nq) w.heap.size 66 (fm0 0 0 0 0).c):=HX2.out
 have HT3:Hid (Row (w2.drewN nq) (w.heap.size+1) 29 (ftc 0 0)):=HT2.out
 have HS3:Hid ((w2.drewN nq).heap.size=w.heap.size+2):=HS2.out
 have hr2:w2.heap.size=(w2.drewN nq).heap.size:=rfl
 rw[hr2] at HR3
 have hv:zt (H.take 3)<16777216:=by
  have:=zbv (l:=H.take 3) (k:=3) (by rw[List.length_take];omega)
  simpa using this
 have hNv:9+zt (H.take 3)=ql H:=rfl
 rw[hNv]
 have hN9:9≤ql H:=by omega
 have hNb:ql H≤17000000:=by omega
 have hml:=HL.out
 clear hr2 hh H2 HF2 HG2 HX2 HT2 HS2 HR2 HSB2 hNv hv
 generalize w2.drewN nq=w3 at *
 generalize hNN:ql H=N at *
 have HNN:=z2w hNN
 clear hNN
 rw[hml] at hlt
 have hd1:decide ((16393:Int)<(N:Int))=false:=by simp;omega
 have hd2:decide ((m:Int)<(N:Int))=true:=by simp;omega
 have HT9:=z2w (HT3.out.setRow' (k:=w.heap.size) (by omega) (fm0 0 0 0 0).c)
 have HF9:=z2w ((HF3.out.setRow (g:=w.heap.size) (λh=>by omega) (fm0 0 0 0 0).c).setRow (g:=w.heap.size+1) (λh=>by omega) (ftc 0 0))
 have H9:=z2w (H3.out.fs (S:=λk=>k=w.heap.size∨k=w.heap.size+1) (((Fs.refl _ w3).setRow (g:=w.heap.size) (λ_=>.inl rfl) (fm0 0 0 0 0).c).setRow (g:=w.heap.size+1) (λ_=>.inr rfl) (ftc 0 0)) (by omega) (by omega))
 clear hml
 go_wp2_with (first|(refine qe (x:=fm0 0 0 0 0) rfl _ _ rfl rfl (by rw[z_c];rfl) HX3.out ?_)|(refine qf rfl _ _ rfl rfl (show _=Value.agg (ftc 0 0) by rw[z9];rfl) HT9.out ?_))
 refine bodyPost_ret (yg rfl _ _ w.heap.size (w.heap.size+1) (fm0 0 0 0 0) 0 0 (.bool false) rfl ((HX3.out.setRow _).setRow' (by omega) _) rfl (HT9.out.setRow _) rfl) rfl ?_
 exact⟨_,rfl,⟨_,_,_,_,rfl,rfl,rfl,rfl,rfl⟩,⟨fi,H9.out,HQ.out⟩,HF9.out⟩
theorem z1v{w:World}{g b fi la:Nat}{L H:List UInt8}{wt:Bool}(h:SpG w g b fi la L wt)(hG:GlobE w)(hH:zv L fi la=H)(h9:9≤H.length)(hsm:ql H≤16393)(hge:ql H≤H.length) :
  Calls Tryz.prog 98 #[.pointer (some ⟨g,0,none⟩)] w (Vr w g b la L wt (some (Zu (H.take (ql H))),H.drop (ql H))):=by
 have HX0:Hid (Row ((w.alloc (.cells z2x 66)).alloc (.cells #[.int .u8 0,.int .u32 0] 29)) w.heap.size 66 (fm0 0 0 0 0).c):=by show Row _ _ _ _;rw[z_c];exact(Row.new w _ _).alloc _
 have HT0:Hid (Row ((w.alloc (.cells z2x 66)).alloc (.cells #[.int .u8 0,.int .u32 0] 29)) (w.heap.size+1) 29 (ftc 0 0)):=by show Row _ _ _ _;rw[z9];exact Row.made _ _ _ (by simp)
 have HB0:Hid (Below w.heap.size w ((w.alloc (.cells z2x 66)).alloc (.cells #[.int .u8 0,.int .u32 0] 29))):=((Below.refl _ _).alloc (Nat.le_refl _) _).alloc (by simp) _
 have HS0:Hid (((w.alloc (.cells z2x 66)).alloc (.cells #[.int .u8 0,.int .u32 0] 29)).heap.size=w.heap.size+2):=by show _=_;simp
 have H0:Hid (SpG ((w.alloc (.cells z2x 66)).alloc (.cells #[.int .u8 0,.int .u32 0] 29)) g b fi la L wt):=h.below HB0.out
 have HF0:Hid (Fs (gbS g b) w ((w.alloc (.cells z2x 66)).alloc (.cells #[.int .u8 0,.int .u32 0] 29))):=Fs.of_below HB0.out
 have HG0:Hid (GlobE ((w.alloc (.cells z2x 66)).alloc (.cells #[.int .u8 0,.int .u32 0] 29))):=hG.below HB0.out
 have HL:=z2w h.held_len
 have hle:=h.le
 have hla:=h.la
 have hglt:=h.row.lt
 have hblt:=h.buf.lt
 have HD:=z2w (yn L fi la)
 have HQ:=z2w hH
 have hh0:=Zn H0.out
 rw[hH] at HL HD hh0
 have hnn:la-fi≤16393:=by omega
 obtain⟨m,hm⟩:∃m,m=la-fi:=⟨_,rfl⟩
 have HM:=z2w hm
 obtain⟨C,hC⟩:∃C,C=16393-fi:=⟨_,rfl⟩
 have hmC:m≤C:=by omega
 rw[←hm,←hC] at hh0
 rw[←hm] at HL hnn
 clear h hG hH hm hC
 go_enter Tryz.func98,Tryz.ntmps98
 go_upto_region 1 with fail
 generalize ((w.alloc (.cells z2x 66)).alloc (.cells #[.int .u8 0,.int .u32 0] 29))=w1 at *
 go_wp2_with fail
 refine hh0.mono ?_
 rintro e w2' ⟨A,rfl,hr,hsb,n,rfl⟩
 have HSB2:Hid (RdS (w1.drewN n) (λk=>k=b) A (byc H)):=hsb
 have HR2:Hid (RdB (w1.drewN n) w1.heap.size A H):=hr
 have H2:Hid (SpG (w1.drewN n) g b fi la L wt):=H0.out.drewN n
 have HF2:Hid (Fs (gbS g b) w (w1.drewN n)):=HF0.out.drewN n
 have HG2:Hid (GlobE (w1.drewN n)):=HG0.out
 have HX2:Hid (Row (w1.drewN n) w.heap.size 66 (fm0 0 0 0 0).c):=HX0.out
 have HT2:Hid (Row (w1.drewN n) (w.heap.size+1) 29 (ftc 0 0)):=HT0.out
 have HS2:Hid ((w1.drewN n).heap.size=w.heap.size+2):=HS0.out
 have hr2:w1.heap.size=(w1.drewN n).heap.size:=rfl
 rw[hr2] at HR2
 clear hr hsb hr2 hh0 H0 HF0 HG0 HX0 HT0 HS0 HB0
 generalize w1.drewN n=w2 at *
 have hh:=λW=>Xf (c:=C) (w:=W) (B:=w2.heap.size) (A:=A) (l:=H)
 rw[HL.out] at hh
 go_wp2_with fail
 refine(hh _ HR2.out (by rw[←HL.out];exact h9) (by omega)).mono ?_
 rintro e w3' ⟨rfl,nq,rfl⟩
 have HR3:Hid (RdB (w2.drewN nq) w2.heap.size A H):=HR2.out
 have HSB3:Hid (RdS (w2.drewN nq) (λk=>k=b) A (byc H)):=HSB2.out
 have H3:Hid (SpG (w2.drewN nq) g b fi la L wt):=H2.out.drewN nq
 have HF3:Hid (Fs (gbS g b) w (w2.drewN nq)):=HF2.out.drewN nq
 have HG3:Hid (GlobE (w2.drewN nq)):=HG2.out
 have HX3:Hid (Row (w2.drewN nq) w.heap.size 66 (fm0 0 0 0 0).c):=HX2.out
 have HT3:Hid (Row (w2.drewN nq) (w.heap.size+1) 29 (ftc 0 0)):=HT2.out
 have HS3:Hid ((w2.drewN nq).heap.size=w.heap.size+2):=HS2.out
 have hr2:w2.heap.size=(w2.drewN nq).heap.size:=rfl
 rw[hr2] at HR3
 have hv:zt (H.take 3)<16777216:=by
  have:=zbv (l:=H.take 3) (k:=3) (by rw[List.length_take];omega)
  simpa using this
 have hNv:9+zt (H.take 3)=ql H:=rfl
 rw[hNv]
 have hN9:9≤ql H:=by omega
 have hNb:ql H≤17000000:=by omega
 have hml:=HL.out
 clear hr2 hh H2 HF2 HG2 HX2 HT2 HS2 HR2 HSB2 hNv hv
 generalize w2.drewN nq=w3 at *
 generalize hNN:ql H=N at *
 have HNN:=z2w hNN
 clear hNN
 have hd1:decide ((16393:Int)<(N:Int))=false:=by simp;omega
 rw[hml] at hge
 have hd2:decide ((m:Int)<(N:Int))=false:=by simp;omega
 obtain⟨i0,hi0,hz0,hz1,hz2⟩:=zr qk
 obtain⟨hcut,hRN⟩:=xi (P:=Tryz.prog) Tryz.underlying22 hi0 hz1 HR3.out (c:=C) (k:=N) (by omega) (by omega)
 rw[hml] at hcut
 have hfN:fi+N≤la:=by have:=HM.out;omega
 have c1:=H3.out.c1
 have t1:=Row.thawed H3.out.row 1
 have H3s:=z2w (H3.out.set1 (fi':=fi+N) hfN)
 have HF3s:=z2w (HF3.out.setCell (g:=g) (λ_=>.inl rfl) 1 (.int .i64 ((fi+N:Nat):Int)))
 have HW:=z2w ((Fs.refl (λk=>k=g) w3).setCell (g:=g) (λ_=>rfl) 1 (.int .i64 ((fi+N:Nat):Int)))
 have HG3s:=z2w (HG3.out.fs HW.out (by have:=H3.out.lo;omega))
 have HX3s:=z2w (HW.out.row (b:=w.heap.size) (by omega) HX3.out)
 have HT3s:=z2w (HW.out.row (b:=w.heap.size+1) (by omega) HT3.out)
 have HR3s:Hid (RdB (w3.setCell ⟨g,1,none⟩ (.int .i64 ((fi+N:Nat):Int))) (w3.setCell ⟨g,1,none⟩ (.int .i64 ((fi+N:Nat):Int))).heap.size A (H.take N)):=by
  show RdB _ _ _ _
  have hS:=HW.out.reads HSB3.out (λk hk=>⟨by rw[hk];exact H3.out.buf.lt,λe=>H3.out.ne (hk.symm.trans e)⟩)
  refine RdB.upto (m:=H.drop N) ?_
  rw[List.take_append_drop]
  exact RdB.ofS hS λk hk _=>by rw[hk];exact Nat.lt_of_lt_of_le H3.out.buf.lt HW.out.size
 have hTN:(H.take N).length=N:=by rw[List.length_take];omega
 have hgt:=zi8 (c:=C) HR3s.out (by rw[hTN];omega) (by rw[hTN];omega) HG3s.out
 rw[hTN] at hgt
 generalize hRR:Zu (H.take N)=RN at *
 clear hRR hRN HR3s HR3 HSB3 HW HG3 H3 HF3 HX3 HT3 HG3s
 have hs3:Hid (w.heap.size+2≤(w3.setCell ⟨g,1,none⟩ (.int .i64 ((fi+N:Nat):Int))).heap.size):=by show _≤_;simp[World.setCell,HS3.out]
 rw[show ((fi+N:Nat):Int)=(fi:Int)+(N:Int) by omega] at hgt H3s HF3s HX3s HT3s hs3
 go_wp2_with fail
 refine hgt.mono ?_
 rintro e w5 ⟨X,rfl,hX,hb5⟩
 generalize w3.setCell ⟨g,1,none⟩ (.int .i64 ((fi:Int)+(N:Int)))=w4 at *
 have H5:=z2w (H3s.out.below hb5)
 have HF5:=z2w (HF3s.out.then_below hb5)
 have HX5:=z2w (HX3s.out.below hb5 HX3s.out.lt)
 have HT5:=z2w (HT3s.out.below hb5 HT3s.out.lt)
 have HS5:Hid (w.heap.size+2≤w5.heap.size):=Nat.le_trans hs3.out hb5.size
 have HM5:Hid (FmIs w5 (w.heap.size+2) X RN.1):=hX.mono hs3.out
 clear hgt hX hb5 H3s HF3s HX3s HT3s hs3 c1 t1 hcut hTN
 have HX6:Hid (Row ((w5.alloc (.cells z2x 66)).alloc (.cells #[.int .u8 0,.int .u32 0] 29)) w5.heap.size 66 (fm0 0 0 0 0).c):=by show Row _ _ _ _;rw[z_c];exact(Row.new w5 _ _).alloc _
 have HT6:Hid (Row ((w5.alloc (.cells z2x 66)).alloc (.cells #[.int .u8 0,.int .u32 0] 29)) (w5.heap.size+1) 29 (ftc 0 0)):=by show Row _ _ _ _;rw[z9];exact Row.made _ _ _ (by simp)
 have HB6:Hid (Below w5.heap.size w5 ((w5.alloc (.cells z2x 66)).alloc (.cells #[.int .u8 0,.int .u32 0] 29))):=((Below.refl _ _).alloc (Nat.le_refl _) _).alloc (by simp) _
 have HS6:Hid (((w5.alloc (.cells z2x 66)).alloc (.cells #[.int .u8 0,.int .u32 0] 29)).heap.size=w5.heap.size+2):=by show _=_;simp
 have hs5:=HS5.out
 have H7:=z2w (H5.out.below HB6.out)
 have HF7:=z2w (HF5.out.then_below HB6.out)
 have HX7:=z2w (HX5.out.below HB6.out HX5.out.lt)
 have HT7:=z2w (HT5.out.below HB6.out HT5.out.lt)
 have HS7:Hid (w.heap.size+2≤((w5.alloc (.cells z2x 66)).alloc (.cells #[.int .u8 0,.int .u32 0] 29)).heap.size):=Nat.le_trans HS5.out HB6.out.size
 have HB7:=HB6
 clear H5 HF5 HX5 HT5 HS5 HB6
 go_wp2_with (first|(with_reducible show wpList _ _ _ _ _ _;first|(refine qe (x:=X) rfl _ _ rfl rfl rfl HX6.out ?_)|(refine qf (s:=RN.2.1) (c:=RN.2.2) rfl _ _ rfl rfl rfl (HT6.out.setRow' (k:=w5.heap.size) (by omega) X.c) ?_)))
 have HX8:=z2w ((HX6.out.setRow X.c).setRow' (k:=w5.heap.size+1) (by omega) (ftc RN.2.1 RN.2.2))
 have HT8:=z2w ((HT6.out.setRow' (k:=w5.heap.size) (by omega) X.c).setRow (ftc RN.2.1 RN.2.2))
 have HSS:=z2w (((Fs.refl (λk=>k=w5.heap.size∨k=w5.heap.size+1) ((w5.alloc (.cells z2x 66)).alloc (.cells #[.int .u8 0,.int .u32 0] 29))).setRow (g:=w5.heap.size) (λ_=>.inl rfl) X.c).setRow (g:=w5.heap.size+1) (λ_=>.inr rfl) (ftc RN.2.1 RN.2.2))
 have HY8:=z2w (HSS.out.row (by omega) HX7.out)
 have HU8:=z2w (HSS.out.row (by omega) HT7.out)
 generalize ((((w5.alloc (.cells z2x 66)).alloc (.cells #[.int .u8 0,.int .u32 0] 29)).setRow w5.heap.size X.c).setRow (w5.heap.size+1) (ftc RN.2.1 RN.2.2))=w8 at *
 have H8:=z2w (H7.out.fs HSS.out (by omega) (by omega))
 have HF8:=z2w (HF7.out.trans HSS.out (λk hk h=>by omega))
 have HM8:=z2w (HM5.out.skip HB7.out rfl HSS.out)
 clear HX6 HT6 HX7 HT7 HSS H7 HF7 HS6 HS7 HM5 HB7
 refine wp_region_held_drew (S:=λw'=>Row w' w5.heap.size 66 (Fm.c X)∧Row w' (w5.heap.size+1) 29 (ftc RN.2.1 RN.2.2)) (by kernel_rfl) ⟨HX8.out,HT8.out⟩ (λhHeld=>?_)
 refine tkY 0 rfl (qm (by rfl) _ rfl rfl (λ_ hSw=>hSw.1)) ?_
 refine tkY 1 rfl (Xw (by rfl) _ rfl rfl (λ_ hSw=>hSw.2)) ?_
 refine rdH 2 λK hK=>?_
 refine xf (x:=X) rfl (.tmp 2) (.tmp 54) rfl rfl rfl HY8.out ?_
 refine hK.out _ _ ⟨hHeld.1.setRow' (by omega) _,hHeld.2.setRow' (by omega) _⟩ (λhHeld=>?_)
 clear hK K
 try refine ptk ?_
 refine rdH 3 λK hK=>?_
 refine Xi rfl (.tmp 3) (.tmp 55) rfl rfl rfl (Row.setRow' (show Row (World.drew _) _ _ _ from HU8.out) (k:=w.heap.size) (by omega) _) ?_
 refine hK.out _ _ ⟨hHeld.1.setRow' (by omega) _,hHeld.2.setRow' (by omega) _⟩ (λhHeld=>?_)
 clear hK K
 try refine ptk ?_
 refine tkH 4 ?_
 refine dnH ?_
 go_wp2_with fail
 refine bodyPost_ret (yg rfl _ _ w.heap.size (w.heap.size+1) X RN.2.1 RN.2.2 (.bool true) rfl (Row.setRow' (Row.setRow (show Row w8.drew _ _ _ from HY8.out) _) (by omega) _) rfl (Row.setRow (Row.setRow' (show Row w8.drew _ _ _ from HU8.out) (by omega) _) _) rfl) rfl ?_
 have HZ:Fs (λk=>k=w.heap.size∨k=w.heap.size+1) w8 ((w8.drew.setRow w.heap.size X.c).setRow (w.heap.size+1) (ftc RN.2.1 RN.2.2)):=(((Fs.refl _ w8).drewN 1).setRow (g:=w.heap.size) (λ_=>.inl rfl) X.c).setRow (g:=w.heap.size+1) (λ_=>.inr rfl) (ftc RN.2.1 RN.2.2)
 exact⟨_,rfl,⟨X,_,_,_,rfl,rfl,rfl,rfl,(HM8.out.far HZ (λk hk h=>by omega)).mono (by omega)⟩,⟨(fi+N),H8.out.fs HZ (by omega) (by omega),(HD.out N).trans rfl⟩,HF8.out.trans HZ (λk hk h=>by omega)⟩
theorem zob{w:World}{g b fi la:Nat}{L:List UInt8}{wt:Bool}(h:SpG w g b fi la L wt)(hG:GlobE w) :
  Calls Tryz.prog 98 #[.pointer (some ⟨g,0,none⟩)] w (Vr w g b la L wt (nfN (zv L fi la))):=by
 unfold nfN
 split
 ·exact z1i h hG rfl (by assumption)
 ·split
  ·exact z1z h hG rfl (by omega) (by assumption)
  ·split
   ·exact z1p h hG rfl (by omega) (by omega) (by assumption)
   ·exact z1v h hG rfl (by omega) (by omega) (by omega)
end
end Go.Proofs.YtooaajnkiokpnaaGreatDoor
