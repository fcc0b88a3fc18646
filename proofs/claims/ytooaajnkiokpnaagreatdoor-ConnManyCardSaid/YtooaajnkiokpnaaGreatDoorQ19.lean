/-
  Part of a proof: next, by its contract. Conditions: those that each theorem names.
-/
import Derived.Test.YtooaajnkiokpnaaGreatDoorQ01
import Derived.Test.YtooaajnkiokpnaaGreatDoorQ15
namespace Go.Proofs.YtooaajnkiokpnaaGreatDoor
open Go.RowKit Go.WideShapes
set_option maxHeartbeats 4000000
set_option maxRecDepth 100000
section
def V1(w:World)(g b la:Nat)(L:List UInt8)(r:Option Rd × List UInt8 × Bool)(e:Ending)(w':World):Prop:=
 ∃v,e=.returned v∧zgn w' w.heap.size r.1 v∧(∃fi',SpG w' g b fi' la L r.2.2∧zv L fi' la=r.2.1)∧Fs (gbS g b) w w'
attribute [local irreducible] Fm.c ftc
theorem z2a{w:World}{g b fi la:Nat}{L H:List UInt8}{wt:Bool}(h:SpG w g b fi la L wt)(hG:GlobE w)(hH:zv L fi la=H)(hwt:wt=false) :
  Calls Tryz.prog 64 #[.pointer (some ⟨g,0,none⟩)] w (V1 w g b la L ((nfN H).1,(nfN H).2,false)):=by
 have HX0:Hid (Row ((w.alloc (.cells z2x 66)).alloc (.cells #[.int .u8 0,.int .u32 0] 29)) w.heap.size 66 (fm0 0 0 0 0).c):=by show Row _ _ _ _;rw[z_c];exact(Row.new w _ _).alloc _
 have HT0:Hid (Row ((w.alloc (.cells z2x 66)).alloc (.cells #[.int .u8 0,.int .u32 0] 29)) (w.heap.size+1) 29 (ftc 0 0)):=by show Row _ _ _ _;rw[z9];exact Row.made _ _ _ (by simp)
 have HB0:Hid (Below w.heap.size w ((w.alloc (.cells z2x 66)).alloc (.cells #[.int .u8 0,.int .u32 0] 29))):=((Below.refl _ _).alloc (Nat.le_refl _) _).alloc (by simp) _
 have HS0:Hid (((w.alloc (.cells z2x 66)).alloc (.cells #[.int .u8 0,.int .u32 0] 29)).heap.size=w.heap.size+2):=by show _=_;simp
 have H0:Hid (SpG ((w.alloc (.cells z2x 66)).alloc (.cells #[.int .u8 0,.int .u32 0] 29)) g b fi la L wt):=h.below HB0.out
 have HF0:Hid (Fs (gbS g b) w ((w.alloc (.cells z2x 66)).alloc (.cells #[.int .u8 0,.int .u32 0] 29))):=Fs.of_below HB0.out
 have HG0:Hid (GlobE ((w.alloc (.cells z2x 66)).alloc (.cells #[.int .u8 0,.int .u32 0] 29))):=hG.below HB0.out
 have HL:=z2w h.held_len
 have hle:=h.le
 have hla:=h.la
 have hglt:=h.row.lt
 have hblt:=h.buf.lt
 have HQ:=z2w hH
 have HD:=z2w (yn L fi la)
 rw[hH] at HL HD
 clear h hG hH
 go_enter Tryz.func64,Tryz.ntmps64
 go_upto_region 1 with fail
 generalize ((w.alloc (.cells z2x 66)).alloc (.cells #[.int .u8 0,.int .u32 0] 29))=w1 at *
 have cw:=H0.out.c3
 subst hwt
 have hn:=zob H0.out HG0.out
 rw[HQ.out] at hn
 go_wp2_with fail
 refine hn.mono ?_
 rintro e w5 ⟨v,rfl,⟨X,s,c,ok,rfl,hT⟩,⟨fi',h5,hl5⟩,hF5⟩
 have hX5:=hF5.row (b:=w.heap.size) (λe=>by rcases e with e|e<;>omega) HX0.out
 have hT5:=hF5.row (b:=w.heap.size+1) (λe=>by rcases e with e|e<;>omega) HT0.out
 have HX5:=z2w hX5
 have HT5:=z2w (hT5.setRow' (k:=w.heap.size) (by omega) X.c)
 have H5:=z2w h5
 have HF5:=z2w (HF0.out.trans hF5 (λk _ e=>e))
 have HQ5:=z2w hl5
 have HM5:=z2w (hT.mono (base':=w.heap.size+2) (by have:=HS0.out;omega))
 clear hn hT h5 hl5 hF5 hX5 hT5
 go_wp2_with (first|(with_reducible show wpList _ _ _ _ _ _;first|(refine qe (x:=X) rfl _ _ rfl rfl rfl HX5.out ?_)|(refine qf (s:=s) (c:=c) rfl _ _ rfl rfl rfl HT5.out ?_)))
 refine bodyPost_ret (yg rfl _ _ w.heap.size (w.heap.size+1) X s c (.bool ok) rfl ((HX5.out.setRow _).setRow' (by omega) _) rfl (HT5.out.setRow _) rfl) rfl ?_
 have HZ:Fs (λk=>k=w.heap.size∨k=w.heap.size+1) w5 ((w5.setRow w.heap.size X.c).setRow (w.heap.size+1) (ftc s c)):=((Fs.refl _ w5).setRow (g:=w.heap.size) (λ_=>.inl rfl) X.c).setRow (g:=w.heap.size+1) (λ_=>.inr rfl) (ftc s c)
 exact⟨_,rfl,⟨X,s,c,ok,rfl,(HM5.out.keep λk hk hk2=>HZ.block k hk2 (by omega)).mono (by omega)⟩,⟨fi',H5.out.fs HZ (by omega) (by omega),HQ5.out⟩,HF5.out.trans HZ (λk hk h=>by omega)⟩
theorem z1n{w:World}{g b fi la:Nat}{L H:List UInt8}{wt:Bool}(h:SpG w g b fi la L wt)(hG:GlobE w)(hH:zv L fi la=H)(hwt:wt=true)(hng:¬Jb H) :
  Calls Tryz.prog 64 #[.pointer (some ⟨g,0,none⟩)] w (V1 w g b la L (some zjm,H,true)):=by
 have HX0:Hid (Row ((w.alloc (.cells z2x 66)).alloc (.cells #[.int .u8 0,.int .u32 0] 29)) w.heap.size 66 (fm0 0 0 0 0).c):=by show Row _ _ _ _;rw[z_c];exact(Row.new w _ _).alloc _
 have HT0:Hid (Row ((w.alloc (.cells z2x 66)).alloc (.cells #[.int .u8 0,.int .u32 0] 29)) (w.heap.size+1) 29 (ftc 0 0)):=by show Row _ _ _ _;rw[z9];exact Row.made _ _ _ (by simp)
 have HB0:Hid (Below w.heap.size w ((w.alloc (.cells z2x 66)).alloc (.cells #[.int .u8 0,.int .u32 0] 29))):=((Below.refl _ _).alloc (Nat.le_refl _) _).alloc (by simp) _
 have HS0:Hid (((w.alloc (.cells z2x 66)).alloc (.cells #[.int .u8 0,.int .u32 0] 29)).heap.size=w.heap.size+2):=by show _=_;simp
 have H0:Hid (SpG ((w.alloc (.cells z2x 66)).alloc (.cells #[.int .u8 0,.int .u32 0] 29)) g b fi la L wt):=h.below HB0.out
 have HF0:Hid (Fs (gbS g b) w ((w.alloc (.cells z2x 66)).alloc (.cells #[.int .u8 0,.int .u32 0] 29))):=Fs.of_below HB0.out
 have HG0:Hid (GlobE ((w.alloc (.cells z2x 66)).alloc (.cells #[.int .u8 0,.int .u32 0] 29))):=hG.below HB0.out
 have HL:=z2w h.held_len
 have hle:=h.le
 have hla:=h.la
 have hglt:=h.row.lt
 have hblt:=h.buf.lt
 have HQ:=z2w hH
 have HD:=z2w (yn L fi la)
 rw[hH] at HL HD
 clear h hG hH
 go_enter Tryz.func64,Tryz.ntmps64
 go_upto_region 1 with fail
 generalize ((w.alloc (.cells z2x 66)).alloc (.cells #[.int .u8 0,.int .u32 0] 29))=w1 at *
 have cw:=H0.out.c3
 subst hwt
 have hh0:=Zn H0.out
 rw[HQ.out] at hh0
 obtain⟨m,hm⟩:∃m,m=la-fi:=⟨_,rfl⟩
 have hnn:m≤16393:=by omega
 have HM:=z2w hm
 obtain⟨C,hC⟩:∃C,C=16393-fi:=⟨_,rfl⟩
 have hmC:m≤C:=by omega
 rw[←hm,←hC] at hh0
 rw[←hm] at HL
 have hml:=HL.out
 clear hm hC
 go_wp2_with fail
 refine hh0.mono ?_
 rintro e w2' ⟨A,rfl,hr,_,n,rfl⟩
 have HR2:Hid (RdB (w1.drewN n) w1.heap.size A H):=hr
 have H2:Hid (SpG (w1.drewN n) g b fi la L true):=H0.out.drewN n
 have HF2:Hid (Fs (gbS g b) w (w1.drewN n)):=HF0.out.drewN n
 have HG2:Hid (GlobE (w1.drewN n)):=HG0.out
 have HX2:Hid (Row (w1.drewN n) w.heap.size 66 (fm0 0 0 0 0).c):=HX0.out
 have HT2:Hid (Row (w1.drewN n) (w.heap.size+1) 29 (ftc 0 0)):=HT0.out
 have HS2:Hid ((w1.drewN n).heap.size=w.heap.size+2):=HS0.out
 clear hr hh0 H0 HF0 HG0 HX0 HT0 HS0 HB0 cw
 generalize w1.drewN n=w2 at *
 obtain⟨i0,hi0,hz0,hz1,hz2⟩:=zr qk
 obtain⟨k,hk⟩:∃k,k=min m 24:=⟨_,rfl⟩
 have hkm:k≤m:=by omega
 have hk24:k≤24:=by omega
 obtain⟨hcut,hRN⟩:=xi (P:=Tryz.prog) Tryz.underlying22 hi0 hz1 HR2.out (c:=C) (k:=k) (by omega) (by omega)
 rw[hml] at hcut
 have hkl:(H.take k).length=k:=by rw[List.length_take];omega
 have htx:=y0 (P:=Tryz.prog) (c:=C) Tryz.underlying22 Tryz.underlying5 Tryz.underlying9 hRN
 rw[hkl] at htx
 have hmin:min (m:Int) 24=(k:Int):=by omega
 have hpr:=zde qo (H.take k) (by rw[y8];omega) (by omega)
 rw[hkl] at hpr
 clear hRN
 have hd:decide (qo.take k=H.take k)=false:=decide_eq_false λe=>hng (by unfold Jb;rw[hml,←hk];exact e.symm)
 rw[hd] at hpr
 clear hd hk
 have HT9:=z2w (HT2.out.setRow' (k:=w.heap.size) (by omega) (Fm.c (fm0 0 0 0 (-1))))
 have HZ9:=z2w (((Fs.refl (λk=>k=w.heap.size∨k=w.heap.size+1) w2).setRow (g:=w.heap.size) (λ_=>.inl rfl) (Fm.c (fm0 0 0 0 (-1)))).setRow (g:=w.heap.size+1) (λ_=>.inr rfl) (ftc 1 1))
 go_wp2_with fail
 refine(hpr _).mono ?_
 rintro e w3' ⟨rfl,rfl⟩
 go_wp2_with (first|(refine qe (x:=(fm0 0 0 0 (-1))) rfl _ _ rfl rfl (by rw[zq6];rfl) HX2.out ?_)|(refine qf (s:=1) (c:=1) rfl _ _ rfl rfl (show _=Value.agg (ftc 1 1) by rw[z9];rfl) HT9.out ?_))
 refine bodyPost_ret (yg rfl _ _ w.heap.size (w.heap.size+1) (fm0 0 0 0 (-1)) 1 1 (.bool true) rfl ((HX2.out.setRow _).setRow' (by omega) _) rfl (HT9.out.setRow _) rfl) rfl ?_
 exact⟨_,rfl,⟨_,_,_,_,rfl,rfl,rfl,rfl,FmIs.hd _ _ _ _ _⟩,⟨fi,H2.out.fs HZ9.out (by omega) (by omega),HQ.out⟩,HF2.out.trans HZ9.out (λk hk h=>by omega)⟩
theorem z14{w:World}{g b fi la:Nat}{L H:List UInt8}{wt:Bool}(h:SpG w g b fi la L wt)(hG:GlobE w)(hH:zv L fi la=H)(hwt:wt=true)(hgr:Jb H)(hlt:H.length<24) :
  Calls Tryz.prog 64 #[.pointer (some ⟨g,0,none⟩)] w (V1 w g b la L (none,H,true)):=by
 have HX0:Hid (Row ((w.alloc (.cells z2x 66)).alloc (.cells #[.int .u8 0,.int .u32 0] 29)) w.heap.size 66 (fm0 0 0 0 0).c):=by show Row _ _ _ _;rw[z_c];exact(Row.new w _ _).alloc _
 have HT0:Hid (Row ((w.alloc (.cells z2x 66)).alloc (.cells #[.int .u8 0,.int .u32 0] 29)) (w.heap.size+1) 29 (ftc 0 0)):=by show Row _ _ _ _;rw[z9];exact Row.made _ _ _ (by simp)
 have HB0:Hid (Below w.heap.size w ((w.alloc (.cells z2x 66)).alloc (.cells #[.int .u8 0,.int .u32 0] 29))):=((Below.refl _ _).alloc (Nat.le_refl _) _).alloc (by simp) _
 have HS0:Hid (((w.alloc (.cells z2x 66)).alloc (.cells #[.int .u8 0,.int .u32 0] 29)).heap.size=w.heap.size+2):=by show _=_;simp
 have H0:Hid (SpG ((w.alloc (.cells z2x 66)).alloc (.cells #[.int .u8 0,.int .u32 0] 29)) g b fi la L wt):=h.below HB0.out
 have HF0:Hid (Fs (gbS g b) w ((w.alloc (.cells z2x 66)).alloc (.cells #[.int .u8 0,.int .u32 0] 29))):=Fs.of_below HB0.out
 have HG0:Hid (GlobE ((w.alloc (.cells z2x 66)).alloc (.cells #[.int .u8 0,.int .u32 0] 29))):=hG.below HB0.out
 have HL:=z2w h.held_len
 have hle:=h.le
 have hla:=h.la
 have hglt:=h.row.lt
 have hblt:=h.buf.lt
 have HQ:=z2w hH
 have HD:=z2w (yn L fi la)
 rw[hH] at HL HD
 clear h hG hH
 go_enter Tryz.func64,Tryz.ntmps64
 go_upto_region 1 with fail
 generalize ((w.alloc (.cells z2x 66)).alloc (.cells #[.int .u8 0,.int .u32 0] 29))=w1 at *
 have cw:=H0.out.c3
 subst hwt
 have hh0:=Zn H0.out
 rw[HQ.out] at hh0
 obtain⟨m,hm⟩:∃m,m=la-fi:=⟨_,rfl⟩
 have hnn:m≤16393:=by omega
 have HM:=z2w hm
 obtain⟨C,hC⟩:∃C,C=16393-fi:=⟨_,rfl⟩
 have hmC:m≤C:=by omega
 rw[←hm,←hC] at hh0
 rw[←hm] at HL
 have hml:=HL.out
 clear hm hC
 go_wp2_with fail
 refine hh0.mono ?_
 rintro e w2' ⟨A,rfl,hr,_,n,rfl⟩
 have HR2:Hid (RdB (w1.drewN n) w1.heap.size A H):=hr
 have H2:Hid (SpG (w1.drewN n) g b fi la L true):=H0.out.drewN n
 have HF2:Hid (Fs (gbS g b) w (w1.drewN n)):=HF0.out.drewN n
 have HG2:Hid (GlobE (w1.drewN n)):=HG0.out
 have HX2:Hid (Row (w1.drewN n) w.heap.size 66 (fm0 0 0 0 0).c):=HX0.out
 have HT2:Hid (Row (w1.drewN n) (w.heap.size+1) 29 (ftc 0 0)):=HT0.out
 have HS2:Hid ((w1.drewN n).heap.size=w.heap.size+2):=HS0.out
 clear hr hh0 H0 HF0 HG0 HX0 HT0 HS0 HB0 cw
 generalize w1.drewN n=w2 at *
 obtain⟨i0,hi0,hz0,hz1,hz2⟩:=zr qk
 obtain⟨k,hk⟩:∃k,k=min m 24:=⟨_,rfl⟩
 have hkm:k≤m:=by omega
 have hk24:k≤24:=by omega
 obtain⟨hcut,hRN⟩:=xi (P:=Tryz.prog) Tryz.underlying22 hi0 hz1 HR2.out (c:=C) (k:=k) (by omega) (by omega)
 rw[hml] at hcut
 have hkl:(H.take k).length=k:=by rw[List.length_take];omega
 have htx:=y0 (P:=Tryz.prog) (c:=C) Tryz.underlying22 Tryz.underlying5 Tryz.underlying9 hRN
 rw[hkl] at htx
 have hmin:min (m:Int) 24=(k:Int):=by omega
 have hpr:=zde qo (H.take k) (by rw[y8];omega) (by omega)
 rw[hkl] at hpr
 clear hRN
 have hd:decide (qo.take k=H.take k)=true:=decide_eq_true (by unfold Jb at hgr;rw[hml,←hk] at hgr;exact hgr.symm)
 rw[hd] at hpr
 have hd2:decide ((m:Int)<24)=true:=by simp;omega
 clear hd hk
 have HT9:=z2w (HT2.out.setRow' (k:=w.heap.size) (by omega) (Fm.c (fm0 0 0 0 0)))
 have HZ9:=z2w (((Fs.refl (λk=>k=w.heap.size∨k=w.heap.size+1) w2).setRow (g:=w.heap.size) (λ_=>.inl rfl) (Fm.c (fm0 0 0 0 0))).setRow (g:=w.heap.size+1) (λ_=>.inr rfl) (ftc 0 0))
 go_wp2_with fail
 refine(hpr _).mono ?_
 rintro e w3' ⟨rfl,rfl⟩
 go_wp2_with (first|(refine qe (x:=(fm0 0 0 0 0)) rfl _ _ rfl rfl (by rw[z_c];rfl) HX2.out ?_)|(refine qf (s:=0) (c:=0) rfl _ _ rfl rfl (show _=Value.agg (ftc 0 0) by rw[z9];rfl) HT9.out ?_))
 refine bodyPost_ret (yg rfl _ _ w.heap.size (w.heap.size+1) (fm0 0 0 0 0) 0 0 (.bool false) rfl ((HX2.out.setRow _).setRow' (by omega) _) rfl (HT9.out.setRow _) rfl) rfl ?_
 exact⟨_,rfl,⟨_,_,_,_,rfl,rfl,rfl,rfl,rfl⟩,⟨fi,H2.out.fs HZ9.out (by omega) (by omega),HQ.out⟩,HF2.out.trans HZ9.out (λk hk h=>by omega)⟩
theorem z2e{w:World}{g b fi la:Nat}{L H:List UInt8}{wt:Bool}(h:SpG w g b fi la L wt)(hG:GlobE w)(hH:zv L fi la=H)(hwt:wt=true)(hgr:Jb H)(hge:24≤H.length) :
  Calls Tryz.prog 64 #[.pointer (some ⟨g,0,none⟩)] w (V1 w g b la L ((nfN (H.drop 24)).1,(nfN (H.drop 24)).2,false)):=by
 have HX0:Hid (Row ((w.alloc (.cells z2x 66)).alloc (.cells #[.int .u8 0,.int .u32 0] 29)) w.heap.size 66 (fm0 0 0 0 0).c):=by show Row _ _ _ _;rw[z_c];exact(Row.new w _ _).alloc _
 have HT0:Hid (Row ((w.alloc (.cells z2x 66)).alloc (.cells #[.int .u8 0,.int .u32 0] 29)) (w.heap.size+1) 29 (ftc 0 0)):=by show Row _ _ _ _;rw[z9];exact Row.made _ _ _ (by simp)
 have HB0:Hid (Below w.heap.size w ((w.alloc (.cells z2x 66)).alloc (.cells #[.int .u8 0,.int .u32 0] 29))):=((Below.refl _ _).alloc (Nat.le_refl _) _).alloc (by simp) _
 have HS0:Hid (((w.alloc (.cells z2x 66)).alloc (.cells #[.int .u8 0,.int .u32 0] 29)).heap.size=w.heap.size+2):=by show _=_;simp
 have H0:Hid (SpG ((w.alloc (.cells z2x 66)).alloc (.cells #[.int .u8 0,.int .u32 0] 29)) g b fi la L wt):=h.below HB0.out
 have HF0:Hid (Fs (gbS g b) w ((w.alloc (.cells z2x 66)).alloc (.cells #[.int .u8 0,.int .u32 0] 29))):=Fs.of_below HB0.out
 have HG0:Hid (GlobE ((w.alloc (.cells z2x 66)).alloc (.cells #[.int .u8 0,.int .u32 0] 29))):=hG.below HB0.out
 have HL:=z2w h.held_len
 have hle:=h.le
 have hla:=h.la
 have hglt:=h.row.lt
 have hblt:=h.buf.lt
 have HQ:=z2w hH
 have HD:=z2w (yn L fi la)
 rw[hH] at HL HD
 clear h hG hH
 go_enter Tryz.func64,Tryz.ntmps64
 go_upto_region 1 with fail
 generalize ((w.alloc (.cells z2x 66)).alloc (.cells #[.int .u8 0,.int .u32 0] 29))=w1 at *
 have cw:=H0.out.c3
 subst hwt
 have hh0:=Zn H0.out
 rw[HQ.out] at hh0
 obtain⟨m,hm⟩:∃m,m=la-fi:=⟨_,rfl⟩
 have hnn:m≤16393:=by omega
 have HM:=z2w hm
 obtain⟨C,hC⟩:∃C,C=16393-fi:=⟨_,rfl⟩
 have hmC:m≤C:=by omega
 rw[←hm,←hC] at hh0
 rw[←hm] at HL
 have hml:=HL.out
 clear hm hC
 go_wp2_with fail
 refine hh0.mono ?_
 rintro e w2' ⟨A,rfl,hr,_,n,rfl⟩
 have HR2:Hid (RdB (w1.drewN n) w1.heap.size A H):=hr
 have H2:Hid (SpG (w1.drewN n) g b fi la L true):=H0.out.drewN n
 have HF2:Hid (Fs (gbS g b) w (w1.drewN n)):=HF0.out.drewN n
 have HG2:Hid (GlobE (w1.drewN n)):=HG0.out
 have HX2:Hid (Row (w1.drewN n) w.heap.size 66 (fm0 0 0 0 0).c):=HX0.out
 have HT2:Hid (Row (w1.drewN n) (w.heap.size+1) 29 (ftc 0 0)):=HT0.out
 have HS2:Hid ((w1.drewN n).heap.size=w.heap.size+2):=HS0.out
 clear hr hh0 H0 HF0 HG0 HX0 HT0 HS0 HB0 cw
 generalize w1.drewN n=w2 at *
 obtain⟨i0,hi0,hz0,hz1,hz2⟩:=zr qk
 obtain⟨k,hk⟩:∃k,k=min m 24:=⟨_,rfl⟩
 have hkm:k≤m:=by omega
 have hk24:k≤24:=by omega
 obtain⟨hcut,hRN⟩:=xi (P:=Tryz.prog) Tryz.underlying22 hi0 hz1 HR2.out (c:=C) (k:=k) (by omega) (by omega)
 rw[hml] at hcut
 have hkl:(H.take k).length=k:=by rw[List.length_take];omega
 have htx:=y0 (P:=Tryz.prog) (c:=C) Tryz.underlying22 Tryz.underlying5 Tryz.underlying9 hRN
 rw[hkl] at htx
 have hmin:min (m:Int) 24=(k:Int):=by omega
 have hpr:=zde qo (H.take k) (by rw[y8];omega) (by omega)
 rw[hkl] at hpr
 clear hRN
 have hd:decide (qo.take k=H.take k)=true:=decide_eq_true (by unfold Jb at hgr;rw[hml,←hk] at hgr;exact hgr.symm)
 rw[hd] at hpr
 have hd2:decide ((m:Int)<24)=false:=by simp;omega
 clear hd hk
 have hf24:fi+24≤la:=by have:=HM.out;omega
 have c1:=H2.out.c1
 have t1:=Row.thawed H2.out.row 1
 have h3:=H2.out.set1 (fi':=fi+24) hf24
 have c3:=h3.c3
 have t3:=Row.thawed h3.row 3
 have h4:=h3.set3 false
 have hw4:=((Fs.refl (λk=>k=g) w2).setCell (g:=g) (λ_=>rfl) 1 (.int .i64 ((fi+24:Nat):Int))).setCell (g:=g) (λ_=>rfl) 3 (.bool false)
 have HG4:=z2w (HG2.out.fs hw4 (by have:=H2.out.lo;omega))
 have HX4:=z2w (hw4.row (b:=w.heap.size) (by omega) HX2.out)
 have HT4:=z2w (hw4.row (b:=w.heap.size+1) (by omega) HT2.out)
 have HF4:=z2w (HF2.out.trans hw4 (λk _ e=>.inl e))
 have HS4:Hid (((w2.setCell ⟨g,1,none⟩ (.int .i64 ((fi+24:Nat):Int))).setCell ⟨g,3,none⟩ (.bool false)).heap.size=w.heap.size+2):=by show _=_;rw[←HS2.out];simp[World.setCell]
 have hn:=zob h4 HG4.out
 rw[HD.out 24] at hn
 rw[show ((fi+24:Nat):Int)=(fi:Int)+24 by omega] at hn c3 t3 HX4 HT4 HF4 HS4
 clear h3 h4 hw4 HG4 HG2 HX2 HT2 HF2 HS2 H2 HR2
 go_wp2_with fail
 refine(hpr _).mono ?_
 rintro e w3' ⟨rfl,rfl⟩
 go_wp2_with fail
 refine hn.mono ?_
 rintro e w5 ⟨v,rfl,⟨X,s,c,ok,rfl,hT⟩,⟨fi',h5,hl5⟩,hF5⟩
 have hX5:=hF5.row (b:=w.heap.size) (λe=>by rcases e with e|e<;>omega) HX4.out
 have hT5:=hF5.row (b:=w.heap.size+1) (λe=>by rcases e with e|e<;>omega) HT4.out
 have HX5:=z2w hX5
 have HT5:=z2w (hT5.setRow' (k:=w.heap.size) (by omega) X.c)
 have H5:=z2w h5
 have HF5:=z2w (HF4.out.trans hF5 (λk _ e=>e))
 have HQ5:=z2w hl5
 have HM5:=z2w (hT.mono (base':=w.heap.size+2) (by have:=HS4.out;omega))
 clear hn hT h5 hl5 hF5 hX5 hT5
 go_wp2_with (first|(with_reducible show wpList _ _ _ _ _ _;first|(refine qe (x:=X) rfl _ _ rfl rfl rfl HX5.out ?_)|(refine qf (s:=s) (c:=c) rfl _ _ rfl rfl rfl HT5.out ?_)))
 refine bodyPost_ret (yg rfl _ _ w.heap.size (w.heap.size+1) X s c (.bool ok) rfl ((HX5.out.setRow _).setRow' (by omega) _) rfl (HT5.out.setRow _) rfl) rfl ?_
 have HZ:Fs (λk=>k=w.heap.size∨k=w.heap.size+1) w5 ((w5.setRow w.heap.size X.c).setRow (w.heap.size+1) (ftc s c)):=((Fs.refl _ w5).setRow (g:=w.heap.size) (λ_=>.inl rfl) X.c).setRow (g:=w.heap.size+1) (λ_=>.inr rfl) (ftc s c)
 exact⟨_,rfl,⟨X,s,c,ok,rfl,(HM5.out.keep λk hk hk2=>HZ.block k hk2 (by omega)).mono (by omega)⟩,⟨fi',H5.out.fs HZ (by omega) (by omega),HQ5.out⟩,HF5.out.trans HZ (λk hk h=>by omega)⟩
theorem zov{w:World}{g b fi la:Nat}{L:List UInt8}{wt:Bool}(h:SpG w g b fi la L wt)(hG:GlobE w) :
  Calls Tryz.prog 64 #[.pointer (some ⟨g,0,none⟩)] w (V1 w g b la L (nxN (zv L fi la) wt)):=by
 unfold nxN
 split
 ·split
  ·exact z1n h hG rfl (by assumption) (by assumption)
  ·rename_i hg
   have hg:=Classical.not_not.1 hg
   split
   ·exact z14 h hG rfl (by assumption) hg (by assumption)
   ·exact z2e h hG rfl (by assumption) hg (by omega)
 ·rename_i hw
  exact z2a h hG rfl (by simpa using hw)
end
end Go.Proofs.YtooaajnkiokpnaaGreatDoor
