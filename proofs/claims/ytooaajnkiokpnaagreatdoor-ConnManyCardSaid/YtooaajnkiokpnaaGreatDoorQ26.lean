/-
  Part of a proof: Feed and Held of any splitter; the law's own example: fixed answers true. Conditions: those that each theorem names.
-/
import Derived.Test.YtooaajnkiokpnaaGreatDoorQ01
import Derived.Test.YtooaajnkiokpnaaGreatDoorQ19
import Derived.Test.YtooaajnkiokpnaaGreatDoorQ13
namespace Go.Proofs.YtooaajnkiokpnaaGreatDoor
open Go.RowKit Go.WideShapes
set_option maxHeartbeats 8000000
set_option maxRecDepth 100000
section
def zhv:Option Rd→Nat
 |some x=>x.2.1
 |none=>0
theorem zki:(Tryz.prog.info? 118).map (·.size)=some 5:=by kernel_rfl
theorem zl9{ops:Array Oper}{rest:List Oper}{o:Oper}{a:Act}{w:World}{Q:Exit→Act→World→Prop}(hgd:o.guard=none)(p q:Operand)(ho:o.op=.store 118 p q){g:Nat}(hp:a.eval p=.pointer (some ⟨g,0,none⟩))(hq:a.eval q=.agg #[.slice none 0 0,.int .i64 0,.int .i64 0,.bool false,.bool true]){v:Value}{x y:Value}{z t:Value}(h:Row w g 118 #[v,x,y,z,t])
  (hk:wpList Tryz.prog ops Q rest (a.put o.dst undef) (w.setRow g #[.slice none 0 0,.int .i64 0,.int .i64 0,.bool false,.bool true])):wpList Tryz.prog ops Q (o :: rest) a w:=
 wpList_store_row hgd 118 p q ho g _ hp hq 118 _ h zki rfl (by kernel_rfl) hk
theorem ToldP.scope{w:World}{base:Nat}{o:Option Rd}{X:Fm}{s c:Nat}{ok:Bool}(h:ToldP w base o X s c ok):s=zhv o:=by
 cases o with
 |none=>exact h.2.1
 |some x=>exact h.1
theorem ToldP.skip{w w':World}{base k:Nat}{o:Option Rd}{X:Fm}{s c:Nat}{ok:Bool}(h:ToldP w base o X s c ok){w1:World}(hw:Below w.heap.size w w1)(hs:k=w.heap.size)(hf:Fs (λj=>j=k∨j=k+1) w1 w'):ToldP w' base o X s c ok:=
 h.keep λj _ h2=>(hf.block j (Nat.lt_of_lt_of_le h2 hw.size) (by omega)).trans (hw.block j h2)
attribute [local irreducible] Fm.c ftc
theorem z19(w:World) :
  Calls Tryz.prog 30 #[.pointer none] w λe w'=>e=.returned (.tuple #[.agg (fm0 0 0 0 0).c,.agg (ftc 0 0),.bool false])∧Below w.heap.size w w':=by
 have HX0:Hid (Row ((w.alloc (.cells z2x 66)).alloc (.cells #[.int .u8 0,.int .u32 0] 29)) w.heap.size 66 (fm0 0 0 0 0).c):=by show Row _ _ _ _;rw[z_c];exact(Row.new w _ _).alloc _
 have HT0:Hid (Row ((w.alloc (.cells z2x 66)).alloc (.cells #[.int .u8 0,.int .u32 0] 29)) (w.heap.size+1) 29 (ftc 0 0)):=by show Row _ _ _ _;rw[z9];exact Row.made _ _ _ (by simp)
 have HB0:Hid (Below w.heap.size w ((w.alloc (.cells z2x 66)).alloc (.cells #[.int .u8 0,.int .u32 0] 29))):=((Below.refl _ _).alloc (Nat.le_refl _) _).alloc (by simp) _
 have HS0:Hid (((w.alloc (.cells z2x 66)).alloc (.cells #[.int .u8 0,.int .u32 0] 29)).heap.size=w.heap.size+2):=by show _=_;simp
 have HT9:=z2w (HT0.out.setRow' (k:=w.heap.size) (by omega) (Fm.c (fm0 0 0 0 0)))
 have HZ9:=z2w (((Fs.of_below (S:=λk=>k=w.heap.size∨k=w.heap.size+1) HB0.out).setRow (g:=w.heap.size) (λ_=>.inl rfl) (Fm.c (fm0 0 0 0 0))).setRow (g:=w.heap.size+1) (λ_=>.inr rfl) (ftc 0 0))
 go_enter Tryz.func30,Tryz.ntmps30
 go_upto_region 1 with fail
 generalize ((w.alloc (.cells z2x 66)).alloc (.cells #[.int .u8 0,.int .u32 0] 29))=w1 at *
 go_wp2_with fail
 refine(zwh _).mono ?_
 rintro e w3' ⟨rfl,rfl⟩
 go_wp2_with (first|(refine qe (x:=(fm0 0 0 0 0)) rfl _ _ rfl rfl (by rw[z_c];rfl) HX0.out ?_)|(refine qf (s:=0) (c:=0) rfl _ _ rfl rfl (show _=Value.agg (ftc 0 0) by rw[z9];rfl) HT9.out ?_))
 refine bodyPost_ret (yg rfl _ _ w.heap.size (w.heap.size+1) (fm0 0 0 0 0) 0 0 (.bool false) rfl ((HX0.out.setRow _).setRow' (by omega) _) rfl (HT9.out.setRow _) rfl) rfl ?_
 exact⟨rfl,HZ9.out.below (λk hk _=>by omega) (Nat.le_refl _)⟩
theorem zrm{w:World}{g b:Nat}{l:List UInt8}{wt:Bool}(h:Spl w g b l wt true) :
  Calls Tryz.prog 30 #[.pointer (some ⟨g,0,none⟩)] w λe w'=>e=.returned (.tuple #[.agg (fm0 0 0 0 0).c,.agg (ftc 0 0),.bool false])∧Spl w' g b l wt true∧Fs (gbS g b) w w':=by
 have HX0:Hid (Row ((w.alloc (.cells z2x 66)).alloc (.cells #[.int .u8 0,.int .u32 0] 29)) w.heap.size 66 (fm0 0 0 0 0).c):=by show Row _ _ _ _;rw[z_c];exact(Row.new w _ _).alloc _
 have HT0:Hid (Row ((w.alloc (.cells z2x 66)).alloc (.cells #[.int .u8 0,.int .u32 0] 29)) (w.heap.size+1) 29 (ftc 0 0)):=by show Row _ _ _ _;rw[z9];exact Row.made _ _ _ (by simp)
 have HB0:Hid (Below w.heap.size w ((w.alloc (.cells z2x 66)).alloc (.cells #[.int .u8 0,.int .u32 0] 29))):=((Below.refl _ _).alloc (Nat.le_refl _) _).alloc (by simp) _
 have HS0:Hid (((w.alloc (.cells z2x 66)).alloc (.cells #[.int .u8 0,.int .u32 0] 29)).heap.size=w.heap.size+2):=by show _=_;simp
 have H0:Hid (Spl ((w.alloc (.cells z2x 66)).alloc (.cells #[.int .u8 0,.int .u32 0] 29)) g b l wt true):=h.below HB0.out
 have H00:=z2w h
 clear h
 have HT9:=z2w (HT0.out.setRow' (k:=w.heap.size) (by omega) (Fm.c (fm0 0 0 0 0)))
 have HZ9:=z2w (((Fs.of_below (S:=λk=>k=w.heap.size∨k=w.heap.size+1) HB0.out).setRow (g:=w.heap.size) (λ_=>.inl rfl) (Fm.c (fm0 0 0 0 0))).setRow (g:=w.heap.size+1) (λ_=>.inr rfl) (ftc 0 0))
 go_enter Tryz.func30,Tryz.ntmps30
 go_upto_region 1 with fail
 generalize ((w.alloc (.cells z2x 66)).alloc (.cells #[.int .u8 0,.int .u32 0] 29))=w1 at *
 go_wp2_with fail
 refine(zjl H0.out).mono ?_
 rintro e w3' ⟨rfl,rfl⟩
 go_wp2_with (first|(refine qe (x:=(fm0 0 0 0 0)) rfl _ _ rfl rfl (by rw[z_c];rfl) HX0.out ?_)|(refine qf (s:=0) (c:=0) rfl _ _ rfl rfl (show _=Value.agg (ftc 0 0) by rw[z9];rfl) HT9.out ?_))
 refine bodyPost_ret (yg rfl _ _ w.heap.size (w.heap.size+1) (fm0 0 0 0 0) 0 0 (.bool false) rfl ((HX0.out.setRow _).setRow' (by omega) _) rfl (HT9.out.setRow _) rfl) rfl ?_
 exact⟨rfl,H00.out.fs HZ9.out (by have:=H00.out.lts;omega) (by have:=H00.out.lts;omega),HZ9.out.below (B:=w.heap.size) (λk hk _=>by omega) (Nat.le_refl _) |> Fs.of_below⟩
theorem zfd{w:World}{g b fi la:Nat}{L:List UInt8}{wt:Bool}(h:SpG w g b fi la L wt)(hG:GlobE w){o:Option Rd}{r:List UInt8}{w2:Bool}(ho:nxN (zv L fi la) wt=(o,r,w2))(hs:∀s:Nat,(s=zhv o)→s≠1) :
  Calls Tryz.prog 30 #[.pointer (some ⟨g,0,none⟩)] w λe w'=>∃v,e=.returned v∧zgn w' w.heap.size o v∧Spl w' g b r w2 false∧Fs (gbS g b) w w':=by
 have HX0:Hid (Row ((w.alloc (.cells z2x 66)).alloc (.cells #[.int .u8 0,.int .u32 0] 29)) w.heap.size 66 (fm0 0 0 0 0).c):=by show Row _ _ _ _;rw[z_c];exact(Row.new w _ _).alloc _
 have HT0:Hid (Row ((w.alloc (.cells z2x 66)).alloc (.cells #[.int .u8 0,.int .u32 0] 29)) (w.heap.size+1) 29 (ftc 0 0)):=by show Row _ _ _ _;rw[z9];exact Row.made _ _ _ (by simp)
 have HB0:Hid (Below w.heap.size w ((w.alloc (.cells z2x 66)).alloc (.cells #[.int .u8 0,.int .u32 0] 29))):=((Below.refl _ _).alloc (Nat.le_refl _) _).alloc (by simp) _
 have HS0:Hid (((w.alloc (.cells z2x 66)).alloc (.cells #[.int .u8 0,.int .u32 0] 29)).heap.size=w.heap.size+2):=by show _=_;simp
 have H0:Hid (SpG ((w.alloc (.cells z2x 66)).alloc (.cells #[.int .u8 0,.int .u32 0] 29)) g b fi la L wt):=h.below HB0.out
 have HF0:Hid (Fs (gbS g b) w ((w.alloc (.cells z2x 66)).alloc (.cells #[.int .u8 0,.int .u32 0] 29))):=Fs.of_below HB0.out
 have HG0:Hid (GlobE ((w.alloc (.cells z2x 66)).alloc (.cells #[.int .u8 0,.int .u32 0] 29))):=hG.below HB0.out
 have hglt:=h.row.lt
 have hblt:=h.buf.lt
 have hbd:=Y2 H0.out.c4
 have hn:=zov H0.out HG0.out
 rw[ho] at hn
 have HO:=z2w hs
 clear h hG ho hs
 go_enter Tryz.func30,Tryz.ntmps30
 go_upto_region 1 with fail
 generalize ((w.alloc (.cells z2x 66)).alloc (.cells #[.int .u8 0,.int .u32 0] 29))=w1 at *
 go_wp2_with fail
 refine hbd.mono ?_
 rintro e w3' ⟨rfl,rfl⟩
 go_wp2_with fail
 refine hn.mono ?_
 rintro e w5 ⟨v,rfl,⟨X,s,c,ok,rfl,hT⟩,⟨fi',h5,hl5⟩,hF5⟩
 have HX5:=z2w (hF5.row (b:=w.heap.size) (λe=>by rcases e with e|e<;>omega) HX0.out)
 have HT5:=z2w (hF5.row (b:=w.heap.size+1) (λe=>by rcases e with e|e<;>omega) HT0.out)
 have H5:=z2w h5
 have HF5:=z2w (HF0.out.trans hF5 (λk _ e=>e))
 have HQ5:=z2w hl5
 have HS1:=z2w (HO.out s (hT.scope))
 have HM5:=z2w (hT.mono (base':=w.heap.size+2) (by have:=HS0.out;omega))
 have hs5:w.heap.size+2≤w5.heap.size:=by rw[←HS0.out];exact hF5.size
 clear hn hbd hT h5 hl5 hF5 HF0 HG0 HX0 HT0 HS0 HB0 HO
 have HX6:Hid (Row ((w5.alloc (.cells z2x 66)).alloc (.cells #[.int .u8 0,.int .u32 0] 29)) w5.heap.size 66 (fm0 0 0 0 0).c):=by show Row _ _ _ _;rw[z_c];exact(Row.new w5 _ _).alloc _
 have HT6:Hid (Row ((w5.alloc (.cells z2x 66)).alloc (.cells #[.int .u8 0,.int .u32 0] 29)) (w5.heap.size+1) 29 (ftc 0 0)):=by show Row _ _ _ _;rw[z9];exact Row.made _ _ _ (by simp)
 have HB6:Hid (Below w5.heap.size w5 ((w5.alloc (.cells z2x 66)).alloc (.cells #[.int .u8 0,.int .u32 0] 29))):=((Below.refl _ _).alloc (Nat.le_refl _) _).alloc (by simp) _
 have HS6:Hid (((w5.alloc (.cells z2x 66)).alloc (.cells #[.int .u8 0,.int .u32 0] 29)).heap.size=w5.heap.size+2):=by show _=_;simp
 have H7:=z2w (H5.out.below HB6.out)
 have HF7:=z2w (HF5.out.then_below HB6.out)
 have HX7:=z2w (HX5.out.below HB6.out HX5.out.lt)
 have HT7:=z2w (HT5.out.below HB6.out HT5.out.lt)
 clear H5 HF5 HX5 HT5
 go_upto_region 4 with (first|(refine qe (x:=X) rfl _ _ rfl rfl rfl HX6.out ?_)|(refine qf (s:=s) (c:=c) rfl _ _ rfl rfl rfl (HT6.out.setRow' (k:=w5.heap.size) (by omega) X.c) ?_))
 have HX8:=z2w ((HX6.out.setRow X.c).setRow' (k:=w5.heap.size+1) (by omega) (ftc s c))
 have HT8:=z2w ((HT6.out.setRow' (k:=w5.heap.size) (by omega) X.c).setRow (ftc s c))
 have HSS:=z2w (((Fs.refl (λk=>k=w5.heap.size∨k=w5.heap.size+1) ((w5.alloc (.cells z2x 66)).alloc (.cells #[.int .u8 0,.int .u32 0] 29))).setRow (g:=w5.heap.size) (λ_=>.inl rfl) X.c).setRow (g:=w5.heap.size+1) (λ_=>.inr rfl) (ftc s c))
 have HY8:=z2w (HSS.out.row (by omega) HX7.out)
 have HU8:=z2w (HSS.out.row (by omega) HT7.out)
 have H8:=z2w (H7.out.fs HSS.out (by omega) (by omega))
 have HF8:=z2w (HF7.out.trans HSS.out (λk hk h=>by omega))
 have HM8:=z2w (HM5.out.skip HB6.out rfl HSS.out)
 generalize ((((w5.alloc (.cells z2x 66)).alloc (.cells #[.int .u8 0,.int .u32 0] 29)).setRow w5.heap.size X.c).setRow (w5.heap.size+1) (ftc s c))=w8 at *
 clear HX6 HT6 HX7 HT7 HSS H7 HF7 HS6 HM5 HB6
 have cs:w8.cell? ⟨w5.heap.size+1,0,none⟩=some (.int .u8 (s:Int)):=HT8.out.cell (by rw[z9];rfl)
 have hb1:((s:Int) == 1)=false:=beq_eq_false_iff_ne.2 (by have:=HS1.out;omega)
 go_wp2_with fail
 refine wp_region_held_drew (S:=λw'=>Row w' w5.heap.size 66 (Fm.c X)∧Row w' (w5.heap.size+1) 29 (ftc s c)) (by kernel_rfl) ⟨HX8.out,HT8.out⟩ (λhHeld=>?_)
 refine tkY 0 rfl (qm (by rfl) _ rfl rfl (λ_ hSw=>hSw.1)) ?_
 refine tkY 1 rfl (Xw (by rfl) _ rfl rfl (λ_ hSw=>hSw.2)) ?_
 refine tkH 2 ?_
 refine rdH 3 λK hK=>?_
 refine xf (x:=X) rfl (.tmp 2) (.tmp 24) rfl rfl rfl HY8.out ?_
 refine hK.out _ _ ⟨hHeld.1.setRow' (by omega) _,hHeld.2.setRow' (by omega) _⟩ (λhHeld=>?_)
 clear hK K
 try refine ptk ?_
 refine rdH 4 λK hK=>?_
 refine Xi rfl (.tmp 3) (.tmp 25) rfl rfl rfl (Row.setRow' (show Row (World.drew _) _ _ _ from HU8.out) (k:=w.heap.size) (by omega) _) ?_
 refine hK.out _ _ ⟨hHeld.1.setRow' (by omega) _,hHeld.2.setRow' (by omega) _⟩ (λhHeld=>?_)
 clear hK K
 try refine ptk ?_
 refine tkH 5 ?_
 refine dnH ?_
 go_wp2_with fail
 refine bodyPost_ret (yg rfl _ _ w.heap.size (w.heap.size+1) X s c (.bool ok) rfl (Row.setRow' (Row.setRow (show Row w8.drew _ _ _ from HY8.out) _) (by omega) _) rfl (Row.setRow (Row.setRow' (show Row w8.drew _ _ _ from HU8.out) (by omega) _) _) rfl) rfl ?_
 have HZ:Fs (λk=>k=w.heap.size∨k=w.heap.size+1) w8 ((w8.drew.setRow w.heap.size X.c).setRow (w.heap.size+1) (ftc s c)):=(((Fs.refl _ w8).drewN 1).setRow (g:=w.heap.size) (λ_=>.inl rfl) X.c).setRow (g:=w.heap.size+1) (λ_=>.inr rfl) (ftc s c)
 exact⟨_,rfl,⟨X,s,c,ok,rfl,(HM8.out.keep λk hk hk2=>HZ.block k hk2 (by omega)).mono (by omega)⟩,.inl ⟨rfl,fi',la,L,H8.out.fs HZ (by omega) (by omega),HQ5.out.symm⟩,HF8.out.trans HZ (λk hk h=>by omega)⟩
theorem zop{w:World}{g b fi la:Nat}{L:List UInt8}{wt:Bool}(h:SpG w g b fi la L wt)(hG:GlobE w){o:Option Rd}{r:List UInt8}{w2:Bool}(ho:nxN (zv L fi la) wt=(o,r,w2))(hs:∀s:Nat,(s=zhv o)→s=1) :
  Calls Tryz.prog 30 #[.pointer (some ⟨g,0,none⟩)] w λe w'=>∃v,e=.returned v∧zgn w' w.heap.size o v∧Spl w' g b [] false true∧Fs (gbS g b) w w':=by
 have HX0:Hid (Row ((w.alloc (.cells z2x 66)).alloc (.cells #[.int .u8 0,.int .u32 0] 29)) w.heap.size 66 (fm0 0 0 0 0).c):=by show Row _ _ _ _;rw[z_c];exact(Row.new w _ _).alloc _
 have HT0:Hid (Row ((w.alloc (.cells z2x 66)).alloc (.cells #[.int .u8 0,.int .u32 0] 29)) (w.heap.size+1) 29 (ftc 0 0)):=by show Row _ _ _ _;rw[z9];exact Row.made _ _ _ (by simp)
 have HB0:Hid (Below w.heap.size w ((w.alloc (.cells z2x 66)).alloc (.cells #[.int .u8 0,.int .u32 0] 29))):=((Below.refl _ _).alloc (Nat.le_refl _) _).alloc (by simp) _
 have HS0:Hid (((w.alloc (.cells z2x 66)).alloc (.cells #[.int .u8 0,.int .u32 0] 29)).heap.size=w.heap.size+2):=by show _=_;simp
 have H0:Hid (SpG ((w.alloc (.cells z2x 66)).alloc (.cells #[.int .u8 0,.int .u32 0] 29)) g b fi la L wt):=h.below HB0.out
 have HF0:Hid (Fs (gbS g b) w ((w.alloc (.cells z2x 66)).alloc (.cells #[.int .u8 0,.int .u32 0] 29))):=Fs.of_below HB0.out
 have HG0:Hid (GlobE ((w.alloc (.cells z2x 66)).alloc (.cells #[.int .u8 0,.int .u32 0] 29))):=hG.below HB0.out
 have hglt:=h.row.lt
 have hblt:=h.buf.lt
 have hbd:=Y2 H0.out.c4
 have hn:=zov H0.out HG0.out
 rw[ho] at hn
 have HO:=z2w hs
 clear h hG ho hs
 go_enter Tryz.func30,Tryz.ntmps30
 go_upto_region 1 with fail
 generalize ((w.alloc (.cells z2x 66)).alloc (.cells #[.int .u8 0,.int .u32 0] 29))=w1 at *
 go_wp2_with fail
 refine hbd.mono ?_
 rintro e w3' ⟨rfl,rfl⟩
 go_wp2_with fail
 refine hn.mono ?_
 rintro e w5 ⟨v,rfl,⟨X,s,c,ok,rfl,hT⟩,⟨fi',h5,hl5⟩,hF5⟩
 have HX5:=z2w (hF5.row (b:=w.heap.size) (λe=>by rcases e with e|e<;>omega) HX0.out)
 have HT5:=z2w (hF5.row (b:=w.heap.size+1) (λe=>by rcases e with e|e<;>omega) HT0.out)
 have H5:=z2w h5
 have HF5:=z2w (HF0.out.trans hF5 (λk _ e=>e))
 have HQ5:=z2w hl5
 have HS1:=z2w (HO.out s (hT.scope))
 have HM5:=z2w (hT.mono (base':=w.heap.size+2) (by have:=HS0.out;omega))
 have hs5:w.heap.size+2≤w5.heap.size:=by rw[←HS0.out];exact hF5.size
 clear hn hbd hT h5 hl5 hF5 HF0 HG0 HX0 HT0 HS0 HB0 HO
 have HX6:Hid (Row ((w5.alloc (.cells z2x 66)).alloc (.cells #[.int .u8 0,.int .u32 0] 29)) w5.heap.size 66 (fm0 0 0 0 0).c):=by show Row _ _ _ _;rw[z_c];exact(Row.new w5 _ _).alloc _
 have HT6:Hid (Row ((w5.alloc (.cells z2x 66)).alloc (.cells #[.int .u8 0,.int .u32 0] 29)) (w5.heap.size+1) 29 (ftc 0 0)):=by show Row _ _ _ _;rw[z9];exact Row.made _ _ _ (by simp)
 have HB6:Hid (Below w5.heap.size w5 ((w5.alloc (.cells z2x 66)).alloc (.cells #[.int .u8 0,.int .u32 0] 29))):=((Below.refl _ _).alloc (Nat.le_refl _) _).alloc (by simp) _
 have HS6:Hid (((w5.alloc (.cells z2x 66)).alloc (.cells #[.int .u8 0,.int .u32 0] 29)).heap.size=w5.heap.size+2):=by show _=_;simp
 have H7:=z2w (H5.out.below HB6.out)
 have HF7:=z2w (HF5.out.then_below HB6.out)
 have HX7:=z2w (HX5.out.below HB6.out HX5.out.lt)
 have HT7:=z2w (HT5.out.below HB6.out HT5.out.lt)
 clear H5 HF5 HX5 HT5
 go_upto_region 4 with (first|(refine qe (x:=X) rfl _ _ rfl rfl rfl HX6.out ?_)|(refine qf (s:=s) (c:=c) rfl _ _ rfl rfl rfl (HT6.out.setRow' (k:=w5.heap.size) (by omega) X.c) ?_))
 have HX8:=z2w ((HX6.out.setRow X.c).setRow' (k:=w5.heap.size+1) (by omega) (ftc s c))
 have HT8:=z2w ((HT6.out.setRow' (k:=w5.heap.size) (by omega) X.c).setRow (ftc s c))
 have HSS:=z2w (((Fs.refl (λk=>k=w5.heap.size∨k=w5.heap.size+1) ((w5.alloc (.cells z2x 66)).alloc (.cells #[.int .u8 0,.int .u32 0] 29))).setRow (g:=w5.heap.size) (λ_=>.inl rfl) X.c).setRow (g:=w5.heap.size+1) (λ_=>.inr rfl) (ftc s c))
 have HY8:=z2w (HSS.out.row (by omega) HX7.out)
 have HU8:=z2w (HSS.out.row (by omega) HT7.out)
 have H8:=z2w (H7.out.fs HSS.out (by omega) (by omega))
 have HF8:=z2w (HF7.out.trans HSS.out (λk hk h=>by omega))
 have HM8:=z2w (HM5.out.skip HB6.out rfl HSS.out)
 generalize ((((w5.alloc (.cells z2x 66)).alloc (.cells #[.int .u8 0,.int .u32 0] 29)).setRow w5.heap.size X.c).setRow (w5.heap.size+1) (ftc s c))=w8 at *
 clear HX6 HT6 HX7 HT7 HSS H7 HF7 HS6 HM5 HB6
 have cs:w8.cell? ⟨w5.heap.size+1,0,none⟩=some (.int .u8 (s:Int)):=HT8.out.cell (by rw[z9];rfl)
 have hb1:((s:Int) == 1)=true:=by rw[HS1.out];rfl
 have HR8:=z2w H8.out.row
 have hw9:=(Fs.refl (λk=>k=g) w8).setRow (g:=g) (λ_=>rfl) #[.slice none 0 0,.int .i64 0,.int .i64 0,.bool false,.bool true]
 have HX9:=z2w (hw9.row (b:=w5.heap.size) (by omega) HX8.out)
 have HT9:=z2w (hw9.row (b:=w5.heap.size+1) (by omega) HT8.out)
 have HY9:=z2w (hw9.row (b:=w.heap.size) (by omega) HY8.out)
 have HU9:=z2w (hw9.row (b:=w.heap.size+1) (by omega) HU8.out)
 have HM9:=z2w (HM8.out.keep (w':=w8.setRow g #[.slice none 0 0,.int .i64 0,.int .i64 0,.bool false,.bool true]) λk hk hk2=>hw9.block k hk2 (by omega))
 have HF9:=z2w (HF8.out.trans hw9 (λk _ e=>.inl e))
 have HP9:Hid (SpX (w8.setRow g #[.slice none 0 0,.int .i64 0,.int .i64 0,.bool false,.bool true]) g∧0<g∧b≠g∧b<(w8.setRow g #[.slice none 0 0,.int .i64 0,.int .i64 0,.bool false,.bool true]).heap.size):=⟨H8.out.row.setRow _,H8.out.lo.1,H8.out.ne,Nat.lt_of_lt_of_le H8.out.buf.lt hw9.size⟩
 clear hw9
 go_wp2_with (refine zl9 rfl _ _ rfl rfl rfl HR8.out ?_)
 generalize w8.setRow g #[.slice none 0 0,.int .i64 0,.int .i64 0,.bool false,.bool true]=w9 at *
 clear HX8 HT8 HY8 HU8 HM8 HF8 H8 HR8
 refine wp_region_held_drew (S:=λw'=>Row w' w5.heap.size 66 (Fm.c X)∧Row w' (w5.heap.size+1) 29 (ftc s c)) (by kernel_rfl) ⟨HX9.out,HT9.out⟩ (λhHeld=>?_)
 refine tkY 0 rfl (qm (by rfl) _ rfl rfl (λ_ hSw=>hSw.1)) ?_
 refine tkY 1 rfl (Xw (by rfl) _ rfl rfl (λ_ hSw=>hSw.2)) ?_
 refine tkH 2 ?_
 refine rdH 3 λK hK=>?_
 refine xf (x:=X) rfl (.tmp 2) (.tmp 24) rfl rfl rfl HY9.out ?_
 refine hK.out _ _ ⟨hHeld.1.setRow' (by omega) _,hHeld.2.setRow' (by omega) _⟩ (λhHeld=>?_)
 clear hK K
 try refine ptk ?_
 refine rdH 4 λK hK=>?_
 refine Xi rfl (.tmp 3) (.tmp 25) rfl rfl rfl (Row.setRow' (show Row (World.drew _) _ _ _ from HU9.out) (k:=w.heap.size) (by omega) _) ?_
 refine hK.out _ _ ⟨hHeld.1.setRow' (by omega) _,hHeld.2.setRow' (by omega) _⟩ (λhHeld=>?_)
 clear hK K
 try refine ptk ?_
 refine tkH 5 ?_
 refine dnH ?_
 go_wp2_with fail
 refine bodyPost_ret (yg rfl _ _ w.heap.size (w.heap.size+1) X s c (.bool ok) rfl (Row.setRow' (Row.setRow (show Row w9.drew _ _ _ from HY9.out) _) (by omega) _) rfl (Row.setRow (Row.setRow' (show Row w9.drew _ _ _ from HU9.out) (by omega) _) _) rfl) rfl ?_
 have HZ:Fs (λk=>k=w.heap.size∨k=w.heap.size+1) w9 ((w9.drew.setRow w.heap.size X.c).setRow (w.heap.size+1) (ftc s c)):=(((Fs.refl _ w9).drewN 1).setRow (g:=w.heap.size) (λ_=>.inl rfl) X.c).setRow (g:=w.heap.size+1) (λ_=>.inr rfl) (ftc s c)
 exact⟨_,rfl,⟨X,s,c,ok,rfl,(HM9.out.keep λk hk hk2=>HZ.block k hk2 (by omega)).mono (by omega)⟩,.inr ⟨rfl,rfl,rfl,(HZ.block g (Row.lt HP9.out.1) (by omega)).trans HP9.out.1,HP9.out.2.1,HP9.out.2.2.1,Nat.lt_of_lt_of_le HP9.out.2.2.2 HZ.size⟩,HF9.out.trans HZ (λk hk h=>by omega)⟩
theorem zh0{w:World}{g b:Nat}{l:List UInt8}{wt bad:Bool}(h:Spl w g b l wt bad)(hG:GlobE w) :
  Calls Tryz.prog 30 #[.pointer (some ⟨g,0,none⟩)] w λe w'=>∃v,e=.returned v∧zgn w' w.heap.size (nsN l wt bad).1 v∧Spl w' g b (nsN l wt bad).2.1 (nsN l wt bad).2.2.1 (nsN l wt bad).2.2.2∧Fs (gbS g b) w w':=by
 cases bad with
 |true=>
  refine(zrm h).mono ?_
  rintro e w1 ⟨rfl,h1,h2⟩
  refine⟨_,rfl,⟨_,_,_,_,rfl,rfl,rfl,rfl,rfl⟩,?_,h2⟩
  rcases h1 with ⟨h0,_⟩|⟨_,hw,hl,hX⟩
  ·cases h0
  ·exact .inr ⟨rfl,rfl,rfl,hX⟩
 |false=>
  rcases h with ⟨_,fi,la,L,hS,rfl⟩|⟨h0,_⟩
  ·obtain⟨o,r,w2,ho⟩:∃o r w2,nxN (zv L fi la) wt=(o,r,w2):=⟨_,_,_,rfl⟩
   cases o with
   |none=>
    rw[zh2 ho]
    exact zfd hS hG ho (λs e=>by rw[e];exact Nat.zero_ne_one)
   |some x=>
    by_cases hx:x.2.1=1
    ·rw[zog ho hx];exact zop hS hG ho (λs e=>by rw[e];exact hx)
    ·rw[zho ho hx];exact zfd hS hG ho (λs e=>by rw[e];exact hx)
  ·cases h0
end
section
def zby(l:List UInt8)(bad:Bool)(x:List UInt8):Nat:=if bad=true then 0 else min x.length (16393-l.length)
def vj(l:List UInt8)(bad:Bool)(x:List UInt8):List UInt8:=if bad=true then [] else l++x.take (16393-l.length)
theorem zp0(v:Value){w:World}{g b:Nat}{l:List UInt8}{wt:Bool}(h:Spl w g b l wt true):Calls Tryz.prog 39 #[.pointer (some ⟨g,0,none⟩),v] w λe w'=>e=.returned (.int .i64 0)∧w'=w:=by
 have hb:=zjl h
 clear h
 go_enter Tryz.func39,Tryz.ntmps39
 go_wp2_with fail
 refine hb.mono ?_
 rintro e w1 ⟨rfl,rfl⟩
 go_wp2_with fail
 go_ret
 exact⟨rfl,rfl⟩
theorem zrd{w:World}{g b:Nat}{l x:List UInt8}{wt bad:Bool}{A:Option Addr}{c:Nat}(h:Spl w g b l wt bad)(hx:RdS w (λk=>k<w.heap.size∧k≠g∧k≠b) A (byc x)) :
  Calls Tryz.prog 39 #[.pointer (some ⟨g,0,none⟩),.slice A x.length c] w λe w'=>e=.returned (.int .i64 (zby l bad x:Int))∧Spl w' g b (vj l bad x) wt bad∧Fs (gbS g b) w w':=by
 cases bad with
 |true=>
  refine(zp0 _ h).mono ?_
  rintro e w1 ⟨rfl,rfl⟩
  refine⟨rfl,?_,Fs.refl _ _⟩
  rcases h with ⟨h0,_⟩|⟨h0,hw,hl,hX⟩
  ·cases h0
  ·exact .inr ⟨rfl,hw,rfl,hX⟩
 |false=>
  rcases h with ⟨_,fi,la,L,hS,rfl⟩|⟨h0,_⟩
  ·have hl:=hS.held_len
   refine(zno (c:=c) hS hx).mono ?_
   rintro e w1 ⟨rfl,la',L',h1,h2,h3⟩
   refine⟨?_,?_,h3⟩
   ·unfold zby;rw[hl];rfl
   ·refine .inl ⟨rfl,0,la',L',h1,?_⟩
    rw[h2]
    unfold vj
    rw[hl]
    rfl
  ·cases h0
end
end Go.Proofs.YtooaajnkiokpnaaGreatDoor
