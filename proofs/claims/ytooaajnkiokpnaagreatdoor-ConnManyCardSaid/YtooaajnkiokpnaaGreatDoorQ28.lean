/-
  Part of a proof: A side's fail; State; meet of a fault of the connection; come and take where the first frame isn't the other side's settings: by their contracts. Conditions: those that each theorem names.
-/
import Derived.Test.YtooaajnkiokpnaaGreatDoorQ07
import Derived.Test.YtooaajnkiokpnaaGreatDoorQ24
import Derived.Test.YtooaajnkiokpnaaGreatDoorQ13
import Derived.Test.YtooaajnkiokpnaaGreatDoorQ04
import Derived.Deep.RegionHeld3
import Derived.Deep.Cut
import Derived.Test.YtooaajnkiokpnaaGreatDoorQ01
import Derived.Test.YtooaajnkiokpnaaGreatDoorQ06
import Derived.Test.YtooaajnkiokpnaaGreatDoorQ26
namespace Go.Proofs.YtooaajnkiokpnaaGreatDoor
open Go.RowKit Go.WideShapes
set_option maxHeartbeats 2000000
set_option maxRecDepth 100000
section
theorem Jd{w:World}{g k:Nat}{T U:TypeId}{cs ds:Array Value}(h:Row w g T cs)(h2:Row w k U ds)(hn:T≠U):g≠k:=by
 rintro rfl
 unfold Row at h h2
 rw[h] at h2
 injection h2 with h2
 injection h2 with _ h2
 exact hn h2
theorem Qq{w:World}{base:Nat}{e:TypeId}{k n:Nat}{v:Value}{cs:List Value}(h:OwS w base e k v n cs){g:Nat}(hg:ob v g):∃cur,Row w g e cur:=by
 unfold ob at hg
 rcases h.2 with ⟨rfl,_⟩|⟨g',o,c,cur,rfl,_,hr,_⟩
 ·simp[Value.ownBlock] at hg
 ·simp[Value.ownBlock] at hg
  subst hg
  exact⟨cur,hr⟩
theorem Jy{w:World}{c:Nat}{cs:Array Value}{base:Nat}{v:Value}{l:List UInt8}(h:Row w c 86 cs)(hb:Bo w base 5 v l):¬ob v c:=λhk=>by
 obtain⟨cur,h4⟩:=Qq hb hk
 exact Jd h h4 (by decide) rfl
theorem zh1{w:World}{g:Nat}{X:Fm}{q:Int}(h:Row w g 66 ({ X with pad:=q }:Fm).c)(hp:X.pad = -1):Row (w.setCell ⟨g,4,none⟩ (.int .i64 (-1))) g 66 X.c:=by
 rw[←hp]
 exact h.stored 4 (.int .i64 X.pad)
def zfv(w:World)(c:Nat)(x:Cc)(l:List UInt8)(w':World):Prop:=
 ∃v,Row w' c 86 ({ x with row:=v }:Cc).c∧Bo w' 0 5 v l∧Fs (λk=>k=c∨ob x.row k) w w'∧Nx w x.row v
attribute [local irreducible] Cc.c Fm.c
theorem ze8{w:World}{c:Nat}{x:Cc}(h:Row w c 86 x.c){L:List UInt8}(hr:Bo w 0 5 x.row L)(hl:L.length≤100000000000)(f:Frm)(hk:f.Ok)(hm:f.May)(hp:f.pad = -1){dA sA:Option Addr}{dc sc:Nat}{q:Int}
  (hD:RdB w w.heap.size dA f.dat) (hS:RdS w (·<w.heap.size) sA (enl sgc f.sets)) :
  Calls Tryz.prog 74 #[.pointer (some ⟨c,0,none⟩),.agg ({ f.fm dA dc sA sc with pad:=q }:Fm).c] w λe w'=>e=.returned (.tuple #[])∧zfv w c x (L++zh f) w':=by
 obtain⟨i0,hi0,hz0,hz1,hz2⟩:=zr qk
 have hlen:=J2 f hm
 have HL7:Hid ((zh f).length≤16393):=by
  show _≤_
  unfold zh
  rw[List.length_append,jy]
  omega
 have hb0:Below w.heap.size w (w.alloc (.cells ({ f.fm dA dc sA sc with pad:=q }:Fm).c 66)):=(Below.refl _ _).alloc (Nat.le_refl _) _
 have hX0:Row (w.alloc (.cells ({ f.fm dA dc sA sc with pad:=q }:Fm).c 66)) w.heap.size 66 ({ f.fm dA dc sA sc with pad:=q }:Fm).c:=Row.new w _ _
 have hX1:=zh1 hX0 (show (f.fm dA dc sA sc).pad = -1 from hp)
 have f4:=(zf hX0).2.2.2.2.1
 have z4:=hX0.thawed 4
 have hb1:Below w.heap.size w ((w.alloc (.cells ({ f.fm dA dc sA sc with pad:=q }:Fm).c 66)).setCell ⟨w.heap.size,4,none⟩ (.int .i64 (-1))):=hb0.setCell (p:=⟨w.heap.size,4,none⟩) (Nat.le_refl _) _
 have HX:=z2w hX1
 have HB:=z2w hb1
 have hsz:w.heap.size<(w.alloc (.cells ({ f.fm dA dc sA sc with pad:=q }:Fm).c 66)).heap.size:=hX0.lt
 have H:=z2w (h.below hb1 h.lt)
 have HO:=z2w (hr.below hb1)
 have HD:=z2w (hD.below hb1)
 have HS:=z2w (hS.up hb1)
 have HC:=z2w h
 have HR0:=z2w hr
 clear h hr hX0 hX1 hb0 hb1 hD hS hlen hp
 go_enter Tryz.func74,Tryz.ntmps74
 go_upto_region 1 with fail
 generalize w.alloc (.cells ({ f.fm dA dc sA sc with pad:=q }:Fm).c 66)=w1 at *
 have hw0:w.heap.size≤w.heap.size:=Nat.le_refl _
 obtain⟨p,hpp⟩:∃p,w.heap.size=p:=⟨_,rfl⟩
 rw[hpp] at f4 z4 hsz HX HD HS HB H HO ⊢
 have HP:=z2w hpp
 clear hpp hw0
 go_upto_region 2 with fail
 generalize w1.setCell ⟨p,4,none⟩ (.int .i64 (-1))=w2 at *
 have c16:=Jl H.out
 have hc2:c<w2.heap.size:=H.out.lt
 have hp2:p<w2.heap.size:=HX.out.lt
 have hput:=zgd f hk hm (dA:=dA) (sA:=sA) (dc:=dc) (sc:=sc) w2.drew (HD.out.more (by show p≤w2.heap.size;omega)) (HS.out.imp λk _ hk=>hk)
 go_wp2_with fail
 refine qg 10 (λw'=>Row w' p 66 (f.fm dA dc sA sc).c∧w'.cell? ⟨c,16,none⟩=some x.row) (by kernel_rfl) ⟨HX.out,c16⟩ (λhHeld=>?_)
 refine tkE 0 ?_
 refine tkE 1 ?_
 refine tkE 2 ?_
 refine tkE 3 ?_
 refine tkE 4 ?_
 refine zht 5 rfl (qm (by rfl) _ rfl rfl (λ_ hSw=>hSw.1)) ?_
 refine zm (i:=6) (by kernel_rfl) rfl (λK hK=>?_)
 go_simp
 go_at_call 116
 refine hput.mono ?_
 rintro e w3 ⟨A,cp,rfl,hO3,hb3⟩
 have hb3':Below w2.heap.size w2 w3:=⟨hb3.os,hb3.tape,hb3.output,hb3.size,hb3.block⟩
 have hX3:=HX.out.below hb3' hp2
 have H3:=z2w (H.out.below hb3' hc2)
 have HO3:=z2w (HO.out.below hb3')
 have HN3:Hid (Bo w3 w2.heap.size 5 (.slice A (zh f).length cp) (zh f)):=hO3
 have HB3:=z2w (HB.out.trans (hb3'.mono (by omega)))
 have k16:=Jl H3.out
 clear hO3 hb3 hb3' hput HX H HO HB HD HS c16 hHeld
 go_simp
 refine hK.out _ _ ⟨hX3,k16⟩ (λhHeld=>?_)
 clear hK K
 try refine ptk ?_
 refine zm (i:=7) (by kernel_rfl) rfl (λK hK=>?_)
 refine jp rfl (.tmp 9) (.tmp 11) 22 rfl 0 5 i0 Tryz.underlying22 hi0 hz0 hz1 hz2 x.row L rfl HO3.out w3.heap.size A (zh f) _ _ rfl rfl (Bo.reads HN3.out) (by have:=HL7.out;omega) (Nat.zero_le _) (λv4 w4 hO4 hF4 hN4=>?_)
 obtain⟨A4,c4,rfl,_⟩:=hO4.shape
 have hrn:=Jy H3.out HO3.out
 have hpn:¬ob x.row p:=λhk=>by
  obtain⟨cur,h4⟩:=Qq HO3.out hk
  exact Jd hX3 h4 (by decide) rfl
 have hX4:=hF4.row hpn hX3
 have h4:=hF4.row hrn H3.out
 have q16:=Jl h4
 have z16:=h4.thawed 16
 have HFIN:Hid (zfv w c x (L++zh f) (w4.setCell ⟨c,16,none⟩ (.slice A4 (L++zh f).length c4))):=
  ⟨_,zb1 h4 _,OwS.setCell (a:=⟨c,16,none⟩) hO4 (Jy h4 hO4) _,((Fs.of_below (by rw[HP.out];exact HB3.out)).trans hF4 (λk _ h=>.inr h)).setCell (λ_=>.inl rfl) 16 _,(Nx.refl w x.row).trans hN4 (by have:=HB3.out.size;omega)⟩
 clear hO4 hF4 hN4 hrn hpn h4 hX3 k16 H3 HO3 HN3 HB3 HC HR0
 refine hK.out _ _ ⟨hX4,q16⟩ (λhHeld=>?_)
 clear hK K
 try refine ptk ?_
 refine tkE 8 ?_
 refine tkE 9 ?_
 refine qh (by kernel_rfl) rfl (by kernel_rfl) (λK hK=>?_)
 go_simp
 refine hK.out _ _ ?_
 clear hK K
 try refine ptk ?_
 go_wp2_with fail
 go_end0
 exact⟨rfl,by rw[←List.length_append];exact HFIN.out⟩
end
section
theorem zz3(x:Ev)(w:World):(Instr.buildSlice 81 1 #[(0,.agg (evc x))]).run Tryz.prog w=.ok (.slice (some ⟨w.heap.size,0,none⟩) 1 1) (w.alloc (.cells (evc x) 31)):=by unfold evc;kernel_rfl
theorem z0b(x:Ev):evl x=(evc x).toList:=rfl
def EvL(w:World)(v:Value)(L:List Ev):Prop:=OwS w 0 31 8 v L.length (enl evl L)
theorem EvL.below{w w':World}{v:Value}{L:List Ev}(h:EvL w v L)(hb:Below w.heap.size w w'):EvL w' v L:=OwS.below h hb
theorem EvL.nil(w:World):EvL w (.slice none 0 0) []:=OwS.nil
theorem EvL.fs{w w':World}{v:Value}{L:List Ev}{S:Nat→Prop}(h:EvL w v L)(hf:Fs S w w')(hS:∀k,ob v k→¬S k):EvL w' v L:=OwS.keep h λk hk=>hf.block k (OwS.lt h k hk).2 (hS k hk)
theorem zaf{w:World}{c:Nat}{cs:Array Value}{v:Value}{L:List Ev}(h:Row w c 86 cs)(hb:EvL w v L):¬ob v c:=λhk=>by
 obtain⟨cur,h4⟩:=Qq hb hk
 exact Jd h h4 (by decide) rfl
def zft(w:World)(c:Nat)(x:Cc)(L:List Ev)(w':World):Prop:=
 ∃v,Row w' c 86 ({ x with ev:=v }:Cc).c∧EvL w' v L∧Fs (λk=>k=c∨ob x.ev k) w w'∧Nx w x.ev v
attribute [local irreducible] Cc.c evc
theorem zfc{w:World}{c:Nat}{x:Cc}(h:Row w c 86 x.c){L:List Ev}{A1:Option Addr}{c1:Nat}(hv:x.ev=.slice A1 L.length c1)(hr:EvL w x.ev L)(hl:L.length≤100000)(y:Ev) :
  Calls Tryz.prog 112 #[.pointer (some ⟨c,0,none⟩),.agg (evc y)] w λe w'=>e=.returned (.tuple #[])∧zft w c x (L++[y]) w':=by
 have hb1:Below w.heap.size w (w.alloc (.cells (evc y) 31)):=(Below.refl _ _).alloc (Nat.le_refl _) _
 have HX:Hid (Row (w.alloc (.cells (evc y) 31)) w.heap.size 31 (evc y)):=Row.new w _ _
 have HB:=z2w hb1
 have H:=z2w (h.below hb1 h.lt)
 have HO:=z2w (hr.below hb1)
 have HV:=z2w hv
 have HLT:Hid (∀k,ob x.ev k→k<w.heap.size):=λk hk=>(OwS.lt hr k hk).2
 clear h hr hb1 hv
 go_enter Tryz.func112,Tryz.ntmps112
 go_upto_region 1 with fail
 generalize w.alloc (.cells (evc y) 31)=w1 at *
 obtain⟨p,hpp⟩:∃p,w.heap.size=p:=⟨_,rfl⟩
 rw[hpp] at HX HB ⊢
 have HP:=z2w hpp
 clear hpp
 have c13:=Xj H.out
 rw[HV.out] at c13
 go_wp2_with fail
 refine qg 10 (λw'=>w'.cell? ⟨c,13,none⟩=some (.slice A1 L.length c1)∧Row w' p 31 (evc y)) (by kernel_rfl) ⟨c13,HX.out⟩ (λhHeld=>?_)
 refine tkE 0 ?_
 refine tkE 1 ?_
 refine tkE 2 ?_
 refine tkE 3 ?_
 refine tkE 4 ?_
 refine zht 5 rfl (Q0 (by rfl) _ rfl rfl (j5 _) (λ_ hSw=>hSw.2)) ?_
 refine zm (i:=6) (by kernel_rfl) rfl (λK hK=>?_)
 refine zgw (zz3 y) rfl (.tmp 9) rfl rfl ?_
 have hal:Below w1.heap.size w1 (w1.drew.alloc (.cells (evc y) 31)):=((Below.refl _ _).drew).alloc (Nat.le_refl _) _
 have H2:=z2w (H.out.below hal H.out.lt)
 have HO2:=z2w (HO.out.below hal)
 have HB2:=z2w (HB.out.trans (hal.mono (by have:=HX.out.lt;omega)))
 have m0:=Xj H2.out
 rw[HV.out] at m0
 have m1:Row (w1.drew.alloc (.cells (evc y) 31)) p 31 (evc y):=HX.out.below hal HX.out.lt
 have HN2:=z2w (Row.new w1.drew 31 (evc y))
 have hq:w1.drew.heap.size=w1.heap.size:=rfl
 rw[hq] at HN2 ⊢
 have hpl:p<w1.heap.size:=HX.out.lt
 have hq2:w1.heap.size+1≤(w1.drew.alloc (.cells (evc y) 31)).heap.size:=by simp
 clear hal hq H HO HB HX c13 hHeld
 refine hK.out _ _ ⟨m0,m1⟩ (λhHeld=>?_)
 clear hK K hHeld
 try refine ptk ?_
 generalize w1.drew.alloc (.cells (evc y) 31)=w5 at *
 generalize w1.heap.size=q at *
 have hHeld:w5.cell? ⟨c,13,none⟩=some (.slice A1 L.length c1)∧Row w5 p 31 (evc y):=⟨m0,m1⟩
 obtain⟨i0,hi0,hz0,hz1,hz2⟩:=zr zdr
 have hO2:OwS w5 0 31 8 (.slice A1 L.length c1) L.length (enl evl L):=by rw[←HV.out];exact HO2.out
 refine zm (i:=7) (by kernel_rfl) rfl (λK hK=>?_)
 refine Zr rfl (.tmp 8) (.tmp 10) 81 rfl 0 31 i0 _ 8 72 Tryz.underlying81 hi0 hz0 hz1 hz2 rfl (.slice A1 L.length c1) L.length (enl evl L) rfl hO2 ⟨q,0,none⟩ 1 1 (evl y) rfl (zac y) (λj u hj=>by rw[add_plain,Nat.zero_add];exact HN2.out.cell (by rw[z0b] at hj;simpa using hj)) (zw1 y) (by omega) (by simp only[maxLen];omega) (by omega) (Nat.zero_le _) ?_
 intro A6 c6 w6 hO6 hg6 hb6
 have hrn:=zaf H2.out (show EvL w5 (.slice A1 L.length c1) L from hO2)
 have hpn:¬ob (.slice A1 L.length c1) p:=λhk=>by
  have h1:=HLT.out p (by rw[HV.out];exact hk)
  have:=HP.out
  omega
 have hF6:Fs (ob (.slice A1 L.length c1)) w5 w6:=Fs.of_grown hg6
 have hN6:Nx w5 (.slice A1 L.length c1) (.slice A6 (L.length+1) c6):=Nx.of_new hb6
 have hX6:=hF6.row hpn m1
 have h6:=hF6.row hrn H2.out
 have q13:=Xj h6
 rw[HV.out] at q13
 have z13:=h6.thawed 13
 have hO6':EvL w6 (.slice A6 (L.length+1) c6) (L++[y]):=by
  show OwS _ _ _ _ _ _ _
  rw[List.length_append,jq,Zb]
  exact hO6
 have HFIN:Hid (zft w c x (L++[y]) (w6.setCell ⟨c,13,none⟩ (.slice A6 (L.length+1) c6))):=by
  refine⟨_,zab h6 _,OwS.setCell (a:=⟨c,13,none⟩) hO6' (zaf h6 hO6') _,?_,?_⟩
  ·rw[HV.out]
   exact((Fs.of_below (by rw[HP.out];exact HB2.out)).trans hF6 (λk _ h=>.inr h)).setCell (λ_=>.inl rfl) 13 _
  ·rw[HV.out]
   exact(Nx.refl w _).trans hN6 (by have:=HB2.out.size;have:=HP.out;omega)
 clear hO6 hO6' hg6 hb6 hF6 hN6 hrn hpn h6 hO2 H2 HO2 HB2 HN2 hi0 hz0 hz1 hz2 HLT m0 m1
 refine hK.out _ _ ⟨q13,hX6⟩ (λhHeld=>?_)
 clear hK K
 try refine ptk ?_
 refine tkE 8 ?_
 refine tkE 9 ?_
 refine qh (by kernel_rfl) rfl (by kernel_rfl) (λK hK=>?_)
 go_simp
 refine hK.out _ _ ?_
 clear hK K hHeld
 try refine ptk ?_
 go_wp2_with fail
 go_end0
 exact⟨rfl,HFIN.out⟩
end
section
structure Hot(w:World)(c:Nat)(x:Cc)(R:List UInt8)(L:List Ev):Prop where
 row:Row w c 86 x.c
 bo:Bo w 0 5 x.row R
 ev:EvL w x.ev L
def jn(c:Nat)(x:Cc)(k:Nat):Prop:=k=c∨ob x.row k∨ob x.ev k
structure HP(w:World)(c:Nat)(x x':Cc)(R:List UInt8)(L:List Ev)(w':World):Prop where
 hot:Hot w' c x' R L
 fs:Fs (jn c x) w w'
 new:∀k,jn c x' k→jn c x k∨w.heap.size≤k
section
variable {w w' w2:World}{c:Nat}{x x' x2:Cc}{R R' R2:List UInt8}{L L' L2:List Ev}
theorem Hot.keep(h:Hot w c x R L)(hk:∀k,jn c x k→w'.heap[k]?=w.heap[k]?):Hot w' c x R L:=
 ⟨(hk c (.inl rfl)).trans h.row,OwS.keep h.bo λk h1=>hk k (.inr (.inl h1)),OwS.keep h.ev λk h1=>hk k (.inr (.inr h1))⟩
theorem Hot.lt(h:Hot w c x R L){k:Nat}(hk:jn c x k):k<w.heap.size:=by
 rcases hk with rfl|hk|hk
 ·exact h.row.lt
 ·exact(OwS.lt h.bo k hk).2
 ·exact(OwS.lt h.ev k hk).2
theorem Hot.below(h:Hot w c x R L)(hb:Below w.heap.size w w'):Hot w' c x R L:=h.keep λk hk=>hb.block k (h.lt hk)
theorem Hot.of_fs{S:Nat→Prop}(h:Hot w c x R L)(hf:Fs S w w')(hS:∀k,jn c x k→¬S k):Hot w' c x R L:=h.keep λk hk=>hf.block k (h.lt hk) (hS k hk)
theorem Hot.shape(h:Hot w c x R L):∃A c1,x.ev=.slice A L.length c1:=by
 obtain⟨A,c1,h1,_⟩:=OwS.shape h.ev
 exact⟨A,c1,h1⟩
theorem HP.refl(h:Hot w c x R L):HP w c x x R L w:=⟨h,Fs.refl _ _,λ_ h=>.inl h⟩
theorem HP.trans(h:HP w c x x' R' L' w')(h2:HP w' c x' x2 R2 L2 w2):HP w c x x2 R2 L2 w2:=
 ⟨h2.hot,h.fs.trans h2.fs λk hk h1=>(h.new k h1).elim id λh3=>absurd hk (by omega),λk hk=>by
  rcases h2.new k hk with h3|h3
  ·exact h.new k h3
  ·exact .inr (Nat.le_trans h.fs.size h3)⟩
theorem HP.then_below(h:HP w c x x' R L w')(hb:Below w'.heap.size w' w2):HP w c x x' R L w2:=⟨h.hot.below hb,h.fs.then_below hb,h.new⟩
theorem HP.of_below(h:Hot w c x R L)(hb:Below w.heap.size w w'):HP w c x x R L w':=(HP.refl h).then_below hb
theorem HP.set(h:Hot w c x R L)(j:Nat)(v:Value)(hr:Row (w.setCell ⟨c,j,none⟩ v) c 86 x'.c)(h1:x'.row=x.row)(h2:x'.ev=x.ev):HP w c x x' R L (w.setCell ⟨c,j,none⟩ v):=by
 refine⟨⟨hr,?_,?_⟩,(Fs.refl _ _).setCell (λ_=>.inl rfl) _ _,λk hk=>.inl ?_⟩
 ·rw[h1];exact OwS.setCell (a:=⟨c,j,none⟩) h.bo (Jy h.row h.bo) _
 ·rw[h2];exact OwS.setCell (a:=⟨c,j,none⟩) h.ev (zaf h.row h.ev) _
 ·unfold jn at hk ⊢;rwa [h1,h2] at hk
theorem Hot.apart(h:Hot w c x R L){k:Nat}(h1:ob x.row k)(h2:ob x.ev k):False:=by
 obtain⟨cur,h3⟩:=Qq h.bo h1
 obtain⟨cur',h4⟩:=Qq h.ev h2
 exact Jd h3 h4 (by decide) rfl
theorem HP.of_sent(h:Hot w c x R L)(hs:zfv w c x R' w'):∃v,HP w c x { x with row:=v } R' L w':=by
 obtain⟨v,h1,h2,h3,h4⟩:=hs
 refine⟨v,⟨h1,h2,?_⟩,h3.mono λk _ hk=>hk.elim .inl λh=>.inr (.inl h),λk hk=>?_⟩
 ·exact EvL.fs h.ev h3 λk hk h5=>by
   rcases h5 with rfl|h5
   ·exact zaf h.row h.ev hk
   ·exact h.apart h5 hk
 ·rcases hk with hk|hk|hk
  ·exact .inl (.inl hk)
  ·exact(h4.own hk).elim (λh=>.inl (.inr (.inl h))) .inr
  ·exact .inl (.inr (.inr hk))
theorem HP.of_teld(h:Hot w c x R L)(hs:zft w c x L' w'):∃v,HP w c x { x with ev:=v } R L' w':=by
 obtain⟨v,h1,h2,h3,h4⟩:=hs
 refine⟨v,⟨h1,?_,h2⟩,h3.mono λk _ hk=>hk.elim .inl λh=>.inr (.inr h),λk hk=>?_⟩
 ·exact OwS.keep h.bo λk hk=>h3.block k (OwS.lt h.bo k hk).2 λh5=>by
   rcases h5 with rfl|h5
   ·exact Jy h.row h.bo hk
   ·exact h.apart hk h5
 ·rcases hk with hk|hk|hk
  ·exact .inl (.inl hk)
  ·exact .inl (.inr (.inl hk))
  ·exact(h4.own hk).elim (λh=>.inl (.inr (.inr h))) .inr
end
def ji(P:World→Prop)(e:Ending)(w':World):Prop:=e=.returned (.tuple #[])∧P w'
theorem zbh{w:World}{c:Nat}{x:Cc}{R:List UInt8}{L:List Ev}(h:Hot w c x R L)(hl:R.length≤100000000000)(f:Frm)(hk:f.Ok)(hm:f.May)(hp:f.pad = -1){dA sA:Option Addr}{dc sc:Nat}{q:Int}
  (hD:RdB w w.heap.size dA f.dat) (hS:RdS w (·<w.heap.size) sA (enl sgc f.sets)) :
  Calls Tryz.prog 74 #[.pointer (some ⟨c,0,none⟩),.agg ({ f.fm dA dc sA sc with pad:=q }:Fm).c] w (ji λw'=>∃v,HP w c x { x with row:=v } (R++zh f) L w'):=
 (ze8 h.row h.bo hl f hk hm hp hD hS).mono λ_ _ ⟨h1,h2⟩=>⟨h1,HP.of_sent h h2⟩
theorem zsg{w:World}{c:Nat}{x:Cc}{R:List UInt8}{L:List Ev}(h:Hot w c x R L)(hl:L.length≤100000)(y:Ev) :
  Calls Tryz.prog 112 #[.pointer (some ⟨c,0,none⟩),.agg (evc y)] w (ji λw'=>∃v,HP w c x { x with ev:=v } R (L++[y]) w'):=by
 obtain⟨A,c1,hv⟩:=h.shape
 exact(zfc h.row hv h.ev hl y).mono λ_ _ ⟨h1,h2⟩=>⟨h1,HP.of_teld h h2⟩
def awF(code oth:Nat):Frm:=⟨7,0,0,[],-1,code,oth,0,false,0,[]⟩
theorem ztx{code oth:Nat}(h:code<4294967296):(awF code oth).Ok:=⟨(by decide:7<256),(by decide:0<256),h,(by decide:0<256),λs hs=>by cases hs⟩
theorem zny{code oth:Nat}(h2:oth≤2147483647):(awF code oth).May:=
 ⟨⟨Nat.zero_le _,h2,Nat.zero_le _⟩,λh=>absurd h (by show ¬7=6;decide),(by decide:Qf 7 0 (-1)),⟨λh=>absurd rfl h,(λh=>by cases h),λ_=>.inr (.inr rfl),λ_=>.inr rfl,λh=>absurd rfl h,λh=>absurd rfl h,λh=>absurd rfl h⟩,(by decide +kernel:yo 7 0 0 (-1) 0≤16384)⟩
theorem ztt(code oth:Nat)(q:Int):({ (awF code oth).fm none 0 none 0 with pad:=q }:Fm).c=#[.int .u8 7,.int .u8 0,.int .u32 0,.slice none 0 0,.int .i64 q,.int .u32 code,.int .u32 oth,.int .u8 0,.bool false,.int .u32 0,.slice none 0 0]:=by unfold Fm.c;rfl
theorem zx4{w:World}{p code:Nat}(h:Row w p 66 ({ (awF code 0).fm none 0 none 0 with pad:=0 }:Fm).c)(o:Nat):Row (w.setCell ⟨p,6,none⟩ (.int .u32 o)) p 66 ({ (awF code o).fm none 0 none 0 with pad:=0 }:Fm).c:=h.stored 6 _
attribute [local irreducible] Cc.c evc Fm.c
theorem z05(code oth:Nat):AgOk Tryz.prog 66 (({ (awF code oth).fm none 0 none 0 with pad:=0 }:Fm).c):=by
 rw[ztt]
 exact⟨⟨_,Tryz.underlying66⟩,zco,by kernel_rfl⟩
def awO(x:Cc):Nat:=if x.srv=true then x.la else 0
theorem zti{w:World}{c:Nat}{x:Cc}{R:List UInt8}{L:List Ev}(h:Hot w c x R L)(hl:R.length≤100000000000){code:Nat}(hc:code<4294967296)(hla:x.la≤2147483647) :
  Calls Tryz.prog 38 #[.pointer (some ⟨c,0,none⟩),.int .u32 code] w (ji λw'=>∃v,HP w c x { x with row:=v } (R++zh (awF code (awO x))) L w'):=by
 have hA:=λo=>ztt code o 0
 have HAG:=z2w (z05 code)
 have hX:Row (w.alloc (.cells #[.int .u8 7,.int .u8 0,.int .u32 0,.slice none 0 0,.int .i64 0,.int .u32 code,.int .u32 0,.int .u8 0,.bool false,.int .u32 0,.slice none 0 0] 66)) w.heap.size 66 (({ (awF code 0).fm none 0 none 0 with pad:=0 }:Fm).c):=by rw[hA];exact Row.new w _ _
 have hb:Below w.heap.size w (w.alloc (.cells #[.int .u8 7,.int .u8 0,.int .u32 0,.slice none 0 0,.int .i64 0,.int .u32 code,.int .u32 0,.int .u8 0,.bool false,.int .u32 0,.slice none 0 0] 66)):=(Below.refl _ _).alloc (Nat.le_refl _) _
 have HX:=z2w hX
 have HB:=z2w hb
 have H:=z2w h
 have H1:=z2w (h.below hb)
 have HA:=z2w hA
 clear hA hX hb h
 go_enter Tryz.func38,Tryz.ntmps38
 go_upto_region 1 with fail
 generalize w.alloc (.cells #[.int .u8 7,.int .u8 0,.int .u32 0,.slice none 0 0,.int .i64 0,.int .u32 code,.int .u32 0,.int .u8 0,.bool false,.int .u32 0,.slice none 0 0] 66)=w1 at *
 obtain⟨p,hpp⟩:∃p,w.heap.size=p:=⟨_,rfl⟩
 rw[hpp] at HX HB ⊢
 have HPQ:=z2w hpp
 clear hpp
 have c0:=cc0 H1.out.row
 have c22:=zdx H1.out.row
 have f6:=(zf HX.out).2.2.2.2.2.2.1
 have z6:=HX.out.thawed 6
 cases hsv:x.srv with
 |true=>
  have HO:Hid (awO x=x.la):=by show _=_;unfold awO;rw[hsv];rfl
  rw[hsv] at c0
  have hb2:Below p w (w1.setCell ⟨p,6,none⟩ (.int .u32 x.la)):=HB.out.setCell (p:=⟨p,6,none⟩) (Nat.le_refl _) _
  have HX2:=z2w (zx4 HX.out x.la)
  have H2:=z2w (H.out.below (by rw[HPQ.out];exact hb2))
  have HB2:=z2w hb2
  clear hb2 HX H1 HB hsv
  go_upto_region 3 with fail
  generalize w1.setCell ⟨p,6,none⟩ (.int .u32 x.la)=w2 at *
  clear c0 c22 f6 z6
  go_wp2_with (refine zg rfl _ rfl rfl HX2.out ?_)
  refine(zbh H2.out hl (awF code x.la) (ztx hc) (zny hla) rfl RdB.nil RdS.nil).mono ?_
  rintro e w3 ⟨rfl,v,h3⟩
  have H3:=z2w h3
  clear h3
  go_wp2_with fail
  go_end0
  rw[HO.out]
  exact⟨rfl,v,(HP.of_below H.out (by rw[HPQ.out];exact HB2.out)).trans H3.out⟩
 |false=>
  have HO:Hid (awO x=0):=by show _=_;unfold awO;rw[hsv];rfl
  rw[hsv] at c0
  clear hsv
  go_wp2_with (refine zg rfl _ rfl rfl HX.out ?_)
  refine(zbh H1.out hl (awF code 0) (ztx hc) (zny (Nat.zero_le _)) rfl RdB.nil RdS.nil).mono ?_
  rintro e w3 ⟨rfl,v,h3⟩
  have H3:=z2w h3
  clear h3
  go_wp2_with fail
  go_end0
  rw[HO.out]
  exact⟨rfl,v,(HP.of_below H.out (by rw[HPQ.out];exact HB.out)).trans H3.out⟩
end
section
structure Kn where
 nu:Nat
 st:Nat
 mt:Value
 en:Bool
 sh:Bool
 gh:Bool
def knc(x:Kn):Array Value:=#[.int .u32 x.nu,.int .u8 x.st,x.mt,.bool x.en,.bool x.sh,.bool x.gh]
section
variable {w:World}{k:Nat}{y:Kn}
theorem kn0(h:Row w k 95 (knc y)):w.cell? ⟨k,0,none⟩=some (.int .u32 y.nu):=h.cell (by unfold knc;rfl)
theorem kn1(h:Row w k 95 (knc y)):w.cell? ⟨k,1,none⟩=some (.int .u8 y.st):=h.cell (by unfold knc;rfl)
theorem kn2(h:Row w k 95 (knc y)):w.cell? ⟨k,2,none⟩=some y.mt:=h.cell (by unfold knc;rfl)
theorem kn4(h:Row w k 95 (knc y)):w.cell? ⟨k,4,none⟩=some (.bool y.sh):=h.cell (by unfold knc;rfl)
end
def Xp(la n:Nat):Bool:=decide (n%2=1∧n≤la)
attribute [local irreducible] Cc.c evc Fm.c knc
theorem zjz{w:World}{c:Nat}{x:Cc}(h:Row w c 86 x.c)(n:Nat):Calls Tryz.prog 47 #[.pointer (some ⟨c,0,none⟩),.int .u32 n] w λe w'=>e=.returned (.bool (Xp x.la n))∧w'=w:=by
 have c22:=zdx h
 have h0:(0:Int)≤(n:Int):=Int.natCast_nonneg _
 clear h
 by_cases h1:n%2=1
 ·have h1':(n:Int)%2=1:=by omega
  by_cases h2:n≤x.la
  ·have hb:Xp x.la n=true:=decide_eq_true ⟨h1,h2⟩
   rw[hb]
   have h2':decide (n≤x.la)=true:=decide_eq_true h2
   clear hb h1 h2
   go_enter Tryz.func47,Tryz.ntmps47
   go_wp2_with fail
   go_ret
   exact⟨rfl,rfl⟩
  ·have hb:Xp x.la n=false:=decide_eq_false λh=>h2 h.2
   rw[hb]
   have h2':decide (n≤x.la)=false:=decide_eq_false h2
   clear hb h1 h2
   go_enter Tryz.func47,Tryz.ntmps47
   go_wp2_with fail
   go_ret
   exact⟨rfl,rfl⟩
 ·have h1':¬(n:Int)%2=1:=by omega
  have hb:Xp x.la n=false:=decide_eq_false λh=>h1 h.1
  rw[hb]
  clear hb h1
  go_enter Tryz.func47,Tryz.ntmps47
  go_wp2_with fail
  go_ret
  exact⟨rfl,rfl⟩
theorem zd7{w:World}{c g n i k:Nat}{x:Cc}{S:List (Nat × Nat)}{y:Kn}(h:Row w c 86 x.c)(hsm:x.sm=.map (some g))(hM:MapM w g S)(hn:atM S n 0=some (i,k))(hy:Row w k 95 (knc y)) :
  Calls Tryz.prog 18 #[.pointer (some ⟨c,0,none⟩),.int .u32 n] w λe w'=>e=.returned (.int .u8 y.st)∧w'=w:=by
 have c19:=zbp h
 rw[hsm] at c19
 have hlk:=zdn hM hn
 have k1:=kn1 hy
 clear h hsm hM hn hy
 go_enter Tryz.func18,Tryz.ntmps18
 go_wp2_with fail
 go_ret
 exact⟨rfl,rfl⟩
theorem ztd{w:World}{c g n:Nat}{x:Cc}{S:List (Nat × Nat)}(h:Row w c 86 x.c)(hsm:x.sm=.map (some g))(hM:MapM w g S)(hn:atM S n 0=none) :
  Calls Tryz.prog 18 #[.pointer (some ⟨c,0,none⟩),.int .u32 n] w λe w'=>e=.returned (.int .u8 (if Xp x.la n=true then 5 else 0))∧w'=w:=by
 have c19:=zbp h
 rw[hsm] at c19
 have hlk:=zmy hM hn
 have hw:=zjz h n
 clear h hsm hM hn
 cases hb:Xp x.la n with
 |true=>
  rw[hb] at hw
  clear hb
  go_enter Tryz.func18,Tryz.ntmps18
  go_wp2_with fail
  refine hw.mono ?_
  rintro e w' ⟨rfl,rfl⟩
  go_wp2_with fail
  go_ret
  exact⟨rfl,rfl⟩
 |false=>
  rw[hb] at hw
  clear hb
  go_enter Tryz.func18,Tryz.ntmps18
  go_wp2_with fail
  refine hw.mono ?_
  rintro e w' ⟨rfl,rfl⟩
  go_wp2_with fail
  go_ret
  exact⟨rfl,rfl⟩
end
section
theorem zls(n:Nat):evc (evF n)=#[.int .u8 6,.int .u32 0,.slice none 0 0,.slice none 0 0,.bool false,.int .u32 0,.int .u8 1,.int .u32 n]:=by unfold evc evF;rfl
theorem HP.glob{w w':World}{c:Nat}{x x':Cc}{R:List UInt8}{L:List Ev}(h:HP w c x x' R L w')(hG:GlobE w)(hc:¬jn c x 0):GlobE w':=(World.cell?_of_block (a:=⟨0,0,none⟩) (h.fs.block _ (jf hG) hc)).trans hG
attribute [local irreducible] Cc.c evc Fm.c
theorem zqi{w:World}{c:Nat}{x:Cc}{R:List UInt8}{L:List Ev}(h:Hot w c x R L)(hl:R.length≤100000000000)(hn:L.length≤100000){code:Nat}(hc:code<4294967296)(hla:x.la≤2147483647)(hG:GlobE w)(hF:¬jn c x 0) :
  Calls Tryz.prog 68 #[.pointer (some ⟨c,0,none⟩),.int .u32 code] w (ji λw'=>∃v u,HP w c x { x with row:=v,ev:=u,go:=true } (R++zh (awF code (awO x))) (L++[evF code]) w'):=by
 have haw:=zti h hl hc hla
 have HE:=zls code
 have HG:=z2w hG
 clear hG
 go_enter Tryz.func68,Tryz.ntmps68
 go_wp2_with fail
 refine haw.mono ?_
 rintro e w1 ⟨rfl,v,h1⟩
 have c26:=Y3 h1.hot.row
 have z26:=h1.hot.row.thawed 26
 have h2:=h1.trans (HP.set (x':={ x with row:=v,go:=true }) h1.hot 26 (.bool true) (z0e h1.hot.row true) rfl rfl)
 have HG2:=z2w (h2.glob HG.out hF)
 have H2:=z2w h2
 clear h2 h1 haw HG
 go_upto_region 2 with fail
 generalize w1.setCell ⟨c,26,none⟩ (.bool true)=w2 at *
 clear c26 z26
 go_wp2_with fail
 refine(qw code w2).mono ?_
 rintro e w3 ⟨g,rfl,hr,hb3⟩
 have hG3:=HG2.out.below hb3
 have H3:=z2w (H2.out.then_below hb3)
 have hof:=Xq hr hG3
 clear hr hb3 HG2 H2 hG3
 go_wp2_with fail
 refine hof.mono ?_
 rintro e w4 ⟨rfl,hb4⟩
 have H4:=z2w (H3.out.then_below hb4)
 clear hb4 hof H3
 have ht:=zsg H4.out.hot hn (evF code)
 rw[HE] at ht
 have HE2:=z2w HE
 clear HE
 go_wp2_with fail
 refine ht.mono ?_
 rintro e w5 ⟨rfl,u,h5⟩
 have H5:=z2w (H4.out.trans h5)
 clear h5 ht H4
 go_wp2_with fail
 go_end0
 exact⟨rfl,v,u,H5.out⟩
def StOk(w:World)(c n:Nat):Prop:=∀W,Below w.heap.size w W→Calls Tryz.prog 18 #[.pointer (some ⟨c,0,none⟩),.int .u32 n] W λe w'=>∃s:Nat,e=.returned (.int .u8 s)∧w'=W
theorem StOk.no{w:World}{c g n:Nat}{x:Cc}{S:List (Nat × Nat)}(h:Row w c 86 x.c)(hsm:x.sm=.map (some g))(hM:MapM w g S)(hn:atM S n 0=none):StOk w c n:=λW hb=>
 (ztd (h.below hb h.lt) hsm (hM.below hb) hn).mono λe w' ⟨h1,h2⟩=>⟨if Xp x.la n=true then 5 else 0,by rw[h1];split<;>rfl,h2⟩
theorem StOk.below{w w':World}{c n:Nat}(h:StOk w c n)(hb:Below w.heap.size w w'):StOk w' c n:=λW hb2=>h W (hb.trans (hb2.mono hb.size))
theorem zq5{w:World}{c n g:Nat}{x:Cc}{R:List UInt8}{L:List Ev}(h:Hot w c x R L)(hl:R.length≤100000000000)(hn:L.length≤100000){code:Nat}(hc:code<4294967296)(hla:x.la≤2147483647)(hG:GlobE w)(hF:¬jn c x 0)(hst:StOk w c n)(hr:Row w g 174 #[.int .u8 1,.int .u32 code]) :
  Calls Tryz.prog 67 #[.pointer (some ⟨c,0,none⟩),.int .u32 n,.iface 172 (.pointer (some ⟨g,0,none⟩))] w (ji λw'=>∃v u,HP w c x { x with row:=v,ev:=u,go:=true } (R++zh (awF code (awO x))) (L++[evF code]) w'):=by
 have hof:=Xq hr hG
 have HG:=z2w hG
 have HS:=z2w hst
 have H:=z2w (HP.refl h)
 clear hG hr hst h
 go_enter Tryz.func67,Tryz.ntmps67
 go_wp2_with fail
 refine hof.mono ?_
 rintro e w1 ⟨rfl,hb1⟩
 have hb2:Below w.heap.size w (w1.alloc (.cells #[.int .u8 1,.int .u32 code] 29)):=hb1.alloc hb1.size _
 have HB2:=z2w hb2
 have hX:Row (w1.alloc (.cells #[.int .u8 1,.int .u32 code] 29)) w1.heap.size 29 #[.int .u8 1,.int .u32 code]:=Row.new _ _ _
 have HX:=z2w hX
 clear hb1 hb2 hof hX
 go_upto_region 1 with fail
 generalize w1.alloc (.cells #[.int .u8 1,.int .u32 code] 29)=w2 at *
 generalize w1.heap.size=p at *
 have f0:=HX.out.cell (j:=0) (v:=.int .u8 1) rfl
 have f1:=HX.out.cell (j:=1) (v:=.int .u32 code) rfl
 have hst2:=HS.out w2 HB2.out
 have hfl:=zqi (H.out.then_below HB2.out).hot hl hn hc hla (HG.out.below HB2.out) hF
 have H2:=z2w (H.out.then_below HB2.out)
 clear HS HG HX HB2 H
 go_wp2_with fail
 refine hst2.mono ?_
 rintro e w3 ⟨s,rfl,rfl⟩
 go_wp2_with fail
 refine hfl.mono ?_
 rintro e w4 ⟨rfl,v,u,h4⟩
 have H4:=z2w (H2.out.trans h4)
 clear h4 hfl H2
 go_wp2_with fail
 go_end0
 exact⟨rfl,v,u,H4.out⟩
theorem zts:∀b:Fin 256,(bits .and .u8 (b.val:Int) 1)=((b.val%2:Nat):Int):=by decide +kernel
theorem ztz(n:Nat):((((n%2:Nat)):Int) != 0)=decide (n%2=1):=by
 by_cases h:n%2=1
 ·rw[h];rfl
 ·rw[show n%2=0 by omega];rfl
def zb0(x:Cc)(X:Fm):Prop:=x.be=false∧X.fl<256∧X.ty≠4
theorem zlp{w:World}{c:Nat}{x:Cc}(h:Row w c 86 x.c)(X:Fm)(hX:zb0 x X) :
  Calls Tryz.prog 66 #[.pointer (some ⟨c,0,none⟩),.agg X.c] w (Err 1 1 w):=by
 obtain⟨hbe,hfl,hty⟩:=hX
 have hb:Below w.heap.size w (w.alloc (.cells X.c 66)):=(Below.refl _ _).alloc (Nat.le_refl _) _
 have c23:=zkj (h.below hb h.lt)
 rw[hbe] at c23
 obtain⟨f0,f1,_⟩:=zf (Row.new w 66 X.c)
 have HB:=z2w hb
 have hn1:=zts ⟨X.fl,hfl⟩
 simp only at hn1
 have hb1:=ztz X.fl
 have ht:((X.ty:Int) != 4)=true:=bne_iff_ne.2 (by omega)
 generalize decide (X.fl%2=1)=ack at hb1
 generalize X.fl%2=z at hn1 hb1
 clear hb h hbe hfl hty
 go_enter Tryz.func66,Tryz.ntmps66
 go_upto_region 1 with fail
 generalize w.alloc (.cells X.c 66)=w1 at *
 obtain⟨p,hpp⟩:∃p,w.heap.size=p:=⟨_,rfl⟩
 rw[hpp] at HB f0 f1 ⊢
 have HPQ:=z2w hpp
 clear hpp
 go_wp2_with fail
 refine(qw 1 w1).mono ?_
 rintro e w2 ⟨g,rfl,hr,hb2⟩
 have HR:=z2w hr
 have HB2:=z2w (HB.out.trans (hb2.mono (by have:=HB.out.size;have:=HPQ.out;omega)))
 clear hr hb2
 go_wp2_with fail
 go_ret
 exact⟨g,rfl,HR.out,by rw[HPQ.out];exact HB2.out⟩
theorem Zo(s c:Nat):AgOk Tryz.prog 29 (ftc s c):=⟨⟨_,Tryz.underlying29⟩,Zc,by unfold ftc;kernel_rfl⟩
theorem Zq(s c:Int)(h:s=0)(w:World):Calls Tryz.prog 65 #[.agg #[.int .u8 s,.int .u32 c]] w λe w'=>e=.returned .nilIface∧Below w.heap.size w w':=by
 subst h
 have hc:=zec 0 c
 rw[show sc 0=0 from rfl] at hc
 go_enter Tryz.func65,Tryz.ntmps65
 go_wp2_with (go_at_call 101;refine(hc _).mono ?_;rintro e w' ⟨rfl,rfl⟩)
 go_ret
 exact⟨rfl,((Below.refl _ _).alloc (Nat.le_refl _) _).alloc (by simp) _⟩
theorem zmg{w:World}{c:Nat}{x:Cc}{R:List UInt8}{L:List Ev}(h:Hot w c x R L)(hl:R.length≤100000000000)(hn:L.length≤100000)(hla:x.la≤2147483647)(hG:GlobE w)(hF:¬jn c x 0)(X:Fm)(hst:StOk w c X.st)(hX:zb0 x X) :
  Calls Tryz.prog 31 #[.pointer (some ⟨c,0,none⟩),.agg X.c,.agg (ftc 0 0)] w (ji λw'=>∃v u,HP w c x { x with row:=v,ev:=u,go:=true } (R++zh (awF 1 (awO x))) (L++[evF 1]) w'):=by
 have HZ:Hid (ftc 0 0=#[.int .u8 0,.int .u32 0]):=z9 0 0
 obtain⟨w1,hw1⟩:∃w1,(w.alloc (.cells X.c 66)).alloc (.cells (ftc 0 0) 29)=w1:=⟨_,rfl⟩
 have hb1:Below w.heap.size w w1:=by rw[←hw1];exact((Below.refl _ _).alloc (Nat.le_refl _) _).alloc (by simp) _
 have hXr:Row w1 w.heap.size 66 X.c:=by rw[←hw1];exact(Row.new w _ _).alloc _
 have hTr:Row w1 (w.heap.size+1) 29 (ftc 0 0):=by rw[←hw1];exact Row.made _ _ _ (by simp)
 have HX:=z2w hXr
 have HT:=z2w hTr
 have HB:=z2w hb1
 have HW:=z2w hw1
 have H:=z2w (HP.of_below h hb1)
 have HG:=z2w (hG.below hb1)
 have HS:=z2w (hst.below hb1)
 have HXX:=z2w hX
 clear h hG hst hX hb1 hXr hTr hw1
 go_enter Tryz.func31,Tryz.ntmps31
 go_upto_region 1 with fail
 rw[HW.out]
 clear HW
 have f2:=(zf HX.out).2.2.1
 have hnw:=Zq 0 0 rfl w1
 rw[←HZ.out] at hnw
 go_wp2_with (refine zj rfl _ rfl rfl HT.out (Zo 0 0) ?_)
 refine hnw.mono ?_
 rintro e w2 ⟨rfl,hb2⟩
 have H2:=z2w (H.out.then_below hb2)
 have HX2:=z2w (HX.out.below hb2 HX.out.lt)
 have HB2:=z2w (HB.out.trans (hb2.mono HB.out.size))
 have HG2:=z2w (HG.out.below hb2)
 have HS2:=z2w (HS.out.below hb2)
 have hco:=zlp H2.out.hot.row X HXX.out
 clear hb2 H HX HT HB HG HS HZ f2 hnw
 go_wp2_with (refine zg rfl _ rfl rfl HX2.out ?_)
 refine hco.mono ?_
 rintro e w3 ⟨g,rfl,hr,hb3⟩
 have H3:=z2w (H2.out.then_below hb3)
 have f3:=(zf (HX2.out.below hb3 HX2.out.lt)).2.2.1
 have hme:=zq5 H3.out.hot hl hn (code:=1) (by decide) hla (HG2.out.below hb3) hF (HS2.out.below hb3) hr
 clear hb3 hr H2 HX2 HB2 HG2 HS2 hco
 go_wp2_with fail
 refine hme.mono ?_
 rintro e w4 ⟨rfl,v,u,h4⟩
 have H4:=z2w (H3.out.trans h4)
 have c26:=Y3 h4.hot.row
 have c17:=zlb h4.hot.row
 clear h4 hme H3 f3
 go_wp2_with fail
 go_end0
 exact⟨rfl,v,u,H4.out⟩
end
end Go.Proofs.YtooaajnkiokpnaaGreatDoor
