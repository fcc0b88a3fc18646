/-
  Part of a proof: A client's own settings go out behind the preface, as it is made: by their contracts. Conditions: those that each theorem names.
-/
import Derived.Test.YtooaajnkiokpnaaGreatDoorQ36
import Derived.Test.YtooaajnkiokpnaaGreatDoorQ43
import Derived.Test.YtooaajnkiokpnaaGreatDoorQ06
import Derived.Lib.MinMax
import Derived.Test.YtooaajnkiokpnaaGreatDoorQ07
import Derived.Test.YtooaajnkiokpnaaGreatDoorQ42
import Derived.Test.YtooaajnkiokpnaaGreatDoorQ33
import Derived.Test.YtooaajnkiokpnaaGreatDoorQ01
import Derived.Test.YtooaajnkiokpnaaGreatDoorQ20
import Derived.Test.YtooaajnkiokpnaaGreatDoorQ32
namespace Go.Proofs.YtooaajnkiokpnaaGreatDoor
open Go.RowKit Go.WideShapes
set_option maxHeartbeats 4000000
set_option maxRecDepth 100000
section
theorem ZP.rowed{w:World}{z:Zs}{v:Value}{R':List UInt8}(h:Sd14 w z)(ho:Bo w 0 5 v R')(hn:∀k,ob v k→ob z.row k):ZP w z { z with row:=v,R:=R' } (w.setCell ⟨z.c,16,none⟩ v):=by
 have hrn:¬ob v z.c:=λhk=>h.1.ap .row .out (by decide) z.c rfl (hn _ hk)
 refine ZP.of h (h.1.two .row .out ?_ (zb1 h.row v) (OwS.setCell (a:=⟨z.c,16,none⟩) ho hrn _) (λk hk=>.inl hk) (λk hk=>.inr (.inl (hn k hk))) (λk hk hk2=>?_) (λm hm hm2=>?_)) rfl
 ·exact(Fs.refl _ _).setCell (λ_=>.inl rfl) _ _
 ·have hk':k=z.c:=hk
  subst hk'
  exact hrn hk2
 ·cases m<;>first|rfl|exact absurd rfl hm|exact absurd rfl hm2
theorem Sd14.outs{w:World}{z:Zs}(h:Sd14 w z):∃A c1,z.row=.slice A z.R.length c1∧z.R.length≤c1:=Bo.shape (h.1.ok .out)
attribute [local irreducible] Cc.c evc Fm.c knc mtc
theorem zlg{w:World}{z:Zs}(h:Sd14 w z)(hR:0<z.R.length):Calls Tryz.prog 40 #[.pointer (some ⟨z.c,0,none⟩)] w λe w'=>e=.returned (.bool true)∧w'=w:=by
 obtain⟨A,c1,hv,_⟩:=h.outs
 have c16:w.cell? ⟨z.c,16,none⟩=some z.row:=Jl h.row
 rw[hv] at c16
 clear h hv
 go_enter Tryz.func40,Tryz.ntmps40
 go_wp2_with fail
 go_ret
 exact⟨rfl,rfl⟩
def z0t(w:World)(z:Zs)(e:Ending)(w':World):Prop:=e=.returned (.bool false)∧∃F',ZP w z { z with rF:=F' } w'
theorem zd5{w:World}{z:Zs}(h:Sd14 w z)(hR:z.R=[])(hgo:z.go=false)(hrm:z.rm.Ok)(hsm:z.rm.Sm)(hno:Zp z.rm 16384=none):Calls Tryz.prog 40 #[.pointer (some ⟨z.c,0,none⟩)] w (z0t w z):=by
 obtain⟨A,c1,hv,_⟩:=h.outs
 have c16:w.cell? ⟨z.c,16,none⟩=some z.row:=Jl h.row
 rw[hv,hR] at c16
 have c16:w.cell? ⟨z.c,16,none⟩=some (.slice A 0 c1):=c16
 have c26:w.cell? ⟨z.c,26,none⟩=some (.bool z.go):=Y3 h.row
 rw[hgo] at c26
 have c18:w.cell? ⟨z.c,18,none⟩=some (pa0 z.rg):=Vz h.row
 unfold pa0 at c18
 have hnx:=zmo (h.1.ok .rg) hrm hsm 16384
 rw[hno] at hnx
 have H:=z2w h
 clear h hv hR
 go_enter Tryz.func40,Tryz.ntmps40
 go_wp2_with fail
 refine hnx.mono ?_
 rintro e1 w1 ⟨rfl,F',hT,hF,hn⟩
 have H1:=z2w (ZP.ring H.out hT hF hn)
 clear hT hF hn hnx H c16 c26 c18
 go_wp2_with fail
 go_ret
 exact⟨rfl,F',H1.out⟩
def Zs.outd(z:Zs)(most:Nat)(v:Value)(rep:Nat)(F':Nat→Prop):Zs:={ z with row:=v,R:=z.R.drop most,rep:=rep,rF:=F' }
def z2p(w:World)(z:Zs)(most:Nat)(x:Ending)(w':World):Prop:=
 ∃bv v rep F',x=.returned bv∧Bo w' w.heap.size 5 bv (z.R.take most)∧(∀k,ob bv k→¬zi (z.outd most v rep F').ps k)∧rep≤z.rep∧ZP w z (z.outd most v rep F') w'
def z2s(w:World)(z:Zs)(most:Nat)(bv:Value)(wr:World):Prop:=
 ∃v rep,Bo wr w.heap.size 5 bv (z.R.take most)∧(∀k,ob bv k→¬zi (z.outd most v rep z.rF).ps k)∧rep≤z.rep∧ZP w z (z.outd most v rep z.rF) wr
def zp3:Value→Nat
 |.slice _ 0 _=>1
 |_=>0
theorem z0s{w:World}{z:Zs}(h:Sd14 w z){most:Nat}(hm:1≤most∧most≤1000000)(hl:z.R.length≤100000000)(hgo:z.go=false)(hrm:z.rm.Ok)(hsm:z.rm.Sm)(hno:Zp z.rm 16384=none):Calls Tryz.prog 14 #[.pointer (some ⟨z.c,0,none⟩),.int .i64 most] w (z2p w z most):=by
 have hmx:max (most:Int) 1=most:=by omega
 have H:=z2w (ZP.refl h)
 have HS:=z2w h.size
 clear h
 go_enter Tryz.func14,Tryz.ntmps14
 go_wp2_with fail
 go_loopw [5] (λbv wr=>(bv=.slice none 0 0∧Hid (wr=w))∨∃A n c,bv=.slice A n c∧Hid (n=min most z.R.length∧0<z.R.length)∧Hid (z2s w z most bv wr)) (λbv _=>zp3 bv)
 case atStart=>exact .inl ⟨rfl,rfl⟩
 case round=>
  rcases hrel with ⟨rfl,hw⟩|⟨A,n,c,rfl,HN,HO⟩
  ·obtain rfl:=hw.out
   clear hw
   by_cases hR0:z.R=[]
   ·have hf:=zd5 H.out.sd hR0 hgo hrm hsm hno
    have h0m:decide ((0:Int)<(most:Int))=true:=decide_eq_true (by omega)
    have h0m2:0<most:=by omega
    go_wp2_with fail
    refine hf.mono ?_
    rintro e1 w1 ⟨rfl,F',h1⟩
    have H1:=z2w h1
    clear h1 hf
    go_wp2_with fail
    go_ret
    refine⟨.slice none 0 0,z.row,z.rep,F',rfl,?_,(λk hk=>by cases hk),Nat.le_refl _,?_⟩
    ·rw[hR0,List.take_nil]
     exact Bo.nil
    ·have hd:z.R.drop most=z.R:=by rw[hR0,List.drop_nil]
     unfold Zs.outd
     rw[hd]
     exact H1.out
   ·have hlen:0<z.R.length:=by
     cases hz:z.R with
     |nil=>exact absurd hz hR0
     |cons a l=>simp
    have hf:=zlg H.out.sd hlen
    have h0m2:0<most:=by omega
    obtain⟨A,c1,hv,hc1⟩:=H.out.sd.outs
    obtain⟨n,hn⟩:∃n,n=min most z.R.length:=⟨_,rfl⟩
    have hmn:min (most:Int) (z.R.length:Int)=(n:Int):=by omega
    have hw0:IntKind.i64.wrap ((most:Int)-0)=most:=by rw[IntWalk.i64_in _ (by omega)];omega
    have hw1:IntKind.i64.wrap (most:Int)=most:=IntWalk.i64_in _ (by omega)
    have hnl:n≤z.R.length:=by omega
    have hnm:z.R.take most=z.R.take n∧z.R.drop most=z.R.drop n:=by
     by_cases hlt:most≤z.R.length
     ·rw[show n=most by omega];exact⟨rfl,rfl⟩
     ·rw[show n=z.R.length by omega,List.take_length,List.drop_length,List.take_of_length_le (by omega),List.drop_eq_nil_of_le (by omega)]
      exact⟨rfl,rfl⟩
    have hbo:Bo wr 0 5 (.slice A z.R.length c1) z.R:=by have:=H.out.sd.1.ok .out;rw[←hv];exact this
    obtain⟨i0,hi0,hz0,hz1,hz2⟩:=zr qk
    obtain⟨hcu,hru⟩:=xi (P:=Tryz.prog) Tryz.underlying22 hi0 hz1 hbo.reads (c:=c1) (k:=n) hc1 hnl
    have c16:wr.cell? ⟨z.c,16,none⟩=some z.row:=Jl H.out.sd.row
    rw[hv] at c16
    have HV:=z2w hv
    have HNM:=z2w hnm
    have HN:=z2w hn
    have HRU:=z2w hru
    have HC1:=z2w hc1
    clear hv hnm hn hbo hru hc1
    go_wp2_with fail
    refine hf.mono ?_
    rintro e1 w1 ⟨rfl,rfl⟩
    clear hf
    go_upto_region 7 with fail
    have hlr:(z.R.take n).length=n:=by rw[List.length_take];omega
    have hmx1:z.R.length≤100000000:=hl
    go_upto_region 8 with (at_builtin;go_loud (refine qx rfl (.tmp 29) (.tmp 35) 22 rfl w1.heap.size 5 i0 Tryz.underlying22 hi0 hz0 hz1 hz2 (.slice none 0 0) [] rfl Bo.nil w1.heap.size A (z.R.take n) n c1 rfl hlr.symm HRU.out (by rw[hlr];simp;omega) (Nat.le_refl _) ?_;intro v2 w2 hO2 hF2 hN2))
    have hb2:Below w1.heap.size w1 w2:=hF2.below (λk hk=>by cases hk) (Nat.le_refl _)
    have hO2:Bo w2 w1.heap.size 5 v2 (z.R.take n):=hO2
    have H2:=z2w (H.out.then_below hb2)
    have hbo2:Bo w2 0 5 (.slice A z.R.length c1) z.R:=by have:=H2.out.sd.1.ok .out;rw[←HV.out];exact this
    obtain⟨A6,hcut,hO6,hob⟩:=Ji (P:=Tryz.prog) w2 0 22 5 i0 1 Tryz.underlying22 hi0 hz1 hbo2 n hnl
    have hO6:Bo w2 0 5 (.slice A6 (z.R.length-n) (c1-n)) (z.R.drop n):=by
     show OwS _ _ _ _ _ _ _
     rw[List.length_drop]
     have h1:(byc z.R).drop (n*1)=byc (z.R.drop n):=by rw[Nat.mul_one];unfold byc;rw[List.map_drop]
     rw[←h1]
     exact hO6
    have c16':w2.cell? ⟨z.c,16,none⟩=some (.slice A z.R.length c1):=by rw[←HV.out];exact Jl H2.out.sd.row
    have z16:=H2.out.sd.row.thawed 16
    have hrow:=ZP.rowed H2.out.sd hO6 (λk hk=>by rw[HV.out];exact(by unfold ob at hk ⊢;rw[←hob];exact hk))
    have H3:=z2w (H2.out.trans hrow)
    have hsub:∀k,ob (.slice A6 (z.R.length-n) (c1-n)) k→ob z.row k:=λk hk=>by rw[HV.out];exact(by unfold ob at hk ⊢;rw[←hob];exact hk)
    have hcl:z.c<w1.heap.size:=H.out.sd.row.lt
    have HO3:Hid (Bo (w2.setCell ⟨z.c,16,none⟩ (.slice A6 (z.R.length-n) (c1-n))) w1.heap.size 5 v2 (z.R.take n)):=OwS.setCell (a:=⟨z.c,16,none⟩) hO2 (λhk=>by have:=(OwS.lt hO2 z.c hk).1;omega) _
    have HL2:Hid (∀k,ob v2 k→w1.heap.size≤k):=λk hk=>(OwS.lt hO2 k hk).1
    obtain⟨A2,c2,rfl,_⟩:=Bo.shape hO2
    rw[hlr] at HO3 HL2 ⊢
    clear hO2 hF2 hN2 hb2 hbo2 hO6 hob hrow H2 hi0 hz0 hz1 hz2 hcu HRU c16 HC1
    go_upto_region 9 with fail
    clear c16' z16 hcut
    generalize w2.setCell ⟨z.c,16,none⟩ (.slice A6 (z.R.length-n) (c1-n))=w3 at *
    have c16:w3.cell? ⟨z.c,16,none⟩=some (.slice A6 (z.R.length-n) (c1-n)):=Jl H3.out.sd.row
    have HLT3:Hid (∀k,ob (.slice A2 n c2) k→¬zi z.ps k):=λk hk h2=>by
     have:=HL2.out k hk
     have:=H.out.sd.1.lt h2
     omega
    have HAP:Hid (∀v rep,(∀k,ob v k→ob z.row k)→∀k,ob (.slice A2 n c2) k→¬zi (z.outd most v rep z.rF).ps k):=λv rep hv k hk h2=>by
     refine HLT3.out k hk ?_
     obtain⟨m,hm⟩:=h2
     cases m<;>first|exact⟨.out,hv k hm⟩|exact⟨.row,hm⟩|exact⟨.spl,hm⟩|exact⟨.gat,hm⟩|exact⟨.dec,hm⟩|exact⟨.enc,hm⟩|exact⟨.own,hm⟩|exact⟨.ev,hm⟩|exact⟨.mt,hm⟩|exact⟨.rg,hm⟩|exact⟨.sm,hm⟩|exact⟨.ov,hm⟩
    have HH3:Hid (ZP w1 z { z with row:=.slice A6 (z.R.length-n) (c1-n),R:=z.R.drop n } w3):=H3.out
    have HOB:Hid (∀k,ob (.slice A6 (z.R.length-n) (c1-n)) k→ob z.row k):=hsub
    clear H3 hsub
    by_cases hz:z.R.length-n=0
    ·have hd0:z.R.drop n=[]:=List.drop_eq_nil_of_le (by omega)
     rw[hz] at c16
     have z16:w3.frozen? ⟨z.c,16,none⟩=false:=HH3.out.sd.row.thawed 16
     have H4:=ZP.rowed HH3.out.sd (Bo.nil (w:=w3) (base:=0) (e:=5)) (λk hk=>by cases hk)
     have z17:(w3.setCell ⟨z.c,16,none⟩ (.slice none 0 0)).frozen? ⟨z.c,17,none⟩=false:=H4.sd.row.thawed 17
     have c17:(w3.setCell ⟨z.c,16,none⟩ (.slice none 0 0)).cell? ⟨z.c,17,none⟩=some (.int .i64 (z.rep:Int)):=zlb H4.sd.row
     have H5:=H4.trans (ZP.cell (z':={ z with row:=.slice none 0 0,R:=[],rep:=0 }) H4.sd 17 (.int .i64 0) (znu H4.sd.row 0) rfl rfl (λm hm=>by cases m<;>first|rfl|exact absurd rfl hm))
     have HZ5:Hid (ZP w1 z (z.outd most (.slice none 0 0) 0 z.rF) ((w3.setCell ⟨z.c,16,none⟩ (.slice none 0 0)).setCell ⟨z.c,17,none⟩ (.int .i64 0))):=by
      show ZP _ _ _ _
      unfold Zs.outd
      rw[HNM.out.2,hd0]
      exact HH3.out.trans H5
     have HO5:Hid (Bo ((w3.setCell ⟨z.c,16,none⟩ (.slice none 0 0)).setCell ⟨z.c,17,none⟩ (.int .i64 0)) w1.heap.size 5 (.slice A2 n c2) (z.R.take n)):=by
      have hnc:¬ob (.slice A2 n c2) z.c:=λhk=>by have:=HL2.out z.c hk;omega
      exact OwS.setCell (a:=⟨z.c,17,none⟩) (OwS.setCell (a:=⟨z.c,16,none⟩) HO3.out hnc _) hnc _
     clear H4 H5 HO3 HH3
     go_wp2_with fail
     go_roundw
     case rel=>
      refine .inr ⟨A2,n,c2,rfl,⟨HN.out,hlen⟩,.slice none 0 0,0,?_,HAP.out _ _ (λk hk=>by cases hk),Nat.zero_le _,HZ5.out⟩
      rw[HNM.out.1]
      exact HO5.out
     case measure=>
      have hn1:n≠0:=by omega
      cases n with
      |zero=>exact absurd rfl hn1
      |succ n=>simp[zp3]
    ·have h0:decide (z.R.length-n=0)=false:=decide_eq_false hz
     have h1:((z.R.length-n:Nat):Int)≠0:=by omega
     have e1:(((z.R.length-n:Nat):Int) == 0)=false:=by rw[beq_eq_false_iff_ne];exact h1
     have HZ5:Hid (ZP w1 z (z.outd most (.slice A6 (z.R.length-n) (c1-n)) z.rep z.rF) w3):=by
      show ZP _ _ _ _
      unfold Zs.outd
      rw[HNM.out.2]
      exact HH3.out
     clear HH3
     go_wp2_with fail
     go_roundw
     case rel=>
      refine .inr ⟨A2,n,c2,rfl,⟨HN.out,hlen⟩,_,_,?_,HAP.out _ _ HOB.out,Nat.le_refl _,HZ5.out⟩
      rw[HNM.out.1]
      exact HO3.out
     case measure=>
      have hn1:n≠0:=by omega
      cases n with
      |zero=>exact absurd rfl hn1
      |succ n=>simp[zp3]
  ·obtain⟨v,rep,hb,hap,hrep,hz⟩:=HO.out
   have HB:=z2w hb
   have HAP:=z2w hap
   have HZ:=z2w hz
   clear hb hap hz HO
   by_cases hlt:n<most
   ·have hd0:(z.outd most v rep z.rF).R=[]:=List.drop_eq_nil_of_le (by have:=HN.out;omega)
    have hf:=zd5 HZ.out.sd hd0 hgo hrm hsm hno
    have hlt':(n:Int)<(most:Int):=by omega
    go_wp2_with fail
    refine hf.mono ?_
    rintro e1 w5 ⟨rfl,F',h5⟩
    have H5:Hid (ZP w z (z.outd most v rep F') w5):=HZ.out.trans h5
    have HB5:Hid (Bo w5 w.heap.size 5 (.slice A n c) (z.R.take most)):=h5.fs.owns HB.out HAP.out
    have HA5:Hid (∀k,ob (.slice A n c) k→¬zi (z.outd most v rep F').ps k):=λk hk h2=>by
     rcases h5.new k h2 with h3|h3
     ·exact HAP.out k hk h3
     ·have:=(OwS.lt HB.out k hk).2
      omega
    clear h5 hf
    go_wp2_with fail
    go_ret
    exact⟨_,v,rep,F',rfl,HB5.out,HA5.out,hrep,H5.out⟩
   ·have hlt':decide ((n:Int)<(most:Int))=false:=decide_eq_false (by omega)
    have hlt2:decide (n<most)=false:=decide_eq_false hlt
    go_wp2_with fail
    go_ret
    exact⟨_,v,rep,z.rF,rfl,HB.out,HAP.out,hrep,HZ.out⟩
end
section
def zk1(w:World)(c:Nat)(x:Cc)(l:List UInt8)(w':World):Prop:=
 ∃v,Row w' c 86 ({ x with row:=v }:Cc).c∧Bo w' 0 5 v l∧Fs (λk=>k=c) w w'∧∀k,ob v k→w.heap.size≤k
attribute [local irreducible] Cc.c Fm.c
theorem zvc{w:World}{c pb:Nat}{x:Cc}(h:Row w c 86 x.c){L:List UInt8}(hr:MkRow w pb L)(hxr:x.row=.slice (some ⟨pb,0,none⟩) L.length L.length)(hl:L.length≤100000000000)(f:Frm)(hk:f.Ok)(hm:f.May)(hp:f.pad = -1){dA sA:Option Addr}{dc sc:Nat}{q:Int}
  (hD:RdB w w.heap.size dA f.dat) (hS:RdS w (·<w.heap.size) sA (enl sgc f.sets)) :
  Calls Tryz.prog 74 #[.pointer (some ⟨c,0,none⟩),.agg ({ f.fm dA dc sA sc with pad:=q }:Fm).c] w λe w'=>e=.returned (.tuple #[])∧zk1 w c x (L++zh f) w':=by
 obtain⟨i0,hi0,hz0,hz1,hz2⟩:=zr qk
 have hlen:=J2 f hm
 have HL7:Hid ((zh f).length≤16393):=by
  show _≤_
  unfold zh
  rw[List.length_append,jy]
  omega
 have hb0:Below w.heap.size w (w.alloc (.cells ({ f.fm dA dc sA sc with pad:=q }:Fm).c 66)):=(Below.refl _ _).alloc (Nat.le_refl _) _
 have hX0:Row (w.alloc (.cells ({ f.fm dA dc sA sc with pad:=q }:Fm).c 66)) w.heap.size 66 ({ f.fm dA dc sA sc with pad:=q }:Fm).c:=Row.new w _ _
 have hX1:=zh1 hX0 (show (f.fm dA dc sA sc).pad = -1 from hp)
 have f4:=(zf hX0).2.2.2.2.1
 have z4:=hX0.thawed 4
 have hb1:Below w.heap.size w ((w.alloc (.cells ({ f.fm dA dc sA sc with pad:=q }:Fm).c 66)).setCell ⟨w.heap.size,4,none⟩ (.int .i64 (-1))):=hb0.setCell (p:=⟨w.heap.size,4,none⟩) (Nat.le_refl _) _
 have HX:=z2w hX1
 have HB:=z2w hb1
 have hsz:w.heap.size<(w.alloc (.cells ({ f.fm dA dc sA sc with pad:=q }:Fm).c 66)).heap.size:=hX0.lt
 have H:=z2w (h.below hb1 h.lt)
 have HO:=z2w (hr.below hb1 hr.lt)
 have HXR:=z2w hxr
 have HD:=z2w (hD.below hb1)
 have HS:=z2w (hS.up hb1)
 have HPB:Hid (pb<w.heap.size):=hr.lt
 clear h hr hX0 hX1 hb0 hb1 hD hS hlen hp hxr
 go_enter Tryz.func74,Tryz.ntmps74
 go_upto_region 1 with fail
 generalize w.alloc (.cells ({ f.fm dA dc sA sc with pad:=q }:Fm).c 66)=w1 at *
 have hw0:w.heap.size≤w.heap.size:=Nat.le_refl _
 obtain⟨p,hpp⟩:∃p,w.heap.size=p:=⟨_,rfl⟩
 rw[hpp] at f4 z4 hsz HX HD HS HB H HO HPB ⊢
 have HP:=z2w hpp
 clear hpp hw0
 go_upto_region 2 with fail
 generalize w1.setCell ⟨p,4,none⟩ (.int .i64 (-1))=w2 at *
 have c16:=Jl H.out
 rw[HXR.out] at c16
 have hc2:c<w2.heap.size:=H.out.lt
 have hp2:p<w2.heap.size:=HX.out.lt
 have hput:=zgd f hk hm (dA:=dA) (sA:=sA) (dc:=dc) (sc:=sc) w2.drew (HD.out.more (by show p≤w2.heap.size;omega)) (HS.out.imp λk _ hk=>hk)
 go_wp2_with fail
 refine qg 10 (λw'=>Row w' p 66 (f.fm dA dc sA sc).c∧w'.cell? ⟨c,16,none⟩=some (.slice (some ⟨pb,0,none⟩) L.length L.length)) (by kernel_rfl) ⟨HX.out,c16⟩ (λhHeld=>?_)
 refine tkE 0 ?_
 refine tkE 1 ?_
 refine tkE 2 ?_
 refine tkE 3 ?_
 refine tkE 4 ?_
 refine zht 5 rfl (qm (by rfl) _ rfl rfl (λ_ hSw=>hSw.1)) ?_
 refine zm (i:=6) (by kernel_rfl) rfl (λK hK=>?_)
 go_simp
 go_at_call 116
 refine hput.mono ?_
 rintro e w3 ⟨A,cp,rfl,hO3,hb3⟩
 have hb3':Below w2.heap.size w2 w3:=⟨hb3.os,hb3.tape,hb3.output,hb3.size,hb3.block⟩
 have hX3:=HX.out.below hb3' hp2
 have H3:=z2w (H.out.below hb3' hc2)
 have HO3:=z2w (HO.out.below hb3' (by have:=HPB.out;omega))
 have HN3:Hid (Bo w3 w2.heap.size 5 (.slice A (zh f).length cp) (zh f)):=hO3
 have HB3:=z2w (HB.out.trans (hb3'.mono (by omega)))
 have k16:=Jl H3.out
 rw[HXR.out] at k16
 clear hO3 hb3 hb3' hput HX H HO HB HD HS c16 hHeld
 go_simp
 refine hK.out _ _ ⟨hX3,k16⟩ (λhHeld=>?_)
 clear hK K
 try refine ptk ?_
 refine zm (i:=7) (by kernel_rfl) rfl (λK hK=>?_)
 have hput0:0<(zh f).length:=by
  unfold zh
  rw[List.length_append,jy]
  omega
 obtain⟨g2,o2,e2,hg2,hc2'⟩:=(Bo.reads HN3.out) (λe=>by rw[e] at hput0;simp at hput0)
 subst e2
 obtain⟨c4,w4,hrun,hO4,hb4⟩:=zii (P:=Tryz.prog) w3 0 22 5 i0 Tryz.underlying22 hi0 hz0 hz1 hz2 (l:=L) (m:=zh f) (c:=cp) (HO3.out.reads (B:=w3.heap.size) HO3.out.lt) (Bo.reads HN3.out) hput0 (by have:=HL7.out;omega) (Nat.zero_le _)
 refine Vw rfl (.tmp 9) (.tmp 11) 22 rfl rfl rfl (hrun _) ?_
 have hX4:=hX3.below hb4 hX3.lt
 have h4:=H3.out.below hb4 H3.out.lt
 have q16:=Jl h4
 rw[HXR.out] at q16
 have z16:=h4.thawed 16
 have hgc:w3.heap.size≠c:=by have:=H3.out.lt;omega
 have HFIN:Hid (zk1 w c x (L++zh f) (w4.setCell ⟨c,16,none⟩ (.slice (some ⟨w3.heap.size,0,none⟩) (L++zh f).length c4))):=
  ⟨_,zb1 h4 _,OwS.setCell (a:=⟨c,16,none⟩) hO4 (Jy h4 hO4) _,(((Fs.of_below (S:=λk=>k=c) (by rw[HP.out];exact HB3.out)).then_below hb4).setCell (g:=c) (λ_=>rfl) 16 _),λk hk=>by
   have h1:w3.heap.size=k:=by simpa [ob,Value.ownBlock] using hk
   have:=HB3.out.size
   have:=HP.out
   omega⟩
 clear hO4 hb4 hrun hc2' hput0 h4 hX3 k16 H3 HO3 HN3 HB3
 generalize w3.heap.size=g4 at *
 refine hK.out _ _ ⟨hX4,q16⟩ (λhHeld=>?_)
 clear hK K
 try refine ptk ?_
 refine tkE 8 ?_
 refine tkE 9 ?_
 refine qh (by kernel_rfl) rfl (by kernel_rfl) (λK hK=>?_)
 go_simp
 refine hK.out _ _ ?_
 clear hK K
 try refine ptk ?_
 go_wp2_with fail
 go_end0
 exact⟨rfl,by rw[←List.length_append];exact HFIN.out⟩
end
section
section
variable {w w':World}{z:Zs}{g:Nat}{L:List Ks}{e:Ks}
theorem SmIn.add(h:SmIn w g L)(hf:Fs (λk=>k=g) w w')(hM:MapM w' g ((L.map λe=>(e.nu,e.k))++[(e.nu,e.k)]))(hn:KsIn w' e)(hp:∀k,e.fp k→w.heap.size≤k):SmIn w' g (L++[e]):=by
 have hgn:∀x∈L,¬x.fp g:=λx hx hk=>by
  rcases hk with hk|⟨m,hm,hk⟩
  ·exact h.m.ne (h.i x hx).r hk
  ·exact h.m.ne ((h.i x hx).m m hm).1 hk
 refine⟨?_,λx hx=>?_,λa b x y hx hy k h3 h4=>?_⟩
 ·rw[List.map_append]
  exact hM
 ·rcases List.mem_append.1 hx with hx'|hx'
  ·exact(h.i x hx').keep λk hk=>hf.block k ((h.i x hx').lt hk) λhk2=>hgn x hx' (hk2▸hk)
  ·rw[List.mem_singleton] at hx'
   subst hx'
   exact hn
 ·have hcase:∀(c:Nat) (x:Ks),(L++[e])[c]?=some x→L[c]?=some x∨(c=L.length∧x=e):=λc x hc=>by
   by_cases hcl:c<L.length
   ·rw[List.getElem?_append_left hcl] at hc
    exact .inl hc
   ·rw[List.getElem?_append_right (by omega)] at hc
    obtain⟨h1,h2⟩:=List.getElem?_eq_some_iff.1 hc
    simp only[List.length_singleton] at h1
    have:c-L.length=0:=by omega
    simp only[this,List.getElem_cons_zero] at h2
    exact .inr ⟨by omega,h2.symm⟩
  rcases hcase a x hx with hx'|⟨rfl,rfl⟩<;>rcases hcase b y hy with hy'|⟨rfl,rfl⟩
  ·exact h.d a b x y hx' hy' k h3 h4
  ·exact absurd ((h.i x (List.mem_of_getElem? hx')).lt h3) (by have:=hp k h4;omega)
  ·exact absurd ((h.i y (List.mem_of_getElem? hy')).lt h4) (by have:=hp k h3;omega)
  ·rfl
theorem ZP.enter(h:Sd14 w z)(hf:Fs (λk=>k=z.sm) w w')(hM:MapM w' z.sm ((z.ss.map λe=>(e.nu,e.k))++[(e.nu,e.k)]))(hn:KsIn w' e)(hp:∀k,e.fp k→w.heap.size≤k):ZP w z { z with ss:=z.ss++[e] } w':=by
 have hs:SmIn w z.sm z.ss:=h.1.ok .sm
 refine ZP.of h (h.1.one .sm (hf.mono λk _ hk=>.inl hk) (hs.add hf hM hn hp) (λk hk=>?_) (λm hm=>by cases m<;>first|rfl|exact absurd rfl hm)) rfl
 rcases hk with hk|⟨x,hx,hk⟩
 ·exact .inl (.inl hk)
 ·rcases List.mem_append.1 hx with hx'|hx'
  ·exact .inl (.inr ⟨x,hx',hk⟩)
  ·rw[List.mem_singleton] at hx'
   subst hx'
   exact .inr (hp k hk)
theorem cc9{x:Cc}{c:Nat}(h:Row w c 86 x.c):w.cell? ⟨c,9,none⟩=some (.int .u32 x.pe.wn):=h.cell (by unfold Cc.c;rfl)
end
theorem zmj{P:Program}{ops:Array Oper}{rest:List Oper}{o:Oper}{a:Act}{w w':World}{Q:Exit→Act→World→Prop}(hgd:o.guard=none)(t:TypeId)(m k x:Operand)(ho:o.op=.mapUpdate t m k x)
  (hrun:(Instr.mapUpdate t (a.eval m) (a.eval k) (a.eval x)).run P w=.ok () w') (h:wpList P ops Q rest (a.put o.dst undef) w'):wpList P ops Q (o :: rest) a w:=by
 refine wpList_plain hgd λK hK=>?_
 unfold Oper.wp
 simp only[execOp,ho,Sem.run_bind,Sem.run_pure,Result.andThen_ok,hrun]
 exact hK _ _ h
def y4(n st k g:Nat)(wn:Int):Ks:=⟨n,st,k,some (g,wn,wn,0),false,false,false⟩
theorem zu1(n st k g:Nat)(wn:Int):knc (y4 n st k g wn).kn=#[.int .u32 n,.int .u8 st,.pointer (some ⟨g,0,none⟩),.bool false,.bool false,.bool false]:=rfl
attribute [local irreducible] Cc.c evc Fm.c knc mtc
theorem zt7{w:World}{z:Zs}(h:Sd14 w z){n st:Nat}(hfr:atM (z.ss.map λe=>(e.nu,e.k)) n 0=none)(hwn:z.wn≤2147483647)(hpw:z.pe.wn≤4294967295)(hlv:z.lv≤1000000)(hrm:z.rm.Ok)(hsm:z.rm.Sm) :
  Calls Tryz.prog 35 #[.pointer (some ⟨z.c,0,none⟩),.int .u32 n,.int .u8 st] w (λx w'=>∃k g F',x=.returned (.pointer (some ⟨k,0,none⟩))∧ZP w z { z with ss:=z.ss++[y4 n st k g z.wn],la:=n,lv:=z.lv+1,rm:=(xy z.rm n z.pe.wn).1,rF:=F' } w'):=by
 have c15:w.cell? ⟨z.c,15,none⟩=some (.int .u32 (z.wn:Int)):=zh6 h.row
 have hof:=V6 (n:=(z.wn:Int)) (by omega) true
 have hbt:btw (z.wn:Int)=z.wn:=by unfold btw;omega
 rw[hbt] at hof
 have H:=z2w h
 clear h hbt
 go_enter Tryz.func35,Tryz.ntmps35
 go_wp2_with fail
 refine(hof _).mono ?_
 rintro x1 w1 ⟨g,rfl,hr1,hb1,hg1⟩
 have HM1:=z2w hr1
 have HB1:=z2w hb1
 clear hr1 hb1 hof
 go_upto_region 2 with fail
 have hb2:Below w.heap.size w (w1.alloc (.cells #[.int .u32 (n:Int),.int .u8 (st:Int),.pointer (some ⟨g,0,none⟩),.bool false,.bool false,.bool false] 95)):=HB1.out.alloc HB1.out.size _
 have HK2:Hid (Row (w1.alloc (.cells #[.int .u32 (n:Int),.int .u8 (st:Int),.pointer (some ⟨g,0,none⟩),.bool false,.bool false,.bool false] 95)) w1.heap.size 95 #[.int .u32 (n:Int),.int .u8 (st:Int),.pointer (some ⟨g,0,none⟩),.bool false,.bool false,.bool false]):=Row.new w1 _ _
 have HM2:=z2w (HM1.out.below ((Below.refl w1.heap.size w1).alloc (Nat.le_refl _) (.cells #[.int .u32 (n:Int),.int .u8 (st:Int),.pointer (some ⟨g,0,none⟩),.bool false,.bool false,.bool false] 95)) HM1.out.lt)
 have HB2:=z2w hb2
 have H2:=z2w (H.out.below hb2)
 have hkg:w.heap.size≤w1.heap.size:=HB1.out.size
 clear hb2 HM1 HB1 c15
 generalize w1.alloc (.cells #[.int .u32 (n:Int),.int .u8 (st:Int),.pointer (some ⟨g,0,none⟩),.bool false,.bool false,.bool false] 95)=w2 at *
 generalize w1.heap.size=k at *
 have hsm2:SmIn w2 z.sm z.ss:=H2.out.1.ok .sm
 obtain⟨w3,hrun,hM3,hF3⟩:=zo3 hsm2.m k hfr
 have c19:w2.cell? ⟨z.c,19,none⟩=some (.map (some z.sm)):=zbp H2.out.row
 have hks3:KsIn w3 (y4 n st k g z.wn):=⟨by rw[zu1];exact hF3.row (λhe=>hsm2.m.ne HK2.out he.symm) HK2.out,λm hm=>by
  obtain rfl:=Option.some.inj hm
  exact⟨hF3.row (λhe=>hsm2.m.ne HM2.out he.symm) HM2.out,⟨by show (0:Int)≤z.wn;omega,Int.le_refl _,by show (z.wn:Int)+0≤z.wn;omega,by show (z.wn:Int)≤2147483647;omega⟩⟩⟩
 have H3:=z2w (ZP.enter H.out ((Fs.of_below HB2.out).trans hF3 λ_ _ h=>h) hM3 hks3 (λj hj=>by
  rcases hj with rfl|⟨m,hm,rfl⟩
  ·exact hkg
  ·obtain rfl:=Option.some.inj hm
   exact hg1))
 clear hsm2 hM3 hF3 hks3 H2 HB2 HM2 HK2
 go_upto_region 3 with (refine zmj rfl _ _ _ _ rfl hrun ?_)
 clear hrun c19
 have c22:w3.cell? ⟨z.c,22,none⟩=some (.int .u32 (z.la:Int)):=zdx H3.out.sd.row
 have z22:=H3.out.sd.row.thawed 22
 have H4:Hid (ZP w z { z with ss:=z.ss++[y4 n st k g z.wn],la:=n } (w3.setCell ⟨z.c,22,none⟩ (.int .u32 (n:Int)))):=H3.out.trans (ZP.cell H3.out.sd 22 (.int .u32 (n:Int)) (z1f H3.out.sd.row n) rfl rfl (λm hm=>by cases m<;>first|rfl|exact absurd rfl hm))
 clear H3
 go_upto_region 4 with fail
 clear c22 z22
 generalize w3.setCell ⟨z.c,22,none⟩ (.int .u32 (n:Int))=w4 at *
 have c21:w4.cell? ⟨z.c,21,none⟩=some (.int .i64 (z.lv:Int)):=zdc H4.out.sd.row
 have z21:=H4.out.sd.row.thawed 21
 have hwl:IntKind.i64.wrap ((z.lv:Int)+1)=(z.lv:Int)+1:=IntWalk.i64_in _ (by omega)
 have H5:Hid (ZP w z { z with ss:=z.ss++[y4 n st k g z.wn],la:=n,lv:=z.lv+1 } (w4.setCell ⟨z.c,21,none⟩ (.int .i64 ((z.lv:Int)+1)))):=H4.out.trans (ZP.cell H4.out.sd 21 (.int .i64 ((z.lv:Int)+1)) (ztq H4.out.sd.row (z.lv+1)) rfl rfl (λm hm=>by cases m<;>first|rfl|exact absurd rfl hm))
 clear H4
 go_upto_region 5 with fail
 clear c21 z21 hwl
 generalize w4.setCell ⟨z.c,21,none⟩ (.int .i64 ((z.lv:Int)+1))=w5 at *
 have c18:w5.drew.cell? ⟨z.c,18,none⟩=some (pa0 z.rg):=Vz H5.out.sd.row
 have c9:w5.drew.cell? ⟨z.c,9,none⟩=some (.int .u32 (z.pe.wn:Int)):=cc9 H5.out.sd.row
 unfold pa0 at c18
 have HD:=z2w (H5.out.then_below ((Below.refl _ _).drew))
 clear H5
 refine wp_region_held_drew (S:=λw'=>w'.cell? ⟨z.c,18,none⟩=some (.pointer (some ⟨z.rg,0,none⟩))∧w'.cell? ⟨z.c,9,none⟩=some (.int .u32 (z.pe.wn:Int))) (by kernel_rfl) ⟨c18,c9⟩ (λhHeld=>?_)
 clear c18 c9
 generalize w5.drew=w6 at *
 have hpw2:IntKind.i64.wrap (z.pe.wn:Int)=z.pe.wn:=IntWalk.i64_in _ (by omega)
 refine tkH 0 ?_
 refine tkH 1 ?_
 refine tkH 2 ?_
 refine tkH 3 ?_
 refine tkH 4 ?_
 refine tkH 5 ?_
 refine tkH 6 ?_
 refine tkH 7 ?_
 refine tkH 8 ?_
 refine tkH 9 ?_
 refine tkH 10 ?_
 refine rdH 11 λK hK=>?_
 go_simp
 go_at_call 71
 refine(znz (HD.out.sd.1.ok .rg) hrm hsm n z.pe.wn).mono ?_
 rintro e9 w7 ⟨rfl,F',hT,hF,hn⟩
 have HE:Hid (ZP w z { z with ss:=z.ss++[y4 n st k g z.wn],la:=n,lv:=z.lv+1,rm:=(xy z.rm n z.pe.wn).1,rF:=F' } w7):=HD.out.trans (ZP.ring HD.out.sd hT hF hn)
 have c18:w7.cell? ⟨z.c,18,none⟩=some (pa0 z.rg):=Vz HE.out.sd.row
 have c9:w7.cell? ⟨z.c,9,none⟩=some (.int .u32 (z.pe.wn:Int)):=cc9 HE.out.sd.row
 unfold pa0 at c18
 clear HD hT hF hn hHeld
 refine hK.out _ _ ⟨c18,c9⟩ (λhHeld=>?_)
 clear hK K
 try refine ptk ?_
 refine dnH ?_
 clear hHeld c18 c9
 go_wp2_with fail
 go_ret
 exact⟨k,g,F',rfl,HE.out⟩
end
section
def psM(z:Zs)(v:Value):Pt→As
 |.row=>zbf { z with row:=v }
 |m=>z.ps m
theorem zf2(z:Zs)(v:Value){k:Nat}:zi (psM z v) k→zi z.ps k:=λ⟨m,hm⟩=>by
 cases m<;>first|exact⟨.out,hm⟩|exact⟨.row,hm⟩|exact⟨.spl,hm⟩|exact⟨.gat,hm⟩|exact⟨.dec,hm⟩|exact⟨.enc,hm⟩|exact⟨.own,hm⟩|exact⟨.ev,hm⟩|exact⟨.mt,hm⟩|exact⟨.rg,hm⟩|exact⟨.sm,hm⟩|exact⟨.ov,hm⟩
theorem Sd14.mk{w:World}{z:Zs}(h:Sd14 w z)(v:Value):SepP w z.ps (psM z v) (w.setCell ⟨z.c,16,none⟩ v):=
 h.1.one .row ((Fs.refl (zbf z).fp w).setCell (g:=z.c) (λ_=>rfl) 16 v) (by show Row _ z.c _ _;exact zb1 h.row v) (λk hk=>.inl hk) (λm hm=>by cases m<;>first|rfl|exact absurd rfl hm)
def Zs.toldM(z:Zs)(l:List (Nat × Nat))(ou rv:Value):Zs:={ z with ou:=ou,ol:=(Jw z.on z.ol l).1,row:=rv,R:=qo++zh (stF l) }
def mkv(pb:Nat):Value:=.slice (some ⟨pb,0,none⟩) qo.length qo.length
def zz5(w:World)(z:Zs)(pb:Nat)(w':World):Prop:=∃ou rv,SepP w (psM z (mkv pb)) (z.toldM (ja z.wn) ou rv).ps w'
theorem zzz{w w':World}{z:Zs}{pb:Nat}{R':List UInt8}(h:Sep w (psM z (mkv pb)))(hs:zk1 w z.c ({ z with row:=mkv pb }:Zs).x R' w'):∃v,SepP w (psM z (mkv pb)) ({ z with row:=v,R:=R' }:Zs).ps w':=by
 obtain⟨v,h1,h2,h3,h4⟩:=hs
 refine⟨v,h.two .row .out (h3.mono λk _ hk=>.inl hk) h1 h2 (λk hk=>.inl hk) (λk hk=>.inr (.inr (h4 k hk))) (λk hk hk2=>?_) (λm hm hm2=>?_)⟩
 ·have hk':k=z.c:=hk
  subst hk'
  have:=h4 _ hk2
  have:=(psM z (mkv pb) .row).lt (h.ok .row) z.c rfl
  omega
 ·cases m<;>first|rfl|exact absurd rfl hm|exact absurd rfl hm2
attribute [local irreducible] Cc.c evc Fm.c St.c knc mtc
theorem zky{w:World}{z:Zs}{pb:Nat}(h:Sep w (psM z (mkv pb)))(hB:z.B≤w.heap.size)(hr:MkRow w pb qo)(hpb:¬zi z.ps pb)(hsv:z.srv=false)(hwn:z.wn<4294967296)(hol:z.ol.length≤100000) :
  Calls Tryz.prog 58 #[.pointer (some ⟨z.c,0,none⟩)] w (ji (zz5 w z pb)):=by
 have hrow:Row w z.c 86 ({ z with row:=mkv pb }:Zs).x.c:=h.ok .row
 have c0:w.cell? ⟨z.c,0,none⟩=some (.bool z.srv):=cc0 hrow
 rw[hsv] at c0
 have c15:w.cell? ⟨z.c,15,none⟩=some (.int .u32 (z.wn:Int)):=zh6 hrow
 have hlt:=hrow.lt
 have hbs:=zf4
 have hbc:=zhi (z.wn:Int)
 have H:=z2w h
 have HMK:=z2w hr
 have HPB:=z2w hpb
 have HPN:Hid (∀k,zi (psM z (mkv pb)) k→k<w.heap.size):=λk hk=>h.lt hk
 clear h hsv hrow hr hpb
 go_enter Tryz.func58,Tryz.ntmps58
 go_upto_region 3 with fail
 obtain⟨w1,hw1⟩:∃w1,w.alloc (.cells #[.int .u16 2,.int .u32 0,.int .u16 4,.int .u32 z.wn,.int .u16 6,.int .u32 4096] 164)=w1:=⟨_,rfl⟩
 have hb1:Below w.heap.size w w1:=by rw[←hw1];exact(Below.refl _ _).alloc (Nat.le_refl _) _
 have hX1:Row w1 w.heap.size 164 #[.int .u16 2,.int .u32 0,.int .u16 4,.int .u32 z.wn,.int .u16 6,.int .u32 4096]:=by rw[←hw1];exact Row.new w _ _
 rw[hw1]
 clear hw1 hbs hbc c0 c15
 have H1:=z2w (SepP.of_below H.out hb1)
 have HM1:=z2w (HMK.out.below hb1 HMK.out.lt)
 have hsd:Sd w1 z.B z.ow z.on z.ou z.ol:=H1.out.sep.ok .own
 have hsnd:=za2 hsd (Nat.le_trans hB hb1.size) hol (A:=some ⟨w.heap.size,0,none⟩) (c:=3) (l:=(ja z.wn)) (zd8 hX1) (by show (3:Nat)≤1000000000000;decide)
 have c5:w1.cell? ⟨z.c,5,none⟩=some (pa0 z.ow):=cc5 (show Row w1 z.c 86 ({ z with row:=mkv pb }:Zs).x.c from H1.out.sep.ok .row)
 unfold pa0 at c5
 have HX:=z2w hX1
 have hq:¬zi (psM z (mkv pb)) (w.heap.size):=λhk=>by have:=HPN.out _ hk;omega
 clear hb1 hX1 hsd H HMK hlt HPN hB
 generalize w.heap.size=q at *
 go_wp2_with fail
 refine hsnd.mono ?_
 rintro e w2 ⟨rfl,ou,h2,hf2,hn2⟩
 have hzp:SepP w1 (psM z (mkv pb)) (psM { z with ou:=ou,ol:=(Jw z.on z.ol (ja z.wn)).1 } (mkv pb)) w2:=H1.out.sep.one .own hf2 h2 (λk hk=>by
  rcases hk with hk|hk
  ·exact .inl (.inl hk)
  ·exact(hn2.own hk).imp (λh=>.inr h) id) (λm hm=>by cases m<;>first|rfl|exact absurd rfl hm)
 have hX2:=hzp.fs.row hq HX.out
 have hM2:MkRow w2 pb qo:=HM1.out.keep (hzp.fs.block _ HM1.out.lt λhk=>HPB.out (zf2 _ _ hk))
 have H2:=z2w (H1.out.trans hzp)
 have hse:=zvc (x:=({ z with ou:=ou,ol:=(Jw z.on z.ol (ja z.wn)).1,row:=mkv pb }:Zs).x) (hzp.sep.ok .row) hM2 rfl (by decide) (stF ((ja z.wn))) (zgx hwn) (zdk z.wn) rfl (dA:=none) (dc:=0) (sA:=some ⟨q,0,none⟩) (sc:=3) (q:=0) RdB.nil (zd8 hX2)
 rw[zgm] at hse
 have HSP:=z2w hzp.sep
 clear h2 hf2 hn2 hzp hX2 hsnd c5 HX H1 hM2 HM1
 go_wp2_with fail
 refine hse.mono ?_
 rintro e w3 ⟨rfl,h3⟩
 obtain⟨rv,h4⟩:=zzz (z:={ z with ou:=ou,ol:=(Jw z.on z.ol (ja z.wn)).1 }) HSP.out h3
 have H3:Hid (SepP w (psM z (mkv pb)) (z.toldM (ja z.wn) ou rv).ps w3):=H2.out.trans h4
 clear h3 h4 hse H2 HSP
 go_wp2_with fail
 go_end0
 exact⟨rfl,ou,rv,H3.out⟩
end
end Go.Proofs.YtooaajnkiokpnaaGreatDoor
