/-
  Part of a proof: A client opens a stream: by its contract. Conditions: those that each theorem names.
-/
import Derived.Test.YtooaajnkiokpnaaGreatDoorQ01
import Derived.Test.YtooaajnkiokpnaaGreatDoorQ38
import Derived.Test.YtooaajnkiokpnaaGreatDoorQ44
import Derived.Test.YtooaajnkiokpnaaGreatDoorQ42
import Derived.Test.YtooaajnkiokpnaaGreatDoorQ36
namespace Go.Proofs.YtooaajnkiokpnaaGreatDoor
open Go.RowKit Go.WideShapes
set_option maxHeartbeats 8000000
set_option maxRecDepth 100000
section
def evH(st:Nat)(A:Option Addr)(n c:Nat)(en:Bool):Ev:=⟨1,st,A,n,c,none,0,0,en,0,0,0⟩
theorem z0p(st:Nat)(A:Option Addr)(n c:Nat)(en:Bool):evc (evH st A n c en)=#[.int .u8 1,.int .u32 st,.slice A n c,.slice none 0 0,.bool en,.int .u32 0,.int .u8 0,.int .u32 0]:=by unfold evc evH;rfl
def Zs.decd(z:Zs)(v:Value)(L:List Fd)(M:Nat):Zs:={ z with dv:=v,dL:=L,dM:=M }
def zto(w:World)(z:Zs)(L:List Fd)(M:Nat)(fs:List Fd)(e:Ending)(w':World):Prop:=
 ∃fA fc v,e=.returned (.tuple #[.slice fA fs.length fc,.agg (ftc 0 0)])∧ZP w z (z.decd v L M) w'∧RdS w' (λk=>w.heap.size≤k∧k<w'.heap.size∧¬zi (z.decd v L M).ps k) fA (enl fdc fs)
theorem zzq(w:World)(y:Ev):Row ((w.alloc (.cells #[.int .u8 0,.int .u32 0,.slice none 0 0,.slice none 0 0,.bool false,.int .u32 0,.int .u8 0,.int .u32 0] 31)).setRow w.heap.size (evc y)) w.heap.size 31 (evc y)∧
  Below w.heap.size w ((w.alloc (.cells #[.int .u8 0,.int .u32 0,.slice none 0 0,.slice none 0 0,.bool false,.int .u32 0,.int .u8 0,.int .u32 0] 31)).setRow w.heap.size (evc y))∧
  Row (w.alloc (.cells #[.int .u8 0,.int .u32 0,.slice none 0 0,.slice none 0 0,.bool false,.int .u32 0,.int .u8 0,.int .u32 0] 31)) w.heap.size 31 (evc ev0):=by
 have h1:Row (w.alloc (.cells #[.int .u8 0,.int .u32 0,.slice none 0 0,.slice none 0 0,.bool false,.int .u32 0,.int .u8 0,.int .u32 0] 31)) w.heap.size 31 (evc ev0):=by
  rw[show evc ev0=#[.int .u8 0,.int .u32 0,.slice none 0 0,.slice none 0 0,.bool false,.int .u32 0,.int .u8 0,.int .u32 0] from by unfold evc ev0;rfl]
  exact Row.new w _ _
 exact⟨h1.setRow _,zd ((Below.refl _ _).alloc (Nat.le_refl _) _) _ _ (Nat.le_refl _),h1⟩
theorem zdo{w w':World}{ps:Pt→As}{A:Option Addr}{cs:List Value}(h:RdS w (λk=>k<w.heap.size∧¬zi ps k) A cs)(hb:Below w.heap.size w w'):RdS w' (λk=>k<w'.heap.size∧¬zi ps k) A cs:=
 (h.keep λk hk=>hb.block k hk.1).imp λk hk _=>⟨Nat.lt_of_lt_of_le hk.1 hb.size,hk.2⟩
attribute [local irreducible] Cc.c evc Fm.c ftc knc whc evH
theorem zvi{w:World}{z:Zs}(h:Sd14 w z)(hG:GlobE w){st n c:Nat}{A:Option Addr}{en:Bool}{L:List Fd}{M:Nat}{fs:List Fd}(hsv:z.srv=true)(hunk:atM (z.ss.map λe=>(e.nu,e.k)) st 0=none)
  (hget:∀W,GlobE W→ZP w z z W→Calls Tryz.prog 130 #[.pointer (some ⟨z.de,0,none⟩),.slice A n c] W (zto W z L M fs)) {Q:Zs→Prop}
  (hop:∀W v fA fc,GlobE W→ZP w z (z.decd v L M) W→RdS W (λk=>k<W.heap.size∧¬zi (z.decd v L M).ps k) fA (enl fdc fs)→Calls Tryz.prog 132 #[.pointer (some ⟨z.c,0,none⟩),.agg (evc (evH st fA fs.length fc en))] W (X7 W (z.decd v L M) Q)) :
  Calls Tryz.prog 104 #[.pointer (some ⟨z.c,0,none⟩),.agg (whc st A n c en)] w (X7 w z Q):=by
 have HAG:=z2w (Zo 0 0)
 have hb1:Below w.heap.size w (w.alloc (.cells (whc st A n c en) 128)):=(Below.refl _ _).alloc (Nat.le_refl _) _
 have HF1:Hid (Row (w.alloc (.cells (whc st A n c en) 128)) w.heap.size 128 (whc st A n c en)):=Row.new w _ _
 have H1:=z2w (ZP.of_below h hb1)
 have HPN:Hid (¬zi z.ps w.heap.size):=λhk=>by have:=h.1.lt hk;omega
 have H0:=z2w h
 have HG0:=z2w hG
 have HGE:=z2w hget
 have HOP:=z2w hop
 clear hb1 h hG hget hop
 go_enter Tryz.func104,Tryz.ntmps104
 go_upto_region 1 with fail
 have hpz:w.heap.size<(w.alloc (.cells (whc st A n c en) 128)).heap.size:=HF1.out.lt
 generalize w.alloc (.cells (whc st A n c en) 128)=w1 at *
 obtain⟨p,hp⟩:∃p,w.heap.size=p:=⟨_,rfl⟩
 rw[hp] at HF1 HPN hpz ⊢
 have HP:=z2w hp
 clear hp
 go_cut [5,6] (λv5 p6 wx=>∃fA fc v gf,v5=.slice fA fs.length fc∧p6=.pointer (some ⟨gf,0,none⟩)∧Hid (ZP w z (z.decd v L M) wx)∧Hid (Row wx p 128 (whc st A n c en))∧Hid (Row wx gf 29 (ftc 0 0))∧Hid (RdS wx (λk=>k<wx.heap.size∧¬zi (z.decd v L M).ps k) fA (enl fdc fs)))
 case first=>
  have c3:w1.drew.cell? ⟨z.c,3,none⟩=some (pa0 z.de):=cc3 H1.out.sd.row
  unfold pa0 at c3
  have hFd:Row w1.drew p 128 (whc st A n c en):=HF1.out
  have c1:w1.drew.cell? ⟨p,1,none⟩=some (.slice A n c):=hFd.cell (by unfold whc;rfl)
  have HZ:=z2w (H1.out.then_below ((Below.refl _ _).drew))
  have HFr:=z2w hFd
  have HGE2:Hid (∀W,ZP w z z W→Calls Tryz.prog 130 #[.pointer (some ⟨z.de,0,none⟩),.slice A n c] W (zto W z L M fs)):=λW hW=>HGE.out W (hW.glob H0.out HG0.out) hW
  clear H1 HF1 HGE HOP
  refine wp_region_held_drew (S:=λw'=>w'.cell? ⟨z.c,3,none⟩=some (.pointer (some ⟨z.de,0,none⟩))∧w'.cell? ⟨p,1,none⟩=some (.slice A n c)) (by kernel_rfl) ⟨c3,c1⟩ (λhHeld=>?_)
  clear hFd c3 c1
  generalize w1.drew=W0 at *
  refine tkH 0 ?_
  refine tkH 1 ?_
  refine tkH 2 ?_
  refine tkH 3 ?_
  refine tkH 4 ?_
  refine tkH 5 ?_
  refine wpAnyH_ready (rs:=[6,10]) (by kernel_rfl) (by simp) ?_
  refine AllReadyH.cons rfl (λK hK=>?_) (AllReadyH.cons rfl (λK hK=>?_) AllReadyH.nil)
  ·go_simp
   go_at_call 130
   refine(HGE2.out W0 HZ.out).mono ?_
   rintro e9 W5 ⟨fA,fc,v,rfl,h1,h2⟩
   have HFr2:=z2w (h1.fs.row HPN.out HFr.out)
   have HZ2:=z2w (HZ.out.trans h1)
   have HR:=z2w h2
   clear h1 h2 HGE2 HZ HFr
   refine hK.out _ _ ⟨cc3 HZ2.out.sd.row,HFr2.out.cell (by unfold whc;rfl)⟩ (λhHeld=>?_)
   clear hK K
   try refine ptk ?_
   refine tkH 7 ?_
   refine tkH 8 ?_
   refine tkH 9 ?_
   refine rdH 10 λK hK=>?_
   go_simp
   have HV:=z2w (Qy W5)
   have hb9:Below W5.heap.size W5 (W5.alloc (.cells #[.int .u8 0,.int .u32 0] 29)):=(Below.refl _ _).alloc (Nat.le_refl _) _
   have HZ3:=z2w (HZ2.out.then_below hb9)
   have HFr3:=z2w (HFr2.out.below hb9 HFr2.out.lt)
   have HR3:Hid (RdS (W5.alloc (.cells #[.int .u8 0,.int .u32 0] 29)) (λk=>k<W5.heap.size∧¬zi (z.decd v L M).ps k) fA (enl fdc fs)):=(HR.out.keep λk hk=>hb9.block k hk.2.1).imp λk hk _=>hk.2
   have HN:Hid (¬zi (z.decd v L M).ps W5.heap.size):=λhk=>by have:=HZ2.out.sd.1.lt hk;omega
   have HNg:Hid (w.heap.size≤W5.heap.size):=HZ2.out.fs.size
   clear hb9 HZ2 HFr2 HR
   generalize W5.alloc (.cells #[.int .u8 0,.int .u32 0] 29)=W10 at *
   generalize W5.heap.size=gf at *
   refine hK.out _ _ ⟨cc3 HZ3.out.sd.row,HFr3.out.cell (by unfold whc;rfl)⟩ (λhHeld=>?_)
   clear hK K
   try refine ptk ?_
   refine tkH 11 ?_
   refine rdH 12 λK hK=>?_
   refine qq (cs:=ftc 0 0) rfl _ _ rfl rfl rfl HV.out rfl HAG.out ?_
   have HZ4:=z2w (xd HZ3.out HN.out HNg.out (ftc 0 0))
   have HFr4:=z2w (HFr3.out.setRow' (Row.ne HFr3.out HV.out (by decide)) (ftc 0 0))
   have HV4:=z2w (HV.out.setRow (ftc 0 0))
   have HR4:Hid (RdS (W10.setRow gf (ftc 0 0)) (λk=>k<(W10.setRow gf (ftc 0 0)).heap.size∧¬zi (z.decd v L M).ps k) fA (enl fdc fs)):=(HR3.out.keep λk hk=>setRow_other W10 gf k _ (Nat.ne_of_lt hk.1)).imp λk hk _=>⟨by have:=HV.out.lt;have h1:=hk.1;simp;omega,hk.2⟩
   clear HZ3 HFr3 HV HR3
   generalize W10.setRow gf (ftc 0 0)=W12 at *
   refine hK.out _ _ ⟨cc3 HZ4.out.sd.row,HFr4.out.cell (by unfold whc;rfl)⟩ (λhHeld=>?_)
   clear hK K hHeld
   try refine ptk ?_
   refine dnH ?_
   go_wp2_with fail
   go_meet
   exact⟨fA,fc,v,gf,rfl,rfl,HZ4,HFr4,HV4,HR4⟩
  ·go_simp
   have HV:=z2w (Qy W0)
   have hb9:Below W0.heap.size W0 (W0.alloc (.cells #[.int .u8 0,.int .u32 0] 29)):=(Below.refl _ _).alloc (Nat.le_refl _) _
   have HZ2:=z2w (HZ.out.then_below hb9)
   have HFr2:=z2w (HFr.out.below hb9 HFr.out.lt)
   have HN0:Hid (¬zi z.ps W0.heap.size):=λhk=>by have:=HZ.out.sd.1.lt hk;omega
   have HNg:Hid (w.heap.size≤W0.heap.size):=HZ.out.fs.size
   clear hb9 HZ HFr
   generalize W0.alloc (.cells #[.int .u8 0,.int .u32 0] 29)=W10 at *
   generalize W0.heap.size=gf at *
   refine hK.out _ _ ⟨cc3 HZ2.out.sd.row,HFr2.out.cell (by unfold whc;rfl)⟩ (λhHeld=>?_)
   clear hK K
   try refine ptk ?_
   refine rdH 6 λK hK=>?_
   go_simp
   go_at_call 130
   refine(HGE2.out W10 HZ2.out).mono ?_
   rintro e9 W5 ⟨fA,fc,v,rfl,h1,h2⟩
   have HFr3:=z2w (h1.fs.row HPN.out HFr2.out)
   have HLF:Hid (gf<W10.heap.size):=HV.out.lt
   have HVV:=z2w (h1.fs.row HN0.out HV.out)
   have HN:Hid (¬zi (z.decd v L M).ps gf):=λhk=>(h1.new _ hk).elim HN0.out λh=>by have:=HLF.out;omega
   have HZ3:=z2w (HZ2.out.trans h1)
   have HR3:=z2w h2
   clear h1 h2 HGE2 HZ2 HFr2 HV HN0
   have HV:=HVV
   clear HVV
   refine hK.out _ _ ⟨cc3 HZ3.out.sd.row,HFr3.out.cell (by unfold whc;rfl)⟩ (λhHeld=>?_)
   clear hK K
   try refine ptk ?_
   refine tkH 7 ?_
   refine tkH 8 ?_
   refine tkH 9 ?_
   refine tkH 11 ?_
   refine rdH 12 λK hK=>?_
   refine qq (cs:=ftc 0 0) rfl _ _ rfl rfl rfl HV.out rfl HAG.out ?_
   have HZ4:=z2w (xd HZ3.out HN.out HNg.out (ftc 0 0))
   have HFr4:=z2w (HFr3.out.setRow' (Row.ne HFr3.out HV.out (by decide)) (ftc 0 0))
   have HV4:=z2w (HV.out.setRow (ftc 0 0))
   have HR4:Hid (RdS (W5.setRow gf (ftc 0 0)) (λk=>k<(W5.setRow gf (ftc 0 0)).heap.size∧¬zi (z.decd v L M).ps k) fA (enl fdc fs)):=(HR3.out.keep λk hk=>setRow_other W5 gf k _ (by have:=HLF.out;have:=hk.1;omega)).imp λk hk _=>⟨by have h1:=hk.2.1;simpa using h1,hk.2.2⟩
   clear HZ3 HFr3 HV HR3
   generalize W5.setRow gf (ftc 0 0)=W12 at *
   refine hK.out _ _ ⟨cc3 HZ4.out.sd.row,HFr4.out.cell (by unfold whc;rfl)⟩ (λhHeld=>?_)
   clear hK K hHeld
   try refine ptk ?_
   refine dnH ?_
   go_wp2_with fail
   go_meet
   exact⟨fA,fc,v,gf,rfl,rfl,HZ4,HFr4,HV4,HR4⟩
 case rest=>
  obtain⟨fA,fc,v,gf,rfl,rfl,HZ,HF,HV,HR⟩:=hcut
  have hnw:=λW=>Zq 0 0 rfl W
  rw[show (#[.agg #[.int .u8 0,.int .u32 0]]:Array Value)=#[.agg (ftc 0 0)] from by rw[z9];rfl] at hnw
  clear H1 HF1 HGE
  go_wp2_with (refine zj rfl _ rfl rfl HV.out HAG.out ?_)
  refine(hnw _).mono ?_
  rintro x4 w4 ⟨rfl,hb4⟩
  have HZ4:=z2w (HZ.out.then_below hb4)
  have HF4:=z2w (HF.out.below hb4 HF.out.lt)
  have HR4:=z2w (zdo HR.out hb4)
  have f0:w4.cell? ⟨p,0,none⟩=some (.int .u32 st):=HF4.out.cell (by unfold whc;rfl)
  have f2:w4.cell? ⟨p,2,none⟩=some (.bool en):=HF4.out.cell (by unfold whc;rfl)
  obtain⟨hy1,hy2,hy3⟩:=zzq w4 (evH st fA fs.length fc en)
  have HY1:=z2w hy1
  have HY3:=z2w hy3
  have HZ5:=z2w (HZ4.out.then_below hy2)
  have HF5:=z2w (HF4.out.below hy2 HF4.out.lt)
  have HR5:=z2w (zdo HR4.out hy2)
  have HEC:=z2w (z0p st fA fs.length fc en)
  clear hb4 hnw HZ HF HV HR hy1 hy2 hy3
  go_upto_region 6 with (refine ze (cs:=evc (evH st fA fs.length fc en)) rfl _ _ rfl rfl (by rw[HEC.out];rfl) HY3.out (Jp _ _) (j5 _) ?_)
  clear f0 f2 HZ4 HF4 HR4 HY3
  generalize (w4.alloc (.cells #[.int .u8 0,.int .u32 0,.slice none 0 0,.slice none 0 0,.bool false,.int .u32 0,.int .u8 0,.int .u32 0] 31)).setRow w4.heap.size (evc (evH st fA fs.length fc en))=w5 at *
  generalize w4.heap.size=ge at *
  have c19:w5.drew.cell? ⟨z.c,19,none⟩=some (.map (some z.sm)):=zbp HZ5.out.sd.row
  have f0:w5.drew.cell? ⟨p,0,none⟩=some (.int .u32 st):=HF5.out.cell (by unfold whc;rfl)
  have hM5:SmIn w5 z.sm z.ss:=HZ5.out.sd.1.ok .sm
  have hlk:(Instr.lookup 84 (.map (some z.sm)) (.int .u32 (st:Int)) false).run Tryz.prog w5.drew=.ok (.pointer none) w5.drew:=zmy (w:=w5.drew) hM5.m hunk
  have HZD:=z2w (HZ5.out.then_below ((Below.refl _ _).drew))
  have HRD:=z2w (zdo HR5.out ((Below.refl _ _).drew))
  have HYD:Hid (Row w5.drew ge 31 (evc (evH st fA fs.length fc en))):=HY1.out
  refine wp_region_held_drew (S:=λw'=>w'.cell? ⟨z.c,19,none⟩=some (.map (some z.sm))∧w'.cell? ⟨p,0,none⟩=some (.int .u32 st)) (by kernel_rfl) ⟨c19,f0⟩ (λhHeld=>?_)
  clear HZ5 HF5 HR5 HY1 hM5
  generalize w5.drew=w6 at *
  refine tkH 0 ?_
  refine tkH 1 ?_
  refine tkH 2 ?_
  refine tkH 3 ?_
  refine tkH 4 ?_
  refine tkH 5 ?_
  refine rdH 6 λK hK=>?_
  go_simp
  refine hK.out _ _ ⟨c19,f0⟩ (λhHeld=>?_)
  clear hK K
  try refine ptk ?_
  refine tkH 7 ?_
  refine dnH ?_
  clear hHeld c19 f0 hlk
  have c0:w6.cell? ⟨z.c,0,none⟩=some (.bool z.srv):=cc0 HZD.out.sd.row
  rw[hsv] at c0
  have hc9:=HOP.out w6 v fA fc (HZD.out.glob H0.out HG0.out) HZD.out HRD.out
  clear HOP
  go_wp2_with (refine zj rfl _ rfl rfl HYD.out (j5 _) ?_)
  refine hc9.mono ?_
  rintro x7 w7 ⟨rfl,z',h7,hQ7⟩
  have H7:=z2w (HZD.out.trans h7)
  have HQ7:=z2w hQ7
  clear h7 hQ7 hc9
  go_wp2_with fail
  go_ret
  exact⟨rfl,z',H7.out,HQ7.out⟩
end
section
def z2h(w:World)(n:Nat)(e:Ending)(w':World):Prop:=∃z,Sd14 w' z∧z.B=w.heap.size∧e=.returned (.pointer (some ⟨z.c,0,none⟩))∧Below w.heap.size w w'∧
 ∃c g b ga de dt en et ow mt rg sm F ou rv,z=(qj false w.heap.size c g b ga de dt en et ow mt n rg sm F).toldM (ja n) ou rv
def zf7(g ga de en ow mt rg m:Nat):Cc:={ ye g ga de en ow mt rg m with srv:=false }
theorem zx3(g ga de en ow mt rg m:Nat):AgOk Tryz.prog 86 (zf7 g ga de en ow mt rg m).c:=⟨⟨_,Tryz.underlying86⟩,(by kernel_rfl:(Tryz.prog.info? 86).map (·.size)=some 27),by unfold zf7 Cc.c ye ju;kernel_rfl⟩
theorem Zv(srv:Bool)(B c g b ga de dt en et ow mt wn rg sm:Nat)(F:Nat→Prop):(qj srv B c g b ga de dt en et ow mt wn rg sm F).c=c:=rfl
theorem zxl(srv:Bool)(B c g b ga de dt en et ow mt wn rg sm:Nat)(F:Nat→Prop):(qj srv B c g b ga de dt en et ow mt wn rg sm F).wn=wn:=rfl
theorem Vx(srv:Bool)(B c g b ga de dt en et ow mt wn rg sm:Nat)(F:Nat→Prop):(qj srv B c g b ga de dt en et ow mt wn rg sm F).B=B:=rfl
theorem zz4{w:World}{c:Nat}{x:Cc}(h:Row w c 86 x.c)(n:Nat):Row (w.setCell ⟨c,15,none⟩ (.int .u32 n)) c 86 ({ x with wn:=n }:Cc).c:=h.stored 15 _
attribute [local irreducible] Cc.c evc Fm.c St.c knc mtc qj
theorem zng(w:World)(hG:GlobE w)(sz:Nat)(hsz:sz<4294967296):Calls Tryz.prog 23 #[.bool false,.int .u32 (sz:Int)] w (z2h w (min sz 2147483647)):=by
 have hgl:0<w.heap.size:=jf hG
 have hn:=zdz w false hG
 have HG:=z2w hG
 clear hG
 go_enter Tryz.func23,Tryz.ntmps23
 go_wp2_with fail
 refine hn.mono ?_
 rintro e w1 ⟨g,rfl,b,h1,hg,hb,hb1⟩
 have HS:Hid (Spl w1 g b [] false false):=by show Spl _ _ _ _ _ _;have:=h1.spl;rwa [Vi] at this
 have RS:Hid ((w.heap.size≤g∧g<w1.heap.size)∧w.heap.size≤b∧b<w1.heap.size):=⟨⟨hg,HS.out.lts.1⟩,hb,HS.out.lts.2.1⟩
 have HB:=z2w hb1
 have HG1:=z2w (HG.out.below hb1)
 have hz1:w.heap.size≤w1.heap.size:=hb1.size
 clear h1 hb1 hn hg hb HG
 go_wp2_with fail
 refine(zg6 HG1.out).mono ?_
 rintro e w2 ⟨rfl,hga,hb2⟩
 have hz2:w1.heap.size≤w2.heap.size:=hb2.size
 replace HS:=z2w (HS.out.below hb2)
 have HGA:Hid (Ga w2 w.heap.size w1.heap.size gm0 none 0 none):=⟨hga.row,Bo.nil,hga.idle,hga.err,hga.ok,hgl,hz1⟩
 have RG:Hid (w1.heap.size≤w1.heap.size∧w1.heap.size<w2.heap.size):=⟨Nat.le_refl _,hga.row.lt⟩
 have HB2:=z2w (HB.out.trans (hb2.mono (by omega)))
 clear hga hb2 HB HG1
 have hd:=zgy 4096 (by omega) w2 w.heap.size (by omega)
 rw[show min 4096 4096=4096 from rfl] at hd
 unfold pt at hd
 go_wp2_with fail
 refine hd.mono ?_
 rintro e w3 ⟨de,dt,rfl,hdn,hde,hdt,hb3⟩
 have hz3:w2.heap.size≤w3.heap.size:=hb3.size
 replace HS:=z2w (HS.out.below hb3)
 replace HGA:=z2w (HGA.out.below hb3)
 have HDN:=z2w hdn
 have RD:Hid ((w2.heap.size≤de∧de<w3.heap.size)∧w2.heap.size≤dt∧dt<w3.heap.size):=⟨⟨hde,Row.lt hdn.d⟩,hdt,hdn.t.lt⟩
 have HB3:=z2w (HB2.out.trans (hb3.mono (by omega)))
 clear hdn hd hde hdt hb3 HB2
 have he:=zf0 4096 (by omega) w3 w.heap.size (by omega)
 rw[show min 4096 4096=4096 from rfl] at he
 unfold pt at he
 go_wp2_with fail
 refine he.mono ?_
 rintro e w4 ⟨en,et,rfl,hen,hee,het,hb4⟩
 have hz4:w3.heap.size≤w4.heap.size:=hb4.size
 replace HS:=z2w (HS.out.below hb4)
 replace HGA:=z2w (HGA.out.below hb4)
 replace HDN:=z2w (HDN.out.below hb4)
 have HEN:=z2w hen
 have RE:Hid ((w3.heap.size≤en∧en<w4.heap.size)∧w3.heap.size≤et∧et<w4.heap.size):=⟨⟨hee,Row.lt hen.e⟩,het,hen.t.lt⟩
 have HB4:=z2w (HB3.out.trans (hb4.mono (by omega)))
 clear hen he hee het hb4 HB3
 go_wp2_with fail
 refine(za5 _).mono ?_
 rintro e w5 ⟨ow,rfl,hsd,hb5⟩
 have hz5:w4.heap.size≤w5.heap.size:=hb5.size
 replace HS:=z2w (HS.out.below hb5)
 replace HGA:=z2w (HGA.out.below hb5)
 replace HDN:=z2w (HDN.out.below hb5)
 replace HEN:=z2w (HEN.out.below hb5)
 have HOW:Hid (Sd w5 w.heap.size ow ju (.slice none 0 0) []):=⟨hsd.row,OwS.nil,by have:=hsd.gl;omega,hsd.ne⟩
 have how1:=hsd.gl
 have how2:=hsd.row.lt
 have HB5:=z2w (HB4.out.trans (hb5.mono (by omega)))
 clear hsd hb5 HB4
 go_wp2_with fail
 refine(Y6 _).mono ?_
 rintro e w6 ⟨rfl,hb6⟩
 have hz6:w5.heap.size≤w6.heap.size:=hb6.size
 replace HS:=z2w (HS.out.below hb6)
 replace HGA:=z2w (HGA.out.below hb6)
 replace HDN:=z2w (HDN.out.below hb6)
 replace HEN:=z2w (HEN.out.below hb6)
 replace HOW:=z2w (HOW.out.below hb6)
 have HB6:=z2w (HB5.out.trans (hb6.mono (by omega)))
 have RO:Hid (w4.heap.size≤ow∧ow<w6.heap.size):=⟨how1,by omega⟩
 clear hb6 HB5 how1 how2
 go_wp2_with fail
 refine(V6 (n:=65535) (by omega) false _).mono ?_
 rintro e w7 ⟨mt,rfl,hmt,hb7,hmg⟩
 have hz7:w6.heap.size≤w7.heap.size:=hb7.size
 replace HS:=z2w (HS.out.below hb7)
 replace HGA:=z2w (HGA.out.below hb7)
 replace HDN:=z2w (HDN.out.below hb7)
 replace HEN:=z2w (HEN.out.below hb7)
 replace HOW:=z2w (HOW.out.below hb7)
 have HMT:Hid (Row w7 mt 162 (mtc 65535 65535 1 0)):=hmt
 have RM:Hid (w6.heap.size≤mt∧mt<w7.heap.size):=⟨hmg,hmt.lt⟩
 have HB7:=z2w (HB6.out.trans (hb7.mono (by omega)))
 clear hmt hmg hb7 HB6
 go_wp2_with fail
 refine(zf3 65535 _).mono ?_
 rintro e w8 ⟨rg,F,rfl,hrg,hF,hb8⟩
 have hz8:w7.heap.size≤w8.heap.size:=hb8.size
 replace HS:=z2w (HS.out.below hb8)
 replace HGA:=z2w (HGA.out.below hb8)
 replace HDN:=z2w (HDN.out.below hb8)
 replace HEN:=z2w (HEN.out.below hb8)
 replace HOW:=z2w (HOW.out.below hb8)
 replace HMT:=z2w (HMT.out.below hb8 HMT.out.lt)
 have HRG:=z2w hrg
 have RR:Hid (∀k,F k→w7.heap.size≤k∧k<w8.heap.size):=λk hk=>⟨hF k hk,hrg.lts k hk⟩
 have HB8:=z2w (HB7.out.trans (hb8.mono (by omega)))
 clear hrg hF hb8 HB7
 have hmk:=Xh
 have hM:=MapM.new w8
 have hmb:Below w8.heap.size w8 (w8.alloc (.map #[] 0)):=(Below.refl _ _).alloc (Nat.le_refl _) _
 have hms:(w8.alloc (.map #[] 0)).heap.size=w8.heap.size+1:=by simp
 obtain⟨wc,hwc,t1,t2,t3⟩:=zbr (w8.alloc (.map #[] 0)) (zf7 g w1.heap.size de en ow mt rg w8.heap.size)
 rw[hms] at hwc t1 t3
 have HWC:=z2w hwc
 have T1:=z2w t1
 have T3:=z2w t3
 have hbc:=hmb.trans (t2.mono (by omega))
 have hcs:w8.heap.size≤wc.heap.size:=hbc.size
 replace HS:=z2w (HS.out.below hbc)
 replace HGA:=z2w (HGA.out.below hbc)
 replace HDN:=z2w (HDN.out.below hbc)
 replace HEN:=z2w (HEN.out.below hbc)
 replace HOW:=z2w (HOW.out.below hbc)
 replace HMT:=z2w (HMT.out.below hbc HMT.out.lt)
 replace HRG:=z2w (Tr.keep HRG.out λk hk=>hbc.block k (Tr.lts HRG.out k hk))
 have HSM:=z2w (hM.below t2)
 have HB9:=z2w (HB8.out.trans (hbc.mono (by omega)))
 have hsiz:=zdb (zf7 g w1.heap.size de en ow mt rg w8.heap.size)
 have HSZ:=z2w hsiz
 clear hwc t1 t2 t3 hmb hms hM HB8 hsiz hbc
 go_upto_region 3 with (first|(refine zn rfl 86 _ rfl (zf7 g w1.heap.size de en ow mt rg w8.heap.size).c (by kernel_rfl) ?_)|(refine ze rfl _ _ rfl rfl rfl T3.out (by rw[HSZ.out];rfl) (zx3 _ _ _ _ _ _ _ _) ?_))
 rw[HWC.out]
 clear HWC T3 HSZ hmk
 have hs:=Sd14.made (w:=wc) (srv:=false) (wn:=65535) (B:=w.heap.size) (c:=w8.heap.size+1) (sm:=w8.heap.size) (ga:=w1.heap.size) (g:=g) (b:=b) (de:=de) (dt:=dt) (en:=en) (et:=et) (ow:=ow) (mt:=mt) (rg:=rg) (F:=F) (λn=>match n with|0=>w.heap.size|1=>w1.heap.size|2=>w2.heap.size|3=>w3.heap.size|4=>w4.heap.size|5=>w6.heap.size|6=>w7.heap.size|7=>w8.heap.size|8=>w8.heap.size+1|_=>w8.heap.size+2) hgl (Nat.le_refl _) hz1 hz2 hz3 hz4 (by show w4.heap.size≤w6.heap.size;omega) hz7 hz8 (Nat.le_succ _)
  HS.out RS.out HGA.out RG.out HDN.out RD.out HEN.out RE.out HOW.out RO.out HMT.out RM.out HRG.out RR.out HSM.out ⟨Nat.le_refl _,Nat.lt_succ_self _⟩ (by rw[Ym];exact T1.out) ⟨Nat.le_refl _,Nat.lt_succ_self _⟩
 have HZ:=z2w hs
 have c15:wc.cell? ⟨w8.heap.size+1,15,none⟩=some (.int .u32 (65535:Nat)):=zh6 T1.out
 have z15:wc.frozen? ⟨w8.heap.size+1,15,none⟩=false:=T1.out.thawed 15
 have hlc:w8.heap.size+1<wc.heap.size:=T1.out.lt
 have hbk:Below w.heap.size wc (wc.setCell ⟨w8.heap.size+1,15,none⟩ (.int .u32 ((min sz 2147483647:Nat):Int))):=(Below.refl _ _).setCell (p:=⟨w8.heap.size+1,15,none⟩) (by show w.heap.size≤w8.heap.size+1;omega) _
 have h15:=ZP.cell (z':=qj false w.heap.size (w8.heap.size+1) g b w1.heap.size de dt en et ow mt (min sz 2147483647) rg w8.heap.size F) hs 15 (.int .u32 ((min sz 2147483647:Nat):Int)) (by
  have:=zz4 hs.row (min sz 2147483647)
  rw[Ym] at this
  rw[Ym]
  rw[Zv] at this ⊢
  exact this) (by rw[Zv,Zv]) (by rw[Vx,Vx]) (λm hm=>by unfold qj;cases m<;>first|rfl|exact absurd rfl hm)
 rw[Zv] at h15
 have hmin:(min (sz:Int) 2147483647)=((min sz 2147483647:Nat):Int):=by omega
 have HMIN:Hid (min sz 2147483647<4294967296):=by show _<_;omega
 have H1:=z2w h15.sd
 replace HB9:=z2w (HB9.out.trans hbk)
 clear hs HS HGA HDN HEN HOW HMT HRG HSM T1 h15 hbk RS RG RD RE RO RM RR HZ
 rw[←hmin] at H1 HB9
 have c16:(wc.setCell ⟨w8.heap.size+1,15,none⟩ (.int .u32 (min (sz:Int) 2147483647))).cell? ⟨w8.heap.size+1,16,none⟩=some (.slice none 0 0):=by
  have:=Jl H1.out.row
  rw[Ym,Zv] at this
  exact this
 have z16:(wc.setCell ⟨w8.heap.size+1,15,none⟩ (.int .u32 (min (sz:Int) 2147483647))).frozen? ⟨w8.heap.size+1,16,none⟩=false:=by
  have:=H1.out.row.thawed 16
  rw[Zv] at this
  exact this
 have HCL:Hid (w8.heap.size+1<wc.heap.size):=hlc
 obtain⟨c,hc⟩:∃c,c=w8.heap.size+1:=⟨_,rfl⟩
 rw[←hc] at H1 HB9 c15 z15 c16 z16 HCL hlc ⊢
 have HGC:Hid (w.heap.size≤c):=by show _≤_;omega
 clear hc hmin
 go_upto_region 4 with fail
 clear c15 z15 hlc
 generalize w8.heap.size=sm at *
 generalize w1.heap.size=ga at *
 have hwd:wc.heap.size≤(wc.setCell ⟨c,15,none⟩ (.int .u32 (min (sz:Int) 2147483647))).heap.size:=by simp
 replace HCL:=z2w (Nat.lt_of_lt_of_le HCL.out hwd)
 generalize wc.setCell ⟨c,15,none⟩ (.int .u32 (min (sz:Int) 2147483647))=wd at *
 clear hwd
 have hpf:=zic wd
 go_wp2_with fail
 refine hpf.mono ?_
 rintro e w9 ⟨rfl,hmk,hb9⟩
 have HMK:=z2w hmk
 have HP9:Hid (¬zi (qj false w.heap.size c g b ga de dt en et ow mt (min sz 2147483647) rg sm F).ps wd.heap.size):=λhk=>by have:=H1.out.1.lt hk;omega
 replace H1:=z2w (H1.out.below hb9)
 replace HB9:=z2w (HB9.out.trans (hb9.mono (by have:=HB9.out.size;omega)))
 have HCN:Hid (wd.heap.size≠c):=by have:=HCL.out;show _≠_;omega
 have c16':w9.cell? ⟨c,16,none⟩=some (.slice none 0 0):=by
  have:=Jl H1.out.row
  rw[Ym,Zv] at this
  exact this
 have z16':w9.frozen? ⟨c,16,none⟩=false:=by
  have:=H1.out.row.thawed 16
  rw[Zv] at this
  exact this
 have HMV:=z2w (Sd14.mk H1.out (mkv wd.heap.size))
 have HM2:Hid (MkRow (w9.setCell ⟨c,16,none⟩ (mkv wd.heap.size)) wd.heap.size qo):=HMK.out.keep (Below.heap_setCell _ _ _ _ HCN.out)
 have HB10:=z2w (HB9.out.trans ((Below.refl _ _).setCell (w:=w9) (p:=⟨c,16,none⟩) HGC.out (mkv wd.heap.size)))
 rw[Zv] at HMV
 have hmkv:mkv wd.heap.size=.slice (some ⟨wd.heap.size,0,none⟩) 24 24:=rfl
 rw[hmkv] at HMV HM2 HB10
 clear hmk hb9 hpf HMK HB9 HCN c16 z16 
 go_upto_region 5 with fail
 have HW:Hid (w.heap.size≤(w9.setCell ⟨c,16,none⟩ (.slice (some ⟨wd.heap.size,0,none⟩) 24 24)).heap.size):=HB10.out.size
 clear c16' z16' hmkv
 have HHP:Hid (∀k,zi (qj false w.heap.size c g b ga de dt en et ow mt (min sz 2147483647) rg sm F).ps k→w.heap.size≤k):=λk hk=>by
  have:=H1.out.2.2 k hk
  rw[Vx] at this
  exact this
 have HSM:=z2w HMV.out.sep
 generalize w9.setCell ⟨c,16,none⟩ (.slice (some ⟨wd.heap.size,0,none⟩) 24 24)=W at *
 have hst:=zky (z:=qj false w.heap.size c g b ga de dt en et ow mt (min sz 2147483647) rg sm F) (pb:=wd.heap.size) HSM.out (by rw[Vx];exact HW.out) HM2.out HP9.out (by unfold qj;rfl) (by unfold qj;exact HMIN.out) (by unfold qj;simp)
 rw[Zv] at hst
 have HGL:Hid (0<w.heap.size):=hgl
 clear HMV HSM HM2 HP9 H1 hgl
 go_wp2_with fail
 refine hst.mono ?_
 rintro e w10 ⟨rfl,ou,rv,h10⟩
 have H10:=z2w h10
 clear h10 hst
 go_wp2_with fail
 go_ret
 have hwn:(qj false w.heap.size c g b ga de dt en et ow mt (min sz 2147483647) rg sm F).wn=min sz 2147483647:=zxl ..
 rw[hwn] at H10
 have hbl:=H10.out.fs.below (B:=w.heap.size) (λk hk _=>HHP.out k (zf2 _ _ hk)) HW.out
 have hBB:((qj false w.heap.size c g b ga de dt en et ow mt (min sz 2147483647) rg sm F).toldM (ja (min sz 2147483647)) ou rv).B=w.heap.size:=Vx ..
 exact⟨_,⟨H10.out.sep,by rw[hBB];exact HGL.out,λk hk=>by
  rw[hBB]
  rcases H10.out.new k hk with h|h
  ·exact HHP.out k (zf2 _ _ h)
  ·exact Nat.le_trans HW.out h⟩,hBB,by show Ending.returned _=Ending.returned (.pointer (some ⟨(qj false w.heap.size c g b ga de dt en et ow mt (min sz 2147483647) rg sm F).c,0,none⟩));rw[Zv];rfl,HB10.out.trans hbl,c,g,b,ga,de,dt,en,et,ow,mt,rg,sm,F,ou,rv,rfl⟩
end
section
theorem ZP.rds{w w':World}{z z':Zs}(h:ZP w z z' w'){A:Option Addr}{cs:List Value}(hR:RdS w (λk=>k<w.heap.size∧¬zi z.ps k) A cs):RdS w' (λk=>k<w'.heap.size∧¬zi z'.ps k) A cs:=
 (h.fs.reads hR λk hk=>hk).imp λk hk hl=>⟨hl,λhk2=>(h.new k hk2).elim hk.2 λh3=>by omega⟩
theorem KsIn.sent{w:World}{e:Ks}(h:KsIn w e)(b:Bool):KsIn (w.setCell ⟨e.k,4,none⟩ (.bool b)) { e with sh:=b }∧Fs e.fp w (w.setCell ⟨e.k,4,none⟩ (.bool b)):=
 ⟨⟨h.r.stored 4 _,λm hm=>⟨(h.m m hm).1.stored' (a:=⟨e.k,4,none⟩) (Jd (h.m m hm).1 h.r (by decide)) _,(h.m m hm).2⟩⟩,(Fs.refl _ _).setCell (λ_=>.inl rfl) _ _⟩
theorem cc8{w:World}{x:Cc}{c:Nat}(h:Row w c 86 x.c):w.cell? ⟨c,8,none⟩=some (.int .u32 x.pe.st):=h.cell (by unfold Cc.c;rfl)
def x6(la:Nat):Nat:=if la=0 then 1 else la+2
def zz8(w:World)(z:Zs)(F:List Fd)(en:Bool)(x:Ending)(w':World):Prop:=
 x=.returned (.tuple #[.int .u32 (x6 z.la),.int .i64 0])∧∃k g F' vr rv,ZP w z { z with ss:=z.ss++[{ y4 (x6 z.la) (if en=true then 2 else 1) k g z.wn with sh:=true }],la:=x6 z.la,lv:=z.lv+1,rm:=(xy z.rm (x6 z.la) z.pe.wn).1,rF:=F',ew:=vr,eL:=jk z.eM z.eL F,lim:=false,row:=rv,R:=z.R++zh (hdF (x6 z.la) (z.blk F) en) } w'
attribute [local irreducible] Cc.c evc Fm.c knc mtc jk Xe xr x6
theorem zcr{w:World}{c:Nat}{x:Cc}(h:Row w c 86 x.c)(hla:x.la≤2147483647):Calls Tryz.prog 32 #[.pointer (some ⟨c,0,none⟩)] w λe w'=>e=.returned (.int .u32 (x6 x.la))∧w'=w:=by
 have c22:=zdx h
 have hw:IntKind.u32.wrap ((x.la:Int)+2)=(x.la:Int)+2:=IntWalk.u32_in _ (by omega)
 clear h
 unfold x6
 by_cases h0:x.la=0
 ·rw[if_pos h0]
  rw[h0] at c22
  clear hw
  go_enter Tryz.func32,Tryz.ntmps32
  go_wp2_with fail
  go_ret
  exact⟨rfl,rfl⟩
 ·rw[if_neg h0]
  have e0:((x.la:Int) == 0)=false:=by rw[beq_eq_false_iff_ne];omega
  go_enter Tryz.func32,Tryz.ntmps32
  go_wp2_with fail
  go_ret
  exact⟨rfl,rfl⟩
theorem zw4(en:Bool):sd 0 1 en=(((if en=true then 2 else 1:Nat):Int),true):=by cases en<;>rfl
theorem zzy{w:World}{z:Zs}(h:Sd14 w z)(hsv:z.srv=false)(hgo:z.go=false)(haw:z.aw=false)(hpa:z.pa=false)(hbe:z.be=true)(hla:z.la≤1000000000)(hfew:z.lv<z.pe.st)(hnum:zbd (x6 z.la) z.la true=true)
  (hfr:atM (z.ss.map λe=>(e.nu,e.k)) (x6 z.la) 0=none) (hwn:z.wn≤2147483647) (hpw:z.pe.wn≤4294967295) (hps:z.pe.st≤4294967295) (hlv:z.lv≤1000000) (hrm:z.rm.Ok) (hsm:z.rm.Sm)
  {A:Option Addr} {c:Nat} {F:List Fd} {en:Bool} (hR:RdS w (λk=>k<w.heap.size∧¬zi z.ps k) A (enl fdc F)) (hF:∀f∈F,f.nm.length≤9000∧f.vl.length≤9000) (hn:F.length≤1000) (hM:z.eM≤4096) (hL:tot z.eL≤z.eM) (hlow:z.low≤4096) (hb:(z.blk F).length≤1000) (hl:z.R.length≤100000000000) :
  Calls Tryz.prog 10 #[.pointer (some ⟨z.c,0,none⟩),.slice A F.length c,.bool en] w (zz8 w z F en):=by
 have c0:w.cell? ⟨z.c,0,none⟩=some (.bool z.srv):=cc0 h.row
 have c24:w.cell? ⟨z.c,24,none⟩=some (.bool z.aw):=zqg h.row
 have c25:w.cell? ⟨z.c,25,none⟩=some (.bool z.pa):=zyb h.row
 have c26:w.cell? ⟨z.c,26,none⟩=some (.bool z.go):=Y3 h.row
 rw[hsv] at c0
 rw[haw] at c24
 rw[hpa] at c25
 rw[hgo] at c26
 have hnx:=zcr h.row (by show z.la≤2147483647;omega)
 rw[show z.x.la=z.la from rfl] at hnx
 have H:=z2w h
 clear h
 go_enter Tryz.func10,Tryz.ntmps10
 go_wp2_with fail
 refine hnx.mono ?_
 rintro e1 w1 ⟨rfl,rfl⟩
 clear c0 c24 c25 c26 hnx
 go_upto_region 8 with fail
 have c23:w1.drew.cell? ⟨z.c,23,none⟩=some (.bool z.be):=zkj H.out.row
 have c21:w1.drew.cell? ⟨z.c,21,none⟩=some (.int .i64 (z.lv:Int)):=zdc H.out.row
 have c8:w1.drew.cell? ⟨z.c,8,none⟩=some (.int .u32 (z.pe.st:Int)):=cc8 H.out.row
 have c22:w1.drew.cell? ⟨z.c,22,none⟩=some (.int .u32 (z.la:Int)):=zdx H.out.row
 rw[hbe] at c23
 have hwp:IntKind.i64.wrap (z.pe.st:Int)=z.pe.st:=IntWalk.i64_in _ (by omega)
 have hd3:decide (z.pe.st≤z.lv)=false:=decide_eq_false (by omega)
 have hnb:=λW=>zas (x6 z.la:Int) (z.la:Int) true (by unfold x6;split<;>omega) W
 rw[hnum] at hnb
 have HD:=z2w (ZP.of_below H.out ((Below.refl _ _).drew))
 clear H
 refine wp_region_held_drew (S:=λw'=>w'.cell? ⟨z.c,23,none⟩=some (.bool true)∧w'.cell? ⟨z.c,21,none⟩=some (.int .i64 (z.lv:Int))∧w'.cell? ⟨z.c,8,none⟩=some (.int .u32 (z.pe.st:Int))∧w'.cell? ⟨z.c,22,none⟩=some (.int .u32 (z.la:Int))) (by kernel_rfl) ⟨c23,c21,c8,c22⟩ (λhHeld=>?_)
 generalize w1.drew=w2 at *
 refine tkH 0 ?_
 refine tkH 1 ?_
 refine tkH 2 ?_
 refine tkH 3 ?_
 refine tkH 4 ?_
 refine tkH 5 ?_
 refine tkH 6 ?_
 refine tkH 7 ?_
 refine tkH 8 ?_
 refine tkH 9 ?_
 refine tkH 10 ?_
 refine tkH 11 ?_
 refine tkH 12 ?_
 refine tkH 13 ?_
 refine tkH 14 ?_
 refine tkH 15 ?_
 refine tkH 16 ?_
 try rw[hd3]
 refine tkH 17 ?_
 refine tkH 18 ?_
 refine tkH 19 ?_
 refine tkH 20 ?_
 refine tkH 21 ?_
 refine tkH 22 ?_
 refine tkH 23 ?_
 refine rdH 24 λK hK=>?_
 go_simp
 go_at_call 33
 refine(hnb _).mono ?_
 rintro e9 w7 ⟨rfl,rfl⟩
 refine hK.out _ _ ⟨c23,c21,c8,c22⟩ (λhHeld=>?_)
 clear hK K
 try refine ptk ?_
 refine tkH 25 ?_
 refine tkH 26 ?_
 refine dnH ?_
 clear hHeld c23 c21 c8 c22
 obtain⟨n,hnn⟩:∃n,x6 z.la=n:=⟨_,rfl⟩
 obtain⟨st,hst⟩:∃st:Nat,(if en=true then 2 else 1)=st:=⟨_,rfl⟩
 have hnle:n≤2147483647:=by rw[←hnn];unfold x6;split<;>omega
 have hsd:=λW=>zel 0 1 en W
 rw[zw4,hst] at hsd
 rw[hnn] at hfr
 have had:=zt7 (st:=st) HD.out.sd hfr hwn hpw hlv hrm hsm
 have HR0:=z2w hR
 have HNN:=z2w hnn
 have HST:=z2w hst
 rw[hnn]
 clear hR hwp hnb hd3
 go_wp2_with (refine(hsd _).mono ?_;rintro e2 w8 ⟨rfl,rfl⟩)
 refine had.mono ?_
 rintro e3 w9 ⟨k,g,F',rfl,h9⟩
 have hks9:KsIn w9 (y4 n st k g z.wn):=h9.sd.ks (i:=z.ss.length) (by show (z.ss++[_])[z.ss.length]?=_;simp)
 have k4:w9.cell? ⟨k,4,none⟩=some (.bool false):=kn4 hks9.r
 have z4:w9.frozen? ⟨k,4,none⟩=false:=hks9.r.thawed 4
 obtain⟨hs10,hf10⟩:=hks9.sent true
 have H10:Hid (ZP w1 z { z with ss:=z.ss++[{ y4 n st k g z.wn with sh:=true }],la:=n,lv:=z.lv+1,rm:=(xy z.rm n z.pe.wn).1,rF:=F' } (w9.setCell ⟨k,4,none⟩ (.bool true))):=by
  refine ZP.eq ((HD.out.trans h9).trans (ZP.stream (i:=z.ss.length) (e':={ y4 n st k g z.wn with sh:=true }) h9.sd (by show (z.ss++[_])[z.ss.length]?=_;simp) hf10 hs10 rfl rfl (λj hj=>.inl hj))) ?_
  simp
 have HR10:=z2w (H10.out.rds HR0.out)
 clear h9 hks9 hs10 hf10 had hsd HD HR0
 go_upto_region 12 with fail
 clear k4 z4
 generalize w9.setCell ⟨k,4,none⟩ (.bool true)=w10 at *
 have hse:=zvw (z:={ z with ss:=z.ss++[{ y4 n st k g z.wn with sh:=true }],la:=n,lv:=z.lv+1,rm:=(xy z.rm n z.pe.wn).1,rF:=F' }) (c:=c) (n:=n) (en:=en) H10.out.sd HR10.out hF hn hM hL hlow hb hnle hl
 have HSE:=z2w hse
 clear hse HR10
 go_wp2_with fail
 refine HSE.out.mono ?_
 rintro e w11 ⟨rfl,vr,rv,h11⟩
 have H11:=z2w (H10.out.trans h11)
 clear h11 HSE H10
 go_wp2_with fail
 go_ret2
 subst hnn
 subst hst
 exact⟨rfl,k,g,F',vr,rv,H11.out⟩
end
end Go.Proofs.YtooaajnkiokpnaaGreatDoor
