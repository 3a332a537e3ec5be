/- Texts of ours that stand together: InV, InL, InFs, InSl -/





