"""Builds references for the tests from their parts, without the program's own code."""


def reference(address=0, upper=0, lower=0, power=0, seal=0, rights=0):
    bits = f"{rights:09b}{seal:03b}{power:04b}{lower:08b}{upper:08b}{address:032b}"
    if len(bits) != 64:
        raise ValueError("a part is too wide")
    return int(bits, 2)


def parts(v):
    """address, upper, lower, power, seal, rights"""
    bits = f"{v:064b}"
    ends = ((32, 64), (24, 32), (16, 24), (12, 16), (9, 12), (0, 9))
    return tuple(int(bits[first:behind], 2) for first, behind in ends)


def grain(power):
    return 16777216 if power == 15 else (1, 2, 4, 8, 16, 32, 64, 128, 256, 512, 1024, 2048, 4096, 8192, 16384)[power]


def stretch(v):
    """Where v begins, and where it ends."""
    address, upper, lower, power, seal, rights = parts(v)
    size = grain(power)
    begin = lower * size
    if begin > address:
        begin -= 256 * size
    begin += (address - begin) // (256 * size) * (256 * size)
    marks = upper - lower if upper >= lower else upper + 256 - lower
    return begin, begin + marks * size


def scattered(count):
    """That many references, always the same ones."""
    v = 1
    for step in range(count):
        v = (v * 6364136223846793005 + 1442695040888963407) % 2 ** 64
        # The lowest bits of such a row repeat soon: the halves change places.
        yield (v >> 32) | ((v % 2 ** 32) << 32)
